import Derived.Test.YtihmgigfkmofnaaGreatDoorG38
set_option maxHeartbeats 8000000
set_option maxRecDepth 100000
open Go.Proofs.Tryz
namespace Go.Proofs.YtihmgigfkmofnaaGreatDoor
open Go.RowKit
theorem N4:prog.underlying 52=some (.struct (prog.fieldsOf 52)):=by kernel_rfl
theorem Sn:prog.stoodInHeld 52=false:=by kernel_rfl
theorem Yc(w:World)(a b a' b':ByteArray):(binOp .eql 52 (.agg #[.string a,.string b]) (.agg #[.string a',.string b'])).run prog w = .ok (.bool (a.toList == a'.toList && b.toList == b'.toList)) w:=by
 rw [run_eql_struct,run_equalIn_agg w 9999 52 _ _ N4 Sn];simp [go_sem]
 by_cases h1:a.toList=a'.toList
 ·by_cases h2:b.toList=b'.toList
  ·simp [h1,h2]
  ·simp [h1,h2]
 ·simp [h1]
theorem Sm(w:World)(a b:ByteArray):(binOp .eql 52 (.agg #[.string a,.string b]) (.agg #[.string a,.string b])).run prog w = .ok (.bool true) w:=by
 rw [Yc];simp
theorem Vt(w:World)(x y:Array Value)(bb:Bool)(h:(binOp .eql 52 (.agg x) (.agg y)).run prog w = .ok (.bool bb) w):(binOp .neq 52 (.agg x) (.agg y)).run prog w = .ok (.bool (!bb)) w:=by
 rw [run_eql_struct] at h;rw [run_neq_struct];revert h
 generalize (Op.equalIn 10000 52 (.agg x) (.agg y)).run prog w=r;cases r with
 | ok v w'=>intro h;simp [Result.andThen] at h ⊢;obtain ⟨rfl,rfl⟩:=h;simp
 | halt v w'=>intro h;simp [Result.andThen] at h
theorem N5(w:World)(a b:ByteArray):(binOp .neq 52 (.agg #[.string a,.string b]) (.agg #[.string a,.string b])).run prog w = .ok (.bool false) w:=Vt w _ _ true (Sm w a b)
theorem wO(v1 v2:Value)(l:List Pr)(w:World)(hm:l.length≤140737488355328)(r1:gK w v1 l)(r2:gK w v2 l):Calls prog 60 #[v1,v2] w fun e w'=>e = .returned (.bool true)∧Below w.heap.size w w':=by
 obtain ⟨a1,c1,rfl,_,_,h1⟩:=r1;obtain ⟨a2,c2,rfl,_,_,h2⟩:=r2;obtain ⟨n,hn⟩ : ∃ n,n=l.length:=⟨_,rfl⟩;rw [← hn] at hm ⊢;have H1:=ab h1;have H2:=ab h2;have HN:=ab hn;have Hb:((n:Int) != (n:Int))=false:=by simp
 obtain ⟨Q,hQ⟩ : ∃ Q:Ending→World→Prop,Q=fun e w'=>e = .returned (.bool true)∧Below w.heap.size w w':=⟨_,rfl⟩
 rw [← hQ];have HQ:=ab hQ;clear h1 h2 hn hQ;go_enter func60,ntmps60;go_wp2;go_loopw [5] (fun i wr=>∃ k nq:Nat,k≤n∧i = .int .i64 k∧wr=w.drewN nq) (fun i _=>n - (intOf i).toNat)
 case atStart=>exact ⟨0,0,aD _,rfl,rfl⟩
 case round =>
  obtain ⟨k,nq,hk,rfl,rfl⟩:=hrel;by_cases bP:k<n
  ·have jA:k<l.length:=by have:=HN.out;omega
   obtain ⟨g1,o1,rfl,f1,f1'⟩:=H1.out k jA;obtain ⟨g2,o2,rfl,f2,f2'⟩:=H2.out k jA;have j0:(0:Int)≤(k:Int):=dQ k;have j1:(k:Int)<(n:Int):=by omega
   generalize l[k].1=x1 at *;generalize l[k].2=x2 at *;have dK:=fun w=>N5 w x1 x2
   clear H1 H2;go_wp2;go_quiet (fail)
   go_wp2;go_roundw
   case rel=>exact ⟨k+1,_,by omega,by go_num,rfl⟩
   case measure=>simp [intOf];omega
  ·have j1:¬ (k:Int)<(n:Int):=by omega
   clear H1 H2;go_wp2;rw [HQ.out];exact ⟨rfl,aB (Below.refl _ _) _⟩
namespace T
theorem O5(l:List Pr):l.filter (jt ⟨#[]⟩ ⟨#[]⟩)=l:=by
 rw [List.filter_eq_self];intro p _;have h0:(⟨#[]⟩ : ByteArray).toList=[]:=by rw [ByteArray.toList_eq]
 have h1:cX p.1 ⟨#[]⟩=false:=by
  unfold cX;rw [h0];cases p.1.toList <;> rfl
 simp [jt,h1]
section
variable {base:Nat} {A:Nat→Addr} {w0:World} {ob db tb fb fg:Nat} {F:Nat→Prop} {d:S.V.bq} {r:cQ} {T:Nat→Bool} {wv:Value} {root tx:Nat} {l:List Pr}
theorem Os.mv{w w1:World}(h:Os base A w0 w ob db tb fb fg F d r T wv root tx l)(hv:Dv base A db F d w1)(hm:Mv db F w w1):Os base A w0 w1 ob db tb fb fg F d r T wv root tx l:=h.tree (h.ts.mv hm hv) (List.Sublist.refl _)
theorem BA{w:World}{v:Value}(h:Os base A w0 w ob db tb fb fg F d r T wv root tx l)(hn:(aC r).length≤1000000)(hv:v=wv∧l=aC r∨v = .slice none 0 0∧aC r=[]):Calls prog 23 #[.pointer (some ⟨tb,0,none⟩),v] w fun e w'=>e = .returned (.bool true)∧Os base A w0 w' ob db tb fb fg F d r T wv root tx l:=by
 have uL:=ky h.ts.ok;have HP:=ab (xj (fr:=⟨#[]⟩) (en:=⟨#[]⟩) (lim:=1099511627776) h.ts (by omega) h.nd (by omega) (by decide))
 rw [O5,aq (by omega)] at HP
 have jS:∃ a n c,v = .slice a n c:=by
  rcases hv with ⟨rfl,_⟩ | ⟨rfl,_⟩
  ·exact gR h.want
  ·exact ⟨_,_,_,rfl⟩
 have H:=ab h;have HN:=ab hn;have HV:=ab hv;obtain ⟨a,n,c,jS⟩:=jS;subst jS;clear h hn hv uL;go_enter func23,ntmps23;go_wp2_with fail;refine HP.out.mono ?_
 rintro e w1 ⟨⟨u,rfl,hu⟩,dX,eo⟩;have h1:=H.out.mv dX eo;have hr:gK w1 (.slice a n c) (aC r):=by
  rcases HV.out with ⟨e1,e2⟩ | ⟨e1,e2⟩
  ·rw [e1,← e2];exact h1.want.at
  ·rw [e1,e2];exact gK.nil _
 have HS:=ab (wO u (.slice a n c) (aC r) w1 (by have:=HN.out;omega) hu.1.at hr)
 obtain ⟨ua,uc,O9⟩:=hu.1.form;have H1:=ab h1;subst O9;clear h1 hr hu dX eo HP;go_wp2_with fail;refine HS.out.mono ?_
 rintro e w2 ⟨rfl,aO⟩;have H2:=ab (H1.out.below aO);clear aO HS;go_wp2;go_ret;exact ⟨rfl,H2.out⟩
end
section
variable {base:Nat} {A:Nat→Addr}
theorem KH(w:World)(Wk:Q.Env base A w)(hE:S.Env base A w)(hG:du 13 fl A w)(si:∀ i,i<13→fl i<base∧(A i).block<base):Calls prog 9 #[] w fun e w'=>∃ (ob db tb fb fg:Nat) (F:Nat→Prop) (d:S.V.bq),e = .returned (.tuple #[.pointer (some ⟨ob,0,none⟩),.bool true])∧Os base A w w' ob db tb fb fg F d none (Q.T0 4000) (.slice none 0 0) 0 0 []:=by
 have HQE:=ab Wk;have HE:=ab hE;have HG:=ab hG;have HLO:=ab si;have HN:=ab (S.V.vM 32000 w);clear hE hG si Wk;go_enter func9,ntmps9;go_wp2_with fail;refine HN.out.mono ?_
 rintro e w1 ⟨db,F,rfl,hd,aP,hF⟩;have dX:Dv base A db F (S.V.iS 32000) w1:=⟨⟨_,Nr.refl _,hd⟩,HE.out.up aP,HG.out.keep aP,fun k hk=>al HE.out.errs.size (hF k hk),rfl,HLO.out⟩
 have ZB:=dX.BZ;have P1:=hd.lt;have q1:=ai w1 (.cells #[.int .i64 4000,.pointer (some ⟨db,0,none⟩),.pointer none,.pointer none,.slice none 0 0,.int .i64 0,.int .u64 0] 65);have x1:=B.ax.new w1 #[.int .i64 4000,.pointer (some ⟨db,0,none⟩),.pointer none,.pointer none,.slice none 0 0,.int .i64 0,.int .u64 0] 65;have mQ:=ab dX;have bQ:=ab aP;have HF:=ab hF;have M0:=ab P1;have HDL:=ab ZB;have rh:=ab q1;have yJ:=ab x1;have XR:=ab (Q.vM 4000 (w1.alloc (.cells #[.int .i64 4000,.pointer (some ⟨db,0,none⟩),.pointer none,.pointer none,.slice none 0 0,.int .i64 0,.int .u64 0] 65)) (by decide) (by decide))
 clear hd aP hF dX ZB P1 q1 x1 HN;go_wp2_with fail;refine XR.out.mono ?_
 rintro e w3 ⟨mb,mg,rfl,Et,Za,hmap,bF⟩;have HMB:=ab Et;have U5:=ab Za;have Q4:=ab hmap;have MB:=ab bF;clear Et Za hmap;have jR:=yJ.out.below bF;have rf:=ab jR;have dD:=ab (Below.next rh.out bF);have k1:=jR.cell 1 (by simp)
 have k2:=jR.cell 2 (by simp)
 simp only [bT,List.getElem_cons_zero,List.getElem_cons_succ] at k1 k2;have y2:=jR.free 2;have O8:B.ax (w3.setCell ⟨w1.heap.size,2,none⟩ (.pointer (some ⟨mb,0,none⟩))) w1.heap.size #[.int .i64 4000,.pointer (some ⟨db,0,none⟩),.pointer (some ⟨mb,0,none⟩),.pointer none,.slice none 0 0,.int .i64 0,.int .u64 0] 65:=heap_setCell_same _ _ 2 _ _ _ jR;have vS:w.heap.size≤w1.heap.size:=bQ.out.size;have S6:¬ F w1.heap.size:=fun h=>by have:=M0.out _ h;omega
 have Ys:Dv base A db F (S.V.iS 32000) (w3.setCell ⟨w1.heap.size,2,none⟩ (.pointer (some ⟨mb,0,none⟩))):=(mQ.out.below dD.out).tree (al HE.out.errs.size vS) S6 2 _;have eO:Below w.heap.size w (w3.setCell ⟨w1.heap.size,2,none⟩ (.pointer (some ⟨mb,0,none⟩))):=(Below.next bQ.out dD.out).setCell (p:=⟨w1.heap.size,2,none⟩) vS _;have k3:=O8.cell 1 (by simp)
 simp only [bT,List.getElem_cons_zero,List.getElem_cons_succ] at k3;generalize Ry:w3.setCell ⟨w1.heap.size,2,none⟩ (.pointer (some ⟨mb,0,none⟩))=W4 at *;have HTO:=ab (J7 (W0:=W4) 4000 0 (.int .u64 0) Ys (S.V.Step.refl _ _));have we:=ab O8;have gr:=ab eO;have T3:=ab S6;have rn:=ab vS;clear bF jR XR O8 Ys eO S6 vS;go_wp2_with fail;refine HTO.out.mono ?_
 rintro e w5 ⟨tb,rfl,htc,Yv⟩;have hx5:B.ax w5 w1.heap.size #[.int .i64 4000,.pointer (some ⟨db,0,none⟩),.pointer (some ⟨mb,0,none⟩),.pointer none,.slice none 0 0,.int .i64 0,.int .u64 0] 65:=(htc.st.block _ we.out.lt T3.out).trans we.out;have hot:w1.heap.size≠tb:=by have:=we.out.lt;have:=htc.lo.2.1;omega
 have hx6:B.ax (w5.setCell ⟨w1.heap.size,3,none⟩ (.pointer (some ⟨tb,0,none⟩))) w1.heap.size #[.int .i64 4000,.pointer (some ⟨db,0,none⟩),.pointer (some ⟨mb,0,none⟩),.pointer (some ⟨tb,0,none⟩),.slice none 0 0,.int .i64 0,.int .u64 0] 65:=heap_setCell_same _ _ 3 _ _ _ hx5;have Yu:B.ax (w5.setCell ⟨w1.heap.size,3,none⟩ (.pointer (some ⟨tb,0,none⟩))) tb #[.pointer (some ⟨db,0,none⟩),.nilIface] 100:=(Yv (by first | trivial | rfl)).other hot.symm _
 have m3:=hx5.cell 3 (by simp)
 have f3:=hx5.free 3;have n3:=hx6.cell 3 (by simp)
 simp only [bT,List.getElem_cons_zero,List.getElem_cons_succ] at m3 n3;have bM:Hid (∀ k,Os base A w ((w5.setCell ⟨w1.heap.size,3,none⟩ (.pointer (some ⟨tb,0,none⟩))).drewN k) w1.heap.size db tb mb mg F (S.V.iS 32000) none (Q.T0 4000) (.slice none 0 0) 0 0 []):=fun k=>by
  have hd:=aB (Below.refl (w5.setCell ⟨w1.heap.size,3,none⟩ (.pointer (some ⟨tb,0,none⟩))).heap.size (w5.setCell ⟨w1.heap.size,3,none⟩ (.pointer (some ⟨tb,0,none⟩)))) k;have hs:=bL.set w1.heap.size 3 w5 (.pointer (some ⟨tb,0,none⟩));have PR:=HQE.out.size;have vS:=rn.out;have Xu:∀ k,w1.heap.size≤k→¬ F k:=fun k hk h=>by have:=M0.out _ h;omega
  have Pd:w1.heap.size+1≤mb∧w1.heap.size+1≤mg:=by
   have h1:=HMB.out;have h2:=U5.out;simp at h1 h2
   omega
  have Zb:mb<w3.heap.size∧mg<w3.heap.size:=⟨Q4.out.SB,Q4.out.SA⟩;have ahi:W4.heap.size=w3.heap.size:=by rw [← Ry];simp
  have htb:=htc.lo.2.1;have UF:∀ k,k<w3.heap.size→w1.heap.size<k→(w5.setCell ⟨w1.heap.size,3,none⟩ (.pointer (some ⟨tb,0,none⟩))).heap[k]?=w3.heap[k]?:=fun k hk qg=>by
   have s4:=bL.set w1.heap.size 2 w3 (.pointer (some ⟨mb,0,none⟩));rw [Ry] at s4;have e1:=s4.block k hk (by omega)
   have e2:=htc.st.block k (by omega) (Xu k (by omega))
   have e3:=hs.block k (by have:=htc.st.size;omega) (by omega)
   exact e3.trans (e2.trans e1)
  have kt:Below base w (w5.setCell ⟨w1.heap.size,3,none⟩ (.pointer (some ⟨tb,0,none⟩))):=by
   have h1:S.V.Step F F w w5:=(S.V.Step.bA gr.out).trans htc.st;exact ⟨hs.os.trans h1.os,hs.tape.trans h1.tape,hs.output.trans h1.output,al h1.size hs.size,fun k hk=>(hs.block k (by have:=h1.size;omega) (by omega)).trans (h1.block k (by omega) (fun e=>by have:=HF.out k e;omega))⟩
  have Xt:Os base A w (w5.setCell ⟨w1.heap.size,3,none⟩ (.pointer (some ⟨tb,0,none⟩))) w1.heap.size db tb mb mg F (S.V.iS 32000) none (Q.T0 4000) (.slice none 0 0) 0 0 []:=by
   refine ⟨hx6,⟨htc.dv.tree (by omega) T3.out 3 _,⟨_,Yu,.inl ⟨rfl,rfl⟩⟩,trivial,S.V.Step.refl _ _,htc.lo.1,htc.lo.2.2⟩,⟨jP Q4.out (UF _ Zb.1 (by omega)) (UF _ Zb.2 (by omega)),Q.Ug (by decide) (by decide),⟨by omega,by omega⟩,⟨Xu _ (by omega),Xu _ (by omega)⟩,⟨by omega,by omega⟩⟩,HQE.out.keep kt,iC.nil _ _,List.nodup_nil,fun i hi=>by simp [eD] at hi,fun i hi=>by simp [eD] at hi,⟨rfl,rfl,rfl⟩,kt,⟨by omega,T3.out,hot,by omega,by omega⟩,fun k hk=>by simp [Value.ownBlock] at hk⟩
  exact Xt.below hd
 clear htc Yv hx5 hot hx6 Yu HTO k1 k2 k3 y2;go_wp2_with fail;go_quiet (fail)
 go_wp2;go_ret2;exact ⟨_,_,_,_,_,F,S.V.iS 32000,rfl,bM.out _⟩
end
section
variable {base:Nat} {A:Nat→Addr} {w0:World} {ob db tb fb fg:Nat} {F:Nat→Prop} {d:S.V.bq} {r:cQ} {T:Nat→Bool} {wv:Value} {root tx:Nat} {l:List Pr}
def JB(kind:Int)(key value:ByteArray)(r r':cQ):Prop :=
 (kind=1∧((cP (key,value)=true∧qZ key (fun l=>fc l key value) r r')∨(¬ cP (key,value)=true∧r'=r))) ∨
 (kind=2∧((cP (key,⟨#[]⟩)=true∧bh (aC r) key=true∧qZ key (fun l=>cU l key) r r')∨(¬ (cP (key,⟨#[]⟩)=true∧bh (aC r) key=true)∧r'=r)))
theorem Oh{w:World}(kind at' n:Int)(key value iV:ByteArray)(hk:kind=1∨kind=2)(h:Os base A w0 w ob db tb fb fg F d r T wv root tx (aC r))(hn:(aC r).length≤1000000)(dm:key.size≤140737488355328)(Eg:value.size≤140737488355328):Calls prog 24 #[.pointer (some ⟨ob,0,none⟩),.agg #[.int .i64 kind,.int .i64 at',.int .i64 n,.string key,.string value,.string iV]] w fun e w'=>e = .returned (.bool true)∧∃ r' zV,JB kind key value r r'∧Os base A w0 w' ob db tb fb fg F d r' T zV root tx (aC r')∧Fr F tb ob w w':=by
 have q0:=ai w (.cells #[.int .i64 kind,.int .i64 at',.int .i64 n,.string key,.string value,.string iV] 44);have x0:=B.ax.new w #[.int .i64 kind,.int .i64 at',.int .i64 n,.string key,.string value,.string iV] 44;have k0:=x0.cell 0 (by simp)
 have k3:=x0.cell 3 (by simp)
 have k4:=x0.cell 4 (by simp)
 simp only [bT,List.getElem_cons_zero,List.getElem_cons_succ] at k0 k3 k4;have h1:=h.below q0;have HQ0:=ab q0;rcases hk with rfl | rfl
 ·have HP:=ab (IY key value h1 hn dm Eg);clear h h1 hn x0 q0;go_enter func24,ntmps24;go_wp2_with fail;refine HP.out.mono ?_
  rintro e w1 ⟨rfl,r',zV,fs,ho,Ex⟩;have HR:Hid (∃ r' zV,JB 1 key value r r'∧Os base A w0 w1 ob db tb fb fg F d r' T zV root tx (aC r')∧Fr F tb ob w w1):=⟨r',zV,.inl ⟨rfl,fs⟩,ho,(cC HQ0.out).trans Ex⟩;clear fs ho Ex HP k0 k3 k4;go_wp2;go_ret;exact ⟨rfl,HR.out⟩
 ·have HP:=ab (DG key h1 hn dm);clear h h1 hn x0 q0;go_enter func24,ntmps24;go_wp2_with fail;refine HP.out.mono ?_
  rintro e w1 ⟨rfl,r',zV,fs,ho,Ex⟩;have HR:Hid (∃ r' zV,JB 2 key value r r'∧Os base A w0 w1 ob db tb fb fg F d r' T zV root tx (aC r')∧Fr F tb ob w w1):=⟨r',zV,.inr ⟨rfl,fs⟩,ho,(cC HQ0.out).trans Ex⟩;clear fs ho Ex HP k0 k3 k4;go_wp2;go_ret;exact ⟨rfl,HR.out⟩
theorem Kf{kind:Int}{key value:ByteArray}{r r':cQ}(h:JB kind key value r r')(cT:eW r):(aC r').length≤(aC r).length+1:=by
 rcases h with ⟨_,⟨hm,hu⟩ | ⟨_,rfl⟩⟩ | ⟨_,⟨_,_,hu⟩ | ⟨_,rfl⟩⟩
 ·rw [(lK (su hm) cT hu).2];exact oz _ _ _
 ·omega
 ·rw [(lK (fit_drop key) cT hu).2];have:=tW (aC r) key;show (cU (aC r) key).length≤_
  omega
 ·omega
end
theorem J6(db:Nat)(m0:Int)(r:cQ)(m2:Value)(w:World)(hr:r=none∨gO r≠0):Calls prog 13 #[.pointer (some ⟨db,0,none⟩),.agg #[.int .i64 m0,.int .i64 (gO r:Int),m2]] w fun e w'=>∃ tb,e = .returned (.pointer (some ⟨tb,0,none⟩))∧w.heap.size≤tb∧B.ax w' tb #[.pointer (some ⟨db,0,none⟩),kL r] 100∧Below w.heap.size w w':=by
 have q0:=ai w (.cells #[.int .i64 m0,.int .i64 (gO r:Int),m2] 42);have x0:=B.ax.new w #[.int .i64 m0,.int .i64 (gO r:Int),m2] 42;have k1:=x0.cell 1 (by simp)
 simp only [bT,List.getElem_cons_zero,List.getElem_cons_succ] at k1;generalize hW:w.alloc (.cells #[.int .i64 m0,.int .i64 (gO r:Int),m2] 42)=W at *;have s1:w.heap.size≤W.heap.size:=q0.size;have HN:Hid (∀ rv,w.heap.size≤W.heap.size∧B.ax (W.alloc (.cells #[.pointer (some ⟨db,0,none⟩),rv] 100)) W.heap.size #[.pointer (some ⟨db,0,none⟩),rv] 100∧Below w.heap.size w (W.alloc (.cells #[.pointer (some ⟨db,0,none⟩),rv] 100))):=fun rv=>⟨s1,B.ax.new W #[.pointer (some ⟨db,0,none⟩),rv] 100,Below.next q0 (ai W _)⟩
 clear q0 x0 s1;cases r with
 | none =>
  have k1':W.cell? ⟨w.heap.size,1,none⟩=some (.int .i64 0):=k1;clear k1;go_enter func13,ntmps13;go_wp2_with fail;refine (oA _).mono ?_
  rintro e w1 ⟨rfl,rfl⟩;go_wp2;go_ret;exact ⟨_,rfl,HN.out _⟩
 | some x =>
  have h0:((gO (some x):Nat):Int)≠0:=by
   rcases hr with h | h
   ·cases h
   ·omega
  have Xn:kL (some x) = .iface 146 (.int .i64 (gO (some x):Int)):=rfl;have HVA:=ab Xn;generalize ((gO (some x):Nat):Int)=root at *;have H0:=ab h0;clear h0 hr Xn;go_enter func13,ntmps13;go_wp2_with fail;refine (oB root _ H0.out).mono ?_
  rintro e w1 ⟨rfl,rfl⟩;have Xn:(C.Ch.pg root).val = .iface 146 (.int .i64 root):=rfl;rw [Xn];go_wp2;go_ret;exact ⟨_,rfl,by rw [HVA.out];exact HN.out _⟩
theorem Kp{PG:Int→Option PD}{w:World}{r:cQ}(h:fH PG w (kL r) r):r=none∨gO r≠0:=by
 cases r with
 | none=>exact .inl rfl
 | some x =>
  right
  rcases h with ⟨h,_⟩ | ⟨p,hh,t,hv,hx,hk⟩
  ·cases h
  ·cases hx;have hv:Value.iface 146 (.int .i64 ((fx hh t:Nat):Int))=p.val:=hv;cases p with
   | pg id =>
    have hv:Value.iface 146 (.int .i64 ((fx hh t:Nat):Int)) = .iface 146 (.int .i64 id):=hv;simp only [Value.iface.injEq,Value.int.injEq,true_and] at hv;have hk:gE PG hh id t:=hk;have h2:2≤id:=by
     cases hh with
     | zero=>exact hk.1.1
     | succ hh=>exact hk.1.1
    show fx hh t≠0
    omega
   | nd b =>
    exact absurd hv (by intro e;unfold C.Ch.val at e;simp only [Value.iface.injEq] at e;exact absurd e.1 (by decide))
section
variable {base:Nat} {A:Nat→Addr} {w0:World} {ob db tb fb fg:Nat} {F:Nat→Prop} {d:S.V.bq} {r:cQ} {T:Nat→Bool} {wv:Value} {root tx:Nat} {l:List Pr}
theorem Os.Vq{w:World}{pP:Nat}{rv:Value}(h:Os base A w0 w ob db tb fb fg F d r T wv root tx l)(ht:B.ax w pP #[.pointer (some ⟨db,0,none⟩),rv] 100)(hr:fH (cJ d) w rv r)(hn:base≤pP∧¬ F pP∧pP≠ob∧pP≠fb∧pP≠fg)(GS:∀ k,wv.ownBlock=some k→k≠pP):Os base A w0 (w.setCell ⟨ob,3,none⟩ (.pointer (some ⟨pP,0,none⟩))) ob db pP fb fg F d r T wv root tx l:=by
 have hs:=bL.set ob 3 w (.pointer (some ⟨pP,0,none⟩));have ha:cM w (w.setCell ⟨ob,3,none⟩ (.pointer (some ⟨pP,0,none⟩))):=⟨hs.size,fun k hk=>by
  by_cases e:k=ob
  ·exact .inr (e▸I2 h.row (gR h.want))
  ·exact .inl (hs.block k hk e)⟩
 have jD:Below base w (w.setCell ⟨ob,3,none⟩ (.pointer (some ⟨pP,0,none⟩))):=⟨hs.os,hs.tape,hs.output,hs.size,fun k hk=>hs.block k (ar hk h.env.size) (by have:=h.ap.1;omega)⟩
 have m:=h.mp;refine ⟨heap_setCell_same _ _ 3 _ _ _ h.row,⟨h.ts.dv.tree h.ap.1 h.ap.2.1 3 _,⟨rv,cG ha ht,hr.bU ha⟩,h.ts.ok,S.V.Step.refl _ _,hn.1,hn.2.1⟩,⟨jP m.map (hs.block _ m.map.SB h.ap.2.2.2.1.symm) (hs.block _ m.map.SA h.ap.2.2.2.2.symm),m.ok,m.lo,m.nf,hn.2.2.2.2.symm,hn.2.2.2.1.symm⟩,h.env.keep jD,h.want.same fun k hk=>hs.block k (h.want.dn k hk).2 (h.wn k hk).2.2.1,h.nd,h.pt,h.pr,h.lE,nF h.eV jD,⟨h.ap.1,h.ap.2.1,hn.2.2.1.symm,h.ap.2.2.2⟩,fun k hk=>⟨(h.wn k hk).1,GS k hk,(h.wn k hk).2.2⟩⟩
theorem Gg{w:World}{pP:Nat}(h:B.ax w ob (kQ db fb tb wv root tx) 65):(w.setCell ⟨ob,3,none⟩ (.pointer (some ⟨pP,0,none⟩))).cell? ⟨ob,0,none⟩=some (.int .i64 4000)∧(w.setCell ⟨ob,3,none⟩ (.pointer (some ⟨pP,0,none⟩))).cell? ⟨ob,1,none⟩=some (.pointer (some ⟨db,0,none⟩))∧(w.setCell ⟨ob,3,none⟩ (.pointer (some ⟨pP,0,none⟩))).cell? ⟨ob,5,none⟩=some (.int .i64 (root:Int))∧(w.setCell ⟨ob,3,none⟩ (.pointer (some ⟨pP,0,none⟩))).cell? ⟨ob,3,none⟩=some (.pointer (some ⟨pP,0,none⟩)):=by
 have r:B.ax (w.setCell ⟨ob,3,none⟩ (.pointer (some ⟨pP,0,none⟩))) ob (kQ db fb pP wv root tx) 65:=heap_setCell_same _ _ 3 _ _ _ h;exact ⟨r.cell 0 (by simp [kQ]),r.cell 1 (by simp [kQ]),r.cell 5 (by simp [kQ]),r.cell 3 (by simp [kQ])⟩
structure adv(base:Nat)(A:Nat→Addr)(w0 w:World)(ob db:Nat)(r:cQ)(T:Nat→Bool)(wv:Value)(tx:Nat)(l:List Pr):Prop where
 out:∃ (tb fb fg:Nat) (F:Nat→Prop) (d:S.V.bq) (L:List Nat),L.Perm (eD (laid T r))∧Os base A w0 w ob db tb fb fg F d (laid T r) (ja (Q.T0 4000) L) wv (gO (laid T r)) (tx+1) l∧(∀ W,fH (cJ d) W (kL (laid T r)) (laid T r))
theorem xu{w:World}(h:Os base A w0 w ob db tb fb fg F d r T wv root tx l)(hn:(aC r).length≤50000)(Ex:eG r≤(Q.gx T 4000).length)(Rj:tx<1099511627776):Calls prog 25 #[.pointer (some ⟨ob,0,none⟩)] w fun e w'=>e = .returned (.bool true)∧adv base A w0 w' ob db r T wv tx l:=by
 have HS:=ab (Aq h hn Ex Rj);clear h hn Ex Rj;go_enter func25,ntmps25;go_wp2_with fail;refine HS.out.mono ?_
 rintro e w1 ⟨rfl,fi⟩;obtain ⟨Z5,Z4,F2,d2,L,Jm,ho,MM,_⟩:=fi.out;have p0:=ho.c.2.2.1;have p1:=ho.c.2.2.2.1;have p5:=ho.c.2.2.2.2.2.1;have p3:=ho.c.1;have y3:=ho.row.free 3;have HO:=ab ho;have zQ:=ab Jm;have MW:=ab MM;have HTO:Hid (∀ W,Below w1.heap.size w1 W→Calls prog 13 #[.pointer (some ⟨db,0,none⟩),.agg #[.int .i64 4000,.int .i64 (gO (laid T r):Int),.int .u64 0]] W fun e w'=>∃ pP,e = .returned (.pointer (some ⟨pP,0,none⟩))∧(w1.heap.size≤pP∧B.ax w' pP #[.pointer (some ⟨db,0,none⟩),kL (laid T r)] 100∧Below w1.heap.size w1 w')):=fun W hW=>(J6 db 4000 (laid T r) (.int .u64 0) W (Kp (MM w1))).mono fun e w' ⟨pP,h1,h2,h3,h4⟩=>⟨pP,h1,al hW.size h2,h3,Below.next hW h4⟩
 clear fi Jm ho MM HS;go_wp2_with fail;go_region_held3 (fun w'=>w'.cell? ⟨ob,0,none⟩=some (.int .i64 4000)∧w'.cell? ⟨ob,1,none⟩=some (.pointer (some ⟨db,0,none⟩))∧w'.cell? ⟨ob,5,none⟩=some (.int .i64 (gO (laid T r):Int))) (go_keep)
  (first | (go_at_call 13;refine (HTO.out _ ?_).mono ?_;(first | exact (Below.refl _ _).drew | exact aB (Below.refl _ _) _ | exact Below.refl _ _);rintro e w2 ⟨pP,rfl,hg⟩;have HG:=ab hg;have n0:=(HO.out.below hg.2.2).c.2.2.1;have n1:=(HO.out.below hg.2.2).c.2.2.2.1;have n5:=(HO.out.below hg.2.2).c.2.2.2.2.2.1;have n3:=(HO.out.below hg.2.2).c.1;have f3:=(HO.out.below hg.2.2).row.free 3;obtain ⟨s0,s1,s5,s3⟩:=Gg (pP:=pP) (HO.out.below hg.2.2).row;clear hg))
 all_goals
  have h2:=HO.out.below HG.out.2.2;have dK:=HO.out.new HG.out.1;have HR:=ab (h2.Vq HG.out.2.1 (MW.out w2) ⟨al (al HO.out.env.size (aj _)) HG.out.1,dK.1,dK.2.2.1,dK.2.2.2.1,dK.2.2.2.2⟩ (fun k hk e=>by have h9:=(HO.out.want.dn k hk).2;have:=HG.out.1;omega))
  clear h2 dK p0 p1 p5 p3 n0 n1 n5 n3 f3 y3;go_wp2;go_ret;exact ⟨rfl,_,_,_,_,_,L,zQ.out,HR.out,MW.out⟩
end
def OP(s:eT XT):List Pr:=match s.x with
 | ⟨0,_⟩=>[]
 | ⟨h+1,t⟩=>(t.2.2.take s.at').flatMap (flat h)
def abW(s:eT XT):List Pr:=match s.x with
 | ⟨0,_⟩=>[]
 | ⟨h+1,t⟩=>(t.2.2.drop (s.at'+1)).flatMap (flat h)
def fQ(ss:List (eT XT)):List Pr:=ss.flatMap OP
def oC:List (eT XT)→List Pr
 | []=>[]
 | s::ss=>oC ss++abW s
theorem CK{d:S.V.bq}{key:ByteArray}{w:World}:∀ {ss:List (eT XT)} {x:XT} {t0:Nd 0} {lo hi:Option ByteArray},Way (de d) (fun n q=>B.fI n.lk key q) w x ss ⟨0,t0⟩→Ok x.1 x.2 lo hi →
  flat x.1 x.2=fQ ss++(t0.2++oC ss)∧(∀ p ∈ fQ ss,cX p.1 key=true)∧(∀ p ∈ oC ss,cX key p.1=true)
 | [],x,t0,lo,hi,h,_=>by
  have h:x=⟨0,t0⟩:=h;subst h;exact ⟨by simp [fQ,oC,flat],(fun _ h=>by simp [fQ] at h),(fun _ h=>by simp [oC] at h)⟩
 | s::ss,x,t0,lo,hi,⟨h1,h2,h3,h4,h5,z,h6,h7⟩,ho=>by
  subst h1;obtain ⟨b,n,i,⟨hh,t⟩⟩:=s;cases hh with
  | zero=>exact h6.elim
  | succ h =>
   obtain ⟨c,hc,rfl⟩:=h6;obtain ⟨_,hn,hg⟩:=h2;have hn:aU (cJ d) w (h+1) n t:=hn;have hc:t.2.2[i]?=some c:=hc;have jE:t.2.1=n.lk.map (·.1):=hn.2.2.2.1;have rl:t.2.2.length=t.2.1.length+1:=by rw [← hn.1,hn.len,jE,aA]
   have S4:=(fy h t lo hi).1 ho;have oL:=jO S4;rw [jE] at oL;obtain ⟨Rn,Rm⟩:=nu h4 oL;simp only at Rn Rm;rw [← jE] at Rn Rm;obtain ⟨e1,e2,el,ei⟩:=ml rl hc;have G2:gX (ld h) lo hi (t.2.1.take i++t.2.1.drop i) (t.2.2.take i++c::t.2.2.drop (i+1)):=by rw [← e1,← e2];exact S4
   obtain ⟨hp,tO⟩:=(pB el).1 G2;obtain ⟨f1,f2,f3⟩:=CK h7 (rO tO).1;refine ⟨?_,fun p G1=>?_,fun p G1=>?_⟩
   ·show t.2.2.flatMap (flat h)=_
    have e3:t.2.2.flatMap (flat h)=(t.2.2.take i).flatMap (flat h)++(flat h c++(t.2.2.drop (i+1)).flatMap (flat h)):=by
     conv=>lhs;rw [e2]
     rw [aT,List.flatMap_cons]
    rw [e3,show flat h c=fQ ss++(t0.2++oC ss) from f1]
    show _=((t.2.2.take i).flatMap (flat h)++fQ ss)++(t0.2++(oC ss++(t.2.2.drop (i+1)).flatMap (flat h)))
    simp [List.append_assoc]
   ·have G1:p ∈ (t.2.2.take i).flatMap (flat h)++fQ ss:=G1;rcases List.mem_append.1 G1 with h' | h'
    ·exact rL (P:=ld h) (fun _ _ _ hc=>qe h hc.1) hp Rn p h'
    ·exact f2 p h'
   ·have G1:p ∈ oC ss++(t.2.2.drop (i+1)).flatMap (flat h):=G1;rcases List.mem_append.1 G1 with h' | h'
    ·exact f3 p h'
    ·exact ub (P:=ld h) (fun _ _ _ hc=>qe h hc.1) tO Rm p h'
theorem tX{d:S.V.bq}{w:World}:∀ {ss:List (eT XT)} {x y:XT},Way (de d) (fun n q=>q=n.lk.length) w x ss y→(∃ lo hi,ld x.1 x.2 lo hi)→(∃ Y,flat x.1 x.2=Y++flat y.1 y.2)∧∃ lo hi,ld y.1 y.2 lo hi
 | [],x,y,h,ho=>by
  have h:x=y:=h;subst h;exact ⟨⟨[],rfl⟩,ho⟩
 | s::ss,x,y,⟨h1,h2,h3,h4,h5,z,h6,h7⟩,ho=>by
  subst h1;obtain ⟨b,n,i,⟨hh,t⟩⟩:=s;cases hh with
  | zero=>exact h6.elim
  | succ h =>
   obtain ⟨c,hc,rfl⟩:=h6;obtain ⟨_,hn,hg⟩:=h2;have hn:aU (cJ d) w (h+1) n t:=hn;have hc:t.2.2[i]?=some c:=hc;have jE:t.2.1=n.lk.map (·.1):=hn.2.2.2.1;have rl:t.2.2.length=t.2.1.length+1:=by rw [← hn.1,hn.len,jE,aA]
   have Pz:i=n.lk.length:=h4;obtain ⟨lo,hi,cT⟩:=ho;obtain ⟨pQ,mz,hf⟩:=kR ((fy h t lo hi).1 cT.1) i c hc;obtain ⟨⟨Y,hY⟩,hz⟩:=tX h7 ⟨pQ,mz,hf⟩;obtain ⟨e1,e2,el,ei⟩:=ml rl hc;refine ⟨⟨(t.2.2.take i).flatMap (flat h)++Y,?_⟩,hz⟩;have PI:t.2.2.drop (i+1)=[]:=dB (by rw [rl,jE,aA,Pz];exact aj _)
   show t.2.2.flatMap (flat h)=_
   conv=>lhs;rw [e2]
   rw [PI,aT,List.flatMap_cons,show flat h c=Y++flat y.1 y.2 from hY]
   simp
theorem I7{t:Nd 0}(h:∃ lo hi,ld 0 t lo hi):t.2≠[]:=by
 obtain ⟨lo,hi,h⟩:=h;have:=rN 0 h;have h1:1≤t.2.length:=this;intro e;rw [e] at h1;simp at h1
theorem Kq{d:S.V.bq}{w:World}{ss:List (eT XT)}{x:XT}{t:Nd 0}(h:Way (de d) (fun n q=>q=n.lk.length) w x ss ⟨0,t⟩)(cT:eW (some x)):(∃ Y,flat x.1 x.2=Y++t.2)∧t.2≠[]:=by
 cases ss with
 | nil =>
  have h:x=⟨0,t⟩:=h;subst h;have:=Ag cT;have h1:1≤t.2.length:=this;exact ⟨⟨[],rfl⟩,fun e=>by rw [e] at h1;simp at h1⟩
 | cons s ss =>
  obtain ⟨h1,h2,h3,h4,h5,z,h6,h7⟩:=h;subst h1;obtain ⟨b,n,i,⟨hh,tt⟩⟩:=s;cases hh with
  | zero=>exact h6.elim
  | succ h =>
   obtain ⟨c,hc,rfl⟩:=h6;obtain ⟨_,hn,hg⟩:=h2;have hn:aU (cJ d) w (h+1) n tt:=hn;have hc:tt.2.2[i]?=some c:=hc;have jE:tt.2.1=n.lk.map (·.1):=hn.2.2.2.1;have rl:tt.2.2.length=tt.2.1.length+1:=by rw [← hn.1,hn.len,jE,aA]
   have Pz:i=n.lk.length:=h4;obtain ⟨pQ,mz,hf⟩:=kR ((fy h tt none none).1 cT.1) i c hc;obtain ⟨⟨Y,hY⟩,hz⟩:=tX h7 ⟨pQ,mz,hf⟩;obtain ⟨e1,e2,el,ei⟩:=ml rl hc;refine ⟨⟨(tt.2.2.take i).flatMap (flat h)++Y,?_⟩,I7 hz⟩;have PI:tt.2.2.drop (i+1)=[]:=dB (by rw [rl,jE,aA,Pz];exact aj _)
   show tt.2.2.flatMap (flat h)=_
   conv=>lhs;rw [e2]
   rw [PI,aT,List.flatMap_cons,show flat h c=Y++t.2 from hY]
   simp
def iF(l:List Pr):Pr:=l.getLast?.getD (⟨#[]⟩,⟨#[]⟩)
def sC(l:List Pr)(key:ByteArray):List Pr:=if key=⟨#[]⟩ then l else l.take (aJ l key)
theorem AF{Y l:List Pr}(h:l≠[]):iF (Y++l)=iF l:=by
 unfold iF;rw [List.getLast?_append];cases hl:l.getLast? with
 | none=>rw [List.getLast?_eq_none_iff] at hl;exact absurd hl h
 | some p=>rfl
theorem pF{l:List Pr}{j:Nat}(h:j+1=l.length):iF l=l[j]:=by
 unfold iF;rw [List.getLast?_eq_getElem?,show l.length - 1=j by omega,af (by omega)]
 rfl
theorem QI{X Y Z:List Pr}{key:ByteArray}(hk:key≠⟨#[]⟩)(hX:∀ p ∈ X,cX p.1 key=true)(hZ:∀ p ∈ Z,cX key p.1=true):sC (X++(Y++Z)) key=X++Y.take (aJ Y key):=by
 unfold sC;have:=cp Y key;rw [if_neg hk,kY hX hZ,List.take_append,aq (by omega),show X.length+aJ Y key - X.length=aJ Y key by omega,aF this]
def Re(ss:List (eT XT))(e:Ending)(w':World):Prop :=
 (e = .returned (.tuple #[.slice none 0 0,.nilIface])∧fQ ss=[]) ∨
 ∃ (m:Nat) (a:Option Addr) (c:Nat) (l:List W.Lk) (q:W.Lk) (n:SN) (pv lv cv:Value),e = .returned (.tuple #[.slice a (m+1) c,.nilIface])∧m=l.length∧m≤100000∧W.cV w' (.slice a (m+1) c) (l++[q])∧dG w' q.1 n pv lv cv∧n.ps≠[]∧∃ Y,fQ ss=Y++n.ps
theorem CJ{d:S.V.bq}{Pk:SN→Nat→Prop}{w:World}:∀ {ss:List (eT XT)} {x y:XT},Way (de d) Pk w x ss y→∀ (k:Nat) (h:k<ss.length),ss[k].x.1+k=x.1
 | s::ss,x,y,⟨h1,_,_,_,_,z,h6,h7⟩,0,_=>by subst h1;rfl
 | s::ss,x,y,⟨h1,_,_,_,_,z,h6,h7⟩,k+1,h=>by
  have dm:k<ss.length:=by simpa using h
  have ih:=CJ h7 k dm;subst h1;obtain ⟨b,n,i,⟨hh,t⟩⟩:=s;cases hh with
  | zero=>exact h6.elim
  | succ hh =>
   obtain ⟨c,_,rfl⟩:=h6;show (ss[k]'dm).x.1+(k+1)=hh+1
   have:(ss[k]'dm).x.1+k=hh:=ih;omega
theorem OO{d:S.V.bq}{w:World}{t:eT XT}{q:Nat}{y:XT}{LW:List Pr}(hn:(de d).N w t.n t.x)(hq:t.at'=q+1)(hs:(de d).sub t.x q y):∃ (h:Nat) (c:Nd h),y=⟨h,c⟩∧(∃ lo hi,ld h c lo hi)∧∃ Y,LW++OP t=Y++flat h c:=by
 obtain ⟨b,n,i,⟨hh,tt⟩⟩:=t;cases hh with
 | zero=>exact hs.elim
 | succ h =>
  obtain ⟨c,hc,rfl⟩:=hs;have hc:tt.2.2[q]?=some c:=hc;obtain ⟨_,⟨⟨lo,hi,ho⟩,_⟩⟩:=hn;obtain ⟨pQ,mz,hf⟩:=kR ((fy h tt lo hi).1 ho) q c hc;refine ⟨h,c,rfl,⟨pQ,mz,hf⟩,LW++(tt.2.2.take q).flatMap (flat h),?_⟩;have hi:i=q+1:=hq;subst hi;obtain ⟨YO,YN⟩:=List.getElem?_eq_some_iff.1 hc;show LW++(tt.2.2.take (q+1)).flatMap (flat h)=_
  rw [az YO,YN,aT,ay];simp
theorem KY{ss:List (eT XT)}{s:eT XT}{k:Nat}{OY:Int}{hk:k<(ss.map eT.lk++[s.lk]).length}(hl:OY=(ss.map eT.lk++[s.lk])[k].2)(hp:¬ 0<OY):fQ (ss.take (k+1))=fQ (ss.take k):=by
 by_cases jE:k<ss.length
 ·have e2:(ss.map eT.lk++[s.lk])[k]=ss[k].lk:=by rw [aI (by rw [aA];exact jE),cd]
  rw [e2] at hl;have hl:OY=(ss[k].at':Int):=hl;have h0:ss[k].at'=0:=by omega
  rw [az jE];unfold fQ;rw [aT];have:OP ss[k]=[]:=by
   unfold OP;split
   ·rfl
   ·rw [h0];rfl
  simp [this]
 ·rw [aq (by omega),aq (by omega)]
section
variable {base:Nat} {A:Nat→Addr} {db:Nat} {F:Nat→Prop} {d:S.V.bq}
theorem wB{w0 w:World}{tb:Nat}{rv:Value}{Pk:SN→Nat→Prop}(a:Option Addr)(c:Nat)(ss:List (eT XT))(s:eT XT)(gi:Dv base A db F d w0)(hm:Mv db F w0 w)(hv:Dv base A db F d w)(ht:B.ax w tb #[.pointer (some ⟨db,0,none⟩),rv] 100)(ho:W.cV w (.slice a (ss.length+1) c) (ss.map eT.lk++[s.lk]))(x:XT)(gA:Way (de d) Pk w x ss s.x)(BM:x.1+1≤64)(sk:s.at'=0)(hl:ss.length≤63):Calls prog 56 #[.pointer (some ⟨tb,0,none⟩),.slice a (ss.length+1) c] w fun e w'=>Re ss e w'∧Dv base A db F d w'∧Mv db F w0 w':=by
 obtain ⟨M,hM⟩ : ∃ M,M=ss.length+1:=⟨_,rfl⟩;rw [← hM] at ho ⊢;have HO:=ab ho;have HW:=ab gA;have HV:=ab hv;have Fm:=ab gi;have HMV:=ab hm;have HT:=ab ht;have HM:=ab hM;have HL:=ab hl;have yY:=ab sk;have hMs:(M:Int)≤64:=by omega
 have hM0:(0:Int)≤(M:Int):=by omega
 clear gi hm hv ht ho gA sk hl hM;go_enter func56,ntmps56;go_wp2;go_loopw [6] (fun iv wr=>∃ j:Nat,iv = .int .i64 ((j:Int) - 1)∧j≤M∧Hid (fQ ss=fQ (ss.take j))∧Below w.heap.size w wr) (fun iv _=>(intOf iv+1).toNat)
 case atStart=>exact ⟨M,rfl,aj _,by show _=_;rw [aq (by have:=HM.out;omega)],Below.refl _ _⟩
 case round =>
  obtain ⟨j,rfl,hj,nT,hb⟩:=hrel;cases j with
  | zero =>
   have HB:=ab hb;have Pp:¬ (0:Int)≤((0:Nat):Int) - 1:=by omega
   clear hb;go_wp2;go_ret2;exact ⟨.inl ⟨rfl,nT.out⟩,HV.out.below HB.out,HMV.out.trans (Mv.of HB.out)⟩
  | succ k =>
   have e0:((k+1:Nat):Int) - 1=(k:Int):=by omega
   rw [e0];have Rs:(0:Int)≤(k:Int):=by omega
   have jA:(k:Int)<(M:Int):=by omega
   have dm:k<(ss.map eT.lk++[s.lk]).length:=by rw [ae,aA];simp;have:=HM.out;omega
   obtain ⟨g,o,rfl,c1,c2⟩:=W.cV.spot HO.out k dm;have f1:wr.cell? ⟨g,o+k*2,none⟩=some (.pointer (some ⟨(ss.map eT.lk++[s.lk])[k].1,0,none⟩)):=(hb.cell (p:=⟨g,o+k*2,none⟩) (World.block_lt_of_cell? w _ c1)).trans c1;have f2:wr.cell? ⟨g,o+k*2+1,none⟩=some (.int .i64 (ss.map eT.lk++[s.lk])[k].2):=(hb.cell (p:=⟨g,o+k*2+1,none⟩) (World.block_lt_of_cell? w _ c2)).trans c2;obtain ⟨lb,UD⟩ : ∃ x,x=(ss.map eT.lk++[s.lk])[k].1:=⟨_,rfl⟩;obtain ⟨OY,BN⟩ : ∃ x,x=(ss.map eT.lk++[s.lk])[k].2:=⟨_,rfl⟩;rw [← UD] at f1;rw [← BN] at f2;have q0:=ai wr (.cells #[.pointer (some ⟨lb,0,none⟩),.int .i64 OY] 159);have x0:=B.ax.new wr #[.pointer (some ⟨lb,0,none⟩),.int .i64 OY] 159;have k0:=x0.c0;have k1:=x0.c1;have HB:=ab (Below.next hb q0);by_cases G0:0<OY
   ·have jE:k<ss.length:=by
     rcases a7 k ss.length with h | h
     ·exact h
     ·have e:k=ss.length:=by have:=HM.out;omega
      have e2:(ss.map eT.lk++[s.lk])[k]=s.lk:=by
       subst e;simp
      rw [e2] at BN;have:OY=(s.at':Int):=BN;rw [yY.out] at this;omega
    have e2:(ss.map eT.lk++[s.lk])[k]=ss[k].lk:=by rw [aI (by rw [aA];exact jE),cd]
    rw [e2] at UD BN;obtain ⟨⟨⟨pv,lv,cv,hs⟩,hn⟩,xV,bP⟩:=HW.out.get k jE;have my:fQ ss=fQ (ss.take k)++OP ss[k]:=by
     rw [nT.out,az jE];unfold fQ;rw [aT];simp
    have hrk:ss[k].x.1+k=x.1:=CJ HW.out k jE;have Ia:Hid (fQ (ss.take k)=fQ (ss.take k)):=rfl;obtain ⟨LW,hLW⟩ : ∃ LW,LW=fQ (ss.take k):=⟨_,rfl⟩;rw [← hLW] at my;clear hLW Ia;generalize ss[k]=t at *;change lb=t.b at UD
    change OY=(t.at':Int) at BN
    subst UD;obtain ⟨q,hq⟩ : ∃ q,t.at'=q+1:=⟨t.at' - 1,by omega⟩
    have Zh:OY=(q:Int)+1:=by rw [BN,hq];omega
    clear BN;subst Zh;rw [hq] at bP;obtain ⟨p,hp⟩ : ∃ p,t.n.us[q]?=some p:=⟨_,af (by omega)⟩
    obtain ⟨y,lC,Pj⟩:=(de d).pS hn hp;have VF:y.1+1≤t.x.1:=by
     rcases (de d).Xh with h | h
     ·exact h.elim
     ·exact h _ _ _ lC
    have FQ:Hid (∃ (h:Nat) (c:Nd h),y=⟨h,c⟩∧(∃ lo hi,ld h c lo hi)∧∃ Y,fQ ss=Y++flat h c):=by
     rw [my];exact OO hn hq lC
    generalize hWb:wr.alloc (.cells #[.pointer (some ⟨t.b,0,none⟩),.int .i64 ((q:Int)+1)] 159)=Wb at *;have Wg:Below w.heap.size w Wb.drew:=B.aN HB.out;obtain ⟨c',w3,bg,VL,bF⟩:=N0 g o k M c _ (t.b,(q:Int)) Wb.drew (W.cV.below HO.out Wg) (by omega) (by omega)
    have BQ:Below w.heap.size w w3.drew:=B.aN (Below.next Wg bF);have Zf:((ss.map eT.lk++[s.lk]).take k++[(t.b,(q:Int))]).length=k+1:=by
     rw [ae,ag];simp;omega
    have YB:oa w3.drew w0.heap.size (.slice (some ⟨Wb.drew.heap.size+1,0,none⟩) (k+1) c') ((ss.map eT.lk++[s.lk]).take k++[(t.b,(q:Int))]):=⟨W.b7.mono (b:=Wb.drew.heap.size) VL.1 (al HMV.out.size Wg.size),VL.2⟩;have HG:=ab (uN (de d) (fun n q=>q=n.lk.length) (fun _=>True) (fun _ _ _ h=>h) _ _ p y tb rv w0 w3.drew ((de d).ka (cM.of BQ) Pj) (HT.out.below BQ) (HV.out.below BQ) (HMV.out.trans (Mv.of BQ)) Fm.out YB trivial (by rw [Zf];have:=HL.out;have:=HM.out;omega) (.inr (by rw [Zf];show y.1+(k+1)+1≤64;omega)) (fun W b n pv lv cv y _ hs hn xV=>by
     have hk:=((de d).fit hn).1.resolve_left xV;exact (zY n lv W hs.bm).mono fun e w' ⟨he,hb⟩=>⟨n.lk.length,he,rfl,by omega,hb⟩))
    obtain ⟨pre,gB⟩ : ∃ pre,pre=(ss.map eT.lk++[s.lk]).take k++[(t.b,(q:Int))]:=⟨_,rfl⟩;rw [← gB] at HG Zf;have cx:Wb.drew.heap.size=wr.heap.size+1:=by rw [← hWb];simp [World.drew]
    rw [show (Wb.drew).alloc (.cells #[.pointer (some ⟨t.b,0,none⟩),.int .i64 (q:Int)] 159)=(Wb.alloc (.cells #[.pointer (some ⟨t.b,0,none⟩),.int .i64 (q:Int)] 159)).drew from rfl,cx] at bg
    rw [cx] at HG;have sG:=ab bg;have zQ:=ab Zf;have MV:=ab (hs.below (Below.next Wg bF));have p3:=(hs.below (Below.next Wg bF)).c3;obtain ⟨ca,cc,qO,-,-,aX⟩:=hs.kids;rw [C.aR,Nat.mul_one] at qO;subst qO;obtain ⟨g2,o2,rfl,XF⟩:=aX q p.val (by unfold C.bm;rw [aL,hp];rfl)
    have cq:w3.cell? ⟨g2,o2+q,none⟩=some p.val:=((Below.next Wg bF).cell (p:=⟨g2,o2+q,none⟩) (World.block_lt_of_cell? w _ XF)).trans XF;have HNE:Hid ((wr.heap.size<w3.heap.size∧wr.heap.size≠db)∧(t.b<wr.heap.size∧t.b≠db)∧g2<wr.heap.size∧g2≠db):=by
     obtain ⟨d',_,hd⟩:=HV.out.dev;have hdb:=HV.out.BZ;have s1:=hb.size;have s2:=(B.dw bF).size;have s3:wr.heap.size<Wb.heap.size:=by rw [← hWb];simp
     refine ⟨⟨by omega,by omega⟩,⟨ar hs.row.lt s1,fun e=>?_⟩,ar (World.block_lt_of_cell? w _ XF) s1,fun e=>?_⟩
     ·have h1:=hs.row;rw [e] at h1;obtain ⟨mb,nb,Ku,av,Dn,MR⟩:=hd;unfold B.ax at h1;rw [MR.dn] at h1;simp at h1
     ·obtain ⟨tt,xx,gw⟩:=bz p;rw [gw] at XF;subst e;exact (kZ hd XF).2 tt xx rfl
    obtain ⟨pt,px,gw⟩:=bz p;rw [gw] at cq HG;have m0:=(x0.below (B.dw bF)).c0;have m1:=(x0.below (B.dw bF)).c1;have hsc:=fun W=>X9 W (some ⟨g,o,none⟩) M c k (by
     obtain ⟨_,_,e,hle,_⟩:=HO.out;simp only [Value.slice.injEq] at e;rw [ae,aA] at hle;simp at hle
     obtain ⟨_,_,rfl⟩:=e;have:=HM.out;omega)
    have aer:Hid (∀ w4,Kept db (.slice (some ⟨wr.heap.size+1+1,0,none⟩) (k+1) c') w3.drew w4→w4.cell? ⟨wr.heap.size,0,none⟩=some (.pointer (some ⟨t.b,0,none⟩))∧w4.cell? ⟨wr.heap.size,1,none⟩=some (.int .i64 ((q:Int)+1))∧w4.cell? ⟨t.b,3,none⟩=some (.slice (some ⟨g2,o2,none⟩) t.n.us.length cc)∧w4.cell? ⟨g2,o2+q,none⟩=some (.iface pt px)):=fun w4 hk=>by
     have dK:=HNE.out;have e1:=hk.2 wr.heap.size (by show wr.heap.size<w3.heap.size;omega) (by omega) (by simp [Value.ownBlock];omega)
     have e2:=hk.2 t.b (by show t.b<w3.heap.size;omega) (by omega) (by simp [Value.ownBlock];omega)
     have e3:=hk.2 g2 (by show g2<w3.heap.size;omega) (by omega) (by simp [Value.ownBlock];omega)
     exact ⟨bV e1 m0,bV e1 m1,bV e2 p3,bV e3 cq⟩
    have Lb:(0:Int)≤(q:Int):=by omega
    have Jg:(q:Int)<(t.n.us.length:Int):=by omega
    have VQ:(t.n.us.length:Int)≤4001:=by have:=hs.fine.2.2.2.2;omega
    have hqp:(q:Int)+1 > 0:=by omega
    have hwq:IntKind.i64.wrap (q:Int)=(q:Int):=by rw [IntKind.wrap_i64];omega
    clear aX XF gw YB VL BQ bF bg gB Pj hn hs xV bP hp Zf Wg x0 q0 hb c1 c2 G0 hq e2 cx nT my hrk VF lC;subst hWb;go_wp2_with fail;go_region_held3 (fun w'=>w'.cell? ⟨wr.heap.size,0,none⟩=some (.pointer (some ⟨t.b,0,none⟩))∧w'.cell? ⟨wr.heap.size,1,none⟩=some (.int .i64 ((q:Int)+1))) (go_keep)
     (first | (refine kI 101 rfl (.tmp 26) (.tmp 33) rfl rfl _ _ rfl rfl _ _ sG.out ?_))
    all_goals
     clear sG hsc k0 k1 f1 f2;go_wp2_with fail;go_region_held3 (fun w'=>w'.cell? ⟨wr.heap.size,0,none⟩=some (.pointer (some ⟨t.b,0,none⟩))∧w'.cell? ⟨wr.heap.size,1,none⟩=some (.int .i64 ((q:Int)+1))∧w'.cell? ⟨t.b,3,none⟩=some (.slice (some ⟨g2,o2,none⟩) t.n.us.length cc)∧w'.cell? ⟨g2,o2+q,none⟩=some (.iface pt px)) (go_keep)
      (first | (go_at_call 89;refine HG.out.mono ?_;rintro e w4 ⟨hdn,Ys,hm4,Zl⟩;have n0:=aer.out w4 Zl;obtain ⟨n0,n1,n2,n3⟩:=n0;clear Zl;obtain ⟨a4,n4,c4,v4,he4,vT⟩:=hdn.form;subst he4;have HD4:=ab hdn;have HV4:=ab Ys;have HM4:=ab hm4;have HVV:=ab vT;clear hdn Ys hm4 vT))
     all_goals
      have bM:Hid (Re ss (.returned (.tuple #[.slice a4 n4 c4,v4])) w4):=by
       rcases HD4.out with ⟨hE,_⟩ | ⟨ss',s',a',c'',he,G2,hw',⟨⟨Ku,Sz,cv',Ut⟩,Y5⟩,Lq,_,Tb⟩
       ·exact hE.elim
       ·obtain ⟨hh,cc',hy,acs,Y,hY⟩:=FQ.out;subst hy;obtain ⟨b',n',i',⟨hz,tz⟩⟩:=s';cases hz with
        | succ hz=>exact absurd (List.length_eq_zero_iff.1 Lq) Y5.1.2.1
        | zero =>
         obtain ⟨⟨Y',hY'⟩,dK⟩:=tX hw' acs;have kB:n'.ps=tz.2:=Y5.1.2;refine .inr ⟨pre.length+ss'.length,a',c'',pre++ss'.map eT.lk,(b',(i':Int)),n',Ku,Sz,cv',he,by rw [ae,aA],by omega,G2.1.at,Ut,by rw [kB];exact I7 dK,Y++Y',?_⟩
         rw [hY,kB,ay];exact congrArg (Y++·) hY'
      clear HD4 HG m0 m1 p3 cq n0 n1 n2 n3;obtain ⟨vv,vT⟩ : ∃ vv,vv=v4:=⟨_,rfl⟩;rw [← vT] at bM HVV ⊢;rcases HVV.out with h | h
      ·subst h;clear vT HVV;go_wp2;go_ret2;exact ⟨bM.out,HV4.out,HM4.out⟩
      ·subst h;clear vT HVV;go_wp2;go_ret2;exact ⟨bM.out,HV4.out,HM4.out⟩
   ·have Ro:¬ OY > 0:=G0;have HLF:Hid (fQ ss=fQ (ss.take k)):=by
     show _=_
     rw [nT.out];exact KY BN G0
    clear c1 c2 hb x0 q0 UD BN G0 nT;go_wp2;go_roundw
    case rel=>exact ⟨k,rfl,by omega,HLF,HB.out⟩
    case measure=>simp [intOf]
end
end T
end Go.Proofs.YtihmgigfkmofnaaGreatDoor
