import Derived.Test.YtihmgigfkmofnaaGreatDoorG35
set_option maxHeartbeats 8000000
set_option maxRecDepth 100000
open Go.Proofs.Tryz
namespace Go.Proofs.YtihmgigfkmofnaaGreatDoor
open Go.RowKit
theorem NT:prog.underlying 52=some (.struct (prog.fieldsOf 52)):=by kernel_rfl
theorem Sb:prog.stoodInHeld 52=false:=by kernel_rfl
theorem Yh(w:World)(a b a' b':ByteArray):(binOp .eql 52 (.agg #[.string a,.string b]) (.agg #[.string a',.string b'])).run prog w = .ok (.bool (a.toList == a'.toList && b.toList == b'.toList)) w:=by
 rw [run_eql_struct,run_equalIn_agg w 9999 52 _ _ NT Sb];simp [go_sem]
 by_cases h1:a.toList=a'.toList
 ·by_cases h2:b.toList=b'.toList
  ·simp [h1,h2]
  ·simp [h1,h2]
 ·simp [h1]
theorem Sa(w:World)(a b:ByteArray):(binOp .eql 52 (.agg #[.string a,.string b]) (.agg #[.string a,.string b])).run prog w = .ok (.bool true) w:=by
 rw [Yh];simp
theorem Vv(w:World)(x y:Array Value)(bb:Bool)(h:(binOp .eql 52 (.agg x) (.agg y)).run prog w = .ok (.bool bb) w):(binOp .neq 52 (.agg x) (.agg y)).run prog w = .ok (.bool (!bb)) w:=by
 rw [run_eql_struct] at h;rw [run_neq_struct];revert h
 generalize (Op.equalIn 10000 52 (.agg x) (.agg y)).run prog w=r;cases r with
 | ok v w'=>intro h;simp [Result.andThen] at h ⊢;obtain ⟨rfl,rfl⟩:=h;simp
 | halt v w'=>intro h;simp [Result.andThen] at h
theorem NU(w:World)(a b:ByteArray):(binOp .neq 52 (.agg #[.string a,.string b]) (.agg #[.string a,.string b])).run prog w = .ok (.bool false) w:=Vv w _ _ true (Sa w a b)
theorem wh(v1 v2:Value)(l:List Pr)(w:World)(hm:l.length≤140737488355328)(r1:gG w v1 l)(r2:gG w v2 l):Calls prog 60 #[v1,v2] w fun e w'=>e = .returned (.bool true)∧Below w.heap.size w w':=by
 obtain ⟨a1,c1,rfl,_,_,h1⟩:=r1;obtain ⟨a2,c2,rfl,_,_,h2⟩:=r2;obtain ⟨n,hn⟩ : ∃ n,n=l.length:=⟨_,rfl⟩;rw [← hn] at hm ⊢;have H1:=ab h1;have H2:=ab h2;have HN:=ab hn;have GX:((n:Int) != (n:Int))=false:=by simp
 obtain ⟨Q,hQ⟩ : ∃ Q:Ending→World→Prop,Q=fun e w'=>e = .returned (.bool true)∧Below w.heap.size w w':=⟨_,rfl⟩
 rw [← hQ];have HQ:=ab hQ;clear h1 h2 hn hQ;go_enter func60,ntmps60;go_wp2;go_loopw [5] (fun i wr=>∃ k nq:Nat,k≤n∧i = .int .i64 k∧wr=w.drewN nq) (fun i _=>n - (intOf i).toNat)
 case atStart=>exact ⟨0,0,aD _,rfl,rfl⟩
 case round =>
  obtain ⟨k,nq,hk,rfl,rfl⟩:=hrel;by_cases bN:k<n
  ·have jv:k<l.length:=by have:=HN.out;omega
   obtain ⟨g1,o1,rfl,f1,f1'⟩:=H1.out k jv;obtain ⟨g2,o2,rfl,f2,f2'⟩:=H2.out k jv;have j0:(0:Int)≤(k:Int):=dN k;have j1:(k:Int)<(n:Int):=by omega
   generalize l[k].1=x1 at *;generalize l[k].2=x2 at *;have dE:=fun w=>NU w x1 x2
   clear H1 H2;go_wp2;go_quiet (fail)
   go_wp2;go_roundw
   case rel=>exact ⟨k+1,_,by omega,by go_num,rfl⟩
   case measure=>simp [intOf];omega
  ·have j1:¬ (k:Int)<(n:Int):=by omega
   clear H1 H2;go_wp2;rw [HQ.out];exact ⟨rfl,aA (Below.refl _ _) _⟩
namespace T
theorem OS(l:List Pr):l.filter (je ⟨#[]⟩ ⟨#[]⟩)=l:=by
 rw [List.filter_eq_self];intro p _;have h0:(⟨#[]⟩ : ByteArray).toList=[]:=by rw [ByteArray.toList_eq]
 have h1:cR p.1 ⟨#[]⟩=false:=by
  unfold cR;rw [h0];cases p.1.toList <;> rfl
 simp [je,h1]
section
variable {base:Nat} {A:Nat→Addr} {w0:World} {ob db tb fb fg:Nat} {F:Nat→Prop} {d:S.V.bq} {r:ch} {T:Nat→Bool} {wv:Value} {root tx:Nat} {l:List Pr}
theorem Os.mv{w w1:World}(h:Os base A w0 w ob db tb fb fg F d r T wv root tx l)(hv:Dv base A db F d w1)(hm:Mv db F w w1):Os base A w0 w1 ob db tb fb fg F d r T wv root tx l:=h.tree (h.ts.mv hm hv) (List.Sublist.refl _)
theorem Sj{w:World}{v:Value}(h:Os base A w0 w ob db tb fb fg F d r T wv root tx l)(hn:(aB r).length≤1000000)(hv:v=wv∧l=aB r∨v = .slice none 0 0∧aB r=[]):Calls prog 23 #[.pointer (some ⟨tb,0,none⟩),v] w fun e w'=>e = .returned (.bool true)∧Os base A w0 w' ob db tb fb fg F d r T wv root tx l∧Fr db tb ob w w':=by
 have uU:=ld h.ts.ok;have HP:=ab (wM (fr:=⟨#[]⟩) (en:=⟨#[]⟩) (lim:=1099511627776) h.ts (by omega) h.nd (by omega) (by decide))
 rw [OS,al (by omega)] at HP
 have kL:∃ a n c,v = .slice a n c:=by
  rcases hv with ⟨rfl,_⟩ | ⟨rfl,_⟩
  ·exact et h.want
  ·exact ⟨_,_,_,rfl⟩
 have H:=ab h;have HN:=ab hn;have HV:=ab hv;obtain ⟨a,n,c,kL⟩:=kL;subst kL;clear h hn hv uU;go_enter func23,ntmps23;go_wp2_with fail;refine HP.out.mono ?_
 rintro e w1 ⟨⟨u,rfl,hu⟩,fI,fK⟩;have h1:=H.out.mv fI fK;have hr:gG w1 (.slice a n c) (aB r):=by
  rcases HV.out with ⟨e1,e2⟩ | ⟨e1,e2⟩
  ·rw [e1,← e2];exact h1.want.at
  ·rw [e1,e2];exact gG.nil _
 have HS:=ab (wh u (.slice a n c) (aB r) w1 (by have:=HN.out;omega) hu.1.at hr)
 obtain ⟨ua,uc,GF⟩:=hu.1.form;have H1:=ab h1;have HF:=ab (rM (tb:=tb) (ob:=ob) fK);subst GF;clear h1 hr hu fI fK HP;go_wp2_with fail;refine HS.out.mono ?_
 rintro e w2 ⟨rfl,aU⟩;have H2:=ab (H1.out.below aU);have Hz:=ab (HF.out.trans (cV aU));clear aU HS;go_wp2;go_ret;exact ⟨rfl,H2.out,Hz.out⟩
end
section
variable {base:Nat} {A:Nat→Addr}
theorem Kr(w:World)(MK:Q.Env base A w)(hE:S.Env base A w)(hG:dA 13 eR A w)(o8:∀ i,i<13→eR i<base∧(A i).block<base):Calls prog 9 #[] w fun e w'=>∃ (ob db tb fb fg:Nat) (F:Nat→Prop) (d:S.V.bq),e = .returned (.tuple #[.pointer (some ⟨ob,0,none⟩),.bool true])∧Os base A w w' ob db tb fb fg F d none (Q.T0 4000) (.slice none 0 0) 0 0 []:=by
 have HQE:=ab MK;have HE:=ab hE;have HG:=ab hG;have HLO:=ab o8;have HN:=ab (S.V.vo 32000 w);clear hE hG o8 MK;go_enter func9,ntmps9;go_wp2_with fail;refine HN.out.mono ?_
 rintro e w1 ⟨db,F,rfl,hd,aL,hF⟩;have fI:Dv base A db F (S.V.iE 32000) w1:=⟨⟨_,Nr.refl _,hd⟩,HE.out.up aL,HG.out.keep aL,fun k hk=>ar HE.out.errs.size (hF k hk),rfl,HLO.out⟩
 have ZM:=fI.Ha;have PK:=hd.lt;have q1:=ai w1 (.cells #[.int .i64 4000,.pointer (some ⟨db,0,none⟩),.pointer none,.pointer none,.slice none 0 0,.int .i64 0,.int .u64 0] 65);have x1:=B.au.new w1 #[.int .i64 4000,.pointer (some ⟨db,0,none⟩),.pointer none,.pointer none,.slice none 0 0,.int .i64 0,.int .u64 0] 65;have tE:=ab fI;have bP:=ab aL;have HF:=ab hF;have MT:=ab PK;have HDL:=ab ZM;have yn:=ab q1;have zk:=ab x1;have XQ:=ab (Q.vo 4000 (w1.alloc (.cells #[.int .i64 4000,.pointer (some ⟨db,0,none⟩),.pointer none,.pointer none,.slice none 0 0,.int .i64 0,.int .u64 0] 65)) (by decide) (by decide))
 clear hd aL hF fI ZM PK q1 x1 HN;go_wp2_with fail;refine XQ.out.mono ?_
 rintro e w3 ⟨mb,mg,rfl,I7,Zm,hmap,bT⟩;have HMB:=ab I7;have U6:=ab Zm;have QQ:=ab hmap;have Mt:=ab bT;clear I7 Zm hmap;have uO:=zk.out.below bT;have yA:=ab uO;have eG:=ab (Below.next yn.out bT);have k1:=uO.cell 1 (by simp)
 have k2:=uO.cell 2 (by simp)
 simp only [bQ,List.getElem_cons_zero,List.getElem_cons_succ] at k1 k2;have y2:=uO.free 2;have OV:B.au (w3.setCell ⟨w1.heap.size,2,none⟩ (.pointer (some ⟨mb,0,none⟩))) w1.heap.size #[.int .i64 4000,.pointer (some ⟨db,0,none⟩),.pointer (some ⟨mb,0,none⟩),.pointer none,.slice none 0 0,.int .i64 0,.int .u64 0] 65:=heap_setCell_same _ _ 2 _ _ _ uO;have vw:w.heap.size≤w1.heap.size:=bP.out.size;have SS:¬ F w1.heap.size:=fun h=>by have:=MT.out _ h;omega
 have Yy:Dv base A db F (S.V.iE 32000) (w3.setCell ⟨w1.heap.size,2,none⟩ (.pointer (some ⟨mb,0,none⟩))):=(tE.out.below eG.out).tree (ar HE.out.errs.size vw) SS 2 _;have gj:Below w.heap.size w (w3.setCell ⟨w1.heap.size,2,none⟩ (.pointer (some ⟨mb,0,none⟩))):=(Below.next bP.out eG.out).setCell (p:=⟨w1.heap.size,2,none⟩) vw _;have k3:=OV.cell 1 (by simp)
 simp only [bQ,List.getElem_cons_zero,List.getElem_cons_succ] at k3;generalize Rp:w3.setCell ⟨w1.heap.size,2,none⟩ (.pointer (some ⟨mb,0,none⟩))=W4 at *;have HTO:=ab (JV (W0:=W4) 4000 0 (.int .u64 0) Yy (S.V.Step.refl _ _));have vF:=ab OV;have iU:=ab gj;have TV:=ab SS;have zl:=ab vw;clear bT uO XQ OV Yy gj SS vw;go_wp2_with fail;refine HTO.out.mono ?_
 rintro e w5 ⟨tb,rfl,yU,YB⟩;have hx5:B.au w5 w1.heap.size #[.int .i64 4000,.pointer (some ⟨db,0,none⟩),.pointer (some ⟨mb,0,none⟩),.pointer none,.slice none 0 0,.int .i64 0,.int .u64 0] 65:=(yU.st.block _ vF.out.lt TV.out).trans vF.out;have Y2:w1.heap.size≠tb:=by have:=vF.out.lt;have:=yU.lo.2.1;omega
 have hx6:B.au (w5.setCell ⟨w1.heap.size,3,none⟩ (.pointer (some ⟨tb,0,none⟩))) w1.heap.size #[.int .i64 4000,.pointer (some ⟨db,0,none⟩),.pointer (some ⟨mb,0,none⟩),.pointer (some ⟨tb,0,none⟩),.slice none 0 0,.int .i64 0,.int .u64 0] 65:=heap_setCell_same _ _ 3 _ _ _ hx5;have YA:B.au (w5.setCell ⟨w1.heap.size,3,none⟩ (.pointer (some ⟨tb,0,none⟩))) tb #[.pointer (some ⟨db,0,none⟩),.nilIface] 100:=(YB (by first | trivial | rfl)).other Y2.symm _
 have m3:=hx5.cell 3 (by simp)
 have f3:=hx5.free 3;have n3:=hx6.cell 3 (by simp)
 simp only [bQ,List.getElem_cons_zero,List.getElem_cons_succ] at m3 n3;have b8:Hid (∀ k,Os base A w ((w5.setCell ⟨w1.heap.size,3,none⟩ (.pointer (some ⟨tb,0,none⟩))).drewN k) w1.heap.size db tb mb mg F (S.V.iE 32000) none (Q.T0 4000) (.slice none 0 0) 0 0 []):=fun k=>by
  have hd:=aA (Below.refl (w5.setCell ⟨w1.heap.size,3,none⟩ (.pointer (some ⟨tb,0,none⟩))).heap.size (w5.setCell ⟨w1.heap.size,3,none⟩ (.pointer (some ⟨tb,0,none⟩)))) k;have hs:=bJ.set w1.heap.size 3 w5 (.pointer (some ⟨tb,0,none⟩));have MG:=HQE.out.size;have vw:=zl.out;have Xu:∀ k,w1.heap.size≤k→¬ F k:=fun k hk h=>by have:=MT.out _ h;omega
  have GI:w1.heap.size+1≤mb∧w1.heap.size+1≤mg:=by
   have h1:=HMB.out;have h2:=U6.out;simp at h1 h2
   omega
  have Zo:mb<w3.heap.size∧mg<w3.heap.size:=⟨QQ.out.Q3,QQ.out.Q2⟩;have ahO:W4.heap.size=w3.heap.size:=by rw [← Rp];simp
  have htb:=yU.lo.2.1;have UE:∀ k,k<w3.heap.size→w1.heap.size<k→(w5.setCell ⟨w1.heap.size,3,none⟩ (.pointer (some ⟨tb,0,none⟩))).heap[k]?=w3.heap[k]?:=fun k hk qM=>by
   have s4:=bJ.set w1.heap.size 2 w3 (.pointer (some ⟨mb,0,none⟩));rw [Rp] at s4;have e1:=s4.block k hk (by omega)
   have e2:=yU.st.block k (by omega) (Xu k (by omega))
   have e3:=hs.block k (by have:=yU.st.size;omega) (by omega)
   exact e3.trans (e2.trans e1)
  have jX:Below base w (w5.setCell ⟨w1.heap.size,3,none⟩ (.pointer (some ⟨tb,0,none⟩))):=by
   have h1:S.V.Step F F w w5:=(S.V.Step.bw iU.out).trans yU.st;exact ⟨hs.os.trans h1.os,hs.tape.trans h1.tape,hs.output.trans h1.output,ar h1.size hs.size,fun k hk=>(hs.block k (by have:=h1.size;omega) (by omega)).trans (h1.block k (by omega) (fun e=>by have:=HF.out k e;omega))⟩
  have Xt:Os base A w (w5.setCell ⟨w1.heap.size,3,none⟩ (.pointer (some ⟨tb,0,none⟩))) w1.heap.size db tb mb mg F (S.V.iE 32000) none (Q.T0 4000) (.slice none 0 0) 0 0 []:=by
   refine ⟨hx6,⟨yU.dv.tree (by omega) TV.out 3 _,⟨_,YA,.inl ⟨rfl,rfl⟩⟩,trivial,S.V.Step.refl _ _,yU.lo.1,yU.lo.2.2⟩,⟨iP QQ.out (UE _ Zo.1 (by omega)) (UE _ Zo.2 (by omega)),Q.Ub (by decide) (by decide),⟨by omega,by omega⟩,⟨Xu _ (by omega),Xu _ (by omega)⟩,⟨by omega,by omega⟩⟩,HQE.out.keep jX,ij.nil _ _,List.nodup_nil,fun i hi=>by simp [eB] at hi,fun i hi=>by simp [eB] at hi,⟨rfl,rfl,rfl⟩,jX,⟨by omega,TV.out,Y2,by omega,by omega⟩,fun k hk=>by simp [Value.ownBlock] at hk⟩
  exact Xt.below hd
 clear yU YB hx5 Y2 hx6 YA HTO k1 k2 k3 y2;go_wp2_with fail;go_quiet (fail)
 go_wp2;go_ret2;exact ⟨_,_,_,_,_,F,S.V.iE 32000,rfl,b8.out _⟩
end
section
variable {base:Nat} {A:Nat→Addr} {w0:World} {ob db tb fb fg:Nat} {F:Nat→Prop} {d:S.V.bq} {r:ch} {T:Nat→Bool} {wv:Value} {root tx:Nat} {l:List Pr}
def Jr(kind:Int)(key value:ByteArray)(r r':ch):Prop :=
 (kind=1∧((cO (key,value)=true∧tu key (fun l=>fl l key value) r r')∨(¬ cO (key,value)=true∧r'=r))) ∨
 (kind=2∧((cO (key,⟨#[]⟩)=true∧bf (aB r) key=true∧tu key (fun l=>fQ l key) r r')∨(¬ (cO (key,⟨#[]⟩)=true∧bf (aB r) key=true)∧r'=r)))
theorem Dc{w:World}(kind at' n:Int)(key value eW:ByteArray)(hk:kind=1∨kind=2)(h:Os base A w0 w ob db tb fb fg F d r T wv root tx (aB r))(hn:(aB r).length≤1000000)(cL:key.size≤140737488355328)(se:value.size≤140737488355328):Calls prog 24 #[.pointer (some ⟨ob,0,none⟩),.agg #[.int .i64 kind,.int .i64 at',.int .i64 n,.string key,.string value,.string eW]] w fun e w'=>e = .returned (.bool true)∧∃ r' nj,Jr kind key value r r'∧Os base A w0 w' ob db tb fb fg F d r' T nj root tx (aB r')∧Fr db tb ob w w':=by
 have q0:=ai w (.cells #[.int .i64 kind,.int .i64 at',.int .i64 n,.string key,.string value,.string eW] 44);have x0:=B.au.new w #[.int .i64 kind,.int .i64 at',.int .i64 n,.string key,.string value,.string eW] 44;have k0:=x0.cell 0 (by simp)
 have k3:=x0.cell 3 (by simp)
 have k4:=x0.cell 4 (by simp)
 simp only [bQ,List.getElem_cons_zero,List.getElem_cons_succ] at k0 k3 k4;have h1:=h.below q0;have HQ0:=ab q0;rcases hk with rfl | rfl
 ·have HP:=ab (IQ key value h1 hn cL se);clear h h1 hn x0 q0;go_enter func24,ntmps24;go_wp2_with fail;refine HP.out.mono ?_
  rintro e w1 ⟨rfl,r',nj,fH,ho,Eb⟩;have HR:Hid (∃ r' nj,Jr 1 key value r r'∧Os base A w0 w1 ob db tb fb fg F d r' T nj root tx (aB r')∧Fr db tb ob w w1):=⟨r',nj,.inl ⟨rfl,fH⟩,ho,(cV HQ0.out).trans Eb⟩;clear fH ho Eb HP k0 k3 k4;go_wp2;go_ret;exact ⟨rfl,HR.out⟩
 ·have HP:=ab (Oc key h1 hn cL);clear h h1 hn x0 q0;go_enter func24,ntmps24;go_wp2_with fail;refine HP.out.mono ?_
  rintro e w1 ⟨rfl,r',nj,fH,ho,Eb⟩;have HR:Hid (∃ r' nj,Jr 2 key value r r'∧Os base A w0 w1 ob db tb fb fg F d r' T nj root tx (aB r')∧Fr db tb ob w w1):=⟨r',nj,.inr ⟨rfl,fH⟩,ho,(cV HQ0.out).trans Eb⟩;clear fH ho Eb HP k0 k3 k4;go_wp2;go_ret;exact ⟨rfl,HR.out⟩
theorem sH{kind:Int}{key value:ByteArray}{r r':ch}(h:Jr kind key value r r')(cN:eP r):(aB r').length≤(aB r).length+1:=by
 rcases h with ⟨_,⟨hm,hu⟩ | ⟨_,rfl⟩⟩ | ⟨_,⟨_,_,hu⟩ | ⟨_,rfl⟩⟩
 ·rw [(oO (vB hm) cN hu).2];exact od _ _ _
 ·omega
 ·rw [(oO (fit_drop key) cN hu).2];have:=LM (aB r) key;show (fQ (aB r) key).length≤_
  omega
 ·omega
end
theorem JU(db:Nat)(m0:Int)(r:ch)(m2:Value)(w:World)(hr:r=none∨gK r≠0):Calls prog 13 #[.pointer (some ⟨db,0,none⟩),.agg #[.int .i64 m0,.int .i64 (gK r:Int),m2]] w fun e w'=>∃ tb,e = .returned (.pointer (some ⟨tb,0,none⟩))∧w.heap.size≤tb∧B.au w' tb #[.pointer (some ⟨db,0,none⟩),kt r] 100∧Below w.heap.size w w':=by
 have q0:=ai w (.cells #[.int .i64 m0,.int .i64 (gK r:Int),m2] 42);have x0:=B.au.new w #[.int .i64 m0,.int .i64 (gK r:Int),m2] 42;have k1:=x0.cell 1 (by simp)
 simp only [bQ,List.getElem_cons_zero,List.getElem_cons_succ] at k1;generalize hW:w.alloc (.cells #[.int .i64 m0,.int .i64 (gK r:Int),m2] 42)=W at *;have s1:w.heap.size≤W.heap.size:=q0.size;have HN:Hid (∀ rv,w.heap.size≤W.heap.size∧B.au (W.alloc (.cells #[.pointer (some ⟨db,0,none⟩),rv] 100)) W.heap.size #[.pointer (some ⟨db,0,none⟩),rv] 100∧Below w.heap.size w (W.alloc (.cells #[.pointer (some ⟨db,0,none⟩),rv] 100))):=fun rv=>⟨s1,B.au.new W #[.pointer (some ⟨db,0,none⟩),rv] 100,Below.next q0 (ai W _)⟩
 clear q0 x0 s1;cases r with
 | none =>
  have k1':W.cell? ⟨w.heap.size,1,none⟩=some (.int .i64 0):=k1;clear k1;go_enter func13,ntmps13;go_wp2_with fail;refine (oe _).mono ?_
  rintro e w1 ⟨rfl,rfl⟩;go_wp2;go_ret;exact ⟨_,rfl,HN.out _⟩
 | some x =>
  have h0:((gK (some x):Nat):Int)≠0:=by
   rcases hr with h | h
   ·cases h
   ·omega
  have Xm:kt (some x) = .iface 146 (.int .i64 (gK (some x):Int)):=rfl;have HVA:=ab Xm;generalize ((gK (some x):Nat):Int)=root at *;have H0:=ab h0;clear h0 hr Xm;go_enter func13,ntmps13;go_wp2_with fail;refine (og root _ H0.out).mono ?_
  rintro e w1 ⟨rfl,rfl⟩;have Xm:(C.Ch.pg root).val = .iface 146 (.int .i64 root):=rfl;rw [Xm];go_wp2;go_ret;exact ⟨_,rfl,by rw [HVA.out];exact HN.out _⟩
theorem Kb{PG:Int→Option PD}{w:World}{r:ch}(h:ez PG w (kt r) r):r=none∨gK r≠0:=by
 cases r with
 | none=>exact .inl rfl
 | some x =>
  right
  rcases h with ⟨h,_⟩ | ⟨p,hh,t,hv,hx,hk⟩
  ·cases h
  ·cases hx;have hv:Value.iface 146 (.int .i64 ((ft hh t:Nat):Int))=p.val:=hv;cases p with
   | pg id =>
    have hv:Value.iface 146 (.int .i64 ((ft hh t:Nat):Int)) = .iface 146 (.int .i64 id):=hv;simp only [Value.iface.injEq,Value.int.injEq,true_and] at hv;have hk:gA PG hh id t:=hk;have h2:2≤id:=by
     cases hh with
     | zero=>exact hk.1.1
     | succ hh=>exact hk.1.1
    show ft hh t≠0
    omega
   | nd b =>
    exact absurd hv (by intro e;unfold C.Ch.val at e;simp only [Value.iface.injEq] at e;exact absurd e.1 (by decide))
section
variable {base:Nat} {A:Nat→Addr} {w0:World} {ob db tb fb fg:Nat} {F:Nat→Prop} {d:S.V.bq} {r:ch} {T:Nat→Bool} {wv:Value} {root tx:Nat} {l:List Pr}
theorem Os.Vt{w:World}{nD:Nat}{rv:Value}(h:Os base A w0 w ob db tb fb fg F d r T wv root tx l)(ht:B.au w nD #[.pointer (some ⟨db,0,none⟩),rv] 100)(hr:ez (cM d) w rv r)(hn:base≤nD∧¬ F nD∧nD≠ob∧nD≠fb∧nD≠fg)(GB:∀ k,wv.ownBlock=some k→k≠nD):Os base A w0 (w.setCell ⟨ob,3,none⟩ (.pointer (some ⟨nD,0,none⟩))) ob db nD fb fg F d r T wv root tx l:=by
 have hs:=bJ.set ob 3 w (.pointer (some ⟨nD,0,none⟩));have ha:cP w (w.setCell ⟨ob,3,none⟩ (.pointer (some ⟨nD,0,none⟩))):=⟨hs.size,fun k hk=>by
  by_cases e:k=ob
  ·exact .inr (e▸Bd h.row (et h.want))
  ·exact .inl (hs.block k hk e)⟩
 have jt:Below base w (w.setCell ⟨ob,3,none⟩ (.pointer (some ⟨nD,0,none⟩))):=⟨hs.os,hs.tape,hs.output,hs.size,fun k hk=>hs.block k (aq hk h.env.size) (by have:=h.ap.1;omega)⟩
 have m:=h.mp;refine ⟨heap_setCell_same _ _ 3 _ _ _ h.row,⟨h.ts.dv.tree h.ap.1 h.ap.2.1 3 _,⟨rv,dU ha ht,hr.cC ha⟩,h.ts.ok,S.V.Step.refl _ _,hn.1,hn.2.1⟩,⟨iP m.map (hs.block _ m.map.Q3 h.ap.2.2.2.1.symm) (hs.block _ m.map.Q2 h.ap.2.2.2.2.symm),m.ok,m.lo,m.nf,hn.2.2.2.2.symm,hn.2.2.2.1.symm⟩,h.env.keep jt,h.want.same fun k hk=>hs.block k (h.want.dr k hk).2 (h.wn k hk).2.2.1,h.nd,h.pt,h.pr,h.kG,ng h.ew jt,⟨h.ap.1,h.ap.2.1,hn.2.2.1.symm,h.ap.2.2.2⟩,fun k hk=>⟨(h.wn k hk).1,GB k hk,(h.wn k hk).2.2⟩⟩
theorem FP{w:World}{nD:Nat}(h:B.au w ob (jq db fb tb wv root tx) 65):(w.setCell ⟨ob,3,none⟩ (.pointer (some ⟨nD,0,none⟩))).cell? ⟨ob,0,none⟩=some (.int .i64 4000)∧(w.setCell ⟨ob,3,none⟩ (.pointer (some ⟨nD,0,none⟩))).cell? ⟨ob,1,none⟩=some (.pointer (some ⟨db,0,none⟩))∧(w.setCell ⟨ob,3,none⟩ (.pointer (some ⟨nD,0,none⟩))).cell? ⟨ob,5,none⟩=some (.int .i64 (root:Int))∧(w.setCell ⟨ob,3,none⟩ (.pointer (some ⟨nD,0,none⟩))).cell? ⟨ob,3,none⟩=some (.pointer (some ⟨nD,0,none⟩)):=by
 have r:B.au (w.setCell ⟨ob,3,none⟩ (.pointer (some ⟨nD,0,none⟩))) ob (jq db fb nD wv root tx) 65:=heap_setCell_same _ _ 3 _ _ _ h;exact ⟨r.cell 0 (by simp [jq]),r.cell 1 (by simp [jq]),r.cell 5 (by simp [jq]),r.cell 3 (by simp [jq])⟩
structure adW(base:Nat)(A:Nat→Addr)(w0 w:World)(ob db:Nat)(r:ch)(T:Nat→Bool)(wv:Value)(tx:Nat)(l:List Pr):Prop where
 out:∃ (tb fb fg:Nat) (F:Nat→Prop) (d:S.V.bq) (L:List Nat),L.Perm (eB (laid T r))∧Os base A w0 w ob db tb fb fg F d (laid T r) (iO (Q.T0 4000) L) wv (gK (laid T r)) (tx+1) l∧(∀ W,ez (cM d) W (kt (laid T r)) (laid T r))
theorem Gf{w:World}(h:Os base A w0 w ob db tb fb fg F d r T wv root tx l)(hn:(aB r).length≤50000)(Eb:eE r≤(Q.gv T 4000).length)(Q7:tx<1099511627776):Calls prog 25 #[.pointer (some ⟨ob,0,none⟩)] w fun e w'=>e = .returned (.bool true)∧adW base A w0 w' ob db r T wv tx l:=by
 have HS:=ab (zX h hn Eb Q7);clear h hn Eb Q7;go_enter func25,ntmps25;go_wp2_with fail;refine HS.out.mono ?_
 rintro e w1 ⟨rfl,fj⟩;obtain ⟨fb2,fg2,F2,d2,L,Li,ho,ME,_⟩:=fj.out;have p0:=ho.c.2.2.1;have p1:=ho.c.2.2.2.1;have p5:=ho.c.2.2.2.2.2.1;have p3:=ho.c.1;have y3:=ho.row.free 3;have HO:=ab ho;have zo:=ab Li;have MP:=ab ME;have HTO:Hid (∀ W,Below w1.heap.size w1 W→Calls prog 13 #[.pointer (some ⟨db,0,none⟩),.agg #[.int .i64 4000,.int .i64 (gK (laid T r):Int),.int .u64 0]] W fun e w'=>∃ nD,e = .returned (.pointer (some ⟨nD,0,none⟩))∧(w1.heap.size≤nD∧B.au w' nD #[.pointer (some ⟨db,0,none⟩),kt (laid T r)] 100∧Below w1.heap.size w1 w')):=fun W hW=>(JU db 4000 (laid T r) (.int .u64 0) W (Kb (ME w1))).mono fun e w' ⟨nD,h1,h2,h3,h4⟩=>⟨nD,h1,ar hW.size h2,h3,Below.next hW h4⟩
 clear fj Li ho ME HS;go_wp2_with fail;go_region_held3 (fun w'=>w'.cell? ⟨ob,0,none⟩=some (.int .i64 4000)∧w'.cell? ⟨ob,1,none⟩=some (.pointer (some ⟨db,0,none⟩))∧w'.cell? ⟨ob,5,none⟩=some (.int .i64 (gK (laid T r):Int))) (go_keep)
  (first | (go_at_call 13;refine (HTO.out _ ?_).mono ?_;(first | exact (Below.refl _ _).drew | exact aA (Below.refl _ _) _ | exact Below.refl _ _);rintro e w2 ⟨nD,rfl,hg⟩;have HG:=ab hg;have n0:=(HO.out.below hg.2.2).c.2.2.1;have n1:=(HO.out.below hg.2.2).c.2.2.2.1;have n5:=(HO.out.below hg.2.2).c.2.2.2.2.2.1;have n3:=(HO.out.below hg.2.2).c.1;have f3:=(HO.out.below hg.2.2).row.free 3;obtain ⟨s0,s1,s5,s3⟩:=FP (nD:=nD) (HO.out.below hg.2.2).row;clear hg))
 all_goals
  have h2:=HO.out.below HG.out.2.2;have dE:=HO.out.new HG.out.1;have HR:=ab (h2.Vt HG.out.2.1 (MP.out w2) ⟨ar (ar HO.out.env.size (aj _)) HG.out.1,dE.1,dE.2.2.1,dE.2.2.2.1,dE.2.2.2.2⟩ (fun k hk e=>by have h9:=(HO.out.want.dr k hk).2;have:=HG.out.1;omega))
  clear h2 dE p0 p1 p5 p3 n0 n1 n5 n3 f3 y3;go_wp2;go_ret;exact ⟨rfl,_,_,_,_,_,L,zo.out,HR.out,MP.out⟩
end
def OE(s:gz XT):List Pr:=match s.x with
 | ⟨0,_⟩=>[]
 | ⟨h+1,t⟩=>(t.2.2.take s.at').flatMap (flat h)
def acg(s:gz XT):List Pr:=match s.x with
 | ⟨0,_⟩=>[]
 | ⟨h+1,t⟩=>(t.2.2.drop (s.at'+1)).flatMap (flat h)
def fO(ss:List (gz XT)):List Pr:=ss.flatMap OE
def oh:List (gz XT)→List Pr
 | []=>[]
 | s::ss=>oh ss++acg s
theorem Co{d:S.V.bq}{key:ByteArray}{w:World}:∀ {ss:List (gz XT)} {x:XT} {t0:Nd 0} {lo hi:Option ByteArray},Way (cX d) (fun n q=>B.fE n.lk key q) w x ss ⟨0,t0⟩→Ok x.1 x.2 lo hi →
  flat x.1 x.2=fO ss++(t0.2++oh ss)∧(∀ p ∈ fO ss,cR p.1 key=true)∧(∀ p ∈ oh ss,cR key p.1=true)
 | [],x,t0,lo,hi,h,_=>by
  have h:x=⟨0,t0⟩:=h;subst h;exact ⟨by simp [fO,oh,flat],(fun _ h=>by simp [fO] at h),(fun _ h=>by simp [oh] at h)⟩
 | s::ss,x,t0,lo,hi,⟨h1,h2,h3,h4,h5,z,h6,h7⟩,ho=>by
  subst h1;obtain ⟨b,n,i,⟨hh,t⟩⟩:=s;cases hh with
  | zero=>exact h6.elim
  | succ h =>
   obtain ⟨c,hc,rfl⟩:=h6;obtain ⟨_,hn,hg⟩:=h2;have hn:aT (cM d) w (h+1) n t:=hn;have hc:t.2.2[i]?=some c:=hc;have ju:t.2.1=n.lk.map (·.1):=hn.2.2.2.1;have qN:t.2.2.length=t.2.1.length+1:=by rw [← hn.1,hn.len,ju,az]
   have O9:=(fu h t lo hi).1 ho;have oz:=jC O9;rw [ju] at oz;obtain ⟨Re,Rb⟩:=mQ h4 oz;simp only at Re Rb;rw [← ju] at Re Rb;obtain ⟨e1,e2,el,ei⟩:=lX qN hc;have GN:gR (kO h) lo hi (t.2.1.take i++t.2.1.drop i) (t.2.2.take i++c::t.2.2.drop (i+1)):=by rw [← e1,← e2];exact O9
   obtain ⟨hp,s7⟩:=(oU el).1 GN;obtain ⟨f1,f2,f3⟩:=Co h7 (rl s7).1;refine ⟨?_,fun p GM=>?_,fun p GM=>?_⟩
   ·show t.2.2.flatMap (flat h)=_
    have e3:t.2.2.flatMap (flat h)=(t.2.2.take i).flatMap (flat h)++(flat h c++(t.2.2.drop (i+1)).flatMap (flat h)):=by
     conv=>lhs;rw [e2]
     rw [aR,List.flatMap_cons]
    rw [e3,show flat h c=fO ss++(t0.2++oh ss) from f1]
    show _=((t.2.2.take i).flatMap (flat h)++fO ss)++(t0.2++(oh ss++(t.2.2.drop (i+1)).flatMap (flat h)))
    simp [List.append_assoc]
   ·have GM:p ∈ (t.2.2.take i).flatMap (flat h)++fO ss:=GM;rcases List.mem_append.1 GM with h' | h'
    ·exact ri (P:=kO h) (fun _ _ _ hc=>pN h hc.1) hp Re p h'
    ·exact f2 p h'
   ·have GM:p ∈ oh ss++(t.2.2.drop (i+1)).flatMap (flat h):=GM;rcases List.mem_append.1 GM with h' | h'
    ·exact f3 p h'
    ·exact tp (P:=kO h) (fun _ _ _ hc=>pN h hc.1) s7 Rb p h'
theorem tl{d:S.V.bq}{w:World}:∀ {ss:List (gz XT)} {x y:XT},Way (cX d) (fun n q=>q=n.lk.length) w x ss y→(∃ lo hi,kO x.1 x.2 lo hi)→(∃ Y,flat x.1 x.2=Y++flat y.1 y.2)∧∃ lo hi,kO y.1 y.2 lo hi
 | [],x,y,h,ho=>by
  have h:x=y:=h;subst h;exact ⟨⟨[],rfl⟩,ho⟩
 | s::ss,x,y,⟨h1,h2,h3,h4,h5,z,h6,h7⟩,ho=>by
  subst h1;obtain ⟨b,n,i,⟨hh,t⟩⟩:=s;cases hh with
  | zero=>exact h6.elim
  | succ h =>
   obtain ⟨c,hc,rfl⟩:=h6;obtain ⟨_,hn,hg⟩:=h2;have hn:aT (cM d) w (h+1) n t:=hn;have hc:t.2.2[i]?=some c:=hc;have ju:t.2.1=n.lk.map (·.1):=hn.2.2.2.1;have qN:t.2.2.length=t.2.1.length+1:=by rw [← hn.1,hn.len,ju,az]
   have Pl:i=n.lk.length:=h4;obtain ⟨lo,hi,cN⟩:=ho;obtain ⟨pz,mh,hf⟩:=kD ((fu h t lo hi).1 cN.1) i c hc;obtain ⟨⟨Y,hY⟩,hz⟩:=tl h7 ⟨pz,mh,hf⟩;obtain ⟨e1,e2,el,ei⟩:=lX qN hc;refine ⟨⟨(t.2.2.take i).flatMap (flat h)++Y,?_⟩,hz⟩;have Pt:t.2.2.drop (i+1)=[]:=dy (by rw [qN,ju,az,Pl];exact aj _)
   show t.2.2.flatMap (flat h)=_
   conv=>lhs;rw [e2]
   rw [Pt,aR,List.flatMap_cons,show flat h c=Y++flat y.1 y.2 from hY]
   simp
theorem IZ{t:Nd 0}(h:∃ lo hi,kO 0 t lo hi):t.2≠[]:=by
 obtain ⟨lo,hi,h⟩:=h;have:=rj 0 h;have h1:1≤t.2.length:=this;intro e;rw [e] at h1;simp at h1
theorem Kc{d:S.V.bq}{w:World}{ss:List (gz XT)}{x:XT}{t:Nd 0}(h:Way (cX d) (fun n q=>q=n.lk.length) w x ss ⟨0,t⟩)(cN:eP (some x)):(∃ Y,flat x.1 x.2=Y++t.2)∧t.2≠[]:=by
 cases ss with
 | nil =>
  have h:x=⟨0,t⟩:=h;subst h;have:=zL cN;have h1:1≤t.2.length:=this;exact ⟨⟨[],rfl⟩,fun e=>by rw [e] at h1;simp at h1⟩
 | cons s ss =>
  obtain ⟨h1,h2,h3,h4,h5,z,h6,h7⟩:=h;subst h1;obtain ⟨b,n,i,⟨hh,tt⟩⟩:=s;cases hh with
  | zero=>exact h6.elim
  | succ h =>
   obtain ⟨c,hc,rfl⟩:=h6;obtain ⟨_,hn,hg⟩:=h2;have hn:aT (cM d) w (h+1) n tt:=hn;have hc:tt.2.2[i]?=some c:=hc;have ju:tt.2.1=n.lk.map (·.1):=hn.2.2.2.1;have qN:tt.2.2.length=tt.2.1.length+1:=by rw [← hn.1,hn.len,ju,az]
   have Pl:i=n.lk.length:=h4;obtain ⟨pz,mh,hf⟩:=kD ((fu h tt none none).1 cN.1) i c hc;obtain ⟨⟨Y,hY⟩,hz⟩:=tl h7 ⟨pz,mh,hf⟩;obtain ⟨e1,e2,el,ei⟩:=lX qN hc;refine ⟨⟨(tt.2.2.take i).flatMap (flat h)++Y,?_⟩,IZ hz⟩;have Pt:tt.2.2.drop (i+1)=[]:=dy (by rw [qN,ju,az,Pl];exact aj _)
   show tt.2.2.flatMap (flat h)=_
   conv=>lhs;rw [e2]
   rw [Pt,aR,List.flatMap_cons,show flat h c=Y++t.2 from hY]
   simp
def il(l:List Pr):Pr:=l.getLast?.getD (⟨#[]⟩,⟨#[]⟩)
def rS(l:List Pr)(key:ByteArray):List Pr:=if key=⟨#[]⟩ then l else l.take (aN l key)
theorem Ag{Y l:List Pr}(h:l≠[]):il (Y++l)=il l:=by
 unfold il;rw [List.getLast?_append];cases hl:l.getLast? with
 | none=>rw [List.getLast?_eq_none_iff] at hl;exact absurd hl h
 | some p=>rfl
theorem oY{l:List Pr}{j:Nat}(h:j+1=l.length):il l=l[j]:=by
 unfold il;rw [List.getLast?_eq_getElem?,show l.length - 1=j by omega,af (by omega)]
 rfl
theorem Qt{X Y Z:List Pr}{key:ByteArray}(hk:key≠⟨#[]⟩)(hX:∀ p ∈ X,cR p.1 key=true)(hZ:∀ p ∈ Z,cR key p.1=true):rS (X++(Y++Z)) key=X++Y.take (aN Y key):=by
 unfold rS;have:=cD Y key;rw [if_neg hk,kM hX hZ,List.take_append,al (by omega),show X.length+aN Y key - X.length=aN Y key by omega,aF this]
def QY(ss:List (gz XT))(e:Ending)(w':World):Prop :=
 (e = .returned (.tuple #[.slice none 0 0,.nilIface])∧fO ss=[]) ∨
 ∃ (m:Nat) (a:Option Addr) (c:Nat) (l:List W.Lk) (q:W.Lk) (n:SN) (pv lv cv:Value),e = .returned (.tuple #[.slice a (m+1) c,.nilIface])∧m=l.length∧m≤100000∧W.di w' (.slice a (m+1) c) (l++[q])∧dH w' q.1 n pv lv cv∧n.ps≠[]∧∃ Y,fO ss=Y++n.ps
theorem Cn{d:S.V.bq}{Pk:SN→Nat→Prop}{w:World}:∀ {ss:List (gz XT)} {x y:XT},Way (cX d) Pk w x ss y→∀ (k:Nat) (h:k<ss.length),ss[k].x.1+k=x.1
 | s::ss,x,y,⟨h1,_,_,_,_,z,h6,h7⟩,0,_=>by subst h1;rfl
 | s::ss,x,y,⟨h1,_,_,_,_,z,h6,h7⟩,k+1,h=>by
  have cL:k<ss.length:=by simpa using h
  have ih:=Cn h7 k cL;subst h1;obtain ⟨b,n,i,⟨hh,t⟩⟩:=s;cases hh with
  | zero=>exact h6.elim
  | succ hh =>
   obtain ⟨c,_,rfl⟩:=h6;show (ss[k]'cL).x.1+(k+1)=hh+1
   have:(ss[k]'cL).x.1+k=hh:=ih;omega
theorem OD{d:S.V.bq}{w:World}{t:gz XT}{q:Nat}{y:XT}{LW:List Pr}(hn:(cX d).N w t.n t.x)(hq:t.at'=q+1)(hs:(cX d).sub t.x q y):∃ (h:Nat) (c:Nd h),y=⟨h,c⟩∧(∃ lo hi,kO h c lo hi)∧∃ Y,LW++OE t=Y++flat h c:=by
 obtain ⟨b,n,i,⟨hh,tt⟩⟩:=t;cases hh with
 | zero=>exact hs.elim
 | succ h =>
  obtain ⟨c,hc,rfl⟩:=hs;have hc:tt.2.2[q]?=some c:=hc;obtain ⟨_,⟨⟨lo,hi,ho⟩,_⟩⟩:=hn;obtain ⟨pz,mh,hf⟩:=kD ((fu h tt lo hi).1 ho) q c hc;refine ⟨h,c,rfl,⟨pz,mh,hf⟩,LW++(tt.2.2.take q).flatMap (flat h),?_⟩;have hi:i=q+1:=hq;subst hi;obtain ⟨YX,YW⟩:=List.getElem?_eq_some_iff.1 hc;show LW++(tt.2.2.take (q+1)).flatMap (flat h)=_
  rw [ay YX,YW,aR,ax];simp
theorem KM{ss:List (gz XT)}{s:gz XT}{k:Nat}{ON:Int}{hk:k<(ss.map gz.lk++[s.lk]).length}(hl:ON=(ss.map gz.lk++[s.lk])[k].2)(hp:¬ 0<ON):fO (ss.take (k+1))=fO (ss.take k):=by
 by_cases ju:k<ss.length
 ·have e2:(ss.map gz.lk++[s.lk])[k]=ss[k].lk:=by rw [aI (by rw [az];exact ju),bZ]
  rw [e2] at hl;have hl:ON=(ss[k].at':Int):=hl;have h0:ss[k].at'=0:=by omega
  rw [ay ju];unfold fO;rw [aR];have:OE ss[k]=[]:=by
   unfold OE;split
   ·rfl
   ·rw [h0];rfl
  simp [this]
 ·rw [al (by omega),al (by omega)]
section
variable {base:Nat} {A:Nat→Addr} {db:Nat} {F:Nat→Prop} {d:S.V.bq}
theorem vP{w0 w:World}{tb:Nat}{rv:Value}{Pk:SN→Nat→Prop}(a:Option Addr)(c:Nat)(ss:List (gz XT))(s:gz XT)(iF:Dv base A db F d w0)(hm:Mv db F w0 w)(hv:Dv base A db F d w)(ht:B.au w tb #[.pointer (some ⟨db,0,none⟩),rv] 100)(ho:W.di w (.slice a (ss.length+1) c) (ss.map gz.lk++[s.lk]))(x:XT)(jf:Way (cX d) Pk w x ss s.x)(Bt:x.1+1≤64)(rG:s.at'=0)(hl:ss.length≤63):Calls prog 56 #[.pointer (some ⟨tb,0,none⟩),.slice a (ss.length+1) c] w fun e w'=>QY ss e w'∧Dv base A db F d w'∧Mv db F w0 w':=by
 obtain ⟨M,hM⟩ : ∃ M,M=ss.length+1:=⟨_,rfl⟩;rw [← hM] at ho ⊢;have HO:=ab ho;have HW:=ab jf;have HV:=ab hv;have QJ:=ab iF;have HMV:=ab hm;have HT:=ab ht;have HM:=ab hM;have HL:=ab hl;have yD:=ab rG;have hMs:(M:Int)≤64:=by omega
 have hM0:(0:Int)≤(M:Int):=by omega
 clear iF hm hv ht ho jf rG hl hM;go_enter func56,ntmps56;go_wp2;go_loopw [6] (fun iv wr=>∃ j:Nat,iv = .int .i64 ((j:Int) - 1)∧j≤M∧Hid (fO ss=fO (ss.take j))∧Below w.heap.size w wr) (fun iv _=>(intOf iv+1).toNat)
 case atStart=>exact ⟨M,rfl,aj _,by show _=_;rw [al (by have:=HM.out;omega)],Below.refl _ _⟩
 case round =>
  obtain ⟨j,rfl,hj,pD,hb⟩:=hrel;cases j with
  | zero =>
   have HB:=ab hb;have GO:¬ (0:Int)≤((0:Nat):Int) - 1:=by omega
   clear hb;go_wp2;go_ret2;exact ⟨.inl ⟨rfl,pD.out⟩,HV.out.below HB.out,HMV.out.trans (Mv.of HB.out)⟩
  | succ k =>
   have e0:((k+1:Nat):Int) - 1=(k:Int):=by omega
   rw [e0];have Rk:(0:Int)≤(k:Int):=by omega
   have jv:(k:Int)<(M:Int):=by omega
   have cL:k<(ss.map gz.lk++[s.lk]).length:=by rw [ae,az];simp;have:=HM.out;omega
   obtain ⟨g,o,rfl,c1,c2⟩:=W.di.spot HO.out k cL;have f1:wr.cell? ⟨g,o+k*2,none⟩=some (.pointer (some ⟨(ss.map gz.lk++[s.lk])[k].1,0,none⟩)):=(hb.cell (p:=⟨g,o+k*2,none⟩) (World.block_lt_of_cell? w _ c1)).trans c1;have f2:wr.cell? ⟨g,o+k*2+1,none⟩=some (.int .i64 (ss.map gz.lk++[s.lk])[k].2):=(hb.cell (p:=⟨g,o+k*2+1,none⟩) (World.block_lt_of_cell? w _ c2)).trans c2;obtain ⟨lb,UC⟩ : ∃ x,x=(ss.map gz.lk++[s.lk])[k].1:=⟨_,rfl⟩;obtain ⟨ON,Bu⟩ : ∃ x,x=(ss.map gz.lk++[s.lk])[k].2:=⟨_,rfl⟩;rw [← UC] at f1;rw [← Bu] at f2;have q0:=ai wr (.cells #[.pointer (some ⟨lb,0,none⟩),.int .i64 ON] 159);have x0:=B.au.new wr #[.pointer (some ⟨lb,0,none⟩),.int .i64 ON] 159;have k0:=x0.c0;have k1:=x0.c1;have HB:=ab (Below.next hb q0);by_cases GL:0<ON
   ·have ju:k<ss.length:=by
     rcases bg k ss.length with h | h
     ·exact h
     ·have e:k=ss.length:=by have:=HM.out;omega
      have e2:(ss.map gz.lk++[s.lk])[k]=s.lk:=by
       subst e;simp
      rw [e2] at Bu;have:ON=(s.at':Int):=Bu;rw [yD.out] at this;omega
    have e2:(ss.map gz.lk++[s.lk])[k]=ss[k].lk:=by rw [aI (by rw [az];exact ju),bZ]
    rw [e2] at UC Bu;obtain ⟨⟨⟨pv,lv,cv,hs⟩,hn⟩,xD,bN⟩:=HW.out.get k ju;have mf:fO ss=fO (ss.take k)++OE ss[k]:=by
     rw [pD.out,ay ju];unfold fO;rw [aR];simp
    have hrk:ss[k].x.1+k=x.1:=Cn HW.out k ju;have WH:Hid (fO (ss.take k)=fO (ss.take k)):=rfl;obtain ⟨LW,hLW⟩ : ∃ LW,LW=fO (ss.take k):=⟨_,rfl⟩;rw [← hLW] at mf;clear hLW WH;generalize ss[k]=t at *;change lb=t.b at UC
    change ON=(t.at':Int) at Bu
    subst UC;obtain ⟨q,hq⟩ : ∃ q,t.at'=q+1:=⟨t.at' - 1,by omega⟩
    have Zs:ON=(q:Int)+1:=by rw [Bu,hq];omega
    clear Bu;subst Zs;rw [hq] at bN;obtain ⟨p,hp⟩ : ∃ p,t.n.us[q]?=some p:=⟨_,af (by omega)⟩
    obtain ⟨y,oy,O6⟩:=(cX d).qL hn hp;have VH:y.1+1≤t.x.1:=by
     rcases (cX d).Yf with h | h
     ·exact h.elim
     ·exact h _ _ _ oy
    have Fu:Hid (∃ (h:Nat) (c:Nd h),y=⟨h,c⟩∧(∃ lo hi,kO h c lo hi)∧∃ Y,fO ss=Y++flat h c):=by
     rw [mf];exact OD hn hq oy
    generalize hWb:wr.alloc (.cells #[.pointer (some ⟨t.b,0,none⟩),.int .i64 ((q:Int)+1)] 159)=Wb at *;have Wi:Below w.heap.size w Wb.drew:=B.aO HB.out;obtain ⟨c',w3,bn,VP,bT⟩:=NR g o k M c _ (t.b,(q:Int)) Wb.drew (W.di.below HO.out Wi) (by omega) (by omega)
    have BA:Below w.heap.size w w3.drew:=B.aO (Below.next Wi bT);have Zq:((ss.map gz.lk++[s.lk]).take k++[(t.b,(q:Int))]).length=k+1:=by
     rw [ae,ag];simp;omega
    have YI:tv w3.drew w0.heap.size (.slice (some ⟨Wb.drew.heap.size+1,0,none⟩) (k+1) c') ((ss.map gz.lk++[s.lk]).take k++[(t.b,(q:Int))]):=⟨W.b6.mono (b:=Wb.drew.heap.size) VP.1 (ar HMV.out.size Wi.size),VP.2⟩;have HG:=ab (xN (cX d) (fun n q=>q=n.lk.length) (fun _=>True) (fun _ _ _ h=>h) _ _ p y tb rv 55 #[] Tryz.call55 w0 w3.drew ((cX d).ka (cP.of BA) O6) (HT.out.below BA) (HV.out.below BA) (HMV.out.trans (Mv.of BA)) QJ.out YI trivial (by rw [Zq];have:=HL.out;have:=HM.out;omega) (.inr (by rw [Zq];show y.1+(k+1)+1≤64;omega)) (fun W b n pv lv cv y _ hs hn xD=>by
     have hk:=((cX d).fit hn).1.resolve_left xD;exact (zA n lv W hs.a8).mono fun e w' ⟨he,hb⟩=>⟨n.lk.length,he,rfl,by omega,hb⟩))
    obtain ⟨pre,jg⟩ : ∃ pre,pre=(ss.map gz.lk++[s.lk]).take k++[(t.b,(q:Int))]:=⟨_,rfl⟩;rw [← jg] at HG Zq;have b7:Wb.drew.heap.size=wr.heap.size+1:=by rw [← hWb];simp [World.drew]
    rw [show (Wb.drew).alloc (.cells #[.pointer (some ⟨t.b,0,none⟩),.int .i64 (q:Int)] 159)=(Wb.alloc (.cells #[.pointer (some ⟨t.b,0,none⟩),.int .i64 (q:Int)] 159)).drew from rfl,b7] at bn
    rw [b7] at HG;have rV:=ab bn;have zo:=ab Zq;have MO:=ab (hs.below (Below.next Wi bT));have p3:=(hs.below (Below.next Wi bT)).c3;obtain ⟨ca,cc,sg,-,-,bh⟩:=hs.kids;rw [C.aS,Nat.mul_one] at sg;subst sg;obtain ⟨g2,o2,rfl,XE⟩:=bh q p.val (by unfold C.a8;rw [aM,hp];rfl)
    have cq:w3.cell? ⟨g2,o2+q,none⟩=some p.val:=((Below.next Wi bT).cell (p:=⟨g2,o2+q,none⟩) (World.block_lt_of_cell? w _ XE)).trans XE;have HNE:Hid ((wr.heap.size<w3.heap.size∧wr.heap.size≠db)∧(t.b<wr.heap.size∧t.b≠db)∧g2<wr.heap.size∧g2≠db):=by
     obtain ⟨d',_,hd⟩:=HV.out.dev;have hdb:=HV.out.Ha;have s1:=hb.size;have s2:=(B.dq bT).size;have s3:wr.heap.size<Wb.heap.size:=by rw [← hWb];simp
     refine ⟨⟨by omega,by omega⟩,⟨aq hs.row.lt s1,fun e=>?_⟩,aq (World.block_lt_of_cell? w _ XE) s1,fun e=>?_⟩
     ·have h1:=hs.row;rw [e] at h1;obtain ⟨mb,nb,FX,av,Dn,MI⟩:=hd;unfold B.au at h1;rw [MI.dr] at h1;simp at h1
     ·obtain ⟨tt,xx,iS⟩:=bM p;rw [iS] at XE;subst e;exact (jF hd XE).2 tt xx rfl
    obtain ⟨pt,px,iS⟩:=bM p;rw [iS] at cq HG;have m0:=(x0.below (B.dq bT)).c0;have m1:=(x0.below (B.dq bT)).c1;have hsc:=fun W=>Yb W (some ⟨g,o,none⟩) M c k (by
     obtain ⟨_,_,e,hle,_⟩:=HO.out;simp only [Value.slice.injEq] at e;rw [ae,az] at hle;simp at hle
     obtain ⟨_,_,rfl⟩:=e;have:=HM.out;omega)
    have aeV:Hid (∀ w4,Kept db (.slice (some ⟨wr.heap.size+1+1,0,none⟩) (k+1) c') w3.drew w4→w4.cell? ⟨wr.heap.size,0,none⟩=some (.pointer (some ⟨t.b,0,none⟩))∧w4.cell? ⟨wr.heap.size,1,none⟩=some (.int .i64 ((q:Int)+1))∧w4.cell? ⟨t.b,3,none⟩=some (.slice (some ⟨g2,o2,none⟩) t.n.us.length cc)∧w4.cell? ⟨g2,o2+q,none⟩=some (.iface pt px)):=fun w4 hk=>by
     have dE:=HNE.out;have e1:=hk.2 wr.heap.size (by show wr.heap.size<w3.heap.size;omega) (by omega) (by simp [Value.ownBlock];omega)
     have e2:=hk.2 t.b (by show t.b<w3.heap.size;omega) (by omega) (by simp [Value.ownBlock];omega)
     have e3:=hk.2 g2 (by show g2<w3.heap.size;omega) (by omega) (by simp [Value.ownBlock];omega)
     exact ⟨bB e1 m0,bB e1 m1,bB e2 p3,bB e3 cq⟩
    have Q8:(0:Int)≤(q:Int):=by omega
    have O5:(q:Int)<(t.n.us.length:Int):=by omega
    have Xq:(t.n.us.length:Int)≤4001:=by have:=hs.fine.2.2.2.2;omega
    have hqp:(q:Int)+1 > 0:=by omega
    have hwq:IntKind.i64.wrap (q:Int)=(q:Int):=by rw [IntKind.wrap_i64];omega
    clear bh XE iS YI VP BA bT bn jg O6 hn hs xD bN hp Zq Wi x0 q0 hb c1 c2 GL hq e2 b7 pD mf hrk VH oy;subst hWb;go_wp2_with fail;go_region_held3 (fun w'=>w'.cell? ⟨wr.heap.size,0,none⟩=some (.pointer (some ⟨t.b,0,none⟩))∧w'.cell? ⟨wr.heap.size,1,none⟩=some (.int .i64 ((q:Int)+1))) (go_keep)
     (first | (refine kj 101 rfl (.tmp 26) (.tmp 33) rfl rfl _ _ rfl rfl _ _ rV.out ?_))
    all_goals
     clear rV hsc k0 k1 f1 f2;go_wp2_with fail;go_region_held3 (fun w'=>w'.cell? ⟨wr.heap.size,0,none⟩=some (.pointer (some ⟨t.b,0,none⟩))∧w'.cell? ⟨wr.heap.size,1,none⟩=some (.int .i64 ((q:Int)+1))∧w'.cell? ⟨t.b,3,none⟩=some (.slice (some ⟨g2,o2,none⟩) t.n.us.length cc)∧w'.cell? ⟨g2,o2+q,none⟩=some (.iface pt px)) (go_keep)
      (first | (go_at_call 89;refine HG.out.mono ?_;rintro e w4 ⟨hdn,Yy,hm4,Zx⟩;have n0:=aeV.out w4 Zx;obtain ⟨n0,n1,n2,n3⟩:=n0;clear Zx;obtain ⟨a4,n4,c4,v4,he4,Ak⟩:=hdn.form;subst he4;have HD4:=ab hdn;have HV4:=ab Yy;have HM4:=ab hm4;have HVV:=ab Ak;clear hdn Yy hm4 Ak))
     all_goals
      have b8:Hid (QY ss (.returned (.tuple #[.slice a4 n4 c4,v4])) w4):=by
       rcases HD4.out with ⟨hE,_⟩ | ⟨ss',s',a',c'',he,GN,hw',⟨⟨FX,Sp,cv',Ur⟩,Zh⟩,Ll,_,SY⟩
       ·exact hE.elim
       ·obtain ⟨hh,cc',hy,acN,Y,hY⟩:=Fu.out;subst hy;obtain ⟨b',n',i',⟨hz,tz⟩⟩:=s';cases hz with
        | succ hz=>exact absurd (List.length_eq_zero_iff.1 Ll) Zh.1.2.1
        | zero =>
         obtain ⟨⟨Y',hY'⟩,dE⟩:=tl hw' acN;have j6:n'.ps=tz.2:=Zh.1.2;refine .inr ⟨pre.length+ss'.length,a',c'',pre++ss'.map gz.lk,(b',(i':Int)),n',FX,Sp,cv',he,by rw [ae,az],by omega,GN.1.at,Ur,by rw [j6];exact IZ dE,Y++Y',?_⟩
         rw [hY,j6,ax];exact congrArg (Y++·) hY'
      clear HD4 HG m0 m1 p3 cq n0 n1 n2 n3;obtain ⟨vv,Ak⟩ : ∃ vv,vv=v4:=⟨_,rfl⟩;rw [← Ak] at b8 HVV ⊢;rcases HVV.out with h | h
      ·subst h;clear Ak HVV;go_wp2;go_ret2;exact ⟨b8.out,HV4.out,HM4.out⟩
      ·subst h;clear Ak HVV;go_wp2;go_ret2;exact ⟨b8.out,HV4.out,HM4.out⟩
   ·have Rf:¬ ON > 0:=GL;have HLF:Hid (fO ss=fO (ss.take k)):=by
     show _=_
     rw [pD.out];exact KM Bu GL
    clear c1 c2 hb x0 q0 UC Bu GL pD;go_wp2;go_roundw
    case rel=>exact ⟨k,rfl,by omega,HLF,HB.out⟩
    case measure=>simp [intOf]
end
end T
end Go.Proofs.YtihmgigfkmofnaaGreatDoor
