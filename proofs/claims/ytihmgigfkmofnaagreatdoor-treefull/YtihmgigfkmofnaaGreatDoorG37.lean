import Derived.Test.YtihmgigfkmofnaaGreatDoorG36
set_option maxHeartbeats 8000000
set_option maxRecDepth 100000
open Go.Proofs.Tryz
namespace Go.Proofs.YtihmgigfkmofnaaGreatDoor
open Go.RowKit
theorem Ol:prog.underlying 52=some (.struct (prog.fieldsOf 52)):=by kernel_rfl
theorem SF:prog.stoodInHeld 52=false:=by kernel_rfl
theorem YS(w:World)(a b a' b':ByteArray):(binOp .eql 52 (.agg #[.string a,.string b]) (.agg #[.string a',.string b'])).run prog w = .ok (.bool (a.toList == a'.toList && b.toList == b'.toList)) w:=by
 rw [run_eql_struct,run_equalIn_agg w 9999 52 _ _ Ol SF];simp [go_sem]
 by_cases h1:a.toList=a'.toList
 ·by_cases h2:b.toList=b'.toList
  ·simp [h1,h2]
  ·simp [h1,h2]
 ·simp [h1]
theorem SE(w:World)(a b:ByteArray):(binOp .eql 52 (.agg #[.string a,.string b]) (.agg #[.string a,.string b])).run prog w = .ok (.bool true) w:=by
 rw [YS];simp
theorem V1(w:World)(x y:Array Value)(bb:Bool)(h:(binOp .eql 52 (.agg x) (.agg y)).run prog w = .ok (.bool bb) w):(binOp .neq 52 (.agg x) (.agg y)).run prog w = .ok (.bool (!bb)) w:=by
 rw [run_eql_struct] at h;rw [run_neq_struct];revert h
 generalize (Op.equalIn 10000 52 (.agg x) (.agg y)).run prog w=r;cases r with
 | ok v w'=>intro h;simp [Result.andThen] at h ⊢;obtain ⟨rfl,rfl⟩:=h;simp
 | halt v w'=>intro h;simp [Result.andThen] at h
theorem Om(w:World)(a b:ByteArray):(binOp .neq 52 (.agg #[.string a,.string b]) (.agg #[.string a,.string b])).run prog w = .ok (.bool false) w:=V1 w _ _ true (SE w a b)
theorem wT(v1 v2:Value)(l:List Pr)(w:World)(hm:l.length≤140737488355328)(r1:gM w v1 l)(r2:gM w v2 l):Calls prog 60 #[v1,v2] w fun e w'=>e = .returned (.bool true)∧Below w.heap.size w w':=by
 obtain ⟨a1,c1,rfl,_,_,h1⟩:=r1;obtain ⟨a2,c2,rfl,_,_,h2⟩:=r2;obtain ⟨n,hn⟩ : ∃ n,n=l.length:=⟨_,rfl⟩;rw [← hn] at hm ⊢;have H1:=ab h1;have H2:=ab h2;have HN:=ab hn;have Hd:((n:Int) != (n:Int))=false:=by simp
 obtain ⟨Q,hQ⟩ : ∃ Q:Ending→World→Prop,Q=fun e w'=>e = .returned (.bool true)∧Below w.heap.size w w':=⟨_,rfl⟩
 rw [← hQ];have HQ:=ab hQ;clear h1 h2 hn hQ;go_enter func60,ntmps60;go_wp2;go_loopw [5] (fun i wr=>∃ k nq:Nat,k≤n∧i = .int .i64 k∧wr=w.drewN nq) (fun i _=>n - (intOf i).toNat)
 case atStart=>exact ⟨0,0,aB _,rfl,rfl⟩
 case round =>
  obtain ⟨k,nq,hk,rfl,rfl⟩:=hrel;by_cases bK:k<n
  ·have jx:k<l.length:=by have:=HN.out;omega
   obtain ⟨g1,o1,rfl,f1,f1'⟩:=H1.out k jx;obtain ⟨g2,o2,rfl,f2,f2'⟩:=H2.out k jx;have j0:(0:Int)≤(k:Int):=dV k;have j1:(k:Int)<(n:Int):=by omega
   generalize l[k].1=x1 at *;generalize l[k].2=x2 at *;have dH:=fun w=>Om w x1 x2
   clear H1 H2;go_wp2;go_quiet (fail)
   go_wp2;go_roundw
   case rel=>exact ⟨k+1,_,by omega,by go_num,rfl⟩
   case measure=>simp [intOf];omega
  ·have j1:¬ (k:Int)<(n:Int):=by omega
   clear H1 H2;go_wp2;rw [HQ.out];exact ⟨rfl,aA (Below.refl _ _) _⟩
namespace T
theorem Ps(l:List Pr):l.filter (jk ⟨#[]⟩ ⟨#[]⟩)=l:=by
 rw [List.filter_eq_self];intro p _;have h0:(⟨#[]⟩ : ByteArray).toList=[]:=by rw [ByteArray.toList_eq]
 have h1:cQ p.1 ⟨#[]⟩=false:=by
  unfold cQ;rw [h0];cases p.1.toList <;> rfl
 simp [jk,h1]
section
variable {base:Nat} {A:Nat→Addr} {w0:World} {ob db tb fb fg:Nat} {F:Nat→Prop} {d:S.V.bw} {r:cC} {T:Nat→Bool} {wv:Value} {root tx:Nat} {l:List Pr}
theorem Os.mv{w w1:World}(h:Os base A w0 w ob db tb fb fg F d r T wv root tx l)(hv:Dv base A db F d w1)(hm:Mv db F w w1):Os base A w0 w1 ob db tb fb fg F d r T wv root tx l:=h.tree (h.ts.mv hm hv) (List.Sublist.refl _)
theorem SP{w:World}{v:Value}(h:Os base A w0 w ob db tb fb fg F d r T wv root tx l)(hn:(aD r).length≤1000000)(hv:v=wv∧l=aD r∨v = .slice none 0 0∧aD r=[]):Calls prog 23 #[.pointer (some ⟨tb,0,none⟩),v] w fun e w'=>e = .returned (.bool true)∧Os base A w0 w' ob db tb fb fg F d r T wv root tx l∧Fr db tb ob w w':=by
 have tp:=kj h.ts.ok;have HP:=ab (xu (fr:=⟨#[]⟩) (en:=⟨#[]⟩) (lim:=1099511627776) h.ts (by omega) h.nd (by omega) (by decide))
 rw [Ps,al (by omega)] at HP
 have kq:∃ a n c,v = .slice a n c:=by
  rcases hv with ⟨rfl,_⟩ | ⟨rfl,_⟩
  ·exact gr h.want
  ·exact ⟨_,_,_,rfl⟩
 have H:=ab h;have HN:=ab hn;have HV:=ab hv;obtain ⟨a,n,c,kq⟩:=kq;subst kq;clear h hn hv tp;go_enter func23,ntmps23;go_wp2_with fail;refine HP.out.mono ?_
 rintro e w1 ⟨⟨u,rfl,hu⟩,fP,fs⟩;have h1:=H.out.mv fP fs;have hr:gM w1 (.slice a n c) (aD r):=by
  rcases HV.out with ⟨e1,e2⟩ | ⟨e1,e2⟩
  ·rw [e1,← e2];exact h1.want.at
  ·rw [e1,e2];exact gM.nil _
 have HS:=ab (wT u (.slice a n c) (aD r) w1 (by have:=HN.out;omega) hu.1.at hr)
 obtain ⟨ua,uc,Pw⟩:=hu.1.form;have H1:=ab h1;have HF:=ab (rW (tb:=tb) (ob:=ob) fs);subst Pw;clear h1 hr hu fP fs HP;go_wp2_with fail;refine HS.out.mono ?_
 rintro e w2 ⟨rfl,aS⟩;have H2:=ab (H1.out.below aS);have Bc:=ab (HF.out.trans (dC aS));clear aS HS;go_wp2;go_ret;exact ⟨rfl,H2.out,Bc.out⟩
theorem SO{w:World}{v:Value}(h:Os base A w0 w ob db tb fb fg F d r T wv root tx l)(hn:(aD r).length≤1000000)(hv:v=wv∧l=aD r∨v = .slice none 0 0∧aD r=[]) :
  Calls prog 23 #[.pointer (some ⟨tb,0,none⟩),v] w fun e w'=>e = .returned (.bool true)∧Os base A w0 w' ob db tb fb fg F d r T wv root tx l:=(SP h hn hv).mono fun _ _ ⟨h1,h2,_⟩=>⟨h1,h2⟩
end
section
variable {base:Nat} {A:Nat→Addr}
theorem KP(w:World)(M7:Q.Env base A w)(hE:S.Env base A w)(hG:dy 13 eV A w)(pz:∀ i,i<13→eV i<base∧(A i).block<base):Calls prog 9 #[] w fun e w'=>∃ (ob db tb fb fg:Nat) (F:Nat→Prop) (d:S.V.bw),e = .returned (.tuple #[.pointer (some ⟨ob,0,none⟩),.bool true])∧Os base A w w' ob db tb fb fg F d none (Q.T0 4000) (.slice none 0 0) 0 0 []:=by
 have HQE:=ab M7;have HE:=ab hE;have HG:=ab hG;have HLO:=ab pz;have HN:=ab (S.V.vL 32000 w);clear hE hG pz M7;go_enter func9,ntmps9;go_wp2_with fail;refine HN.out.mono ?_
 rintro e w1 ⟨db,F,rfl,hd,aM,hF⟩;have fP:Dv base A db F (S.V.iK 32000) w1:=⟨⟨_,Nr.refl _,hd⟩,HE.out.up aM,HG.out.keep aM,fun k hk=>ar HE.out.errs.size (hF k hk),rfl,HLO.out⟩
 have aao:=fP.Hr;have Qh:=hd.lt;have q1:=ai w1 (.cells #[.int .i64 4000,.pointer (some ⟨db,0,none⟩),.pointer none,.pointer none,.slice none 0 0,.int .i64 0,.int .u64 0] 65);have x1:=B.au.new w1 #[.int .i64 4000,.pointer (some ⟨db,0,none⟩),.pointer none,.pointer none,.slice none 0 0,.int .i64 0,.int .u64 0] 65;have tU:=ab fP;have bN:=ab aM;have HF:=ab hF;have CD:=ab Qh;have HDL:=ab aao;have yO:=ab q1;have zL:=ab x1;have Yt:=ab (Q.vL 4000 (w1.alloc (.cells #[.int .i64 4000,.pointer (some ⟨db,0,none⟩),.pointer none,.pointer none,.slice none 0 0,.int .i64 0,.int .u64 0] 65)) (by decide) (by decide))
 clear hd aM hF fP aao Qh q1 x1 HN;go_wp2_with fail;refine Yt.out.mono ?_
 rintro e w3 ⟨mb,mg,rfl,Jn,ZY,hmap,bQ⟩;have HMB:=ab Jn;have VD:=ab ZY;have Rp:=ab hmap;have MN:=ab bQ;clear Jn ZY hmap;have ve:=zL.out.below bQ;have yX:=ab ve;have eG:=ab (Below.next yO.out bQ);have k1:=ve.cell 1 (by simp)
 have k2:=ve.cell 2 (by simp)
 simp only [dm,List.getElem_cons_zero,List.getElem_cons_succ] at k1 k2;have y2:=ve.free 2;have Pv:B.au (w3.setCell ⟨w1.heap.size,2,none⟩ (.pointer (some ⟨mb,0,none⟩))) w1.heap.size #[.int .i64 4000,.pointer (some ⟨db,0,none⟩),.pointer (some ⟨mb,0,none⟩),.pointer none,.slice none 0 0,.int .i64 0,.int .u64 0] 65:=heap_setCell_same _ _ 2 _ _ _ ve;have vR:w.heap.size≤w1.heap.size:=bN.out.size;have Tw:¬ F w1.heap.size:=fun h=>by have:=CD.out _ h;omega
 have Y9:Dv base A db F (S.V.iK 32000) (w3.setCell ⟨w1.heap.size,2,none⟩ (.pointer (some ⟨mb,0,none⟩))):=(tU.out.below eG.out).tree (ar HE.out.errs.size vR) Tw 2 _;have fW:Below w.heap.size w (w3.setCell ⟨w1.heap.size,2,none⟩ (.pointer (some ⟨mb,0,none⟩))):=(Below.next bN.out eG.out).setCell (p:=⟨w1.heap.size,2,none⟩) vR _;have k3:=Pv.cell 1 (by simp)
 simp only [dm,List.getElem_cons_zero,List.getElem_cons_succ] at k3;generalize RS:w3.setCell ⟨w1.heap.size,2,none⟩ (.pointer (some ⟨mb,0,none⟩))=W4 at *;have HTO:=ab (Kf (W0:=W4) 4000 0 (.int .u64 0) Y9 (S.V.Step.refl _ _));have vZ:=ab Pv;have iY:=ab fW;have Ux:=ab Tw;have we:=ab vR;clear bQ ve Yt Pv Y9 fW Tw vR;go_wp2_with fail;refine HTO.out.mono ?_
 rintro e w5 ⟨tb,rfl,htc,Wm⟩;have hx5:B.au w5 w1.heap.size #[.int .i64 4000,.pointer (some ⟨db,0,none⟩),.pointer (some ⟨mb,0,none⟩),.pointer none,.slice none 0 0,.int .i64 0,.int .u64 0] 65:=(htc.st.block _ vZ.out.lt Ux.out).trans vZ.out;have hot:w1.heap.size≠tb:=by have:=vZ.out.lt;have:=htc.lo.2.1;omega
 have hx6:B.au (w5.setCell ⟨w1.heap.size,3,none⟩ (.pointer (some ⟨tb,0,none⟩))) w1.heap.size #[.int .i64 4000,.pointer (some ⟨db,0,none⟩),.pointer (some ⟨mb,0,none⟩),.pointer (some ⟨tb,0,none⟩),.slice none 0 0,.int .i64 0,.int .u64 0] 65:=heap_setCell_same _ _ 3 _ _ _ hx5;have Zb:B.au (w5.setCell ⟨w1.heap.size,3,none⟩ (.pointer (some ⟨tb,0,none⟩))) tb #[.pointer (some ⟨db,0,none⟩),.nilIface] 100:=(Wm (by first | trivial | rfl)).other hot.symm _
 have m3:=hx5.cell 3 (by simp)
 have f3:=hx5.free 3;have n3:=hx6.cell 3 (by simp)
 simp only [dm,List.getElem_cons_zero,List.getElem_cons_succ] at m3 n3;have ch:Hid (∀ k,Os base A w ((w5.setCell ⟨w1.heap.size,3,none⟩ (.pointer (some ⟨tb,0,none⟩))).drewN k) w1.heap.size db tb mb mg F (S.V.iK 32000) none (Q.T0 4000) (.slice none 0 0) 0 0 []):=fun k=>by
  have hd:=aA (Below.refl (w5.setCell ⟨w1.heap.size,3,none⟩ (.pointer (some ⟨tb,0,none⟩))).heap.size (w5.setCell ⟨w1.heap.size,3,none⟩ (.pointer (some ⟨tb,0,none⟩)))) k;have hs:=bJ.set w1.heap.size 3 w5 (.pointer (some ⟨tb,0,none⟩));have Jq:=HQE.out.size;have vR:=we.out;have X5:∀ k,w1.heap.size≤k→¬ F k:=fun k hk h=>by have:=CD.out _ h;omega
  have Eh:w1.heap.size+1≤mb∧w1.heap.size+1≤mg:=by
   have h1:=HMB.out;have h2:=VD.out;simp at h1 h2
   omega
  have Z2:mb<w3.heap.size∧mg<w3.heap.size:=⟨Rp.out.SW,Rp.out.Rz⟩;have aia:W4.heap.size=w3.heap.size:=by rw [← RS];simp
  have htb:=htc.lo.2.1;have Vb:∀ k,k<w3.heap.size→w1.heap.size<k→(w5.setCell ⟨w1.heap.size,3,none⟩ (.pointer (some ⟨tb,0,none⟩))).heap[k]?=w3.heap[k]?:=fun k hk p9=>by
   have s4:=bJ.set w1.heap.size 2 w3 (.pointer (some ⟨mb,0,none⟩));rw [RS] at s4;have e1:=s4.block k hk (by omega)
   have e2:=htc.st.block k (by omega) (X5 k (by omega))
   have e3:=hs.block k (by have:=htc.st.size;omega) (by omega)
   exact e3.trans (e2.trans e1)
  have kh:Below base w (w5.setCell ⟨w1.heap.size,3,none⟩ (.pointer (some ⟨tb,0,none⟩))):=by
   have h1:S.V.Step F F w w5:=(S.V.Step.bo iY.out).trans htc.st;exact ⟨hs.os.trans h1.os,hs.tape.trans h1.tape,hs.output.trans h1.output,ar h1.size hs.size,fun k hk=>(hs.block k (by have:=h1.size;omega) (by omega)).trans (h1.block k (by omega) (fun e=>by have:=HF.out k e;omega))⟩
  have X3:Os base A w (w5.setCell ⟨w1.heap.size,3,none⟩ (.pointer (some ⟨tb,0,none⟩))) w1.heap.size db tb mb mg F (S.V.iK 32000) none (Q.T0 4000) (.slice none 0 0) 0 0 []:=by
   refine ⟨hx6,⟨htc.dv.tree (by omega) Ux.out 3 _,⟨_,Zb,.inl ⟨rfl,rfl⟩⟩,trivial,S.V.Step.refl _ _,htc.lo.1,htc.lo.2.2⟩,⟨jL Rp.out (Vb _ Z2.1 (by omega)) (Vb _ Z2.2 (by omega)),Q.UL (by decide) (by decide),⟨by omega,by omega⟩,⟨X5 _ (by omega),X5 _ (by omega)⟩,⟨by omega,by omega⟩⟩,HQE.out.keep kh,ir.nil _ _,List.nodup_nil,fun i hi=>by simp [eJ] at hi,fun i hi=>by simp [eJ] at hi,⟨rfl,rfl,rfl⟩,kh,⟨by omega,Ux.out,hot,by omega,by omega⟩,fun k hk=>by simp [Value.ownBlock] at hk⟩
  exact X3.below hd
 clear htc Wm hx5 hot hx6 Zb HTO k1 k2 k3 y2;go_wp2_with fail;go_quiet (fail)
 go_wp2;go_ret2;exact ⟨_,_,_,_,_,F,S.V.iK 32000,rfl,ch.out _⟩
end
section
variable {base:Nat} {A:Nat→Addr} {w0:World} {ob db tb fb fg:Nat} {F:Nat→Prop} {d:S.V.bw} {r:cC} {T:Nat→Bool} {wv:Value} {root tx:Nat} {l:List Pr}
def JJ(kind:Int)(key value:ByteArray)(r r':cC):Prop :=
 (kind=1∧((cN (key,value)=true∧tP key (fun l=>fu l key value) r r')∨(¬ cN (key,value)=true∧r'=r))) ∨
 (kind=2∧((cN (key,⟨#[]⟩)=true∧bg (aD r) key=true∧tP key (fun l=>fX l key) r r')∨(¬ (cN (key,⟨#[]⟩)=true∧bg (aD r) key=true)∧r'=r)))
theorem OA{w:World}(kind at' n:Int)(key value iN:ByteArray)(hk:kind=1∨kind=2)(h:Os base A w0 w ob db tb fb fg F d r T wv root tx (aD r))(hn:(aD r).length≤1000000)(de:key.size≤140737488355328)(vf:value.size≤140737488355328):Calls prog 24 #[.pointer (some ⟨ob,0,none⟩),.agg #[.int .i64 kind,.int .i64 at',.int .i64 n,.string key,.string value,.string iN]] w fun e w'=>e = .returned (.bool true)∧∃ r' yS,JJ kind key value r r'∧Os base A w0 w' ob db tb fb fg F d r' T yS root tx (aD r')∧Fr db tb ob w w':=by
 have q0:=ai w (.cells #[.int .i64 kind,.int .i64 at',.int .i64 n,.string key,.string value,.string iN] 44);have x0:=B.au.new w #[.int .i64 kind,.int .i64 at',.int .i64 n,.string key,.string value,.string iN] 44;have k0:=x0.cell 0 (by simp)
 have k3:=x0.cell 3 (by simp)
 have k4:=x0.cell 4 (by simp)
 simp only [dm,List.getElem_cons_zero,List.getElem_cons_succ] at k0 k3 k4;have h1:=h.below q0;have HQ0:=ab q0;rcases hk with rfl | rfl
 ·have HP:=ab (I5 key value h1 hn de vf);clear h h1 hn x0 q0;go_enter func24,ntmps24;go_wp2_with fail;refine HP.out.mono ?_
  rintro e w1 ⟨rfl,r',yS,fI,ho,Ez⟩;have HR:Hid (∃ r' yS,JJ 1 key value r r'∧Os base A w0 w1 ob db tb fb fg F d r' T yS root tx (aD r')∧Fr db tb ob w w1):=⟨r',yS,.inl ⟨rfl,fI⟩,ho,(dC HQ0.out).trans Ez⟩;clear fI ho Ez HP k0 k3 k4;go_wp2;go_ret;exact ⟨rfl,HR.out⟩
 ·have HP:=ab (OI key h1 hn de);clear h h1 hn x0 q0;go_enter func24,ntmps24;go_wp2_with fail;refine HP.out.mono ?_
  rintro e w1 ⟨rfl,r',yS,fI,ho,Ez⟩;have HR:Hid (∃ r' yS,JJ 2 key value r r'∧Os base A w0 w1 ob db tb fb fg F d r' T yS root tx (aD r')∧Fr db tb ob w w1):=⟨r',yS,.inr ⟨rfl,fI⟩,ho,(dC HQ0.out).trans Ez⟩;clear fI ho Ez HP k0 k3 k4;go_wp2;go_ret;exact ⟨rfl,HR.out⟩
theorem z8{kind:Int}{key value:ByteArray}{r r':cC}(h:JJ kind key value r r')(cO:fc r):(aD r').length≤(aD r).length+1:=by
 rcases h with ⟨_,⟨hm,hu⟩ | ⟨_,rfl⟩⟩ | ⟨_,⟨_,_,hu⟩ | ⟨_,rfl⟩⟩
 ·rw [(oW (vV hm) cO hu).2];exact om _ _ _
 ·omega
 ·rw [(oW (fit_drop key) cO hu).2];have:=L5 (aD r) key;show (fX (aD r) key).length≤_
  omega
 ·omega
end
theorem Ke(db:Nat)(m0:Int)(r:cC)(m2:Value)(w:World)(hr:r=none∨gI r≠0):Calls prog 13 #[.pointer (some ⟨db,0,none⟩),.agg #[.int .i64 m0,.int .i64 (gI r:Int),m2]] w fun e w'=>∃ tb,e = .returned (.pointer (some ⟨tb,0,none⟩))∧w.heap.size≤tb∧B.au w' tb #[.pointer (some ⟨db,0,none⟩),kH r] 100∧Below w.heap.size w w':=by
 have q0:=ai w (.cells #[.int .i64 m0,.int .i64 (gI r:Int),m2] 42);have x0:=B.au.new w #[.int .i64 m0,.int .i64 (gI r:Int),m2] 42;have k1:=x0.cell 1 (by simp)
 simp only [dm,List.getElem_cons_zero,List.getElem_cons_succ] at k1;generalize hW:w.alloc (.cells #[.int .i64 m0,.int .i64 (gI r:Int),m2] 42)=W at *;have s1:w.heap.size≤W.heap.size:=q0.size;have HN:Hid (∀ rv,w.heap.size≤W.heap.size∧B.au (W.alloc (.cells #[.pointer (some ⟨db,0,none⟩),rv] 100)) W.heap.size #[.pointer (some ⟨db,0,none⟩),rv] 100∧Below w.heap.size w (W.alloc (.cells #[.pointer (some ⟨db,0,none⟩),rv] 100))):=fun rv=>⟨s1,B.au.new W #[.pointer (some ⟨db,0,none⟩),rv] 100,Below.next q0 (ai W _)⟩
 clear q0 x0 s1;cases r with
 | none =>
  have k1':W.cell? ⟨w.heap.size,1,none⟩=some (.int .i64 0):=k1;clear k1;go_enter func13,ntmps13;go_wp2_with fail;refine (oq _).mono ?_
  rintro e w1 ⟨rfl,rfl⟩;go_wp2;go_ret;exact ⟨_,rfl,HN.out _⟩
 | some x =>
  have h0:((gI (some x):Nat):Int)≠0:=by
   rcases hr with h | h
   ·cases h
   ·omega
  have XW:kH (some x) = .iface 146 (.int .i64 (gI (some x):Int)):=rfl;have HVA:=ab XW;generalize ((gI (some x):Nat):Int)=root at *;have H0:=ab h0;clear h0 hr XW;go_enter func13,ntmps13;go_wp2_with fail;refine (ot root _ H0.out).mono ?_
  rintro e w1 ⟨rfl,rfl⟩;have XW:(C.Ch.pg root).val = .iface 146 (.int .i64 root):=rfl;rw [XW];go_wp2;go_ret;exact ⟨_,rfl,by rw [HVA.out];exact HN.out _⟩
theorem Kv{PG:Int→Option PD}{w:World}{r:cC}(h:fK PG w (kH r) r):r=none∨gI r≠0:=by
 cases r with
 | none=>exact .inl rfl
 | some x =>
  right
  rcases h with ⟨h,_⟩ | ⟨p,hh,t,hv,hx,hk⟩
  ·cases h
  ·cases hx;have hv:Value.iface 146 (.int .i64 ((fy hh t:Nat):Int))=p.val:=hv;cases p with
   | pg id =>
    have hv:Value.iface 146 (.int .i64 ((fy hh t:Nat):Int)) = .iface 146 (.int .i64 id):=hv;simp only [Value.iface.injEq,Value.int.injEq,true_and] at hv;have hk:gE PG hh id t:=hk;have h2:2≤id:=by
     cases hh with
     | zero=>exact hk.1.1
     | succ hh=>exact hk.1.1
    show fy hh t≠0
    omega
   | nd b =>
    exact absurd hv (by intro e;unfold C.Ch.val at e;simp only [Value.iface.injEq] at e;exact absurd e.1 (by decide))
section
variable {base:Nat} {A:Nat→Addr} {w0:World} {ob db tb fb fg:Nat} {F:Nat→Prop} {d:S.V.bw} {r:cC} {T:Nat→Bool} {wv:Value} {root tx:Nat} {l:List Pr}
theorem Os.VZ{w:World}{qj:Nat}{rv:Value}(h:Os base A w0 w ob db tb fb fg F d r T wv root tx l)(ht:B.au w qj #[.pointer (some ⟨db,0,none⟩),rv] 100)(hr:fK (cM d) w rv r)(hn:base≤qj∧¬ F qj∧qj≠ob∧qj≠fb∧qj≠fg)(GW:∀ k,wv.ownBlock=some k→k≠qj):Os base A w0 (w.setCell ⟨ob,3,none⟩ (.pointer (some ⟨qj,0,none⟩))) ob db qj fb fg F d r T wv root tx l:=by
 have hs:=bJ.set ob 3 w (.pointer (some ⟨qj,0,none⟩));have ha:cW w (w.setCell ⟨ob,3,none⟩ (.pointer (some ⟨qj,0,none⟩))):=⟨hs.size,fun k hk=>by
  by_cases e:k=ob
  ·exact .inr (e▸I9 h.row (gr h.want))
  ·exact .inl (hs.block k hk e)⟩
 have jz:Below base w (w.setCell ⟨ob,3,none⟩ (.pointer (some ⟨qj,0,none⟩))):=⟨hs.os,hs.tape,hs.output,hs.size,fun k hk=>hs.block k (aq hk h.env.size) (by have:=h.ap.1;omega)⟩
 have m:=h.mp;refine ⟨heap_setCell_same _ _ 3 _ _ _ h.row,⟨h.ts.dv.tree h.ap.1 h.ap.2.1 3 _,⟨rv,ed ha ht,hr.cH ha⟩,h.ts.ok,S.V.Step.refl _ _,hn.1,hn.2.1⟩,⟨jL m.map (hs.block _ m.map.SW h.ap.2.2.2.1.symm) (hs.block _ m.map.Rz h.ap.2.2.2.2.symm),m.ok,m.lo,m.nf,hn.2.2.2.2.symm,hn.2.2.2.1.symm⟩,h.env.keep jz,h.want.same fun k hk=>hs.block k (h.want.dF k hk).2 (h.wn k hk).2.2.1,h.nd,h.pt,h.pr,h.lx,lz h.eZ jz,⟨h.ap.1,h.ap.2.1,hn.2.2.1.symm,h.ap.2.2.2⟩,fun k hk=>⟨(h.wn k hk).1,GW k hk,(h.wn k hk).2.2⟩⟩
theorem Gi{w:World}{qj:Nat}(h:B.au w ob (kM db fb tb wv root tx) 65):(w.setCell ⟨ob,3,none⟩ (.pointer (some ⟨qj,0,none⟩))).cell? ⟨ob,0,none⟩=some (.int .i64 4000)∧(w.setCell ⟨ob,3,none⟩ (.pointer (some ⟨qj,0,none⟩))).cell? ⟨ob,1,none⟩=some (.pointer (some ⟨db,0,none⟩))∧(w.setCell ⟨ob,3,none⟩ (.pointer (some ⟨qj,0,none⟩))).cell? ⟨ob,5,none⟩=some (.int .i64 (root:Int))∧(w.setCell ⟨ob,3,none⟩ (.pointer (some ⟨qj,0,none⟩))).cell? ⟨ob,3,none⟩=some (.pointer (some ⟨qj,0,none⟩)):=by
 have r:B.au (w.setCell ⟨ob,3,none⟩ (.pointer (some ⟨qj,0,none⟩))) ob (kM db fb qj wv root tx) 65:=heap_setCell_same _ _ 3 _ _ _ h;exact ⟨r.cell 0 (by simp [kM]),r.cell 1 (by simp [kM]),r.cell 5 (by simp [kM]),r.cell 3 (by simp [kM])⟩
structure aem(base:Nat)(A:Nat→Addr)(w0 w:World)(ob db:Nat)(r:cC)(T:Nat→Bool)(wv:Value)(tx:Nat)(l:List Pr):Prop where
 out:∃ (tb fb fg:Nat) (F:Nat→Prop) (d:S.V.bw) (L:List Nat),L.Perm (eJ (laid T r))∧Os base A w0 w ob db tb fb fg F d (laid T r) (iS (Q.T0 4000) L) wv (gI (laid T r)) (tx+1) l∧(∀ W,fK (cM d) W (kH (laid T r)) (laid T r))
theorem GB{w:World}(h:Os base A w0 w ob db tb fb fg F d r T wv root tx l)(hn:(aD r).length≤50000)(Ez:dO r≤(Q.dU T 4000).length)(RE:tx<1099511627776):Calls prog 25 #[.pointer (some ⟨ob,0,none⟩)] w fun e w'=>e = .returned (.bool true)∧aem base A w0 w' ob db r T wv tx l:=by
 have HS:=ab (Au h hn Ez RE);clear h hn Ez RE;go_enter func25,ntmps25;go_wp2_with fail;refine HS.out.mono ?_
 rintro e w1 ⟨rfl,eK⟩;obtain ⟨fb2,fg2,F2,d2,L,Ly,ho,MX,_⟩:=eK.out;have p0:=ho.c.2.2.1;have p1:=ho.c.2.2.2.1;have p5:=ho.c.2.2.2.2.2.1;have p3:=ho.c.1;have y3:=ho.row.free 3;have HO:=ab ho;have zP:=ab Ly;have Ng:=ab MX;have HTO:Hid (∀ W,Below w1.heap.size w1 W→Calls prog 13 #[.pointer (some ⟨db,0,none⟩),.agg #[.int .i64 4000,.int .i64 (gI (laid T r):Int),.int .u64 0]] W fun e w'=>∃ qj,e = .returned (.pointer (some ⟨qj,0,none⟩))∧(w1.heap.size≤qj∧B.au w' qj #[.pointer (some ⟨db,0,none⟩),kH (laid T r)] 100∧Below w1.heap.size w1 w')):=fun W hW=>(Ke db 4000 (laid T r) (.int .u64 0) W (Kv (MX w1))).mono fun e w' ⟨qj,h1,h2,h3,h4⟩=>⟨qj,h1,ar hW.size h2,h3,Below.next hW h4⟩
 clear eK Ly ho MX HS;go_wp2_with fail;go_region_held3 (fun w'=>w'.cell? ⟨ob,0,none⟩=some (.int .i64 4000)∧w'.cell? ⟨ob,1,none⟩=some (.pointer (some ⟨db,0,none⟩))∧w'.cell? ⟨ob,5,none⟩=some (.int .i64 (gI (laid T r):Int))) (go_keep)
  (first | (go_at_call 13;refine (HTO.out _ ?_).mono ?_;(first | exact (Below.refl _ _).drew | exact aA (Below.refl _ _) _ | exact Below.refl _ _);rintro e w2 ⟨qj,rfl,hg⟩;have HG:=ab hg;have n0:=(HO.out.below hg.2.2).c.2.2.1;have n1:=(HO.out.below hg.2.2).c.2.2.2.1;have n5:=(HO.out.below hg.2.2).c.2.2.2.2.2.1;have n3:=(HO.out.below hg.2.2).c.1;have f3:=(HO.out.below hg.2.2).row.free 3;obtain ⟨s0,s1,s5,s3⟩:=Gi (qj:=qj) (HO.out.below hg.2.2).row;clear hg))
 all_goals
  have h2:=HO.out.below HG.out.2.2;have dH:=HO.out.new HG.out.1;have HR:=ab (h2.VZ HG.out.2.1 (Ng.out w2) ⟨ar (ar HO.out.env.size (aj _)) HG.out.1,dH.1,dH.2.2.1,dH.2.2.2.1,dH.2.2.2.2⟩ (fun k hk e=>by have h9:=(HO.out.want.dF k hk).2;have:=HG.out.1;omega))
  clear h2 dH p0 p1 p5 p3 n0 n1 n5 n3 f3 y3;go_wp2;go_ret;exact ⟨rfl,_,_,_,_,_,L,zP.out,HR.out,Ng.out⟩
end
def O9(s:gD XT):List Pr:=match s.x with
 | ⟨0,_⟩=>[]
 | ⟨h+1,t⟩=>(t.2.2.take s.at').flatMap (flat h)
def acO(s:gD XT):List Pr:=match s.x with
 | ⟨0,_⟩=>[]
 | ⟨h+1,t⟩=>(t.2.2.drop (s.at'+1)).flatMap (flat h)
def fT(ss:List (gD XT)):List Pr:=ss.flatMap O9
def ou:List (gD XT)→List Pr
 | []=>[]
 | s::ss=>ou ss++acO s
theorem CK{d:S.V.bw}{key:ByteArray}{w:World}:∀ {ss:List (gD XT)} {x:XT} {t0:Nd 0} {lo hi:Option ByteArray},Way (cX d) (fun n q=>B.fL n.lk key q) w x ss ⟨0,t0⟩→Ok x.1 x.2 lo hi →
  flat x.1 x.2=fT ss++(t0.2++ou ss)∧(∀ p ∈ fT ss,cQ p.1 key=true)∧(∀ p ∈ ou ss,cQ key p.1=true)
 | [],x,t0,lo,hi,h,_=>by
  have h:x=⟨0,t0⟩:=h;subst h;exact ⟨by simp [fT,ou,flat],(fun _ h=>by simp [fT] at h),(fun _ h=>by simp [ou] at h)⟩
 | s::ss,x,t0,lo,hi,⟨h1,h2,h3,h4,h5,z,h6,h7⟩,ho=>by
  subst h1;obtain ⟨b,n,i,⟨hh,t⟩⟩:=s;cases hh with
  | zero=>exact h6.elim
  | succ h =>
   obtain ⟨c,hc,rfl⟩:=h6;obtain ⟨_,hn,hg⟩:=h2;have hn:aU (cM d) w (h+1) n t:=hn;have hc:t.2.2[i]?=some c:=hc;have jo:t.2.1=n.lk.map (·.1):=hn.2.2.2.1;have pP:t.2.2.length=t.2.1.length+1:=by rw [← hn.1,hn.len,jo,az]
   have Tv:=(fA h t lo hi).1 ho;have oE:=jK Tv;rw [jo] at oE;obtain ⟨RJ,RI⟩:=nj h4 oE;simp only at RJ RI;rw [← jo] at RJ RI;obtain ⟨e1,e2,el,ei⟩:=ml pP hc;have G6:gY (kW h) lo hi (t.2.1.take i++t.2.1.drop i) (t.2.2.take i++c::t.2.2.drop (i+1)):=by rw [← e1,← e2];exact Tv
   obtain ⟨hp,tq⟩:=(pd el).1 G6;obtain ⟨f1,f2,f3⟩:=CK h7 (rA tq).1;refine ⟨?_,fun p G5=>?_,fun p G5=>?_⟩
   ·show t.2.2.flatMap (flat h)=_
    have e3:t.2.2.flatMap (flat h)=(t.2.2.take i).flatMap (flat h)++(flat h c++(t.2.2.drop (i+1)).flatMap (flat h)):=by
     conv=>lhs;rw [e2]
     rw [aR,List.flatMap_cons]
    rw [e3,show flat h c=fT ss++(t0.2++ou ss) from f1]
    show _=((t.2.2.take i).flatMap (flat h)++fT ss)++(t0.2++(ou ss++(t.2.2.drop (i+1)).flatMap (flat h)))
    simp [List.append_assoc]
   ·have G5:p ∈ (t.2.2.take i).flatMap (flat h)++fT ss:=G5;rcases List.mem_append.1 G5 with h' | h'
    ·exact ry (P:=kW h) (fun _ _ _ hc=>pY h hc.1) hp RJ p h'
    ·exact f2 p h'
   ·have G5:p ∈ ou ss++(t.2.2.drop (i+1)).flatMap (flat h):=G5;rcases List.mem_append.1 G5 with h' | h'
    ·exact f3 p h'
    ·exact tN (P:=kW h) (fun _ _ _ hc=>pY h hc.1) tq RI p h'
theorem tH{d:S.V.bw}{w:World}:∀ {ss:List (gD XT)} {x y:XT},Way (cX d) (fun n q=>q=n.lk.length) w x ss y→(∃ lo hi,kW x.1 x.2 lo hi)→(∃ Y,flat x.1 x.2=Y++flat y.1 y.2)∧∃ lo hi,kW y.1 y.2 lo hi
 | [],x,y,h,ho=>by
  have h:x=y:=h;subst h;exact ⟨⟨[],rfl⟩,ho⟩
 | s::ss,x,y,⟨h1,h2,h3,h4,h5,z,h6,h7⟩,ho=>by
  subst h1;obtain ⟨b,n,i,⟨hh,t⟩⟩:=s;cases hh with
  | zero=>exact h6.elim
  | succ h =>
   obtain ⟨c,hc,rfl⟩:=h6;obtain ⟨_,hn,hg⟩:=h2;have hn:aU (cM d) w (h+1) n t:=hn;have hc:t.2.2[i]?=some c:=hc;have jo:t.2.1=n.lk.map (·.1):=hn.2.2.2.1;have pP:t.2.2.length=t.2.1.length+1:=by rw [← hn.1,hn.len,jo,az]
   have PV:i=n.lk.length:=h4;obtain ⟨lo,hi,cO⟩:=ho;obtain ⟨pJ,mz,hf⟩:=kN ((fA h t lo hi).1 cO.1) i c hc;obtain ⟨⟨Y,hY⟩,hz⟩:=tH h7 ⟨pJ,mz,hf⟩;obtain ⟨e1,e2,el,ei⟩:=ml pP hc;refine ⟨⟨(t.2.2.take i).flatMap (flat h)++Y,?_⟩,hz⟩;have P2:t.2.2.drop (i+1)=[]:=dB (by rw [pP,jo,az,PV];exact aj _)
   show t.2.2.flatMap (flat h)=_
   conv=>lhs;rw [e2]
   rw [P2,aR,List.flatMap_cons,show flat h c=Y++flat y.1 y.2 from hY]
   simp
theorem Jd{t:Nd 0}(h:∃ lo hi,kW 0 t lo hi):t.2≠[]:=by
 obtain ⟨lo,hi,h⟩:=h;have:=rz 0 h;have h1:1≤t.2.length:=this;intro e;rw [e] at h1;simp at h1
theorem Kw{d:S.V.bw}{w:World}{ss:List (gD XT)}{x:XT}{t:Nd 0}(h:Way (cX d) (fun n q=>q=n.lk.length) w x ss ⟨0,t⟩)(cO:fc (some x)):(∃ Y,flat x.1 x.2=Y++t.2)∧t.2≠[]:=by
 cases ss with
 | nil =>
  have h:x=⟨0,t⟩:=h;subst h;have:=Ah cO;have h1:1≤t.2.length:=this;exact ⟨⟨[],rfl⟩,fun e=>by rw [e] at h1;simp at h1⟩
 | cons s ss =>
  obtain ⟨h1,h2,h3,h4,h5,z,h6,h7⟩:=h;subst h1;obtain ⟨b,n,i,⟨hh,tt⟩⟩:=s;cases hh with
  | zero=>exact h6.elim
  | succ h =>
   obtain ⟨c,hc,rfl⟩:=h6;obtain ⟨_,hn,hg⟩:=h2;have hn:aU (cM d) w (h+1) n tt:=hn;have hc:tt.2.2[i]?=some c:=hc;have jo:tt.2.1=n.lk.map (·.1):=hn.2.2.2.1;have pP:tt.2.2.length=tt.2.1.length+1:=by rw [← hn.1,hn.len,jo,az]
   have PV:i=n.lk.length:=h4;obtain ⟨pJ,mz,hf⟩:=kN ((fA h tt none none).1 cO.1) i c hc;obtain ⟨⟨Y,hY⟩,hz⟩:=tH h7 ⟨pJ,mz,hf⟩;obtain ⟨e1,e2,el,ei⟩:=ml pP hc;refine ⟨⟨(tt.2.2.take i).flatMap (flat h)++Y,?_⟩,Jd hz⟩;have P2:tt.2.2.drop (i+1)=[]:=dB (by rw [pP,jo,az,PV];exact aj _)
   show tt.2.2.flatMap (flat h)=_
   conv=>lhs;rw [e2]
   rw [P2,aR,List.flatMap_cons,show flat h c=Y++t.2 from hY]
   simp
def iy(l:List Pr):Pr:=l.getLast?.getD (⟨#[]⟩,⟨#[]⟩)
def sg(l:List Pr)(key:ByteArray):List Pr:=if key=⟨#[]⟩ then l else l.take (aP l key)
theorem AH{Y l:List Pr}(h:l≠[]):iy (Y++l)=iy l:=by
 unfold iy;rw [List.getLast?_append];cases hl:l.getLast? with
 | none=>rw [List.getLast?_eq_none_iff] at hl;exact absurd hl h
 | some p=>rfl
theorem pq{l:List Pr}{j:Nat}(h:j+1=l.length):iy l=l[j]:=by
 unfold iy;rw [List.getLast?_eq_getElem?,show l.length - 1=j by omega,af (by omega)]
 rfl
theorem QZ{X Y Z:List Pr}{key:ByteArray}(hk:key≠⟨#[]⟩)(hX:∀ p ∈ X,cQ p.1 key=true)(hZ:∀ p ∈ Z,cQ key p.1=true):sg (X++(Y++Z)) key=X++Y.take (aP Y key):=by
 unfold sg;have:=cD Y key;rw [if_neg hk,kT hX hZ,List.take_append,al (by omega),show X.length+aP Y key - X.length=aP Y key by omega,aG this]
def Rx(ss:List (gD XT))(e:Ending)(w':World):Prop :=
 (e = .returned (.tuple #[.slice none 0 0,.nilIface])∧fT ss=[]) ∨
 ∃ (m:Nat) (a:Option Addr) (c:Nat) (l:List W.Lk) (q:W.Lk) (n:SN) (pv lv cv:Value),e = .returned (.tuple #[.slice a (m+1) c,.nilIface])∧m=l.length∧m≤100000∧W.di w' (.slice a (m+1) c) (l++[q])∧dQ w' q.1 n pv lv cv∧n.ps≠[]∧∃ Y,fT ss=Y++n.ps
theorem CJ{d:S.V.bw}{Pk:SN→Nat→Prop}{w:World}:∀ {ss:List (gD XT)} {x y:XT},Way (cX d) Pk w x ss y→∀ (k:Nat) (h:k<ss.length),ss[k].x.1+k=x.1
 | s::ss,x,y,⟨h1,_,_,_,_,z,h6,h7⟩,0,_=>by subst h1;rfl
 | s::ss,x,y,⟨h1,_,_,_,_,z,h6,h7⟩,k+1,h=>by
  have de:k<ss.length:=by simpa using h
  have ih:=CJ h7 k de;subst h1;obtain ⟨b,n,i,⟨hh,t⟩⟩:=s;cases hh with
  | zero=>exact h6.elim
  | succ hh =>
   obtain ⟨c,_,rfl⟩:=h6;show (ss[k]'de).x.1+(k+1)=hh+1
   have:(ss[k]'de).x.1+k=hh:=ih;omega
theorem O8{d:S.V.bw}{w:World}{t:gD XT}{q:Nat}{y:XT}{LW:List Pr}(hn:(cX d).N w t.n t.x)(hq:t.at'=q+1)(hs:(cX d).sub t.x q y):∃ (h:Nat) (c:Nd h),y=⟨h,c⟩∧(∃ lo hi,kW h c lo hi)∧∃ Y,LW++O9 t=Y++flat h c:=by
 obtain ⟨b,n,i,⟨hh,tt⟩⟩:=t;cases hh with
 | zero=>exact hs.elim
 | succ h =>
  obtain ⟨c,hc,rfl⟩:=hs;have hc:tt.2.2[q]?=some c:=hc;obtain ⟨_,⟨⟨lo,hi,ho⟩,_⟩⟩:=hn;obtain ⟨pJ,mz,hf⟩:=kN ((fA h tt lo hi).1 ho) q c hc;refine ⟨h,c,rfl,⟨pJ,mz,hf⟩,LW++(tt.2.2.take q).flatMap (flat h),?_⟩;have hi:i=q+1:=hq;subst hi;obtain ⟨ZD,ZC⟩:=List.getElem?_eq_some_iff.1 hc;show LW++(tt.2.2.take (q+1)).flatMap (flat h)=_
  rw [ax ZD,ZC,aR,ay];simp
theorem K7{ss:List (gD XT)}{s:gD XT}{k:Nat}{Pm:Int}{hk:k<(ss.map gD.lk++[s.lk]).length}(hl:Pm=(ss.map gD.lk++[s.lk])[k].2)(hp:¬ 0<Pm):fT (ss.take (k+1))=fT (ss.take k):=by
 by_cases jo:k<ss.length
 ·have e2:(ss.map gD.lk++[s.lk])[k]=ss[k].lk:=by rw [aJ (by rw [az];exact jo),bT]
  rw [e2] at hl;have hl:Pm=(ss[k].at':Int):=hl;have h0:ss[k].at'=0:=by omega
  rw [ax jo];unfold fT;rw [aR];have:O9 ss[k]=[]:=by
   unfold O9;split
   ·rfl
   ·rw [h0];rfl
  simp [this]
 ·rw [al (by omega),al (by omega)]
section
variable {base:Nat} {A:Nat→Addr} {db:Nat} {F:Nat→Prop} {d:S.V.bw}
theorem wE{w0 w:World}{tb:Nat}{rv:Value}{Pk:SN→Nat→Prop}(a:Option Addr)(c:Nat)(ss:List (gD XT))(s:gD XT)(iL:Dv base A db F d w0)(hm:Mv db F w0 w)(hv:Dv base A db F d w)(ht:B.au w tb #[.pointer (some ⟨db,0,none⟩),rv] 100)(ho:W.di w (.slice a (ss.length+1) c) (ss.map gD.lk++[s.lk]))(x:XT)(jl:Way (cX d) Pk w x ss s.x)(vl:x.1+1≤64)(rR:s.at'=0)(hl:ss.length≤63):Calls prog 56 #[.pointer (some ⟨tb,0,none⟩),.slice a (ss.length+1) c] w fun e w'=>Rx ss e w'∧Dv base A db F d w'∧Mv db F w0 w':=by
 obtain ⟨M,hM⟩ : ∃ M,M=ss.length+1:=⟨_,rfl⟩;rw [← hM] at ho ⊢;have HO:=ab ho;have HW:=ab jl;have HV:=ab hv;have Ri:=ab iL;have HMV:=ab hm;have HT:=ab ht;have HM:=ab hM;have HL:=ab hl;have vA:=ab rR;have hMs:(M:Int)≤64:=by omega
 have hM0:(0:Int)≤(M:Int):=by omega
 clear iL hm hv ht ho jl rR hl hM;go_enter func56,ntmps56;go_wp2;go_loopw [6] (fun iv wr=>∃ j:Nat,iv = .int .i64 ((j:Int) - 1)∧j≤M∧Hid (fT ss=fT (ss.take j))∧Below w.heap.size w wr) (fun iv _=>(intOf iv+1).toNat)
 case atStart=>exact ⟨M,rfl,aj _,by show _=_;rw [al (by have:=HM.out;omega)],Below.refl _ _⟩
 case round =>
  obtain ⟨j,rfl,hj,pN,hb⟩:=hrel;cases j with
  | zero =>
   have HB:=ab hb;have PM:¬ (0:Int)≤((0:Nat):Int) - 1:=by omega
   clear hb;go_wp2;go_ret2;exact ⟨.inl ⟨rfl,pN.out⟩,HV.out.below HB.out,HMV.out.trans (Mv.of HB.out)⟩
  | succ k =>
   have e0:((k+1:Nat):Int) - 1=(k:Int):=by omega
   rw [e0];have RO:(0:Int)≤(k:Int):=by omega
   have jx:(k:Int)<(M:Int):=by omega
   have de:k<(ss.map gD.lk++[s.lk]).length:=by rw [ae,az];simp;have:=HM.out;omega
   obtain ⟨g,o,rfl,c1,c2⟩:=W.di.spot HO.out k de;have f1:wr.cell? ⟨g,o+k*2,none⟩=some (.pointer (some ⟨(ss.map gD.lk++[s.lk])[k].1,0,none⟩)):=(hb.cell (p:=⟨g,o+k*2,none⟩) (World.block_lt_of_cell? w _ c1)).trans c1;have f2:wr.cell? ⟨g,o+k*2+1,none⟩=some (.int .i64 (ss.map gD.lk++[s.lk])[k].2):=(hb.cell (p:=⟨g,o+k*2+1,none⟩) (World.block_lt_of_cell? w _ c2)).trans c2;obtain ⟨lb,U9⟩ : ∃ x,x=(ss.map gD.lk++[s.lk])[k].1:=⟨_,rfl⟩;obtain ⟨Pm,BR⟩ : ∃ x,x=(ss.map gD.lk++[s.lk])[k].2:=⟨_,rfl⟩;rw [← U9] at f1;rw [← BR] at f2;have q0:=ai wr (.cells #[.pointer (some ⟨lb,0,none⟩),.int .i64 Pm] 159);have x0:=B.au.new wr #[.pointer (some ⟨lb,0,none⟩),.int .i64 Pm] 159;have k0:=x0.c0;have k1:=x0.c1;have HB:=ab (Below.next hb q0);by_cases G4:0<Pm
   ·have jo:k<ss.length:=by
     rcases a8 k ss.length with h | h
     ·exact h
     ·have e:k=ss.length:=by have:=HM.out;omega
      have e2:(ss.map gD.lk++[s.lk])[k]=s.lk:=by
       subst e;simp
      rw [e2] at BR;have:Pm=(s.at':Int):=BR;rw [vA.out] at this;omega
    have e2:(ss.map gD.lk++[s.lk])[k]=ss[k].lk:=by rw [aJ (by rw [az];exact jo),bT]
    rw [e2] at U9 BR;obtain ⟨⟨⟨pv,lv,cv,hs⟩,hn⟩,yf,bK⟩:=HW.out.get k jo;have my:fT ss=fT (ss.take k)++O9 ss[k]:=by
     rw [pN.out,ax jo];unfold fT;rw [aR];simp
    have hrk:ss[k].x.1+k=x.1:=CJ HW.out k jo;have Xr:Hid (fT (ss.take k)=fT (ss.take k)):=rfl;obtain ⟨LW,hLW⟩ : ∃ LW,LW=fT (ss.take k):=⟨_,rfl⟩;rw [← hLW] at my;clear hLW Xr;generalize ss[k]=t at *;change lb=t.b at U9
    change Pm=(t.at':Int) at BR
    subst U9;obtain ⟨q,hq⟩ : ∃ q,t.at'=q+1:=⟨t.at' - 1,by omega⟩
    have Z6:Pm=(q:Int)+1:=by rw [BR,hq];omega
    clear BR;subst Z6;rw [hq] at bK;obtain ⟨p,hp⟩ : ∃ p,t.n.us[q]?=some p:=⟨_,af (by omega)⟩
    obtain ⟨y,oD,PH⟩:=(cX d).qT hn hp;have Wf:y.1+1≤t.x.1:=by
     rcases (cX d).YQ with h | h
     ·exact h.elim
     ·exact h _ _ _ oD
    have FP:Hid (∃ (h:Nat) (c:Nd h),y=⟨h,c⟩∧(∃ lo hi,kW h c lo hi)∧∃ Y,fT ss=Y++flat h c):=by
     rw [my];exact O8 hn hq oD
    generalize hWb:wr.alloc (.cells #[.pointer (some ⟨t.b,0,none⟩),.int .i64 ((q:Int)+1)] 159)=Wb at *;have WV:Below w.heap.size w Wb.drew:=B.aK HB.out;obtain ⟨c',w3,bq,Wn,bQ⟩:=Oi g o k M c _ (t.b,(q:Int)) Wb.drew (W.di.below HO.out WV) (by omega) (by omega)
    have BV:Below w.heap.size w w3.drew:=B.aK (Below.next WV bQ);have Z4:((ss.map gD.lk++[s.lk]).take k++[(t.b,(q:Int))]).length=k+1:=by
     rw [ae,ag];simp;omega
    have Zm:tQ w3.drew w0.heap.size (.slice (some ⟨Wb.drew.heap.size+1,0,none⟩) (k+1) c') ((ss.map gD.lk++[s.lk]).take k++[(t.b,(q:Int))]):=⟨W.b7.mono (b:=Wb.drew.heap.size) Wn.1 (ar HMV.out.size WV.size),Wn.2⟩;have HG:=ab (yp (cX d) (fun n q=>q=n.lk.length) (fun _=>True) (fun _ _ _ h=>h) _ _ p y tb rv 55 #[] Tryz.call55 w0 w3.drew ((cX d).ka (cW.of BV) PH) (HT.out.below BV) (HV.out.below BV) (HMV.out.trans (Mv.of BV)) Ri.out Zm trivial (by rw [Z4];have:=HL.out;have:=HM.out;omega) (.inr (by rw [Z4];show y.1+(k+1)+1≤64;omega)) (fun W b n pv lv cv y _ hs hn yf=>by
     have hk:=((cX d).fit hn).1.resolve_left yf;exact (zX n lv W hs.bh).mono fun e w' ⟨he,hb⟩=>⟨n.lk.length,he,rfl,by omega,hb⟩))
    obtain ⟨pre,jm⟩ : ∃ pre,pre=(ss.map gD.lk++[s.lk]).take k++[(t.b,(q:Int))]:=⟨_,rfl⟩;rw [← jm] at HG Z4;have b8:Wb.drew.heap.size=wr.heap.size+1:=by rw [← hWb];simp [World.drew]
    rw [show (Wb.drew).alloc (.cells #[.pointer (some ⟨t.b,0,none⟩),.int .i64 (q:Int)] 159)=(Wb.alloc (.cells #[.pointer (some ⟨t.b,0,none⟩),.int .i64 (q:Int)] 159)).drew from rfl,b8] at bq
    rw [b8] at HG;have sk:=ab bq;have zP:=ab Z4;have Nf:=ab (hs.below (Below.next WV bQ));have p3:=(hs.below (Below.next WV bQ)).c3;obtain ⟨ca,cc,sC,-,-,bm⟩:=hs.kids;rw [C.aT,Nat.mul_one] at sC;subst sC;obtain ⟨g2,o2,rfl,Yf⟩:=bm q p.val (by unfold C.bh;rw [aL,hp];rfl)
    have cq:w3.cell? ⟨g2,o2+q,none⟩=some p.val:=((Below.next WV bQ).cell (p:=⟨g2,o2+q,none⟩) (World.block_lt_of_cell? w _ Yf)).trans Yf;have HNE:Hid ((wr.heap.size<w3.heap.size∧wr.heap.size≠db)∧(t.b<wr.heap.size∧t.b≠db)∧g2<wr.heap.size∧g2≠db):=by
     obtain ⟨d',_,hd⟩:=HV.out.dev;have hdb:=HV.out.Hr;have s1:=hb.size;have s2:=(B.du bQ).size;have s3:wr.heap.size<Wb.heap.size:=by rw [← hWb];simp
     refine ⟨⟨by omega,by omega⟩,⟨aq hs.row.lt s1,fun e=>?_⟩,aq (World.block_lt_of_cell? w _ Yf) s1,fun e=>?_⟩
     ·have h1:=hs.row;rw [e] at h1;obtain ⟨mb,nb,Kz,av,Dn,M5⟩:=hd;unfold B.au at h1;rw [M5.dF] at h1;simp at h1
     ·obtain ⟨tt,xx,iV⟩:=bP p;rw [iV] at Yf;subst e;exact (kU hd Yf).2 tt xx rfl
    obtain ⟨pt,px,iV⟩:=bP p;rw [iV] at cq HG;have m0:=(x0.below (B.du bQ)).c0;have m1:=(x0.below (B.du bQ)).c1;have hsc:=fun W=>YN W (some ⟨g,o,none⟩) M c k (by
     obtain ⟨_,_,e,hle,_⟩:=HO.out;simp only [Value.slice.injEq] at e;rw [ae,az] at hle;simp at hle
     obtain ⟨_,_,rfl⟩:=e;have:=HM.out;omega)
    have afg:Hid (∀ w4,Kept db (.slice (some ⟨wr.heap.size+1+1,0,none⟩) (k+1) c') w3.drew w4→w4.cell? ⟨wr.heap.size,0,none⟩=some (.pointer (some ⟨t.b,0,none⟩))∧w4.cell? ⟨wr.heap.size,1,none⟩=some (.int .i64 ((q:Int)+1))∧w4.cell? ⟨t.b,3,none⟩=some (.slice (some ⟨g2,o2,none⟩) t.n.us.length cc)∧w4.cell? ⟨g2,o2+q,none⟩=some (.iface pt px)):=fun w4 hk=>by
     have dH:=HNE.out;have e1:=hk.2 wr.heap.size (by show wr.heap.size<w3.heap.size;omega) (by omega) (by simp [Value.ownBlock];omega)
     have e2:=hk.2 t.b (by show t.b<w3.heap.size;omega) (by omega) (by simp [Value.ownBlock];omega)
     have e3:=hk.2 g2 (by show g2<w3.heap.size;omega) (by omega) (by simp [Value.ownBlock];omega)
     exact ⟨bL e1 m0,bL e1 m1,bL e2 p3,bL e3 cq⟩
    have RF:(0:Int)≤(q:Int):=by omega
    have PF:(q:Int)<(t.n.us.length:Int):=by omega
    have X0:(t.n.us.length:Int)≤4001:=by have:=hs.fine.2.2.2.2;omega
    have hqp:(q:Int)+1 > 0:=by omega
    have hwq:IntKind.i64.wrap (q:Int)=(q:Int):=by rw [IntKind.wrap_i64];omega
    clear bm Yf iV Zm Wn BV bQ bq jm PH hn hs yf bK hp Z4 WV x0 q0 hb c1 c2 G4 hq e2 b8 pN my hrk Wf oD;subst hWb;go_wp2_with fail;go_region_held3 (fun w'=>w'.cell? ⟨wr.heap.size,0,none⟩=some (.pointer (some ⟨t.b,0,none⟩))∧w'.cell? ⟨wr.heap.size,1,none⟩=some (.int .i64 ((q:Int)+1))) (go_keep)
     (first | (refine kC 101 rfl (.tmp 26) (.tmp 33) rfl rfl _ _ rfl rfl _ _ sk.out ?_))
    all_goals
     clear sk hsc k0 k1 f1 f2;go_wp2_with fail;go_region_held3 (fun w'=>w'.cell? ⟨wr.heap.size,0,none⟩=some (.pointer (some ⟨t.b,0,none⟩))∧w'.cell? ⟨wr.heap.size,1,none⟩=some (.int .i64 ((q:Int)+1))∧w'.cell? ⟨t.b,3,none⟩=some (.slice (some ⟨g2,o2,none⟩) t.n.us.length cc)∧w'.cell? ⟨g2,o2+q,none⟩=some (.iface pt px)) (go_keep)
      (first | (go_at_call 89;refine HG.out.mono ?_;rintro e w4 ⟨hdn,Y9,ZZ,aaa⟩;have n0:=afg.out w4 aaa;obtain ⟨n0,n1,n2,n3⟩:=n0;clear aaa;obtain ⟨a4,n4,c4,v4,he4,AL⟩:=hdn.form;subst he4;have HD4:=ab hdn;have HV4:=ab Y9;have HM4:=ab ZZ;have HVV:=ab AL;clear hdn Y9 ZZ AL))
     all_goals
      have ch:Hid (Rx ss (.returned (.tuple #[.slice a4 n4 c4,v4])) w4):=by
       rcases HD4.out with ⟨hE,_⟩ | ⟨ss',s',a',c'',he,G6,hw',⟨⟨Kz,SV,cv',UZ⟩,ZT⟩,LA,_,TF⟩
       ·exact hE.elim
       ·obtain ⟨hh,cc',hy,adk,Y,hY⟩:=FP.out;subst hy;obtain ⟨b',n',i',⟨hz,tz⟩⟩:=s';cases hz with
        | succ hz=>exact absurd (List.length_eq_zero_iff.1 LA) ZT.1.2.1
        | zero =>
         obtain ⟨⟨Y',hY'⟩,dH⟩:=tH hw' adk;have kt:n'.ps=tz.2:=ZT.1.2;refine .inr ⟨pre.length+ss'.length,a',c'',pre++ss'.map gD.lk,(b',(i':Int)),n',Kz,SV,cv',he,by rw [ae,az],by omega,G6.1.at,UZ,by rw [kt];exact Jd dH,Y++Y',?_⟩
         rw [hY,kt,ay];exact congrArg (Y++·) hY'
      clear HD4 HG m0 m1 p3 cq n0 n1 n2 n3;obtain ⟨vv,AL⟩ : ∃ vv,vv=v4:=⟨_,rfl⟩;rw [← AL] at ch HVV ⊢;rcases HVV.out with h | h
      ·subst h;clear AL HVV;go_wp2;go_ret2;exact ⟨ch.out,HV4.out,HM4.out⟩
      ·subst h;clear AL HVV;go_wp2;go_ret2;exact ⟨ch.out,HV4.out,HM4.out⟩
   ·have RK:¬ Pm > 0:=G4;have HLF:Hid (fT ss=fT (ss.take k)):=by
     show _=_
     rw [pN.out];exact K7 BR G4
    clear c1 c2 hb x0 q0 U9 BR G4 pN;go_wp2;go_roundw
    case rel=>exact ⟨k,rfl,by omega,HLF,HB.out⟩
    case measure=>simp [intOf]
end
end T
end Go.Proofs.YtihmgigfkmofnaaGreatDoor
