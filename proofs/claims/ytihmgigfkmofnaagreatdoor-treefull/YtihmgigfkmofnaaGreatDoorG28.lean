import Derived.Test.YtihmgigfkmofnaaGreatDoorG27
import Derived.Maps.OwnOps
set_option maxHeartbeats 4000000
set_option maxRecDepth 100000
open Go.Proofs.Tryz
namespace Go.Proofs.YtihmgigfkmofnaaGreatDoor
namespace T
open Go.RowKit
def valOf(l:List Pr)(key:ByteArray):ByteArray:=if h:bg l key=true then (l[aP l key]'(gz h)).2 else ⟨#[]⟩
theorem J4{X Y Z:List Pr}{key:ByteArray}(hX:∀ p ∈ X,cQ p.1 key=true)(hZ:∀ p ∈ Z,cQ key p.1=true):valOf (X++(Y++Z)) key=valOf Y key:=by
 unfold valOf;have hf:=nz (Y:=Y) hX hZ;by_cases h:bg Y key=true
 ·rw [dif_pos h,dif_pos (by rw [hf];exact h)]
  have h1:=kT (Y:=Y) hX hZ;have h2:=Q3 (X:=X) (Z:=Z) (gz h);have h3:(X++(Y++Z))[aP (X++(Y++Z)) key]?=Y[aP Y key]?:=by rw [h1];exact h2
  rw [af (gz (by rw [hf];exact h)),af (gz h)] at h3
  rw [Option.some.inj h3]
 ·rw [dif_neg h,dif_neg (by rw [hf];exact h)]
section
variable {base:Nat} {A:Nat→Addr} {db:Nat} {F:Nat→Prop} {d:S.V.bw} {W0:World} {r:cC}
theorem L7{w:World}{tb:Nat}(key:ByteArray)(hc:Ts base A db F d W0 w tb r)(hn:(aD r).length≤4611686018427387904)(de:key.size≤140737488355328):Calls prog 16 #[.pointer (some ⟨tb,0,none⟩),.string key] w fun e w'=>(cN (key,⟨#[]⟩)=true∧e = .returned (.tuple #[.bool (bg (aD r) key),.nilIface])∧((bg (aD r) key=true∧∃ r',tP key (fun l=>fX l key) r r'∧Ts base A db F d W0 w' tb r')∨(bg (aD r) key=false∧Ts base A db F d W0 w' tb r)))∨(¬ cN (key,⟨#[]⟩)=true∧e = .returned (.tuple #[.bool false,.iface 360 (.pointer (some (A 0)))])∧Ts base A db F d W0 w' tb r):=by
 have wh:=ab (qq A key ⟨#[]⟩ w de (by simp [ByteArray.size]) hc.dv.zG)
 have HC:=ab hc;have HN:=ab hn;clear hc hn;by_cases hm:cN (key,⟨#[]⟩)=true
 ·rw [if_pos hm] at wh;have HM:=ab hm;clear de hm;go_enter func16,ntmps16;go_wp2_with fail;refine wh.out.mono ?_
  rintro e w1 ⟨rfl,aM⟩;have Rh:=ab (n7 key HC.out HN.out aM);clear aM wh;go_wp2_with fail;refine Rh.out.mono ?_
  rintro e w2 ⟨GX,kD,kO⟩;have tT:=ab kD;have vw:=ab kO;have Ft:=ab (HC.out.mv kO kD);obtain ⟨rv,ht,Wr⟩:=Ft.out.tr;have Ba:=ab ht;have HRF:=ab Wr;rcases GX with ⟨U2,rfl⟩ | ⟨x,ss,s,a,c,pv,lv,cv,t0,Wq,rfl,ho,jl,hs,kt,b8,hl,RD⟩
  ·subst U2;clear kD kO Rh ht Wr;go_wp2_with fail;refine (hU w2).mono ?_
   rintro e w2' ⟨rfl,rfl⟩;go_wp2_with fail;refine (AB (.slice none 0 0) [] key w2 (by simp) (gM.nil _)).mono ?_
   rintro e w5 ⟨u,rfl,hu,lH⟩;rw [show bg [] key=false from rfl]
   have Cy:=ab (Ft.out.below lH);obtain ⟨ua,uc,Pw⟩:=hu.form;subst Pw;clear hu lH;go_wp2;go_ret2;exact .inl ⟨HM.out,rfl,.inr ⟨rfl,Cy.out⟩⟩
  ·subst Wq;obtain ⟨X,Z,gU,hX,hZ⟩:=F4 x.1 HC.out.ok.1 RD;have hfd:bg (aD (some x)) key=bg s.n.ps key:=by
    show bg (flat x.1 x.2) key=_
    rw [gU,nz hX hZ,kt]
   have JR:=ab hfd;have R4:Hid (rv = .nilIface∨∃ t x,rv = .iface t x):=HRF.out.form;have HO:=ab ho;have HW:=ab jl;have sH:=ab kt;have jb:=ab b8;have HL:=ab hl;have wi:=ab (jg a ss.length c (ss.map gD.lk) s.lk s.n pv lv cv w2 (by rw [az]) (by omega) ho.1.at hs)
   have Ii:=ab hs.iI;have HPM:=ab hs.fine.1;obtain ⟨m,Cp⟩ : ∃ m,m=ss.length:=⟨_,rfl⟩;have FO:=ab Cp;rw [← Cp] at wi HO HL ⊢;obtain ⟨xa,xc,BN⟩:=hs.iI.form;subst BN;clear ho jl hs kt b8 hl kD kO Rh Cp ht Wr RD gU hX hZ hfd;go_wp2_with fail;refine wi.out.mono ?_
   rintro e w2' ⟨rfl,rfl⟩;go_wp2_with fail;refine (AB _ s.n.ps key w2 (by have:=iE s.n.ps;have:=jb.out;rw [← sH.out] at this;omega) Ii.out).mono ?_
   rintro e w5 ⟨u,rfl,hu,lH⟩;have iu:=ab lH;have ym:=sf (s:=s) (t0:=t0) key (fun l=>fX l key) (fit_drop key) HC.out (vw.out.trans (Mv.of iu.out)) (tT.out.below iu.out) (Ba.out.below iu.out) R4.out (by have:=HL.out;have:=FO.out;omega) (by rw [← FO.out];exact HO.out.below iu.out) (HW.out.cH (cW.of iu.out)) jb.out (by rw [← sH.out];exact HPM.out) (by rw [← sH.out];exact hu.at)
   rw [← FO.out] at ym;have MM:=ab ym;have Cy:=ab (Ft.out.below lH);obtain ⟨ua,uc,Pw⟩:=hu.form;subst Pw;clear hu lH ym;cases EA:bg s.n.ps key with
   | false =>
    have HF:Hid (bg (aD (some x)) key=false):=JR.out.trans EA;go_wp2;go_ret2;exact .inl ⟨HM.out,by rw [HF.out];rfl,.inr ⟨HF.out,Cy.out⟩⟩
   | true =>
    have HF:Hid (bg (aD (some x)) key=true):=JR.out.trans EA;go_wp2_with fail;refine MM.out.mono ?_
    rintro e w6 ⟨rfl,htc⟩;have aeC:=ab htc;clear htc MM;go_wp2;go_ret2;exact .inl ⟨HM.out,by rw [HF.out];rfl,.inl ⟨HF.out,aeC.out⟩⟩
 ·rw [if_neg hm] at wh;have HM:=ab hm;clear de hm;go_enter func16,ntmps16;go_wp2_with fail;refine wh.out.mono ?_
  rintro e w1 ⟨rfl,aM⟩;have Cy:=ab (HC.out.below aM);clear aM wh;go_wp2;go_ret2;exact .inr ⟨HM.out,rfl,Cy.out⟩
theorem LC{w:World}{tb:Nat}(key:ByteArray)(hc:Ts base A db F d W0 w tb r)(hn:(aD r).length≤4611686018427387904)(de:key.size≤140737488355328):Calls prog 17 #[.pointer (some ⟨tb,0,none⟩),.string key] w fun e w'=>e = .returned (if cN (key,⟨#[]⟩)=true then .tuple #[.string (valOf (aD r) key),.bool (bg (aD r) key),.nilIface] else .tuple #[.string ⟨#[]⟩,.bool false,.iface 360 (.pointer (some (A 0)))])∧Ts base A db F d W0 w' tb r:=by
 have wh:=ab (qq A key ⟨#[]⟩ w de (by simp [ByteArray.size]) hc.dv.zG)
 have HC:=ab hc;have HN:=ab hn;clear hc hn;by_cases hm:cN (key,⟨#[]⟩)=true
 ·rw [if_pos hm] at wh;rw [if_pos hm];clear de hm;go_enter func17,ntmps17;go_wp2_with fail;refine wh.out.mono ?_
  rintro e w1 ⟨rfl,aM⟩;have Rh:=ab (n7 key HC.out HN.out aM);clear aM wh;go_wp2_with fail;refine Rh.out.mono ?_
  rintro e w2 ⟨GX,kD,kO⟩;have Ft:=ab (HC.out.mv kO kD);rcases GX with ⟨U2,rfl⟩ | ⟨x,ss,s,a,c,pv,lv,cv,t0,Wq,rfl,ho,jl,hs,kt,b8,hl,RD⟩
  ·subst U2;clear kD kO Rh;go_wp2_with fail;refine (hU w2).mono ?_
   rintro e w2' ⟨rfl,rfl⟩;go_wp2_with fail;refine (iT (.slice none 0 0) [] key w2 (by simp) (gM.nil _)).mono ?_
   rintro e w5 ⟨rfl,lH⟩;rw [show bg [] key=false from rfl,show aP [] key=0 from rfl]
   have Cy:=ab (Ft.out.below lH);clear lH;go_wp2;go_ret3;exact ⟨rfl,Cy.out⟩
  ·subst Wq;obtain ⟨X,Z,gU,hX,hZ⟩:=F4 x.1 HC.out.ok.1 RD;have hfd:bg (aD (some x)) key=bg s.n.ps key:=by
    show bg (flat x.1 x.2) key=_
    rw [gU,nz hX hZ,kt]
   have vf:valOf (aD (some x)) key=valOf s.n.ps key:=by
    show valOf (flat x.1 x.2) key=_
    rw [gU,J4 hX hZ,kt]
   have JR:=ab hfd;have HVL:=ab vf;have sH:=ab kt;have jb:=ab b8;have wi:=ab (jg a ss.length c (ss.map gD.lk) s.lk s.n pv lv cv w2 (by rw [az]) (by omega) ho.1.at hs)
   have Ii:=ab hs.iI;obtain ⟨m,Cp⟩ : ∃ m,m=ss.length:=⟨_,rfl⟩;rw [← Cp] at wi ⊢;obtain ⟨xa,xc,BN⟩:=hs.iI.form;subst BN;clear ho jl hs kt b8 hl kD kO Rh Cp RD gU hX hZ hfd vf;go_wp2_with fail;refine wi.out.mono ?_
   rintro e w2' ⟨rfl,rfl⟩;go_wp2_with fail;refine (iT _ s.n.ps key w2 (by have:=iE s.n.ps;have:=jb.out;rw [← sH.out] at this;omega) Ii.out).mono ?_
   rintro e w5 ⟨rfl,lH⟩;have Cy:=ab (Ft.out.below lH);have aeH:=ab (Ii.out.below lH);clear lH;cases EA:bg s.n.ps key with
   | false =>
    have HF:Hid (bg (aD (some x)) key=false):=JR.out.trans EA;have HVE:Hid (valOf (aD (some x)) key=⟨#[]⟩):=HVL.out.trans (by unfold valOf;rw [dif_neg (by rw [EA];simp)])
    go_wp2;go_ret3;exact ⟨by rw [HF.out,HVE.out];rfl,Cy.out⟩
   | true =>
    have bK:=gz EA;have HF:Hid (bg (aD (some x)) key=true):=JR.out.trans EA;have Ti:valOf (aD (some x)) key=(s.n.ps[aP s.n.ps key]).2:=HVL.out.trans (by unfold valOf;rw [dif_pos EA])
    obtain ⟨_,_,kq,_,_,bm⟩:=aeH.out;simp only [Value.slice.injEq] at kq;obtain ⟨rfl,-,rfl⟩:=kq;obtain ⟨g,o,rfl,c1,c2⟩:=bm (aP s.n.ps key) bK;have RF:(0:Int)≤(aP s.n.ps key:Int):=by omega
    have PF:(aP s.n.ps key:Int)<(s.n.ps.length:Int):=by omega
    generalize (s.n.ps[aP s.n.ps key]).2=val at c2 Ti;have HVE:=ab Ti;clear Ti;generalize aP s.n.ps key=fq at *;clear bm bK c1;go_wp2;go_ret3;exact ⟨by rw [HF.out,HVE.out];rfl,Cy.out⟩
 ·rw [if_neg hm] at wh;rw [if_neg hm];clear de hm;go_enter func17,ntmps17;go_wp2_with fail;refine wh.out.mono ?_
  rintro e w1 ⟨rfl,aM⟩;have Cy:=ab (HC.out.below aM);clear aM wh;go_wp2;go_ret3;exact ⟨rfl,Cy.out⟩
end
theorem SD{w:World}{a:Option Addr}{n m k cap:Nat}{l:List Pr}(h:gM w (.slice a n cap) l)(hm:m≤k)(hk:k≤n):∃ a',gM w (.slice a' (k - m) (cap - m)) ((l.take k).drop m)∧∀ w',(Instr.sliceAt 63 (.slice a n cap) (some (.int .i64 (m:Int))) (some (.int .i64 (k:Int))) none).run prog w' = .ok (.slice a' (k - m) (cap - m)) w':=by
 have h:=h.take hk;obtain ⟨a',eY,he,hle,hn,hc⟩:=h;simp only [Value.slice.injEq] at he;obtain ⟨rfl,my,rfl⟩:=he;have my:=my.symm;refine ⟨if cap=m then a else a.map (·.add (m*2)),⟨_,_,by rw [ao,my],by rw [ao];omega,fun ha=>?_,fun j hj=>?_⟩,fun w'=>?_⟩
 ·split at ha
  ·omega
  ·cases a with
   | none=>have:=hn rfl;omega
   | some x=>cases ha
 ·rw [ao] at hj;obtain ⟨g,o,ha,h1,h2⟩:=hc (m+j) (by omega)
  subst ha;refine ⟨g,o+m*2,?_,?_,?_⟩
  ·rw [if_neg (by omega)];simp [bt]
  ·rw [cV,show o+m*2+j*2=o+(m+j)*2 by omega];exact h1
  ·rw [cV,show o+m*2+j*2+1=o+(m+j)*2+1 by omega];exact h2
 ·rw [run_sliceAt_slice (h:=underlying63),run_slice_lh (ht:=underlying63) (h0:=by omega) (h1:=by omega) (h2:=by omega)]
  have hz:(sizeOf (prog.elem 63)).run prog w' = .ok 2 w':=by kernel_rfl
  rw [hz];simp [Result.andThen,sliced]
def r9(l:List Pr)(en:ByteArray):Nat:=if en=⟨#[]⟩ then l.length else aP l en
def ej(l:List Pr)(fr en:ByteArray):List Pr:=(l.take (max (aP l fr) (r9 l en))).drop (aP l fr)
theorem JB(l:List Pr)(en:ByteArray):r9 l en≤l.length:=by
 unfold r9;split
 ·exact aj _
 ·exact cD l en
theorem zY{s:ByteArray}(h:¬ s=⟨#[]⟩):s.toList.isEmpty=false:=by
 cases hs:s.toList with
 | cons _ _=>rfl
 | nil =>
  have h1:=oP s ⟨#[]⟩;have h0:(⟨#[]⟩ : ByteArray).toList=[]:=by rw [ByteArray.toList_eq]
  rw [hs,h0,decide_eq_false h] at h1;simp at h1
theorem FW(v:Value)(l:List Pr)(fr en:ByteArray)(w:World)(hm:l.length≤140737488355328)(hr:gM w v l):Calls prog 94 #[v,.string fr,.string en] w fun e w'=>∃ a c,e = .returned (.slice a (ej l fr en).length c)∧gM w' (.slice a (ej l fr en).length c) (ej l fr en)∧Below w.heap.size w w':=by
 have HF:=ab (iT v l fr w hm hr);have HM:=ab hm;have HR:=ab hr;obtain ⟨a,cap,hv⟩:=hr.form;subst hv;have ZD:=cD l fr;have hel:=JB l en;obtain ⟨q,hq⟩ : ∃ q,q=aP l fr:=⟨_,rfl⟩;obtain ⟨E,hE⟩ : ∃ E,E=r9 l en:=⟨_,rfl⟩;rw [← hq] at HF ZD;rw [← hE] at hel;obtain ⟨K,hK⟩ : ∃ K,K=max q E:=⟨_,rfl⟩;obtain ⟨a2,iF,pZ⟩:=SD hr (m:=q) (k:=K) (by omega) (by omega)
 have hW:ej l fr en=(l.take K).drop q:=by unfold ej;rw [← hq,← hE,hK]
 have hWl:(ej l fr en).length=K - q:=by
  rw [hW,ao,ag];omega
 have HW:=ab hW;have HWl:=ab hWl;have oT:=ab iF;have HE:=ab hE;have U5:max (q:Int) (E:Int)=(K:Int):=by omega
 clear hr iF hq hE hW hWl hm;by_cases ht:en=⟨#[]⟩
 ·have HEE:Hid (E=l.length):=by show E=_;rw [HE.out];unfold r9;rw [if_pos ht]
  subst ht;obtain ⟨m,nx⟩ : ∃ m,m=l.length:=⟨_,rfl⟩;have hmE:E=m:=by rw [nx];exact HEE.out
  subst hmE;have R5:=ab nx;rw [← nx] at HF HR pZ ZD ⊢;clear nx;clear hK;go_enter func94,ntmps94;go_wp2_with fail;refine HF.out.mono ?_
  rintro e w1 ⟨rfl,aM⟩;have bN:=ab aM;clear aM HF;go_wp2;go_ret;exact ⟨a2,cap - q,by rw [HWl.out];rfl,by rw [HWl.out,HW.out];exact oT.out.below bN.out,bN.out⟩
 ·have HEE:Hid (E=aP l en):=by show E=_;rw [HE.out];unfold r9;rw [if_neg ht]
  have dH:=zY ht;clear hK ht;go_enter func94,ntmps94;go_wp2_with fail;refine HF.out.mono ?_
  rintro e w1 ⟨rfl,aM⟩;have bN:=ab aM;have Bc:=ab (iT _ l en w1 HM.out (HR.out.below aM));rw [← HEE.out] at Bc;clear aM HF;go_wp2_with fail;refine Bc.out.mono ?_
  rintro e w2 ⟨rfl,aS⟩;have bG:=ab (Below.next bN.out aS);clear aS Bc;go_wp2;go_ret;exact ⟨a2,cap - q,by rw [HWl.out];rfl,by rw [HWl.out,HW.out];exact oT.out.below bG.out,bG.out⟩
def AJ(lk:List B.Lk)(i:Nat)(en:ByteArray):Bool :=
 match i with
 | 0=>false
 | j+1=>if en=⟨#[]⟩ then false else match lk[j]? with | some p=>!cQ p.1 en | none=>false
theorem Fa(f:Int)(lv:Value)(lk:List B.Lk)(en:ByteArray)(w:World)(hl:B.di w lv lk):Calls prog 95 #[.agg #[.int .i64 f,lv],.int .i64 0,.string en] w fun e w'=>e = .returned (.bool false)∧Below w.heap.size w w':=by
 have q0:=ai w (.cells #[.int .i64 f,lv] 150);have HQ:=ab q0;obtain ⟨la,lc,pN⟩:=hl.form;subst pN;clear q0 hl;go_enter func95,ntmps95;go_wp2;go_ret;exact ⟨rfl,HQ.out⟩
theorem Ca(f:Int)(lv:Value)(lk:List B.Lk)(i:Nat)(w:World)(hl:B.di w lv lk):Calls prog 95 #[.agg #[.int .i64 f,lv],.int .i64 (i:Int),.string ⟨#[]⟩] w fun e w'=>e = .returned (.bool false)∧Below w.heap.size w w':=by
 have q0:=ai w (.cells #[.int .i64 f,lv] 150);have HQ:=ab q0;obtain ⟨la,lc,pN⟩:=hl.form;subst pN;clear q0 hl;by_cases h0:(0:Int)<(i:Int)
 ·go_enter func95,ntmps95;go_wp2;go_ret;exact ⟨rfl,HQ.out⟩
 ·go_enter func95,ntmps95;go_wp2;go_ret;exact ⟨rfl,HQ.out⟩
theorem Fb(f:Int)(lv:Value)(lk:List B.Lk)(j:Nat)(en:ByteArray)(w:World)(hl:B.di w lv lk)(hj:j<lk.length)(hm:lk.length≤4000)(X9:¬ en=⟨#[]⟩):Calls prog 95 #[.agg #[.int .i64 f,lv],.int .i64 ((j:Int)+1),.string en] w fun e w'=>e = .returned (.bool (!cQ lk[j].1 en))∧Below w.heap.size w w':=by
 have q0:=ai w (.cells #[.int .i64 f,lv] 150);have x0:=B.au.new w #[.int .i64 f,lv] 150;have k1:=x0.c1;have TD:=hl.below q0;obtain ⟨la,lc,pN⟩:=hl.form;subst pN;obtain ⟨_,_,kq,_,_,hc⟩:=TD;simp only [Value.slice.injEq] at kq;obtain ⟨rfl,-,rfl⟩:=kq;obtain ⟨g,o,rfl,c1,-⟩:=hc j hj;have HQ:=ab q0;have dH:=zY X9;have h0:(0:Int)≤(j:Int):=by omega
 have h1:(j:Int)<(lk.length:Int):=by omega
 have h2:((j:Int)+1) - 1=(j:Int):=by omega
 generalize (lk[j]).1=kk at c1 ⊢;clear q0 hl hc x0 X9 hj;go_enter func95,ntmps95;go_wp2;go_ret;exact ⟨rfl,HQ.out⟩
theorem BL(f:Int)(lv:Value)(lk:List B.Lk)(i:Nat)(en:ByteArray)(w:World)(hl:B.di w lv lk)(hi:i≤lk.length)(hm:lk.length≤4000):Calls prog 95 #[.agg #[.int .i64 f,lv],.int .i64 (i:Int),.string en] w fun e w'=>e = .returned (.bool (AJ lk i en))∧Below w.heap.size w w':=by
 by_cases X9:en=⟨#[]⟩
 ·subst X9;have e:AJ lk i ⟨#[]⟩=false:=by
   unfold AJ;cases i with
   | zero=>rfl
   | succ j=>simp
  rw [e];exact Ca f lv lk i w hl
 ·cases i with
  | zero=>exact Fa f lv lk en w hl
  | succ j =>
   have e:AJ lk (j+1) en=!cQ lk[j].1 en:=by
    unfold AJ;simp only;rw [if_neg X9,af (by omega)]
   rw [e,show ((j+1:Nat):Int)=(j:Int)+1 by omega]
   exact Fb f lv lk j en w hl (by omega) hm X9
theorem IN:∀ {l:List Pr},gX l→l.Pairwise fun a b=>cQ a.1 b.1=true
 | [],_=>List.Pairwise.nil
 | p::l,h=>by
  have:=qm (a:=[p]) (b:=l) h;exact List.Pairwise.cons (fun q hq=>this.2.2 p (by simp) q hq) (IN this.2.1)
theorem uJ{α:Type}{R:α→α→Prop}{Q:α→Bool}(hR:∀ a b,R a b→Q a=true→Q b=true):∀ {l:List α},l.Pairwise R→l.filter Q=l.drop (l.findIdx Q)
 | [],_=>rfl
 | a::l,h=>by
  cases h with
  | cons h1 h2 =>
   cases hq:Q a
   ·rw [List.filter_cons_of_neg (by rw [hq];simp),lC,hq,uJ hR h2];simp
   ·rw [List.filter_cons_of_pos hq,lC,hq];simp only [cond_true,List.drop_zero];rw [List.filter_eq_self.2 (fun b hb=>hR a b (h1 b hb) hq)]
theorem uI{α:Type}{R:α→α→Prop}{P:α→Bool}(hR:∀ a b,R a b→P b=true→P a=true):∀ {l:List α},l.Pairwise R→l.filter P=l.take (l.findIdx fun a=>!P a)
 | [],_=>rfl
 | a::l,h=>by
  cases h with
  | cons h1 h2 =>
   cases hp:P a
   ·rw [List.filter_cons_of_neg (by rw [hp];simp),lC,hp]
    simp only [Bool.not_false,cond_true,List.take_zero];rw [List.filter_eq_nil_iff.2 (fun b hb FH=>by rw [hR a b (h1 b hb) FH] at hp;cases hp)]
   ·rw [List.filter_cons_of_pos hp,lC,hp,uI hR h2];simp
def jk(fr en:ByteArray)(p:Pr):Bool:=!cQ p.1 fr && (decide (en=⟨#[]⟩) || cQ p.1 en)
theorem J1{l:List Pr}(hr:gX l)(fr en:ByteArray):ej l fr en=l.filter (jk fr en):=by
 have hp:=IN hr;have e1:l.filter (fun p=>decide (en=⟨#[]⟩) || cQ p.1 en)=l.take (r9 l en):=by
  unfold r9;split
  ·rename_i h
   rw [l8,List.filter_eq_self.2 (fun p _=>by simp [h])]
  ·rename_i h
   have:=uI (P:=fun p:Pr=>cQ p.1 en) (fun a b Cv hb=>dh Cv hb) hp
   simp only [decide_eq_false h,Bool.false_or];rw [this];rfl
 have e2:l.filter (jk fr en)=(l.take (r9 l en)).filter (fun p=>!cQ p.1 fr):=by
  rw [← e1,List.filter_filter];rfl
 have X2:(l.take (r9 l en)).Pairwise fun a b=>cQ a.1 b.1=true:=hp.sublist (List.take_sublist _ _)
 rw [e2,uJ (Q:=fun p:Pr=>!cQ p.1 fr) (fun a b Cv ha=>by
  cases h:cQ b.1 fr
  ·rfl
  ·rw [dh Cv h] at ha;simp at ha) X2]
 unfold ej;have hE:=JB l en;have hq:(l.take (r9 l en)).findIdx (fun p=>!cQ p.1 fr)=min (aP l fr) (r9 l en):=by
  rw [List.findIdx_take];show min (r9 l en) (aP l fr)=_
  omega
 rw [hq];by_cases h:aP l fr≤r9 l en
 ·rw [Nat.max_eq_right h,a6 h]
 ·rw [Nat.max_eq_left (by omega),Nat.min_eq_right (by omega)]
  rw [dB (by rw [ag];omega),dB (by rw [ag];omega)]
def yF(en:ByteArray):Option ByteArray→Bool
 | none=>false
 | some k=>!decide (en=⟨#[]⟩) && !cQ k en
def lR{α:Type}(g:α→List Pr→List Pr × Bool)(en:ByteArray):Option ByteArray→List ByteArray→List α→List Pr→List Pr × Bool
 | _,_,[],acc=>(acc,true)
 | ah,ks,c::cs,acc=>if yF en ah=true then (acc,false) else if (g c acc).2=true then lR g en ks.head? ks.tail cs (g c acc).1 else ((g c acc).1,false)
def fw(fr en:ByteArray)(lim:Nat):(h:Nat)→Nd h→List Pr→List Pr × Bool
 | 0,t,acc=>(acc++(ej t.2 fr en).take (lim - acc.length),decide ((acc++(ej t.2 fr en).take (lim - acc.length)).length<lim))
 | h+1,t,acc=>lR (fw fr en lim h) en (iZ none (t.2.1.take (t.2.1.findIdx fun k=>cQ fr k))) (t.2.1.drop (t.2.1.findIdx fun k=>cQ fr k)) (t.2.2.drop (t.2.1.findIdx fun k=>cQ fr k)) acc
def NT(en:ByteArray)(hi:Option ByteArray):Prop:=∀ u,hi=some u→¬ en=⟨#[]⟩∧cQ u en=false
theorem IF{en k:ByteArray}{hi:Option ByteArray}(hs:¬ en=⟨#[]⟩∧cQ k en=false)(hk:ltB k hi):NT en hi:=fun u hu=>⟨hs.1,by
 cases h:cQ u en
 ·rfl
 ·rw [dh (hk u hu) h] at hs;cases hs.2⟩
theorem IP{fr en:ByteArray}{l:List Pr}{lo:Option ByteArray}(hl:∀ p ∈ l,geB lo p.1)(k:ByteArray)(hk:lo=some k)(hs:¬ en=⟨#[]⟩∧cQ k en=false):l.filter (jk fr en)=[] :=
 List.filter_eq_nil_iff.2 fun p hp h=>by
  have h1:=hl p hp k hk;unfold jk at h;rw [decide_eq_false hs.1,Bool.false_or,bU] at h;have h2:cQ k en=true:=by
   cases TG:cQ k p.1
   ·have:=mu TG h1;rw [this];exact h.2
   ·exact dh TG h.2
  rw [h2] at hs;cases hs.2
def Ir(fr en:ByteArray)(lim:Nat)(l acc:List Pr)(hi:Option ByteArray)(r:List Pr × Bool):Prop :=
 r.1=acc++(l.filter (jk fr en)).take (lim - acc.length)∧(r.2=false→lim≤r.1.length∨NT en hi)
theorem NJ{α:Type}(n:Nat)(X Y:List α):(X++Y).take n=X.take n++Y.take (n - (X.take n).length):=by
 rw [List.take_append,ag];congr 2
 omega
theorem EF{fr en:ByteArray}{lim h:Nat}(ih:∀ {t:Nd h} {lo hi:Option ByteArray} {acc:List Pr},kW h t lo hi→acc.length≤lim→Ir fr en lim (flat h t) acc hi (fw fr en lim h t acc)):∀ (cs:List (Nd h)) {ks:List ByteArray} {lo hi ah:Option ByteArray} {acc:List Pr},gY (kW h) lo hi ks cs→(∀ k,ah=some k→lo=some k)→acc.length≤lim→Ir fr en lim (cs.flatMap (flat h)) acc hi (lR (fw fr en lim h) en ah ks cs acc)
 | [],ks,_,_,_,_,ho,_,_=>by cases ks <;> simp [gY] at ho
 | c::cs,ks,lo,hi,ah,acc,ho,hah,hacc=>by
  have MZ:=xE (F:=flat h) (fun _ _ _ hc=>pY h hc.1) ho
  unfold lR;by_cases hb:yF en ah=true
  ·rw [if_pos hb];cases ah with
   | none=>simp [yF] at hb
   | some k =>
    have pz:=hah k rfl;have hs:¬ en=⟨#[]⟩∧cQ k en=false:=by
     simp only [yF,bU,Bool.not_eq_true',decide_eq_false_iff_not] at hb;exact hb
    refine ⟨by rw [IP (fun p hp=>(MZ p hp).1) k pz hs];simp,fun _=>.inr ?_⟩
    obtain ⟨p,hp⟩ : ∃ p,p ∈ flat h c:=by
     have:=rz h (rA ho);have h1:1≤2 ^ h:=Nat.one_le_two_pow;exact List.exists_mem_of_length_pos (by omega)
    have hpi:=MZ p (by rw [List.flatMap_cons];exact dZ _ hp)
    exact IF hs fun u hu=>UR (hpi.1 k pz) (hpi.2 u hu)
  ·rw [if_neg hb];cases ks with
   | nil =>
    cases cs with
    | cons _ _=>simp [gY] at ho
    | nil =>
     have hc:kW h c lo hi:=ho;obtain ⟨g1,g2⟩:=ih (acc:=acc) hc hacc;have e:([c] : List (Nd h)).flatMap (flat h)=flat h c:=by simp
     rw [e];by_cases hr:(fw fr en lim h c acc).2=true
     ·rw [if_pos hr];refine ⟨?_,fun h=>?_⟩
      ·show (fw fr en lim h c acc).1=_
       exact g1
      ·exact absurd h (by show ¬ true=false;simp)
     ·rw [if_neg hr];exact ⟨g1,fun _=>g2 (by simpa using hr)⟩
   | cons k ks =>
    obtain ⟨hk,hm,hc,Jm⟩:=ho;obtain ⟨g1,g2⟩:=ih (acc:=acc) hc hacc;have ac9:=xE (F:=flat h) (fun _ _ _ hc=>pY h hc.1) Jm
    have hlen:(fw fr en lim h c acc).1.length≤lim:=by
     rw [g1,ae,ag];omega
    have hle:(fw fr en lim h c acc).1.length=acc.length+(((flat h c).filter (jk fr en)).take (lim - acc.length)).length:=by rw [g1,ae]
    have key:∀ Y:List Pr,acc++(((flat h c).filter (jk fr en))++Y).take (lim - acc.length)=(fw fr en lim h c acc).1++Y.take (lim - (fw fr en lim h c acc).1.length):=fun Y=>by
     rw [NJ,← ay,← g1,hle];congr 2
     omega
    rw [List.flatMap_cons];by_cases hr:(fw fr en lim h c acc).2=true
    ·rw [if_pos hr];obtain ⟨r1,r2⟩:=EF ih cs (ah:=some k) Jm (fun k' RP=>RP) hlen
     refine ⟨?_,r2⟩;show (lR (fw fr en lim h) en (some k) ks cs (fw fr en lim h c acc).1).1=_
     rw [r1,oS,key]
    ·rw [if_neg hr];refine ⟨?_,fun _=>?_⟩
     ·show (fw fr en lim h c acc).1=_
      rw [oS,key];rcases g2 (by simpa using hr) with h1 | h1
      ·rw [show lim - (fw fr en lim h c acc).1.length=0 by omega];simp
      ·rw [IP (fun p hp=>(ac9 p hp).1) k rfl (h1 k rfl)];simp
     ·rcases g2 (by simpa using hr) with h1 | h1
      ·exact .inl h1
      ·exact .inr (IF (h1 k rfl) hk.2)
theorem BZ{fr en:ByteArray}{lim:Nat}:∀ (h:Nat) {t:Nd h} {lo hi:Option ByteArray} {acc:List Pr},Ok h t lo hi→acc.length≤lim→Ir fr en lim (flat h t) acc hi (fw fr en lim h t acc)
 | 0,t,lo,hi,acc,ho,hacc=>by
  refine ⟨?_,fun hf=>.inl ?_⟩
  ·show acc++(ej t.2 fr en).take _=acc++(t.2.filter (jk fr en)).take _
   rw [J1 ho.1]
  ·have hf:decide ((acc++(ej t.2 fr en).take (lim - acc.length)).length<lim)=false:=hf;have:=of_decide_eq_false hf;show lim≤(acc++(ej t.2 fr en).take (lim - acc.length)).length
   omega
 | h+1,t,lo,hi,acc,ho,hacc=>by
  have hc:=(fA h t lo hi).1 ho;have hl:=jV hc;obtain ⟨q,hq⟩ : ∃ q,q=t.2.1.findIdx fun k=>cQ fr k:=⟨_,rfl⟩
  have ZD:q≤t.2.1.length:=by rw [hq];exact List.findIdx_le_length
  obtain ⟨c,hcq⟩ : ∃ c,t.2.2[q]?=some c:=⟨_,af (by omega)⟩
  obtain ⟨e1,e2,el,ei⟩:=ml hl hcq;have uC:=hc;rw [e1,e2] at uC;obtain ⟨jm,Jm⟩:=(pd el).1 uC;have hA:∀ k ∈ t.2.1.take q,cQ fr k=false:=fun k hk=>by
   obtain ⟨i,mz,rfl⟩:=aO hk;rw [ag] at mz;rw [bF];have bK:i<t.2.1.findIdx fun k=>cQ fr k:=by rw [← hq];omega
   have:=List.not_of_lt_findIdx bK;simpa using this
  have ZN:((t.2.2.take q).flatMap (flat h)).filter (jk fr en)=[]:=List.filter_eq_nil_iff.2 fun p hp hr=>by
   have:=ry (P:=kW h) (fun _ _ _ hc=>pY h hc.1) jm hA p hp
   unfold jk at hr;rw [this] at hr;simp at hr
  have aan:t.2.2.drop q=c::t.2.2.drop (q+1):=by
   obtain ⟨PF,hv⟩:=List.getElem?_eq_some_iff.1 hcq;have:=a7 PF;rw [hv] at this;exact this
  have hr:=EF (fr:=fr) (en:=en) (lim:=lim) (fun ho ha=>BZ h ho.1 ha) (c::t.2.2.drop (q+1)) (ah:=iZ none (t.2.1.take q)) Jm (fun k hk=>by
   cases hA2:t.2.1.take q with
   | nil=>rw [hA2] at hk;simp [iZ] at hk
   | cons a A=>rw [hA2] at hk;exact hk) hacc
  have ef:(flat (h+1) t).filter (jk fr en)=((c::t.2.2.drop (q+1)).flatMap (flat h)).filter (jk fr en):=by
   show (t.2.2.flatMap (flat h)).filter _=_
   rw [e2,aR,oS];rw [← e2,ZN,List.nil_append]
  have eg:fw fr en lim (h+1) t acc=lR (fw fr en lim h) en (iZ none (t.2.1.take q)) (t.2.1.drop q) (c::t.2.2.drop (q+1)) acc:=by
   rw [← aan,hq];rfl
  rw [eg];exact ⟨by rw [ef];exact hr.1,hr.2⟩
theorem LD{fr en:ByteArray}{lim h:Nat}{t:Nd h}(ho:Ok h t none none):(fw fr en lim h t []).1=((flat h t).filter (jk fr en)).take lim:=(BZ h ho (by simp)).1
theorem cW.refl(w:World):cW w w:=⟨aj _,fun _ _=>.inl rfl⟩
theorem Uo.same{w w':World}{k:Nat}(h:Uo w' k)(he:w'.heap[k]?=w.heap[k]?):Uo w k:=by
 refine ⟨fun j v hc=>h.1 j v ((World.cell?_of_block (a:=⟨k,j,none⟩) he).trans hc),fun cs fr h1=>h.2.1 cs fr (he.trans h1),fun cs fr h1=>h.2.2 cs fr (he.trans h1)⟩
theorem cW.trans{w w1 w2:World}(h1:cW w w1)(h2:cW w1 w2):cW w w2:=⟨ar h1.size h2.size,fun k hk=>by
 rcases h1.block k hk with e | e
 ·rcases h2.block k (aq hk h1.size) with e2 | e2
  ·exact .inl (e2.trans e)
  ·exact .inr (e2.same e)
 ·exact .inr e⟩
theorem NV(p:PD):∀ q ∈ p.sn.us,∃ id,q = .pg id:=fun q hq=>by
 cases p with
 | leaf l=>simp [PD.sn] at hq
 | br f lk =>
  obtain ⟨i,hi,rfl⟩:=aO hq;obtain ⟨x,_,h2⟩:=IS f lk i _ (af hi);exact ⟨x,h2⟩
def oX(d:S.V.bw)(w0:World):Sys d XT where
 K:=fun w p x=>(ew (cM d) w0 x.1 p x.2∧jF x)∧(cW w0 w∨∃ id,p = .pg id)
 N:=fun w n x=>(aU (cM d) w0 x.1 n x.2∧jF x)∧(cW w0 w∨∀ q ∈ n.us,∃ id,q = .pg id)
 E:=False
 sub:=YJ
 rk:=fun x=>x.1
 ka:=fun ha h=>⟨h.1,h.2.imp (fun g=>g.trans ha) id⟩
 na:=fun ha h=>⟨h.1,h.2.imp (fun g=>g.trans ha) id⟩
 qT:=fun {w n x i p} hn hp=>by
  obtain ⟨y,h1,h2⟩:=(cX d).qT (w:=w0) (n:=n) (x:=x) hn.1 hp;exact ⟨y,h1,h2,hn.2.imp id fun g=>g p (cG hp)⟩
 fit:=fun h=>lh h.1.1 h.1.2
 ia:=fun h=>by
  obtain ⟨p,h1,h2⟩:=I2 h.1.1;exact .inr ⟨p,h1,fun w'=>⟨⟨h2 w0,h.1.2⟩,.inr (NV p)⟩⟩
 node:=fun h=>by
  obtain ⟨⟨⟨_,m,pv,lv,cv,hs,hm⟩,hg⟩,ha⟩:=h;rcases ha with ha | ⟨id,he⟩
  ·exact ⟨m,pv,lv,cv,hs.cH ha,⟨hm,hg⟩,.inl ha⟩
  ·cases he
 YQ:=.inr fun x i y hs=>by
  obtain ⟨h,t⟩:=x;cases h with
  | zero=>exact hs.elim
  | succ h =>
   obtain ⟨c,_,rfl⟩:=hs;exact aj _
def yL(w:World)(base:Nat)(v:Value)(l:List Pr):Prop :=
 ir w base v l∧∀ g,v.ownBlock=some g→∃ cur,w.heap[g]?=some (.cells cur 52 (0,0))∧∀ u ∈ cur.toList,∃ s,u = .string s
theorem yL.nil(w:World)(base:Nat):yL w base (.slice none 0 0) []:=⟨ir.nil w base,fun g h=>by simp [Value.ownBlock] at h⟩
theorem rr(l:List Pr):∀ u ∈ iI l,∃ s,u = .string s:=by
 intro u hu;simp only [iI,l9] at hu;obtain ⟨p,_,h⟩:=hu;simp at h
 rcases h with rfl | rfl
 ·exact ⟨_,rfl⟩
 ·exact ⟨_,rfl⟩
theorem CF(n:Nat):∀ u ∈ (Builtin.zeroCells (Value.agg #[.string ByteArray.empty,.string ByteArray.empty]).cells n).toList,∃ s,u = .string s:=by
 intro u hu;simp only [Builtin.zeroCells,Value.cells] at hu;simp at hu
 obtain ⟨i,_,rfl⟩:=hu;rcases bV i with h | h
 ·rw [h];exact ⟨_,rfl⟩
 ·rw [h];exact ⟨_,rfl⟩
theorem yL.app(base:Nat)(v s:Value)(xs us:List Pr)(w:World)(h:yL w base v xs)(hs:gM w s us)(hb:(xs.length+us.length)*32≤140737488355328)(dx:base≤w.heap.size):∃ a' eY w',(Builtin.append_ #[63,63] 63 #[v,s]).run prog w = .ok (.slice a' (xs.length+us.length) eY) w'∧yL w' base (.slice a' (xs.length+us.length) eY) (xs++us)∧w.grownBy w' v.ownBlock∧∀ g,(Value.slice a' (xs.length+us.length) eY).ownBlock=some g→v.ownBlock=some g∨w.heap.size≤g:=by
 obtain ⟨i0,hi,hz,b8,kP⟩:=info_parts Jh;obtain ⟨a',c',w',hr,aF,hg⟩:=gW base v s xs us w h.1 hs hb dx;suffices hh:(∀ g,(Value.slice a' (xs.length+us.length) c').ownBlock=some g→v.ownBlock=some g∨w.heap.size≤g)∧∀ g,(Value.slice a' (xs.length+us.length) c').ownBlock=some g→∃ cur,w'.heap[g]?=some (.cells cur 52 (0,0))∧∀ u ∈ cur.toList,∃ s,u = .string s from ⟨a',c',w',hr,⟨aF,hh.2⟩,hg,hh.1⟩
 have M0:∃ a' c',v = .slice a' xs.length c':=h.1.form;obtain ⟨a,QT,rfl,hle,qD,hc⟩:=hs;cases a with
 | none =>
  have h0:us=[]:=by
   cases us with
   | nil=>rfl
   | cons u r=>obtain ⟨g,o,he,_⟩:=hc 0 (by simp);cases he
  subst h0;have iF:=run_append_owned_none (P:=prog) w base 63 63 52 i0 2 underlying63 hi v xs.length (iI xs) h.1;rw [qD rfl] at hr;rw [List.length_nil] at hr aF ⊢;rw [iF] at hr;simp only [Result.ok.injEq] at hr;obtain ⟨hv,rfl⟩:=hr;rw [← hv];exact ⟨fun g il=>.inl il,h.2⟩
 | some ad =>
  have ik:∀ j u,(iI us)[j]?=some u→w.cell? (ad.add j)=some u:=fun j u hj=>by
   have lY:=(List.getElem?_eq_some_iff.1 hj).1;rw [eQ] at lY;obtain ⟨g,o,he,c1,c2⟩:=hc (j / 2) (by omega)
   cases he;have hg:=vF us (j / 2) (by omega)
   rw [bt];rcases bV j with hm | hm
   ·have e:j / 2*2=j:=by omega
    rw [e] at hg c1;rw [hg.1] at hj;cases hj;exact c1
   ·have e:j / 2*2+1=j:=by omega
    rw [dt,e] at c2;rw [e] at hg;rw [hg.2] at hj;cases hj;exact c2
  rcases h.1.2 with ⟨rfl,h0⟩ | ⟨g0,cap,cur,rfl,lZ,oH,BQ,sB,fI,mf⟩
  ·by_cases hu0:us.length=0
   ·have MW:us=[]:=List.length_eq_zero_iff.1 hu0;have hxs:xs=[]:=by
     have:=h0;cases xs with
     | nil=>rfl
     | cons _ _=>simp at this
    subst MW hxs;obtain ⟨v',w2,iF,_,_,adD⟩:=run_append_own (P:=prog) w base 63 63 52 i0 _ 2 32 underlying63 hi hz b8 kP rfl (by decide) (.slice none 0 0) 0 [] (World.ownsRow_nil _ _ _ _) ad 0 QT [] rfl (fun j u hj=>by simp at hj) (fun u hu=>by simp at hu) (by unfold maxLen;omega) (by omega) dx
    have hv:=adD.2 ⟨rfl,rfl⟩;subst hv;have hr:(Builtin.append_ #[63,63] 63 #[.slice none 0 0,.slice (some ad) 0 QT]).run prog w = .ok (.slice a' 0 c') w':=hr;rw [iF] at hr;simp only [Result.ok.injEq,Value.slice.injEq] at hr;obtain ⟨⟨rfl,-,-⟩,-⟩:=hr;exact ⟨fun g il=>by simp [Value.ownBlock] at il,fun g il=>by simp [Value.ownBlock] at il⟩
   ·have hq:=run_append_nil (P:=prog) w 63 63 52 i0 _ underlying63 hi hz ad us.length QT (iI us) (by rw [b8];exact eQ us) ik (by omega) (by omega) (by rw [kP];omega)
    rw [hq] at hr;simp only [Result.ok.injEq,Value.slice.injEq] at hr;obtain ⟨⟨rfl,-,-⟩,rfl⟩:=hr;refine ⟨fun g il=>?_,fun g il=>?_⟩
    ·simp only [Value.ownBlock,Option.some.injEq] at il;right;subst il;simp
    simp only [Value.ownBlock,Option.some.injEq] at il;subst il;refine ⟨_,heap_alloc_new (World.drew _) _,fun u hu=>?_⟩
    simp only [bX,cu] at hu;rcases hu with hu | hu
    ·exact rr us u (by simpa using hu)
    ·exact CF _ u hu
  ·have tn:∀ u ∈ cur.toList,∃ s,u = .string s:=by
    obtain ⟨fJ,h1,h2⟩:=h.2 g0 rfl;rw [oH] at h1;simp only [Option.some.injEq,Obj.cells.injEq,and_true] at h1;subst h1;exact h2
   by_cases eh:xs.length+us.length≤cap
   ·have hq:=run_append_room (P:=prog) w 63 63 52 i0 underlying63 hi g0 xs.length cap cur oH ad us.length QT (iI us) (by rw [b8];exact eQ us) ik (by intro u hu;obtain ⟨s,rfl⟩:=rr us u hu;rfl) eh (by rw [b8,fI,eQ];omega)
    rw [hq] at hr;simp only [Result.ok.injEq,Value.slice.injEq] at hr;obtain ⟨⟨rfl,-,-⟩,rfl⟩:=hr;refine ⟨fun g il=>?_,fun g il=>?_⟩
    ·simp only [Value.ownBlock,Option.some.injEq] at il;left;subst il;rfl
    simp only [Value.ownBlock,Option.some.injEq] at il;subst il;refine ⟨_,setRow_heap _ g0 cur _ _ _ oH,fun u hu=>?_⟩
    simp only [cu] at hu;rcases hu with (hu | hu) | hu
    ·exact tn u (bn hu)
    ·exact rr us u hu
    ·exact tn u (bH hu)
   ·have pz:(iI xs).length=xs.length*i0.size:=by rw [b8];exact eQ xs
    have holds:∀ j u,(iI xs)[j]?=some u→w.cell? ((⟨g0,0,none⟩ : Addr).add j)=some u:=World.ownsRow.cells h.1 (g:=g0) rfl;have hq:=run_append_grow (P:=prog) w 63 63 52 i0 _ underlying63 hi hz ⟨g0,0,none⟩ xs.length cap (iI xs) pz holds ad us.length QT (iI us) (by rw [b8];exact eQ us) ik (by omega) (by omega) (growslice_fits (by omega) (by rw [kP];omega))
    rw [hq] at hr;simp only [Result.ok.injEq,Value.slice.injEq] at hr;obtain ⟨⟨rfl,-,-⟩,rfl⟩:=hr;refine ⟨fun g il=>?_,fun g il=>?_⟩
    ·simp only [Value.ownBlock,Option.some.injEq] at il;right;subst il;simp
    simp only [Value.ownBlock,Option.some.injEq] at il;subst il;refine ⟨_,heap_alloc_new (World.drew _) _,fun u hu=>?_⟩
    simp only [bX,cu] at hu;rcases hu with (hu | hu) | hu
    ·exact rr xs u (by simpa using hu)
    ·exact rr us u (by simpa using hu)
    ·exact CF _ u hu
open Go.Maps
def Te:C.Ch→Int
 | .pg id=>id
 | .nd _=>0
theorem xy(p:C.Ch)(w:World):Calls prog 67 #[p.val] w fun e w'=>e = .returned (.int .i64 (Te p))∧w=w':=by
 cases p with
 | pg id =>
  have a1:=fun W=>Q4 (.int .i64 id) W
  show Calls prog 67 #[.iface 146 (.int .i64 id)] w fun e w'=>e = .returned (.int .i64 id)∧w=w'
  go_enter func67,ntmps67;go_wp2;go_ret;exact ⟨rfl,rfl⟩
 | nd b =>
  have a1:=fun W=>JH (.pointer (some ⟨b,0,none⟩)) W
  show Calls prog 67 #[.iface 152 (.pointer (some ⟨b,0,none⟩))] w fun e w'=>e = .returned (.int .i64 0)∧w=w'
  go_enter func67,ntmps67;go_wp2;go_ret;exact ⟨rfl,rfl⟩
theorem Pl:Keyed prog 3:=int_keyed underlying3
theorem UI(w:World):(zeroValue 208).run prog w = .ok (.agg #[]) w:=by kernel_rfl
theorem acT(i:Nat)(h:i<1048576):keyOf prog 3 (.int .i64 (i:Int))=some (.int .i64 (i:Int)):=keyOf_int_mk underlying3 (WalkArith.wf_i64 (by omega))
def KU(l:List Nat):DataW Unit:=setOf (.agg []) (l.map fun i:Nat=>Lit.int .i64 (i:Int))
structure Met(w:World)(b:Nat)(l:List Nat):Prop where
 ok:∀ i ∈ l,1≤i∧i<1048576
 map:w.ownsMap prog 3 (unitElem (H:=Unit)) b l.length (KU l)
theorem SS(l:List Nat)(j:Nat):Maps.has (KU l) (.int .i64 (j:Int))=decide (j ∈ l):=by
 unfold KU;rw [has_setOf _ _ _ (fun x hx=>by
  obtain ⟨i,hi,rfl⟩:=List.mem_map.1 hx;exact trivial)]
 rw [kB];simp only [List.any_map,List.any_eq_true,decide_eq_true_eq,Function.comp,Lit.sameKey];constructor
 ·rintro ⟨x,hx,he⟩;have h9:(x:Int)=(j:Int):=by simpa using he
  have:x=j:=by omega
  exact this▸hx
 ·intro hj;exact ⟨j,hj,by simp⟩
theorem Met.put{l:List Nat}(i:Nat):(KU l).put (.int .i64 (i:Int)) (.agg [])=KU (l++[i]):=by
 unfold KU;rw [bz,List.map_singleton,setOf_snoc]
theorem Met.same{w w':World}{b:Nat}{l:List Nat}(h:Met w b l)(hb:w'.heap[b]?=w.heap[b]?):Met w' b l:=by
 refine ⟨h.ok,?_⟩;have:=h.map;obtain ⟨es,clock,h1,h2⟩:=this;exact ⟨es,clock,hb.trans h1,h2⟩
theorem Met.lt{w:World}{b:Nat}{l:List Nat}(h:Met w b l):b<w.heap.size:=by
 obtain ⟨es,clock,h1,_⟩:=h.map;exact (Array.getElem?_eq_some_iff.1 h1).1
theorem Met.ne{w:World}{b:Nat}{l:List Nat}(h:Met w b l){g o:Nat}{u:Value}(hc:w.cell? ⟨g,o,none⟩=some u):g≠b:=fun e=>by
 subst e;obtain ⟨es,clock,h1,_⟩:=h.map;simp [World.cell?,h1] at hc
theorem rC(p:C.Ch)(i:Nat)(hi:Te p=(i:Int))(bK:i<1048576)(b:Nat)(l:List Nat)(w:World)(h:Met w b l)(hn:l.length<1099511627776):Calls prog 91 #[.map (some b),p.val] w fun e w'=>e = .returned (.bool (decide (i ∈ l)))∧Met w' b (if i=0 then l else l++[i])∧w.grownBy w' (some b):=by
 have HP:=ab (xy p w);have HK:=ab (acT i bK);have HM:=ab h;have HH:=ab (SS l i);have aF:=h.map;obtain ⟨pt,px,iV⟩:=bP p;rw [hi] at HP;rw [iV] at HP ⊢;clear h iV hi;go_enter func91,ntmps91;go_wp2_with fail;refine HP.out.mono ?_
 rintro e w1 ⟨rfl,rfl⟩;by_cases h0:i=0
 ·subst h0;go_wp2_with (first
   | (at_lookup;refine wpList_lookup_own_unit _ rfl _ _ 166 rfl 3 208 Pl underlying166 (UI _) b l.length _ rfl aF _ _ rfl HK.out ?_;rw [HH.out])
   | go_in)
  go_ret;exact ⟨rfl,⟨HM.out.ok,HM.out.map.alloc _⟩,(World.grownBy_alloc _ _ _)⟩
 ·have yW:¬ (i:Int)=0:=by omega
  go_wp2_with (first
   | (at_lookup;refine wpList_lookup_own_unit _ rfl _ _ 166 rfl 3 208 Pl underlying166 (UI _) b l.length _ rfl aF _ _ rfl HK.out ?_;rw [HH.out])
   | (at_mapUpdate;refine wpList_mapUpdate_own _ rfl _ _ _ 166 rfl 3 208 Pl underlying166 (unitElem (H:=Unit)) b l.length _ rfl (aF.alloc _) (by unfold maxLen;omega) _ _ _ rfl rfl HK.out _ [] unitElem_mk ?_;intro w2 lQ yi)
   | go_in)
  go_ret;refine ⟨rfl,⟨?_,?_⟩,(World.grownBy_alloc _ _ _).trans yi⟩
  ·intro j hj;rcases List.mem_append.1 hj with hj | hj
   ·exact HM.out.ok j hj
   ·have:j=i:=by simpa using hj
    omega
  ·rw [← Met.put,ae];exact lQ
theorem Ja(i:Nat)(l:List Nat):(if i=0 then l else l++[i])=l++cY i:=by
 unfold cY;split <;> simp
end T
end Go.Proofs.YtihmgigfkmofnaaGreatDoor
namespace Go.Proofs.YtihmgigfkmofnaaGreatDoor
namespace T
open Go.RowKit
structure wo(db bp mb:Nat)(w:World)(v:Value)(w':World)(v':Value):Prop where
 size:w.heap.size≤w'.heap.size
 block:∀ k,k<w.heap.size→k≠db→k≠bp→k≠mb→v.ownBlock≠some k→w'.heap[k]?=w.heap[k]?
 own:∀ g,v'.ownBlock=some g→v.ownBlock=some g∨w.heap.size≤g
theorem wo.trans{db bp mb:Nat}{w w1 w2:World}{v v1 v2:Value}(h:wo db bp mb w v w1 v1)(k:wo db bp mb w1 v1 w2 v2):wo db bp mb w v w2 v2:=by
 refine ⟨ar h.size k.size,fun i hi h1 h2 hm h3=>?_,fun g hg=>?_⟩
 ·rw [k.block i (aq hi h.size) h1 h2 hm (fun e=>by
   rcases h.own i e with e' | e'
   ·exact h3 e'
   ·omega)]
  exact h.block i hi h1 h2 hm h3
 ·rcases k.own g hg with e | e
  ·exact h.own g e
  ·exact .inr (ar h.size e)
theorem wo.mv{db bp mb:Nat}{F:Nat→Prop}{w w':World}(v:Value)(h:Mv db F w w'):wo db bp mb w v w' v:=⟨h.size,fun k hk h1 _ _ _=>h.one.block k hk h1,fun _ h=>.inl h⟩
theorem wo.below{db bp mb:Nat}{w w':World}(v:Value)(h:Below w.heap.size w w'):wo db bp mb w v w' v:=⟨h.size,fun k hk _ _ _ _=>h.block k hk,fun _ h=>.inl h⟩
structure Br(w:World)(b:Nat)(n:SN)(pv lv cv:Value):Prop where
 row:B.au w b #[pv,.int .i64 n.f,lv,cv] 155
 bh:B.di w lv n.lk
 kids:C.di w cv n.us
theorem dQ.br{w:World}{b:Nat}{n:SN}{pv lv cv:Value}(h:dQ w b n pv lv cv):Br w b n pv lv cv:=⟨h.row,h.bh,h.kids⟩
theorem Br.gth{base:Nat}{A:Nat→Addr}{db bp mb:Nat}{F:Nat→Prop}{d:S.V.bw}{w w':World}{v v':Value}{acc:List Pr}{lo:Nat}{T:TypeId}{b:Nat}{n:SN}{pv lv cv:Value}(h:Br w b n pv lv cv)(hg:wo db bp mb w v w' v')(hv:Dv base A db F d w)(hp:B.au w bp #[v] T)(hT:T≠155)(hs:yL w lo v acc){M:List Nat}(ZU:Met w mb M):Br w' b n pv lv cv:=by
 have lX:∀ {g o:Nat} {u:Value},w.cell? ⟨g,o,none⟩=some u→g≠mb:=fun {g o u} hc e=>by
  subst e;obtain ⟨es,clock,h1,_⟩:=ZU.map;simp [World.cell?,h1] at hc
 obtain ⟨d',_,hd⟩:=hv.dev;obtain ⟨va,vc,kq⟩:=hs.1.form;have M3:∀ {g o:Nat} {u:Value},w.cell? ⟨g,o,none⟩=some u→(∀ a n c,u≠.slice a n c)→g≠bp:=fun {g o u} hc hu e=>by
  subst e;unfold B.au at hp;rw [cell_of_row w g o _ _ _ hp] at hc;have ho:o<1:=by have:=(Array.getElem?_eq_some_iff.1 hc).1;simpa using this
  have ho:o=0:=by omega
  subst ho;cases hc;exact hu _ _ _ kq
 have aF:∀ {g o:Nat} {u:Value},w.cell? ⟨g,o,none⟩=some u→(∀ s,u≠.string s)→v.ownBlock≠some g:=fun {g o u} hc hu e=>by
  obtain ⟨cur,h1,h2⟩:=hs.2 g e;rw [cell_of_row w g o cur _ _ h1] at hc;obtain ⟨h3,h4⟩:=Array.getElem?_eq_some_iff.1 hc;obtain ⟨s,hs⟩:=h2 u (by rw [← h4];exact gH h3)
  exact hu s hs
 refine ⟨?_,?_,?_⟩
 ·refine (hg.block b h.row.lt ?_ ?_ (lX (h.row.cell 0 (by simp))) ?_).trans h.row
  ·intro e;subst e;obtain ⟨mb,nb,Kz,av,Dn,hb⟩:=hd;have h1:=h.row;unfold B.au at h1;rw [hb.dF] at h1;simp at h1
  ·intro e;subst e;have h1:=h.row;unfold B.au at h1 hp;rw [hp] at h1;simp only [Option.some.injEq,Obj.cells.injEq] at h1;exact hT h1.2.1
  ·intro e;obtain ⟨cur,h1,h2⟩:=hs.2 b e;have h3:=h.row;unfold B.au at h3;rw [h1] at h3;simp at h3
 ·obtain ⟨a,cap,rfl,hle,hn,hc⟩:=h.bh;refine ⟨a,cap,rfl,hle,hn,fun j hj=>?_⟩
  obtain ⟨g,o,ha,h1,h2⟩:=hc j hj;have he:=hg.block g (World.block_lt_of_cell? w _ h1) (fun e=>by subst e;exact (kU hd h1).1 _ rfl) (M3 h1 (fun _ _ _ e=>by cases e)) (lX h1) (aF h2 (fun _ e=>by cases e))
  exact ⟨g,o,ha,bL he h1,bL he h2⟩
 ·obtain ⟨a,cap,rfl,hle,hn,hc⟩:=h.kids;refine ⟨a,cap,rfl,hle,hn,fun j u hj=>?_⟩
  obtain ⟨g,o,ha,h1⟩:=hc j u hj;obtain ⟨p,_,rfl⟩ : ∃ p ∈ n.us,p.val=u:=by
   have:=cG hj;simpa [C.bh] using this
  obtain ⟨t,x,X2⟩:=bP p;have Jw:=h1;rw [X2] at Jw;have he:=hg.block g (World.block_lt_of_cell? w _ h1) (fun e=>by subst e;exact (kU hd Jw).2 _ _ rfl) (M3 Jw (fun _ _ _ e=>by cases e)) (lX h1) (aF Jw (fun _ e=>by cases e))
  exact ⟨g,o,ha,bL he h1⟩
end T
end Go.Proofs.YtihmgigfkmofnaaGreatDoor
