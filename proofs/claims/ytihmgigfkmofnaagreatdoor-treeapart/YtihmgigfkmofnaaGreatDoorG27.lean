import Derived.Test.YtihmgigfkmofnaaGreatDoorG26
import Derived.Maps.OwnOps
set_option maxHeartbeats 4000000
set_option maxRecDepth 100000
open Go.Proofs.Tryz
namespace Go.Proofs.YtihmgigfkmofnaaGreatDoor
namespace T
open Go.RowKit
def valOf(l:List Pr)(key:ByteArray):ByteArray:=if h:bf l key=true then (l[aN l key]'(gw h)).2 else ⟨#[]⟩
theorem JL{X Y Z:List Pr}{key:ByteArray}(hX:∀ p ∈ X,cR p.1 key=true)(hZ:∀ p ∈ Z,cR key p.1=true):valOf (X++(Y++Z)) key=valOf Y key:=by
 unfold valOf;have hf:=mV (Y:=Y) hX hZ;by_cases h:bf Y key=true
 ·rw [dif_pos h,dif_pos (by rw [hf];exact h)]
  have h1:=kM (Y:=Y) hX hZ;have h2:=Qw (X:=X) (Z:=Z) (gw h);have h3:(X++(Y++Z))[aN (X++(Y++Z)) key]?=Y[aN Y key]?:=by rw [h1];exact h2
  rw [af (gw (by rw [hf];exact h)),af (gw h)] at h3
  rw [Option.some.inj h3]
 ·rw [dif_neg h,dif_neg (by rw [hf];exact h)]
section
variable {base:Nat} {A:Nat→Addr} {db:Nat} {F:Nat→Prop} {d:S.V.bq} {W0:World} {r:ch}
theorem LO{w:World}{tb:Nat}(key:ByteArray)(hc:Ts base A db F d W0 w tb r)(hn:(aB r).length≤4611686018427387904)(cL:key.size≤140737488355328):Calls prog 16 #[.pointer (some ⟨tb,0,none⟩),.string key] w fun e w'=>(cO (key,⟨#[]⟩)=true∧e = .returned (.tuple #[.bool (bf (aB r) key),.nilIface])∧((bf (aB r) key=true∧∃ r',tu key (fun l=>fQ l key) r r'∧Ts base A db F d W0 w' tb r')∨(bf (aB r) key=false∧Ts base A db F d W0 w' tb r)))∨(¬ cO (key,⟨#[]⟩)=true∧e = .returned (.tuple #[.bool false,.iface 360 (.pointer (some (A 0)))])∧Ts base A db F d W0 w' tb r):=by
 have AO:=ab (qh A key ⟨#[]⟩ w cL (by simp [ByteArray.size]) hc.dv.zf)
 have HC:=ab hc;have HN:=ab hn;clear hc hn;by_cases hm:cO (key,⟨#[]⟩)=true
 ·rw [if_pos hm] at AO;have HM:=ab hm;clear cL hm;go_enter func16,ntmps16;go_wp2_with fail;refine AO.out.mono ?_
  rintro e w1 ⟨rfl,aL⟩;have QI:=ab (nR key HC.out HN.out aL);clear aL AO;go_wp2_with fail;refine QI.out.mono ?_
  rintro e w2 ⟨GC,km,lq⟩;have tD:=ab km;have yp:=ab lq;have E0:=ab (HC.out.mv lq km);obtain ⟨rv,ht,VT⟩:=E0.out.tr;have AM:=ab ht;have HRF:=ab VT;rcases GC with ⟨Uu,rfl⟩ | ⟨x,ss,s,a,c,pv,lv,cv,t0,VS,rfl,ho,jf,hs,j6,b7,hl,Q5⟩
  ·subst Uu;clear km lq QI ht VT;go_wp2_with fail;refine (gV w2).mono ?_
   rintro e w2' ⟨rfl,rfl⟩;go_wp2_with fail;refine (Ab (.slice none 0 0) [] key w2 (by simp) (gG.nil _)).mono ?_
   rintro e w5 ⟨u,rfl,hu,mj⟩;rw [show bf [] key=false from rfl]
   have Ce:=ab (E0.out.below mj);obtain ⟨ua,uc,GF⟩:=hu.form;subst GF;clear hu mj;go_wp2;go_ret2;exact .inl ⟨HM.out,rfl,.inr ⟨rfl,Ce.out⟩⟩
  ·subst VS;obtain ⟨X,Z,iH,hX,hZ⟩:=FD x.1 HC.out.ok.1 Q5;have ZH:bf (aB (some x)) key=bf s.n.ps key:=by
    show bf (flat x.1 x.2) key=_
    rw [iH,mV hX hZ,j6]
   have Jz:=ab ZH;have Ry:Hid (rv = .nilIface∨∃ t x,rv = .iface t x):=HRF.out.form;have HO:=ab ho;have HW:=ab jf;have sr:=ab j6;have gD:=ab b7;have HL:=ab hl;have vH:=ab (ja a ss.length c (ss.map gz.lk) s.lk s.n pv lv cv w2 (by rw [az]) (by omega) ho.1.at hs)
   have Hu:=ab hs.iy;have HPM:=ab hs.fine.1;obtain ⟨m,B5⟩ : ∃ m,m=ss.length:=⟨_,rfl⟩;have Fq:=ab B5;rw [← B5] at vH HO HL ⊢;obtain ⟨xa,xc,Bo⟩:=hs.iy.form;subst Bo;clear ho jf hs j6 b7 hl km lq QI B5 ht VT Q5 iH hX hZ ZH;go_wp2_with fail;refine vH.out.mono ?_
   rintro e w2' ⟨rfl,rfl⟩;go_wp2_with fail;refine (Ab _ s.n.ps key w2 (by have:=iw s.n.ps;have:=gD.out;rw [← sr.out] at this;omega) Hu.out).mono ?_
   rintro e w5 ⟨u,rfl,hu,mj⟩;have iW:=ab mj;have xK:=rR (s:=s) (t0:=t0) key (fun l=>fQ l key) (fit_drop key) HC.out (yp.out.trans (Mv.of iW.out)) (tD.out.below iW.out) (AM.out.below iW.out) Ry.out (by have:=HL.out;have:=Fq.out;omega) (by rw [← Fq.out];exact HO.out.below iW.out) (HW.out.cC (cP.of iW.out)) gD.out (by rw [← sr.out];exact HPM.out) (by rw [← sr.out];exact hu.at)
   rw [← Fq.out] at xK;have RF:=ab xK;have Ce:=ab (E0.out.below mj);obtain ⟨ua,uc,GF⟩:=hu.form;subst GF;clear hu mj xK;cases Ec:bf s.n.ps key with
   | false =>
    have HF:Hid (bf (aB (some x)) key=false):=Jz.out.trans Ec;go_wp2;go_ret2;exact .inl ⟨HM.out,by rw [HF.out];rfl,.inr ⟨HF.out,Ce.out⟩⟩
   | true =>
    have HF:Hid (bf (aB (some x)) key=true):=Jz.out.trans Ec;go_wp2_with fail;refine RF.out.mono ?_
    rintro e w6 ⟨rfl,yU⟩;have aec:=ab yU;clear yU RF;go_wp2;go_ret2;exact .inl ⟨HM.out,by rw [HF.out];rfl,.inl ⟨HF.out,aec.out⟩⟩
 ·rw [if_neg hm] at AO;have HM:=ab hm;clear cL hm;go_enter func16,ntmps16;go_wp2_with fail;refine AO.out.mono ?_
  rintro e w1 ⟨rfl,aL⟩;have Ce:=ab (HC.out.below aL);clear aL AO;go_wp2;go_ret2;exact .inr ⟨HM.out,rfl,Ce.out⟩
theorem Ln{w:World}{tb:Nat}(key:ByteArray)(hc:Ts base A db F d W0 w tb r)(hn:(aB r).length≤4611686018427387904)(cL:key.size≤140737488355328):Calls prog 17 #[.pointer (some ⟨tb,0,none⟩),.string key] w fun e w'=>e = .returned (if cO (key,⟨#[]⟩)=true then .tuple #[.string (valOf (aB r) key),.bool (bf (aB r) key),.nilIface] else .tuple #[.string ⟨#[]⟩,.bool false,.iface 360 (.pointer (some (A 0)))])∧Ts base A db F d W0 w' tb r:=by
 have AO:=ab (qh A key ⟨#[]⟩ w cL (by simp [ByteArray.size]) hc.dv.zf)
 have HC:=ab hc;have HN:=ab hn;clear hc hn;by_cases hm:cO (key,⟨#[]⟩)=true
 ·rw [if_pos hm] at AO;rw [if_pos hm];clear cL hm;go_enter func17,ntmps17;go_wp2_with fail;refine AO.out.mono ?_
  rintro e w1 ⟨rfl,aL⟩;have QI:=ab (nR key HC.out HN.out aL);clear aL AO;go_wp2_with fail;refine QI.out.mono ?_
  rintro e w2 ⟨GC,km,lq⟩;have E0:=ab (HC.out.mv lq km);rcases GC with ⟨Uu,rfl⟩ | ⟨x,ss,s,a,c,pv,lv,cv,t0,VS,rfl,ho,jf,hs,j6,b7,hl,Q5⟩
  ·subst Uu;clear km lq QI;go_wp2_with fail;refine (gV w2).mono ?_
   rintro e w2' ⟨rfl,rfl⟩;go_wp2_with fail;refine (iQ (.slice none 0 0) [] key w2 (by simp) (gG.nil _)).mono ?_
   rintro e w5 ⟨rfl,mj⟩;rw [show bf [] key=false from rfl,show aN [] key=0 from rfl]
   have Ce:=ab (E0.out.below mj);clear mj;go_wp2;go_ret3;exact ⟨rfl,Ce.out⟩
  ·subst VS;obtain ⟨X,Z,iH,hX,hZ⟩:=FD x.1 HC.out.ok.1 Q5;have ZH:bf (aB (some x)) key=bf s.n.ps key:=by
    show bf (flat x.1 x.2) key=_
    rw [iH,mV hX hZ,j6]
   have se:valOf (aB (some x)) key=valOf s.n.ps key:=by
    show valOf (flat x.1 x.2) key=_
    rw [iH,JL hX hZ,j6]
   have Jz:=ab ZH;have HVL:=ab se;have sr:=ab j6;have gD:=ab b7;have vH:=ab (ja a ss.length c (ss.map gz.lk) s.lk s.n pv lv cv w2 (by rw [az]) (by omega) ho.1.at hs)
   have Hu:=ab hs.iy;obtain ⟨m,B5⟩ : ∃ m,m=ss.length:=⟨_,rfl⟩;rw [← B5] at vH ⊢;obtain ⟨xa,xc,Bo⟩:=hs.iy.form;subst Bo;clear ho jf hs j6 b7 hl km lq QI B5 Q5 iH hX hZ ZH se;go_wp2_with fail;refine vH.out.mono ?_
   rintro e w2' ⟨rfl,rfl⟩;go_wp2_with fail;refine (iQ _ s.n.ps key w2 (by have:=iw s.n.ps;have:=gD.out;rw [← sr.out] at this;omega) Hu.out).mono ?_
   rintro e w5 ⟨rfl,mj⟩;have Ce:=ab (E0.out.below mj);have aeh:=ab (Hu.out.below mj);clear mj;cases Ec:bf s.n.ps key with
   | false =>
    have HF:Hid (bf (aB (some x)) key=false):=Jz.out.trans Ec;have HVE:Hid (valOf (aB (some x)) key=⟨#[]⟩):=HVL.out.trans (by unfold valOf;rw [dif_neg (by rw [Ec];simp)])
    go_wp2;go_ret3;exact ⟨by rw [HF.out,HVE.out];rfl,Ce.out⟩
   | true =>
    have bN:=gw Ec;have HF:Hid (bf (aB (some x)) key=true):=Jz.out.trans Ec;have SE:valOf (aB (some x)) key=(s.n.ps[aN s.n.ps key]).2:=HVL.out.trans (by unfold valOf;rw [dif_pos Ec])
    obtain ⟨_,_,kL,_,_,bh⟩:=aeh.out;simp only [Value.slice.injEq] at kL;obtain ⟨rfl,-,rfl⟩:=kL;obtain ⟨g,o,rfl,c1,c2⟩:=bh (aN s.n.ps key) bN;have Q8:(0:Int)≤(aN s.n.ps key:Int):=by omega
    have O5:(aN s.n.ps key:Int)<(s.n.ps.length:Int):=by omega
    generalize (s.n.ps[aN s.n.ps key]).2=val at c2 SE;have HVE:=ab SE;clear SE;generalize aN s.n.ps key=fq at *;clear bh bN c1;go_wp2;go_ret3;exact ⟨by rw [HF.out,HVE.out];rfl,Ce.out⟩
 ·rw [if_neg hm] at AO;rw [if_neg hm];clear cL hm;go_enter func17,ntmps17;go_wp2_with fail;refine AO.out.mono ?_
  rintro e w1 ⟨rfl,aL⟩;have Ce:=ab (HC.out.below aL);clear aL AO;go_wp2;go_ret3;exact ⟨rfl,Ce.out⟩
end
theorem R9{w:World}{a:Option Addr}{n m k cap:Nat}{l:List Pr}(h:gG w (.slice a n cap) l)(hm:m≤k)(hk:k≤n):∃ a',gG w (.slice a' (k - m) (cap - m)) ((l.take k).drop m)∧∀ w',(Instr.sliceAt 63 (.slice a n cap) (some (.int .i64 (m:Int))) (some (.int .i64 (k:Int))) none).run prog w' = .ok (.slice a' (k - m) (cap - m)) w':=by
 have h:=h.take hk;obtain ⟨a',eS,he,hle,hn,hc⟩:=h;simp only [Value.slice.injEq] at he;obtain ⟨rfl,mf,rfl⟩:=he;have mf:=mf.symm;refine ⟨if cap=m then a else a.map (·.add (m*2)),⟨_,_,by rw [ao,mf],by rw [ao];omega,fun ha=>?_,fun j hj=>?_⟩,fun w'=>?_⟩
 ·split at ha
  ·omega
  ·cases a with
   | none=>have:=hn rfl;omega
   | some x=>cases ha
 ·rw [ao] at hj;obtain ⟨g,o,ha,h1,h2⟩:=hc (m+j) (by omega)
  subst ha;refine ⟨g,o+m*2,?_,?_,?_⟩
  ·rw [if_neg (by omega)];simp [bz]
  ·rw [cW,show o+m*2+j*2=o+(m+j)*2 by omega];exact h1
  ·rw [cW,show o+m*2+j*2+1=o+(m+j)*2+1 by omega];exact h2
 ·rw [run_sliceAt_slice (h:=underlying63),run_slice_lh (ht:=underlying63) (h0:=by omega) (h1:=by omega) (h2:=by omega)]
  have hz:(sizeOf (prog.elem 63)).run prog w' = .ok 2 w':=by kernel_rfl
  rw [hz];simp [Result.andThen,sliced]
def rP(l:List Pr)(en:ByteArray):Nat:=if en=⟨#[]⟩ then l.length else aN l en
def dX(l:List Pr)(fr en:ByteArray):List Pr:=(l.take (max (aN l fr) (rP l en))).drop (aN l fr)
theorem Jj(l:List Pr)(en:ByteArray):rP l en≤l.length:=by
 unfold rP;split
 ·exact aj _
 ·exact cD l en
theorem zB{s:ByteArray}(h:¬ s=⟨#[]⟩):s.toList.isEmpty=false:=by
 cases hs:s.toList with
 | cons _ _=>rfl
 | nil =>
  have h1:=oH s ⟨#[]⟩;have h0:(⟨#[]⟩ : ByteArray).toList=[]:=by rw [ByteArray.toList_eq]
  rw [hs,h0,decide_eq_false h] at h1;simp at h1
theorem FA(v:Value)(l:List Pr)(fr en:ByteArray)(w:World)(hm:l.length≤140737488355328)(hr:gG w v l):Calls prog 94 #[v,.string fr,.string en] w fun e w'=>∃ a c,e = .returned (.slice a (dX l fr en).length c)∧gG w' (.slice a (dX l fr en).length c) (dX l fr en)∧Below w.heap.size w w':=by
 have HF:=ab (iQ v l fr w hm hr);have HM:=ab hm;have HR:=ab hr;obtain ⟨a,cap,hv⟩:=hr.form;subst hv;have YX:=cD l fr;have hel:=Jj l en;obtain ⟨q,hq⟩ : ∃ q,q=aN l fr:=⟨_,rfl⟩;obtain ⟨E,hE⟩ : ∃ E,E=rP l en:=⟨_,rfl⟩;rw [← hq] at HF YX;rw [← hE] at hel;obtain ⟨K,hK⟩ : ∃ K,K=max q E:=⟨_,rfl⟩;obtain ⟨a2,iG,qq⟩:=R9 hr (m:=q) (k:=K) (by omega) (by omega)
 have hW:dX l fr en=(l.take K).drop q:=by unfold dX;rw [← hq,← hE,hK]
 have hWl:(dX l fr en).length=K - q:=by
  rw [hW,ao,ag];omega
 have HW:=ab hW;have HWl:=ab hWl;have oL:=ab iG;have HE:=ab hE;have Uy:max (q:Int) (E:Int)=(K:Int):=by omega
 clear hr iG hq hE hW hWl hm;by_cases ht:en=⟨#[]⟩
 ·have HEE:Hid (E=l.length):=by show E=_;rw [HE.out];unfold rP;rw [if_pos ht]
  subst ht;obtain ⟨m,mT⟩ : ∃ m,m=l.length:=⟨_,rfl⟩;have hmE:E=m:=by rw [mT];exact HEE.out
  subst hmE;have Rz:=ab mT;rw [← mT] at HF HR qq YX ⊢;clear mT;clear hK;go_enter func94,ntmps94;go_wp2_with fail;refine HF.out.mono ?_
  rintro e w1 ⟨rfl,aL⟩;have bP:=ab aL;clear aL HF;go_wp2;go_ret;exact ⟨a2,cap - q,by rw [HWl.out];rfl,by rw [HWl.out,HW.out];exact oL.out.below bP.out,bP.out⟩
 ·have HEE:Hid (E=aN l en):=by show E=_;rw [HE.out];unfold rP;rw [if_neg ht]
  have dE:=zB ht;clear hK ht;go_enter func94,ntmps94;go_wp2_with fail;refine HF.out.mono ?_
  rintro e w1 ⟨rfl,aL⟩;have bP:=ab aL;have Hz:=ab (iQ _ l en w1 HM.out (HR.out.below aL));rw [← HEE.out] at Hz;clear aL HF;go_wp2_with fail;refine Hz.out.mono ?_
  rintro e w2 ⟨rfl,aU⟩;have bH:=ab (Below.next bP.out aU);clear aU Hz;go_wp2;go_ret;exact ⟨a2,cap - q,by rw [HWl.out];rfl,by rw [HWl.out,HW.out];exact oL.out.below bH.out,bH.out⟩
def Ai(lk:List B.Lk)(i:Nat)(en:ByteArray):Bool :=
 match i with
 | 0=>false
 | j+1=>if en=⟨#[]⟩ then false else match lk[j]? with | some p=>!cR p.1 en | none=>false
theorem EO(f:Int)(lv:Value)(lk:List B.Lk)(en:ByteArray)(w:World)(hl:B.di w lv lk):Calls prog 95 #[.agg #[.int .i64 f,lv],.int .i64 0,.string en] w fun e w'=>e = .returned (.bool false)∧Below w.heap.size w w':=by
 have q0:=ai w (.cells #[.int .i64 f,lv] 150);have HQ:=ab q0;obtain ⟨la,lc,pD⟩:=hl.form;subst pD;clear q0 hl;go_enter func95,ntmps95;go_wp2;go_ret;exact ⟨rfl,HQ.out⟩
theorem BO(f:Int)(lv:Value)(lk:List B.Lk)(i:Nat)(w:World)(hl:B.di w lv lk):Calls prog 95 #[.agg #[.int .i64 f,lv],.int .i64 (i:Int),.string ⟨#[]⟩] w fun e w'=>e = .returned (.bool false)∧Below w.heap.size w w':=by
 have q0:=ai w (.cells #[.int .i64 f,lv] 150);have HQ:=ab q0;obtain ⟨la,lc,pD⟩:=hl.form;subst pD;clear q0 hl;by_cases h0:(0:Int)<(i:Int)
 ·go_enter func95,ntmps95;go_wp2;go_ret;exact ⟨rfl,HQ.out⟩
 ·go_enter func95,ntmps95;go_wp2;go_ret;exact ⟨rfl,HQ.out⟩
theorem EP(f:Int)(lv:Value)(lk:List B.Lk)(j:Nat)(en:ByteArray)(w:World)(hl:B.di w lv lk)(hj:j<lk.length)(hm:lk.length≤4000)(Xx:¬ en=⟨#[]⟩):Calls prog 95 #[.agg #[.int .i64 f,lv],.int .i64 ((j:Int)+1),.string en] w fun e w'=>e = .returned (.bool (!cR lk[j].1 en))∧Below w.heap.size w w':=by
 have q0:=ai w (.cells #[.int .i64 f,lv] 150);have x0:=B.au.new w #[.int .i64 f,lv] 150;have k1:=x0.c1;have K4:=hl.below q0;obtain ⟨la,lc,pD⟩:=hl.form;subst pD;obtain ⟨_,_,kL,_,_,hc⟩:=K4;simp only [Value.slice.injEq] at kL;obtain ⟨rfl,-,rfl⟩:=kL;obtain ⟨g,o,rfl,c1,-⟩:=hc j hj;have HQ:=ab q0;have dE:=zB Xx;have h0:(0:Int)≤(j:Int):=by omega
 have h1:(j:Int)<(lk.length:Int):=by omega
 have h2:((j:Int)+1) - 1=(j:Int):=by omega
 generalize (lk[j]).1=kk at c1 ⊢;clear q0 hl hc x0 Xx hj;go_enter func95,ntmps95;go_wp2;go_ret;exact ⟨rfl,HQ.out⟩
theorem Bm(f:Int)(lv:Value)(lk:List B.Lk)(i:Nat)(en:ByteArray)(w:World)(hl:B.di w lv lk)(hi:i≤lk.length)(hm:lk.length≤4000):Calls prog 95 #[.agg #[.int .i64 f,lv],.int .i64 (i:Int),.string en] w fun e w'=>e = .returned (.bool (Ai lk i en))∧Below w.heap.size w w':=by
 by_cases Xx:en=⟨#[]⟩
 ·subst Xx;have e:Ai lk i ⟨#[]⟩=false:=by
   unfold Ai;cases i with
   | zero=>rfl
   | succ j=>simp
  rw [e];exact BO f lv lk i w hl
 ·cases i with
  | zero=>exact EO f lv lk en w hl
  | succ j =>
   have e:Ai lk (j+1) en=!cR lk[j].1 en:=by
    unfold Ai;simp only;rw [if_neg Xx,af (by omega)]
   rw [e,show ((j+1:Nat):Int)=(j:Int)+1 by omega]
   exact EP f lv lk j en w hl (by omega) hm Xx
theorem Iy:∀ {l:List Pr},gP l→l.Pairwise fun a b=>cR a.1 b.1=true
 | [],_=>List.Pairwise.nil
 | p::l,h=>by
  have:=qd (a:=[p]) (b:=l) h;exact List.Pairwise.cons (fun q hq=>this.2.2 p (by simp) q hq) (Iy this.2.1)
theorem uo{α:Type}{R:α→α→Prop}{Q:α→Bool}(hR:∀ a b,R a b→Q a=true→Q b=true):∀ {l:List α},l.Pairwise R→l.filter Q=l.drop (l.findIdx Q)
 | [],_=>rfl
 | a::l,h=>by
  cases h with
  | cons h1 h2 =>
   cases hq:Q a
   ·rw [List.filter_cons_of_neg (by rw [hq];simp),lh,hq,uo hR h2];simp
   ·rw [List.filter_cons_of_pos hq,lh,hq];simp only [cond_true,List.drop_zero];rw [List.filter_eq_self.2 (fun b hb=>hR a b (h1 b hb) hq)]
theorem uj{α:Type}{R:α→α→Prop}{P:α→Bool}(hR:∀ a b,R a b→P b=true→P a=true):∀ {l:List α},l.Pairwise R→l.filter P=l.take (l.findIdx fun a=>!P a)
 | [],_=>rfl
 | a::l,h=>by
  cases h with
  | cons h1 h2 =>
   cases hp:P a
   ·rw [List.filter_cons_of_neg (by rw [hp];simp),lh,hp]
    simp only [Bool.not_false,cond_true,List.take_zero];rw [List.filter_eq_nil_iff.2 (fun b hb Fh=>by rw [hR a b (h1 b hb) Fh] at hp;cases hp)]
   ·rw [List.filter_cons_of_pos hp,lh,hp,uj hR h2];simp
def je(fr en:ByteArray)(p:Pr):Bool:=!cR p.1 fr && (decide (en=⟨#[]⟩) || cR p.1 en)
theorem JI{l:List Pr}(hr:gP l)(fr en:ByteArray):dX l fr en=l.filter (je fr en):=by
 have hp:=Iy hr;have e1:l.filter (fun p=>decide (en=⟨#[]⟩) || cR p.1 en)=l.take (rP l en):=by
  unfold rP;split
  ·rename_i h
   rw [List.take_length,List.filter_eq_self.2 (fun p _=>by simp [h])]
  ·rename_i h
   have:=uj (P:=fun p:Pr=>cR p.1 en) (fun a b Cb hb=>dh Cb hb) hp
   simp only [decide_eq_false h,Bool.false_or];rw [this];rfl
 have e2:l.filter (je fr en)=(l.take (rP l en)).filter (fun p=>!cR p.1 fr):=by
  rw [← e1,List.filter_filter];rfl
 have Xs:(l.take (rP l en)).Pairwise fun a b=>cR a.1 b.1=true:=hp.sublist (List.take_sublist _ _)
 rw [e2,uo (Q:=fun p:Pr=>!cR p.1 fr) (fun a b Cb ha=>by
  cases h:cR b.1 fr
  ·rfl
  ·rw [dh Cb h] at ha;simp at ha) Xs]
 unfold dX;have hE:=Jj l en;have hq:(l.take (rP l en)).findIdx (fun p=>!cR p.1 fr)=min (aN l fr) (rP l en):=by
  rw [List.findIdx_take];show min (rP l en) (aN l fr)=_
  omega
 rw [hq];by_cases h:aN l fr≤rP l en
 ·rw [Nat.max_eq_right h,a7 h]
 ·rw [Nat.max_eq_left (by omega),Nat.min_eq_right (by omega)]
  rw [dy (by rw [ag];omega),dy (by rw [ag];omega)]
def ye(en:ByteArray):Option ByteArray→Bool
 | none=>false
 | some k=>!decide (en=⟨#[]⟩) && !cR k en
def lE{α:Type}(g:α→List Pr→List Pr × Bool)(en:ByteArray):Option ByteArray→List ByteArray→List α→List Pr→List Pr × Bool
 | _,_,[],acc=>(acc,true)
 | ah,ks,c::cs,acc=>if ye en ah=true then (acc,false) else if (g c acc).2=true then lE g en ks.head? ks.tail cs (g c acc).1 else ((g c acc).1,false)
def fo(fr en:ByteArray)(lim:Nat):(h:Nat)→Nd h→List Pr→List Pr × Bool
 | 0,t,acc=>(acc++(dX t.2 fr en).take (lim - acc.length),decide ((acc++(dX t.2 fr en).take (lim - acc.length)).length<lim))
 | h+1,t,acc=>lE (fo fr en lim h) en (iV none (t.2.1.take (t.2.1.findIdx fun k=>cR fr k))) (t.2.1.drop (t.2.1.findIdx fun k=>cR fr k)) (t.2.2.drop (t.2.1.findIdx fun k=>cR fr k)) acc
def Nx(en:ByteArray)(hi:Option ByteArray):Prop:=∀ u,hi=some u→¬ en=⟨#[]⟩∧cR u en=false
theorem Ir{en k:ByteArray}{hi:Option ByteArray}(hs:¬ en=⟨#[]⟩∧cR k en=false)(hk:ltB k hi):Nx en hi:=fun u hu=>⟨hs.1,by
 cases h:cR u en
 ·rfl
 ·rw [dh (hk u hu) h] at hs;cases hs.2⟩
theorem Iz{fr en:ByteArray}{l:List Pr}{lo:Option ByteArray}(hl:∀ p ∈ l,geB lo p.1)(k:ByteArray)(hk:lo=some k)(hs:¬ en=⟨#[]⟩∧cR k en=false):l.filter (je fr en)=[] :=
 List.filter_eq_nil_iff.2 fun p hp h=>by
  have h1:=hl p hp k hk;unfold je at h;rw [decide_eq_false hs.1,Bool.false_or,cz] at h;have h2:cR k en=true:=by
   cases SZ:cR k p.1
   ·have:=ma SZ h1;rw [this];exact h.2
   ·exact dh SZ h.2
  rw [h2] at hs;cases hs.2
def H9(fr en:ByteArray)(lim:Nat)(l acc:List Pr)(hi:Option ByteArray)(r:List Pr × Bool):Prop :=
 r.1=acc++(l.filter (je fr en)).take (lim - acc.length)∧(r.2=false→lim≤r.1.length∨Nx en hi)
theorem Nk{α:Type}(n:Nat)(X Y:List α):(X++Y).take n=X.take n++Y.take (n - (X.take n).length):=by
 rw [List.take_append,ag];congr 2
 omega
theorem Ej{fr en:ByteArray}{lim h:Nat}(ih:∀ {t:Nd h} {lo hi:Option ByteArray} {acc:List Pr},kO h t lo hi→acc.length≤lim→H9 fr en lim (flat h t) acc hi (fo fr en lim h t acc)):∀ (cs:List (Nd h)) {ks:List ByteArray} {lo hi ah:Option ByteArray} {acc:List Pr},gR (kO h) lo hi ks cs→(∀ k,ah=some k→lo=some k)→acc.length≤lim→H9 fr en lim (cs.flatMap (flat h)) acc hi (lE (fo fr en lim h) en ah ks cs acc)
 | [],ks,_,_,_,_,ho,_,_=>by cases ks <;> simp [gR] at ho
 | c::cs,ks,lo,hi,ah,acc,ho,hah,hacc=>by
  have Rn:=wV (F:=flat h) (fun _ _ _ hc=>pN h hc.1) ho
  unfold lE;by_cases hb:ye en ah=true
  ·rw [if_pos hb];cases ah with
   | none=>simp [ye] at hb
   | some k =>
    have o8:=hah k rfl;have hs:¬ en=⟨#[]⟩∧cR k en=false:=by
     simp only [ye,cz,Bool.not_eq_true',decide_eq_false_iff_not] at hb;exact hb
    refine ⟨by rw [Iz (fun p hp=>(Rn p hp).1) k o8 hs];simp,fun _=>.inr ?_⟩
    obtain ⟨p,hp⟩ : ∃ p,p ∈ flat h c:=by
     have:=rj h (rl ho);have h1:1≤2 ^ h:=Nat.one_le_two_pow;exact List.exists_mem_of_length_pos (by omega)
    have hpi:=Rn p (by rw [List.flatMap_cons];exact dR _ hp)
    exact Ir hs fun u hu=>Ui (hpi.1 k o8) (hpi.2 u hu)
  ·rw [if_neg hb];cases ks with
   | nil =>
    cases cs with
    | cons _ _=>simp [gR] at ho
    | nil =>
     have hc:kO h c lo hi:=ho;obtain ⟨g1,g2⟩:=ih (acc:=acc) hc hacc;have e:([c] : List (Nd h)).flatMap (flat h)=flat h c:=by simp
     rw [e];by_cases hr:(fo fr en lim h c acc).2=true
     ·rw [if_pos hr];refine ⟨?_,fun h=>?_⟩
      ·show (fo fr en lim h c acc).1=_
       exact g1
      ·exact absurd h (by show ¬ true=false;simp)
     ·rw [if_neg hr];exact ⟨g1,fun _=>g2 (by simpa using hr)⟩
   | cons k ks =>
    obtain ⟨hk,hm,hc,I6⟩:=ho;obtain ⟨g1,g2⟩:=ih (acc:=acc) hc hacc;have acH:=wV (F:=flat h) (fun _ _ _ hc=>pN h hc.1) I6
    have hlen:(fo fr en lim h c acc).1.length≤lim:=by
     rw [g1,ae,ag];omega
    have hle:(fo fr en lim h c acc).1.length=acc.length+(((flat h c).filter (je fr en)).take (lim - acc.length)).length:=by rw [g1,ae]
    have key:∀ Y:List Pr,acc++(((flat h c).filter (je fr en))++Y).take (lim - acc.length)=(fo fr en lim h c acc).1++Y.take (lim - (fo fr en lim h c acc).1.length):=fun Y=>by
     rw [Nk,← ax,← g1,hle];congr 2
     omega
    rw [List.flatMap_cons];by_cases hr:(fo fr en lim h c acc).2=true
    ·rw [if_pos hr];obtain ⟨r1,r2⟩:=Ej ih cs (ah:=some k) I6 (fun k' Rm=>Rm) hlen
     refine ⟨?_,r2⟩;show (lE (fo fr en lim h) en (some k) ks cs (fo fr en lim h c acc).1).1=_
     rw [r1,oK,key]
    ·rw [if_neg hr];refine ⟨?_,fun _=>?_⟩
     ·show (fo fr en lim h c acc).1=_
      rw [oK,key];rcases g2 (by simpa using hr) with h1 | h1
      ·rw [show lim - (fo fr en lim h c acc).1.length=0 by omega];simp
      ·rw [Iz (fun p hp=>(acH p hp).1) k rfl (h1 k rfl)];simp
     ·rcases g2 (by simpa using hr) with h1 | h1
      ·exact .inl h1
      ·exact .inr (Ir (h1 k rfl) hk.2)
theorem BD{fr en:ByteArray}{lim:Nat}:∀ (h:Nat) {t:Nd h} {lo hi:Option ByteArray} {acc:List Pr},Ok h t lo hi→acc.length≤lim→H9 fr en lim (flat h t) acc hi (fo fr en lim h t acc)
 | 0,t,lo,hi,acc,ho,hacc=>by
  refine ⟨?_,fun hf=>.inl ?_⟩
  ·show acc++(dX t.2 fr en).take _=acc++(t.2.filter (je fr en)).take _
   rw [JI ho.1]
  ·have hf:decide ((acc++(dX t.2 fr en).take (lim - acc.length)).length<lim)=false:=hf;have:=of_decide_eq_false hf;show lim≤(acc++(dX t.2 fr en).take (lim - acc.length)).length
   omega
 | h+1,t,lo,hi,acc,ho,hacc=>by
  have hc:=(fu h t lo hi).1 ho;have hl:=jO hc;obtain ⟨q,hq⟩ : ∃ q,q=t.2.1.findIdx fun k=>cR fr k:=⟨_,rfl⟩
  have YX:q≤t.2.1.length:=by rw [hq];exact List.findIdx_le_length
  obtain ⟨c,hcq⟩ : ∃ c,t.2.2[q]?=some c:=⟨_,af (by omega)⟩
  obtain ⟨e1,e2,el,ei⟩:=lX hl hcq;have ub:=hc;rw [e1,e2] at ub;obtain ⟨jg,I6⟩:=(oU el).1 ub;have hA:∀ k ∈ t.2.1.take q,cR fr k=false:=fun k hk=>by
   obtain ⟨i,mh,rfl⟩:=aQ hk;rw [ag] at mh;rw [bK];have bN:i<t.2.1.findIdx fun k=>cR fr k:=by rw [← hq];omega
   have:=List.not_of_lt_findIdx bN;simpa using this
  have Y9:((t.2.2.take q).flatMap (flat h)).filter (je fr en)=[]:=List.filter_eq_nil_iff.2 fun p hp hr=>by
   have:=ri (P:=kO h) (fun _ _ _ hc=>pN h hc.1) jg hA p hp
   unfold je at hr;rw [this] at hr;simp at hr
  have ZL:t.2.2.drop q=c::t.2.2.drop (q+1):=by
   obtain ⟨O5,hv⟩:=List.getElem?_eq_some_iff.1 hcq;have:=aZ O5;rw [hv] at this;exact this
  have hr:=Ej (fr:=fr) (en:=en) (lim:=lim) (fun ho ha=>BD h ho.1 ha) (c::t.2.2.drop (q+1)) (ah:=iV none (t.2.1.take q)) I6 (fun k hk=>by
   cases hA2:t.2.1.take q with
   | nil=>rw [hA2] at hk;simp [iV] at hk
   | cons a A=>rw [hA2] at hk;exact hk) hacc
  have ef:(flat (h+1) t).filter (je fr en)=((c::t.2.2.drop (q+1)).flatMap (flat h)).filter (je fr en):=by
   show (t.2.2.flatMap (flat h)).filter _=_
   rw [e2,aR,oK];rw [← e2,Y9,List.nil_append]
  have eg:fo fr en lim (h+1) t acc=lE (fo fr en lim h) en (iV none (t.2.1.take q)) (t.2.1.drop q) (c::t.2.2.drop (q+1)) acc:=by
   rw [← ZL,hq];rfl
  rw [eg];exact ⟨by rw [ef];exact hr.1,hr.2⟩
theorem Lo{fr en:ByteArray}{lim h:Nat}{t:Nd h}(ho:Ok h t none none):(fo fr en lim h t []).1=((flat h t).filter (je fr en)).take lim:=(BD h ho (by simp)).1
theorem cP.refl(w:World):cP w w:=⟨aj _,fun _ _=>.inl rfl⟩
theorem QF.same{w w':World}{k:Nat}(h:QF w' k)(he:w'.heap[k]?=w.heap[k]?):QF w k:=by
 refine ⟨fun j v hc=>h.1 j v ((World.cell?_of_block (a:=⟨k,j,none⟩) he).trans hc),fun cs fr h1=>h.2.1 cs fr (he.trans h1),fun cs fr h1=>h.2.2 cs fr (he.trans h1)⟩
theorem cP.trans{w w1 w2:World}(h1:cP w w1)(h2:cP w1 w2):cP w w2:=⟨ar h1.size h2.size,fun k hk=>by
 rcases h1.block k hk with e | e
 ·rcases h2.block k (aq hk h1.size) with e2 | e2
  ·exact .inl (e2.trans e)
  ·exact .inr (e2.same e)
 ·exact .inr e⟩
theorem Nz(p:PD):∀ q ∈ p.sn.us,∃ id,q = .pg id:=fun q hq=>by
 cases p with
 | leaf l=>simp [PD.sn] at hq
 | br f lk =>
  obtain ⟨i,hi,rfl⟩:=aQ hq;obtain ⟨x,_,h2⟩:=IB f lk i _ (af hi);exact ⟨x,h2⟩
def oP(d:S.V.bq)(w0:World):Sys d XT where
 K:=fun w p x=>(eh (cM d) w0 x.1 p x.2∧jl x)∧(cP w0 w∨∃ id,p = .pg id)
 N:=fun w n x=>(aT (cM d) w0 x.1 n x.2∧jl x)∧(cP w0 w∨∀ q ∈ n.us,∃ id,q = .pg id)
 E:=False
 sub:=X8
 rk:=fun x=>x.1
 ka:=fun ha h=>⟨h.1,h.2.imp (fun g=>g.trans ha) id⟩
 na:=fun ha h=>⟨h.1,h.2.imp (fun g=>g.trans ha) id⟩
 qL:=fun {w n x i p} hn hp=>by
  obtain ⟨y,h1,h2⟩:=(cX d).qL (w:=w0) (n:=n) (x:=x) hn.1 hp;exact ⟨y,h1,h2,hn.2.imp id fun g=>g p (cG hp)⟩
 fit:=fun h=>iD h.1.1 h.1.2
 gW:=fun h=>by
  obtain ⟨p,h1,h2⟩:=IM h.1.1;exact .inr ⟨p,h1,fun w'=>⟨⟨h2 w0,h.1.2⟩,.inr (Nz p)⟩⟩
 node:=fun h=>by
  obtain ⟨⟨⟨_,m,pv,lv,cv,hs,hm⟩,hg⟩,ha⟩:=h;rcases ha with ha | ⟨id,he⟩
  ·exact ⟨m,pv,lv,cv,hs.cC ha,⟨hm,hg⟩,.inl ha⟩
  ·cases he
 Yf:=.inr fun x i y hs=>by
  obtain ⟨h,t⟩:=x;cases h with
  | zero=>exact hs.elim
  | succ h =>
   obtain ⟨c,_,rfl⟩:=hs;exact aj _
def yk(w:World)(base:Nat)(v:Value)(l:List Pr):Prop :=
 ij w base v l∧∀ g,v.ownBlock=some g→∃ cur,w.heap[g]?=some (.cells cur 52 (0,0))∧∀ u ∈ cur.toList,∃ s,u = .string s
theorem yk.nil(w:World)(base:Nat):yk w base (.slice none 0 0) []:=⟨ij.nil w base,fun g h=>by simp [Value.ownBlock] at h⟩
theorem rf(l:List Pr):∀ u ∈ iy l,∃ s,u = .string s:=by
 intro u hu;simp only [iy,lQ] at hu;obtain ⟨p,_,h⟩:=hu;simp at h
 rcases h with rfl | rfl
 ·exact ⟨_,rfl⟩
 ·exact ⟨_,rfl⟩
theorem Cj(n:Nat):∀ u ∈ (Builtin.zeroCells (Value.agg #[.string ByteArray.empty,.string ByteArray.empty]).cells n).toList,∃ s,u = .string s:=by
 intro u hu;simp only [Builtin.zeroCells,Value.cells] at hu;simp at hu
 obtain ⟨i,_,rfl⟩:=hu;rcases bU i with h | h
 ·rw [h];exact ⟨_,rfl⟩
 ·rw [h];exact ⟨_,rfl⟩
theorem yk.app(base:Nat)(v s:Value)(xs us:List Pr)(w:World)(h:yk w base v xs)(hs:gG w s us)(hb:(xs.length+us.length)*32≤140737488355328)(du:base≤w.heap.size):∃ a' eS w',(Builtin.append_ #[63,63] 63 #[v,s]).run prog w = .ok (.slice a' (xs.length+us.length) eS) w'∧yk w' base (.slice a' (xs.length+us.length) eS) (xs++us)∧w.grownBy w' v.ownBlock∧∀ g,(Value.slice a' (xs.length+us.length) eS).ownBlock=some g→v.ownBlock=some g∨w.heap.size≤g:=by
 obtain ⟨i0,hi,hz,b7,kF⟩:=info_parts I3;obtain ⟨a',c',w',hr,aE,hg⟩:=gO base v s xs us w h.1 hs hb du;suffices hh:(∀ g,(Value.slice a' (xs.length+us.length) c').ownBlock=some g→v.ownBlock=some g∨w.heap.size≤g)∧∀ g,(Value.slice a' (xs.length+us.length) c').ownBlock=some g→∃ cur,w'.heap[g]?=some (.cells cur 52 (0,0))∧∀ u ∈ cur.toList,∃ s,u = .string s from ⟨a',c',w',hr,⟨aE,hh.2⟩,hg,hh.1⟩
 have Ee:∃ a' c',v = .slice a' xs.length c':=h.1.form;obtain ⟨a,Qn,rfl,hle,qu,hc⟩:=hs;cases a with
 | none =>
  have h0:us=[]:=by
   cases us with
   | nil=>rfl
   | cons u r=>obtain ⟨g,o,he,_⟩:=hc 0 (by simp);cases he
  subst h0;have iG:=run_append_owned_none (P:=prog) w base 63 63 52 i0 2 underlying63 hi v xs.length (iy xs) h.1;rw [qu rfl] at hr;rw [List.length_nil] at hr aE ⊢;rw [iG] at hr;simp only [Result.ok.injEq] at hr;obtain ⟨hv,rfl⟩:=hr;rw [← hv];exact ⟨fun g ib=>.inl ib,h.2⟩
 | some ad =>
  have ia:∀ j u,(iy us)[j]?=some u→w.cell? (ad.add j)=some u:=fun j u hj=>by
   have lL:=(List.getElem?_eq_some_iff.1 hj).1;rw [eI] at lL;obtain ⟨g,o,he,c1,c2⟩:=hc (j / 2) (by omega)
   cases he;have hg:=vg us (j / 2) (by omega)
   rw [bz];rcases bU j with hm | hm
   ·have e:j / 2*2=j:=by omega
    rw [e] at hg c1;rw [hg.1] at hj;cases hj;exact c1
   ·have e:j / 2*2+1=j:=by omega
    rw [dJ,e] at c2;rw [e] at hg;rw [hg.2] at hj;cases hj;exact c2
  rcases h.1.2 with ⟨rfl,h0⟩ | ⟨g0,cap,cur,rfl,lM,pR,B4,sf,fH,mH⟩
  ·by_cases hu0:us.length=0
   ·have MD:us=[]:=List.length_eq_zero_iff.1 hu0;have hxs:xs=[]:=by
     have:=h0;cases xs with
     | nil=>rfl
     | cons _ _=>simp at this
    subst MD hxs;obtain ⟨v',w2,iG,_,_,ac7⟩:=run_append_own (P:=prog) w base 63 63 52 i0 _ 2 32 underlying63 hi hz b7 kF rfl (by decide) (.slice none 0 0) 0 [] (World.ownsRow_nil _ _ _ _) ad 0 Qn [] rfl (fun j u hj=>by simp at hj) (fun u hu=>by simp at hu) (by unfold maxLen;omega) (by omega) du
    have hv:=ac7.2 ⟨rfl,rfl⟩;subst hv;have hr:(Builtin.append_ #[63,63] 63 #[.slice none 0 0,.slice (some ad) 0 Qn]).run prog w = .ok (.slice a' 0 c') w':=hr;rw [iG] at hr;simp only [Result.ok.injEq,Value.slice.injEq] at hr;obtain ⟨⟨rfl,-,-⟩,-⟩:=hr;exact ⟨fun g ib=>by simp [Value.ownBlock] at ib,fun g ib=>by simp [Value.ownBlock] at ib⟩
   ·have hq:=run_append_nil (P:=prog) w 63 63 52 i0 _ underlying63 hi hz ad us.length Qn (iy us) (by rw [b7];exact eI us) ia (by omega) (by omega) (by rw [kF];omega)
    rw [hq] at hr;simp only [Result.ok.injEq,Value.slice.injEq] at hr;obtain ⟨⟨rfl,-,-⟩,rfl⟩:=hr;refine ⟨fun g ib=>?_,fun g ib=>?_⟩
    ·simp only [Value.ownBlock,Option.some.injEq] at ib;right;subst ib;simp
    simp only [Value.ownBlock,Option.some.injEq] at ib;subst ib;refine ⟨_,heap_alloc_new (World.drew _) _,fun u hu=>?_⟩
    simp only [bW,cu] at hu;rcases hu with hu | hu
    ·exact rf us u (by simpa using hu)
    ·exact Cj _ u hu
  ·have yz:∀ u ∈ cur.toList,∃ s,u = .string s:=by
    obtain ⟨fL,h1,h2⟩:=h.2 g0 rfl;rw [pR] at h1;simp only [Option.some.injEq,Obj.cells.injEq,and_true] at h1;subst h1;exact h2
   by_cases dW:xs.length+us.length≤cap
   ·have hq:=run_append_room (P:=prog) w 63 63 52 i0 underlying63 hi g0 xs.length cap cur pR ad us.length Qn (iy us) (by rw [b7];exact eI us) ia (by intro u hu;obtain ⟨s,rfl⟩:=rf us u hu;rfl) dW (by rw [b7,fH,eI];omega)
    rw [hq] at hr;simp only [Result.ok.injEq,Value.slice.injEq] at hr;obtain ⟨⟨rfl,-,-⟩,rfl⟩:=hr;refine ⟨fun g ib=>?_,fun g ib=>?_⟩
    ·simp only [Value.ownBlock,Option.some.injEq] at ib;left;subst ib;rfl
    simp only [Value.ownBlock,Option.some.injEq] at ib;subst ib;refine ⟨_,setRow_heap _ g0 cur _ _ _ pR,fun u hu=>?_⟩
    simp only [cu] at hu;rcases hu with (hu | hu) | hu
    ·exact yz u (bF hu)
    ·exact rf us u hu
    ·exact yz u (bG hu)
   ·have o8:(iy xs).length=xs.length*i0.size:=by rw [b7];exact eI xs
    have holds:∀ j u,(iy xs)[j]?=some u→w.cell? ((⟨g0,0,none⟩ : Addr).add j)=some u:=World.ownsRow.cells h.1 (g:=g0) rfl;have hq:=run_append_grow (P:=prog) w 63 63 52 i0 _ underlying63 hi hz ⟨g0,0,none⟩ xs.length cap (iy xs) o8 holds ad us.length Qn (iy us) (by rw [b7];exact eI us) ia (by omega) (by omega) (growslice_fits (by omega) (by rw [kF];omega))
    rw [hq] at hr;simp only [Result.ok.injEq,Value.slice.injEq] at hr;obtain ⟨⟨rfl,-,-⟩,rfl⟩:=hr;refine ⟨fun g ib=>?_,fun g ib=>?_⟩
    ·simp only [Value.ownBlock,Option.some.injEq] at ib;right;subst ib;simp
    simp only [Value.ownBlock,Option.some.injEq] at ib;subst ib;refine ⟨_,heap_alloc_new (World.drew _) _,fun u hu=>?_⟩
    simp only [bW,cu] at hu;rcases hu with (hu | hu) | hu
    ·exact rf xs u (by simpa using hu)
    ·exact rf us u (by simpa using hu)
    ·exact Cj _ u hu
open Go.Maps
def SA:C.Ch→Int
 | .pg id=>id
 | .nd _=>0
theorem wP(p:C.Ch)(w:World):Calls prog 67 #[p.val] w fun e w'=>e = .returned (.int .i64 (SA p))∧w=w':=by
 cases p with
 | pg id =>
  have a1:=fun W=>Qx (.int .i64 id) W
  show Calls prog 67 #[.iface 146 (.int .i64 id)] w fun e w'=>e = .returned (.int .i64 id)∧w=w'
  go_enter func67,ntmps67;go_wp2;go_ret;exact ⟨rfl,rfl⟩
 | nd b =>
  have a1:=fun W=>Jp (.pointer (some ⟨b,0,none⟩)) W
  show Calls prog 67 #[.iface 152 (.pointer (some ⟨b,0,none⟩))] w fun e w'=>e = .returned (.int .i64 0)∧w=w'
  go_enter func67,ntmps67;go_wp2;go_ret;exact ⟨rfl,rfl⟩
theorem OM:Keyed prog 3:=int_keyed underlying3
theorem T8(w:World):(zeroValue 208).run prog w = .ok (.agg #[]) w:=by kernel_rfl
theorem acn(i:Nat)(h:i<1048576):keyOf prog 3 (.int .i64 (i:Int))=some (.int .i64 (i:Int)):=keyOf_int_mk underlying3 (WalkArith.wf_i64 (by omega))
def Kz(l:List Nat):DataW Unit:=setOf (.agg []) (l.map fun i:Nat=>Lit.int .i64 (i:Int))
structure Met(w:World)(b:Nat)(l:List Nat):Prop where
 ok:∀ i ∈ l,1≤i∧i<1048576
 map:w.ownsMap prog 3 (unitElem (H:=Unit)) b l.length (Kz l)
theorem Sm(l:List Nat)(j:Nat):Maps.has (Kz l) (.int .i64 (j:Int))=decide (j ∈ l):=by
 unfold Kz;rw [has_setOf _ _ _ (fun x hx=>by
  obtain ⟨i,hi,rfl⟩:=List.mem_map.1 hx;exact trivial)]
 rw [ke];simp only [List.any_map,List.any_eq_true,decide_eq_true_eq,Function.comp,Lit.sameKey];constructor
 ·rintro ⟨x,hx,he⟩;have h9:(x:Int)=(j:Int):=by simpa using he
  have:x=j:=by omega
  exact this▸hx
 ·intro hj;exact ⟨j,hj,by simp⟩
theorem Met.put{l:List Nat}(i:Nat):(Kz l).put (.int .i64 (i:Int)) (.agg [])=Kz (l++[i]):=by
 unfold Kz;rw [bt,List.map_singleton,setOf_snoc]
theorem Met.same{w w':World}{b:Nat}{l:List Nat}(h:Met w b l)(hb:w'.heap[b]?=w.heap[b]?):Met w' b l:=by
 refine ⟨h.ok,?_⟩;have:=h.map;obtain ⟨es,clock,h1,h2⟩:=this;exact ⟨es,clock,hb.trans h1,h2⟩
theorem Met.lt{w:World}{b:Nat}{l:List Nat}(h:Met w b l):b<w.heap.size:=by
 obtain ⟨es,clock,h1,_⟩:=h.map;exact (Array.getElem?_eq_some_iff.1 h1).1
theorem Met.ne{w:World}{b:Nat}{l:List Nat}(h:Met w b l){g o:Nat}{u:Value}(hc:w.cell? ⟨g,o,none⟩=some u):g≠b:=fun e=>by
 subst e;obtain ⟨es,clock,h1,_⟩:=h.map;simp [World.cell?,h1] at hc
theorem rp(p:C.Ch)(i:Nat)(hi:SA p=(i:Int))(bN:i<1048576)(b:Nat)(l:List Nat)(w:World)(h:Met w b l)(hn:l.length<1099511627776):Calls prog 91 #[.map (some b),p.val] w fun e w'=>e = .returned (.bool (decide (i ∈ l)))∧Met w' b (if i=0 then l else l++[i])∧w.grownBy w' (some b):=by
 have HP:=ab (wP p w);have HK:=ab (acn i bN);have HM:=ab h;have HH:=ab (Sm l i);have aE:=h.map;obtain ⟨pt,px,iS⟩:=bM p;rw [hi] at HP;rw [iS] at HP ⊢;clear h iS hi;go_enter func91,ntmps91;go_wp2_with fail;refine HP.out.mono ?_
 rintro e w1 ⟨rfl,rfl⟩;by_cases h0:i=0
 ·subst h0;go_wp2_with (first
   | (at_lookup;refine wpList_lookup_own_unit _ rfl _ _ 166 rfl 3 208 OM underlying166 (T8 _) b l.length _ rfl aE _ _ rfl HK.out ?_;rw [HH.out])
   | go_in)
  go_ret;exact ⟨rfl,⟨HM.out.ok,HM.out.map.alloc _⟩,(World.grownBy_alloc _ _ _)⟩
 ·have yy:¬ (i:Int)=0:=by omega
  go_wp2_with (first
   | (at_lookup;refine wpList_lookup_own_unit _ rfl _ _ 166 rfl 3 208 OM underlying166 (T8 _) b l.length _ rfl aE _ _ rfl HK.out ?_;rw [HH.out])
   | (at_mapUpdate;refine wpList_mapUpdate_own _ rfl _ _ _ 166 rfl 3 208 OM underlying166 (unitElem (H:=Unit)) b l.length _ rfl (aE.alloc _) (by unfold maxLen;omega) _ _ _ rfl rfl HK.out _ [] unitElem_mk ?_;intro w2 lD xG)
   | go_in)
  go_ret;refine ⟨rfl,⟨?_,?_⟩,(World.grownBy_alloc _ _ _).trans xG⟩
  ·intro j hj;rcases List.mem_append.1 hj with hj | hj
   ·exact HM.out.ok j hj
   ·have:j=i:=by simpa using hj
    omega
  ·rw [← Met.put,ae];exact lD
theorem IW(i:Nat)(l:List Nat):(if i=0 then l else l++[i])=l++cY i:=by
 unfold cY;split <;> simp
end T
end Go.Proofs.YtihmgigfkmofnaaGreatDoor
namespace Go.Proofs.YtihmgigfkmofnaaGreatDoor
namespace T
open Go.RowKit
structure vJ(db bp mb:Nat)(w:World)(v:Value)(w':World)(v':Value):Prop where
 size:w.heap.size≤w'.heap.size
 block:∀ k,k<w.heap.size→k≠db→k≠bp→k≠mb→v.ownBlock≠some k→w'.heap[k]?=w.heap[k]?
 own:∀ g,v'.ownBlock=some g→v.ownBlock=some g∨w.heap.size≤g
theorem vJ.trans{db bp mb:Nat}{w w1 w2:World}{v v1 v2:Value}(h:vJ db bp mb w v w1 v1)(k:vJ db bp mb w1 v1 w2 v2):vJ db bp mb w v w2 v2:=by
 refine ⟨ar h.size k.size,fun i hi h1 h2 hm h3=>?_,fun g hg=>?_⟩
 ·rw [k.block i (aq hi h.size) h1 h2 hm (fun e=>by
   rcases h.own i e with e' | e'
   ·exact h3 e'
   ·omega)]
  exact h.block i hi h1 h2 hm h3
 ·rcases k.own g hg with e | e
  ·exact h.own g e
  ·exact .inr (ar h.size e)
theorem vJ.mv{db bp mb:Nat}{F:Nat→Prop}{w w':World}(v:Value)(h:Mv db F w w'):vJ db bp mb w v w' v:=⟨h.size,fun k hk h1 _ _ _=>h.one.block k hk h1,fun _ h=>.inl h⟩
theorem vJ.below{db bp mb:Nat}{w w':World}(v:Value)(h:Below w.heap.size w w'):vJ db bp mb w v w' v:=⟨h.size,fun k hk _ _ _ _=>h.block k hk,fun _ h=>.inl h⟩
structure Br(w:World)(b:Nat)(n:SN)(pv lv cv:Value):Prop where
 row:B.au w b #[pv,.int .i64 n.f,lv,cv] 155
 a8:B.di w lv n.lk
 kids:C.di w cv n.us
theorem dH.br{w:World}{b:Nat}{n:SN}{pv lv cv:Value}(h:dH w b n pv lv cv):Br w b n pv lv cv:=⟨h.row,h.a8,h.kids⟩
theorem Br.gth{base:Nat}{A:Nat→Addr}{db bp mb:Nat}{F:Nat→Prop}{d:S.V.bq}{w w':World}{v v':Value}{acc:List Pr}{lo:Nat}{T:TypeId}{b:Nat}{n:SN}{pv lv cv:Value}(h:Br w b n pv lv cv)(hg:vJ db bp mb w v w' v')(hv:Dv base A db F d w)(hp:B.au w bp #[v] T)(hT:T≠155)(hs:yk w lo v acc){M:List Nat}(Zi:Met w mb M):Br w' b n pv lv cv:=by
 have lK:∀ {g o:Nat} {u:Value},w.cell? ⟨g,o,none⟩=some u→g≠mb:=fun {g o u} hc e=>by
  subst e;obtain ⟨es,clock,h1,_⟩:=Zi.map;simp [World.cell?,h1] at hc
 obtain ⟨d',_,hd⟩:=hv.dev;obtain ⟨va,vc,kL⟩:=hs.1.form;have MH:∀ {g o:Nat} {u:Value},w.cell? ⟨g,o,none⟩=some u→(∀ a n c,u≠.slice a n c)→g≠bp:=fun {g o u} hc hu e=>by
  subst e;unfold B.au at hp;rw [cell_of_row w g o _ _ _ hp] at hc;have ho:o<1:=by have:=(Array.getElem?_eq_some_iff.1 hc).1;simpa using this
  have ho:o=0:=by omega
  subst ho;cases hc;exact hu _ _ _ kL
 have aE:∀ {g o:Nat} {u:Value},w.cell? ⟨g,o,none⟩=some u→(∀ s,u≠.string s)→v.ownBlock≠some g:=fun {g o u} hc hu e=>by
  obtain ⟨cur,h1,h2⟩:=hs.2 g e;rw [cell_of_row w g o cur _ _ h1] at hc;obtain ⟨h3,h4⟩:=Array.getElem?_eq_some_iff.1 hc;obtain ⟨s,hs⟩:=h2 u (by rw [← h4];exact gE h3)
  exact hu s hs
 refine ⟨?_,?_,?_⟩
 ·refine (hg.block b h.row.lt ?_ ?_ (lK (h.row.cell 0 (by simp))) ?_).trans h.row
  ·intro e;subst e;obtain ⟨mb,nb,FX,av,Dn,hb⟩:=hd;have h1:=h.row;unfold B.au at h1;rw [hb.dr] at h1;simp at h1
  ·intro e;subst e;have h1:=h.row;unfold B.au at h1 hp;rw [hp] at h1;simp only [Option.some.injEq,Obj.cells.injEq] at h1;exact hT h1.2.1
  ·intro e;obtain ⟨cur,h1,h2⟩:=hs.2 b e;have h3:=h.row;unfold B.au at h3;rw [h1] at h3;simp at h3
 ·obtain ⟨a,cap,rfl,hle,hn,hc⟩:=h.a8;refine ⟨a,cap,rfl,hle,hn,fun j hj=>?_⟩
  obtain ⟨g,o,ha,h1,h2⟩:=hc j hj;have he:=hg.block g (World.block_lt_of_cell? w _ h1) (fun e=>by subst e;exact (jF hd h1).1 _ rfl) (MH h1 (fun _ _ _ e=>by cases e)) (lK h1) (aE h2 (fun _ e=>by cases e))
  exact ⟨g,o,ha,bB he h1,bB he h2⟩
 ·obtain ⟨a,cap,rfl,hle,hn,hc⟩:=h.kids;refine ⟨a,cap,rfl,hle,hn,fun j u hj=>?_⟩
  obtain ⟨g,o,ha,h1⟩:=hc j u hj;obtain ⟨p,_,rfl⟩ : ∃ p ∈ n.us,p.val=u:=by
   have:=cG hj;simpa [C.a8] using this
  obtain ⟨t,x,Xs⟩:=bM p;have Jf:=h1;rw [Xs] at Jf;have he:=hg.block g (World.block_lt_of_cell? w _ h1) (fun e=>by subst e;exact (jF hd Jf).2 _ _ rfl) (MH Jf (fun _ _ _ e=>by cases e)) (lK h1) (aE Jf (fun _ e=>by cases e))
  exact ⟨g,o,ha,bB he h1⟩
end T
end Go.Proofs.YtihmgigfkmofnaaGreatDoor
