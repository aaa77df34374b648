import Derived.Test.YtihmgigfkmofnaaGreatDoorG26
import Derived.Maps.OwnOps
set_option maxHeartbeats 4000000
set_option maxRecDepth 100000
open Go.Proofs.Tryz
namespace Go.Proofs.YtihmgigfkmofnaaGreatDoor
namespace T
open Go.RowKit
def valOf(l:List Pr)(key:ByteArray):ByteArray:=if h:bm l key=true then (l[aS l key]'(gC h)).2 else ⟨#[]⟩
theorem KH{X Y Z:List Pr}{key:ByteArray}(hX:∀ p ∈ X,cR p.1 key=true)(hZ:∀ p ∈ Z,cR key p.1=true):valOf (X++(Y++Z)) key=valOf Y key:=by
 unfold valOf;have hf:=nu (Y:=Y) hX hZ;by_cases h:bm Y key=true
 ·rw [dif_pos h,dif_pos (by rw [hf];exact h)]
  have h1:=kW (Y:=Y) hX hZ;have h2:=RR (X:=X) (Z:=Z) (gC h);have h3:(X++(Y++Z))[aS (X++(Y++Z)) key]?=Y[aS Y key]?:=by rw [h1];exact h2
  rw [af (gC (by rw [hf];exact h)),af (gC h)] at h3
  rw [Option.some.inj h3]
 ·rw [dif_neg h,dif_neg (by rw [hf];exact h)]
section
variable {base:Nat} {A:Nat→Addr} {db:Nat} {F:Nat→Prop} {d:S.V.bE} {W0:World} {r:cT}
theorem MU{w:World}{tb:Nat}(key:ByteArray)(hc:Ts base A db F d W0 w tb r)(hn:(aD r).length≤4611686018427387904)(cZ:key.size≤140737488355328):Calls prog 16 #[.pointer (some ⟨tb,0,none⟩),.string key] w fun e w'=>(cQ (key,⟨#[]⟩)=true∧e = .returned (.tuple #[.bool (bm (aD r) key),.nilIface])∧((bm (aD r) key=true∧∃ r',uE key (fun l=>fT l key) r r'∧Ts base A db F d W0 w' tb r')∨(bm (aD r) key=false∧Ts base A db F d W0 w' tb r)))∨(¬ cQ (key,⟨#[]⟩)=true∧e = .returned (.tuple #[.bool false,.iface 360 (.pointer (some (A 0)))])∧Ts base A db F d W0 w' tb r):=by
 have BG:=ab (qH A key ⟨#[]⟩ w cZ (by simp [ByteArray.size]) hc.dv.uq)
 have HC:=ab hc;have HN:=ab hn;clear hc hn;by_cases hm:cQ (key,⟨#[]⟩)=true
 ·rw [if_pos hm] at BG;have HM:=ab hm;clear cZ hm;go_enter func16,ntmps16;go_wp2_with fail;refine BG.out.mono ?_
  rintro e w1 ⟨rfl,aO⟩;have R9:=ab (oh key HC.out HN.out aO);clear aO BG;go_wp2_with fail;refine R9.out.mono ?_
  rintro e w2 ⟨Hv,je,jD⟩;have uJ:=ab je;have vX:=ab jD;have FW:=ab (HC.out.mv jD je);obtain ⟨rv,ht,Xx⟩:=FW.out.tr;have BD:=ab ht;have HRF:=ab Xx;rcases Hv with ⟨VN,rfl⟩ | ⟨x,ss,s,a,c,pv,lv,cv,t0,Xw,rfl,ho,jr,hs,kt,b8,hl,Sv⟩
  ·subst VN;clear je jD R9 ht Xx;go_wp2_with fail;refine (gW w2).mono ?_
   rintro e w2' ⟨rfl,rfl⟩;go_wp2_with fail;refine (AT (.slice none 0 0) [] key w2 (by simp) (gM.nil _)).mono ?_
   rintro e w5 ⟨u,rfl,hu,my⟩;rw [show bm [] key=false from rfl]
   have CX:=ab (FW.out.below my);obtain ⟨ua,uc,Ua⟩:=hu.form;subst Ua;clear hu my;go_wp2;go_ret2;exact .inl ⟨HM.out,rfl,.inr ⟨rfl,CX.out⟩⟩
  ·subst Xw;obtain ⟨X,Z,il,hX,hZ⟩:=Gx x.1 HC.out.ok.1 Sv;have hfd:bm (aD (some x)) key=bm s.n.ps key:=by
    show bm (flat x.1 x.2) key=_
    rw [il,nu hX hZ,kt]
   have Ku:=ab hfd;have BH:Hid (rv = .nilIface∨∃ t x,rv = .iface t x):=HRF.out.form;have HO:=ab ho;have HW:=ab jr;have tg:=ab kt;have jc:=ab b8;have HL:=ab hl;have wQ:=ab (jk a ss.length c (ss.map gF.lk) s.lk s.n pv lv cv w2 (by rw [az]) (by omega) ho.1.at hs)
   have FY:=ab hs.iH;have HPM:=ab hs.fine.1;obtain ⟨m,A9⟩ : ∃ m,m=ss.length:=⟨_,rfl⟩;have Gm:=ab A9;rw [← A9] at wQ HO HL ⊢;obtain ⟨xa,xc,wG⟩:=hs.iH.form;subst wG;clear ho jr hs kt b8 hl je jD R9 A9 ht Xx Sv il hX hZ hfd;go_wp2_with fail;refine wQ.out.mono ?_
   rintro e w2' ⟨rfl,rfl⟩;go_wp2_with fail;refine (AT _ s.n.ps key w2 (by have:=gT s.n.ps;have:=jc.out;rw [← tg.out] at this;omega) FY.out).mono ?_
   rintro e w5 ⟨u,rfl,hu,my⟩;have jd:=ab my;have vi:=sK (s:=s) (t0:=t0) key (fun l=>fT l key) (fit_drop key) HC.out (vX.out.trans (Mv.of jd.out)) (uJ.out.below jd.out) (BD.out.below jd.out) BH.out (by have:=HL.out;have:=Gm.out;omega) (by rw [← Gm.out];exact HO.out.below jd.out) (HW.out.cN (df.of jd.out)) jc.out (by rw [← tg.out];exact HPM.out) (by rw [← tg.out];exact hu.at)
   rw [← Gm.out] at vi;have wT:=ab vi;have CX:=ab (FW.out.below my);obtain ⟨ua,uc,Ua⟩:=hu.form;subst Ua;clear hu my vi;cases E3:bm s.n.ps key with
   | false =>
    have HF:Hid (bm (aD (some x)) key=false):=Ku.out.trans E3;go_wp2;go_ret2;exact .inl ⟨HM.out,by rw [HF.out];rfl,.inr ⟨HF.out,CX.out⟩⟩
   | true =>
    have HF:Hid (bm (aD (some x)) key=true):=Ku.out.trans E3;go_wp2_with fail;refine wT.out.mono ?_
    rintro e w6 ⟨rfl,htc⟩;have aga:=ab htc;clear htc wT;go_wp2;go_ret2;exact .inl ⟨HM.out,by rw [HF.out];rfl,.inl ⟨HF.out,aga.out⟩⟩
 ·rw [if_neg hm] at BG;have HM:=ab hm;clear cZ hm;go_enter func16,ntmps16;go_wp2_with fail;refine BG.out.mono ?_
  rintro e w1 ⟨rfl,aO⟩;have CX:=ab (HC.out.below aO);clear aO BG;go_wp2;go_ret2;exact .inr ⟨HM.out,rfl,CX.out⟩
theorem Mu{w:World}{tb:Nat}(key:ByteArray)(hc:Ts base A db F d W0 w tb r)(hn:(aD r).length≤4611686018427387904)(cZ:key.size≤140737488355328):Calls prog 17 #[.pointer (some ⟨tb,0,none⟩),.string key] w fun e w'=>e = .returned (if cQ (key,⟨#[]⟩)=true then .tuple #[.string (valOf (aD r) key),.bool (bm (aD r) key),.nilIface] else .tuple #[.string ⟨#[]⟩,.bool false,.iface 360 (.pointer (some (A 0)))])∧Ts base A db F d W0 w' tb r:=by
 have BG:=ab (qH A key ⟨#[]⟩ w cZ (by simp [ByteArray.size]) hc.dv.uq)
 have HC:=ab hc;have HN:=ab hn;clear hc hn;by_cases hm:cQ (key,⟨#[]⟩)=true
 ·rw [if_pos hm] at BG;rw [if_pos hm];clear cZ hm;go_enter func17,ntmps17;go_wp2_with fail;refine BG.out.mono ?_
  rintro e w1 ⟨rfl,aO⟩;have R9:=ab (oh key HC.out HN.out aO);clear aO BG;go_wp2_with fail;refine R9.out.mono ?_
  rintro e w2 ⟨Hv,je,jD⟩;have FW:=ab (HC.out.mv jD je);rcases Hv with ⟨VN,rfl⟩ | ⟨x,ss,s,a,c,pv,lv,cv,t0,Xw,rfl,ho,jr,hs,kt,b8,hl,Sv⟩
  ·subst VN;clear je jD R9;go_wp2_with fail;refine (gW w2).mono ?_
   rintro e w2' ⟨rfl,rfl⟩;go_wp2_with fail;refine (iT (.slice none 0 0) [] key w2 (by simp) (gM.nil _)).mono ?_
   rintro e w5 ⟨rfl,my⟩;rw [show bm [] key=false from rfl,show aS [] key=0 from rfl]
   have CX:=ab (FW.out.below my);clear my;go_wp2;go_ret3;exact ⟨rfl,CX.out⟩
  ·subst Xw;obtain ⟨X,Z,il,hX,hZ⟩:=Gx x.1 HC.out.ok.1 Sv;have hfd:bm (aD (some x)) key=bm s.n.ps key:=by
    show bm (flat x.1 x.2) key=_
    rw [il,nu hX hZ,kt]
   have Cg:valOf (aD (some x)) key=valOf s.n.ps key:=by
    show valOf (flat x.1 x.2) key=_
    rw [il,KH hX hZ,kt]
   have Ku:=ab hfd;have HVL:=ab Cg;have tg:=ab kt;have jc:=ab b8;have wQ:=ab (jk a ss.length c (ss.map gF.lk) s.lk s.n pv lv cv w2 (by rw [az]) (by omega) ho.1.at hs)
   have FY:=ab hs.iH;obtain ⟨m,A9⟩ : ∃ m,m=ss.length:=⟨_,rfl⟩;rw [← A9] at wQ ⊢;obtain ⟨xa,xc,wG⟩:=hs.iH.form;subst wG;clear ho jr hs kt b8 hl je jD R9 A9 Sv il hX hZ hfd Cg;go_wp2_with fail;refine wQ.out.mono ?_
   rintro e w2' ⟨rfl,rfl⟩;go_wp2_with fail;refine (iT _ s.n.ps key w2 (by have:=gT s.n.ps;have:=jc.out;rw [← tg.out] at this;omega) FY.out).mono ?_
   rintro e w5 ⟨rfl,my⟩;have CX:=ab (FW.out.below my);have agd:=ab (FY.out.below my);clear my;cases E3:bm s.n.ps key with
   | false =>
    have HF:Hid (bm (aD (some x)) key=false):=Ku.out.trans E3;have HVE:Hid (valOf (aD (some x)) key=⟨#[]⟩):=HVL.out.trans (by unfold valOf;rw [dif_neg (by rw [E3];simp)])
    go_wp2;go_ret3;exact ⟨by rw [HF.out,HVE.out];rfl,CX.out⟩
   | true =>
    have bO:=gC E3;have HF:Hid (bm (aD (some x)) key=true):=Ku.out.trans E3;have T7:valOf (aD (some x)) key=(s.n.ps[aS s.n.ps key]).2:=HVL.out.trans (by unfold valOf;rw [dif_pos E3])
    obtain ⟨_,_,lM,_,_,bq⟩:=agd.out;simp only [Value.slice.injEq] at lM;obtain ⟨rfl,-,rfl⟩:=lM;obtain ⟨g,o,rfl,c1,c2⟩:=bq (aS s.n.ps key) bO;have Sy:(0:Int)≤(aS s.n.ps key:Int):=by omega
    have Qq:(aS s.n.ps key:Int)<(s.n.ps.length:Int):=by omega
    generalize (s.n.ps[aS s.n.ps key]).2=val at c2 T7;have HVE:=ab T7;clear T7;generalize aS s.n.ps key=fq at *;clear bq bO c1;go_wp2;go_ret3;exact ⟨by rw [HF.out,HVE.out];rfl,CX.out⟩
 ·rw [if_neg hm] at BG;rw [if_neg hm];clear cZ hm;go_enter func17,ntmps17;go_wp2_with fail;refine BG.out.mono ?_
  rintro e w1 ⟨rfl,aO⟩;have CX:=ab (HC.out.below aO);clear aO BG;go_wp2;go_ret3;exact ⟨rfl,CX.out⟩
end
theorem Tv{w:World}{a:Option Addr}{n m k cap:Nat}{l:List Pr}(h:gM w (.slice a n cap) l)(hm:m≤k)(hk:k≤n):∃ a',gM w (.slice a' (k - m) (cap - m)) ((l.take k).drop m)∧∀ w',(Instr.sliceAt 63 (.slice a n cap) (some (.int .i64 (m:Int))) (some (.int .i64 (k:Int))) none).run prog w' = .ok (.slice a' (k - m) (cap - m)) w':=by
 have h:=h.take hk;obtain ⟨a',eO,he,hle,hn,hc⟩:=h;simp only [Value.slice.injEq] at he;obtain ⟨rfl,lP,rfl⟩:=he;have lP:=lP.symm;refine ⟨if cap=m then a else a.map (·.add (m*2)),⟨_,_,by rw [al,lP],by rw [al];omega,fun ha=>?_,fun j hj=>?_⟩,fun w'=>?_⟩
 ·split at ha
  ·omega
  ·cases a with
   | none=>have:=hn rfl;omega
   | some x=>cases ha
 ·rw [al] at hj;obtain ⟨g,o,ha,h1,h2⟩:=hc (m+j) (by omega)
  subst ha;refine ⟨g,o+m*2,?_,?_,?_⟩
  ·rw [if_neg (by omega)];simp [bh]
  ·rw [cu,show o+m*2+j*2=o+(m+j)*2 by omega];exact h1
  ·rw [cu,show o+m*2+j*2+1=o+(m+j)*2+1 by omega];exact h2
 ·rw [run_sliceAt_slice (h:=underlying63),run_slice_lh (ht:=underlying63) (h0:=by omega) (h1:=by omega) (h2:=by omega)]
  have hz:(sizeOf (prog.elem 63)).run prog w' = .ok 2 w':=by kernel_rfl
  rw [hz];simp [Result.andThen,sliced]
def sI(l:List Pr)(en:ByteArray):Nat:=if en=⟨#[]⟩ then l.length else aS l en
def ed(l:List Pr)(fr en:ByteArray):List Pr:=(l.take (max (aS l fr) (sI l en))).drop (aS l fr)
theorem Ke(l:List Pr)(en:ByteArray):sI l en≤l.length:=by
 unfold sI;split
 ·exact aj _
 ·exact cH l en
theorem Aq{s:ByteArray}(h:¬ s=⟨#[]⟩):s.toList.isEmpty=false:=by
 cases hs:s.toList with
 | cons _ _=>rfl
 | nil =>
  have h1:=oZ s ⟨#[]⟩;have h0:(⟨#[]⟩ : ByteArray).toList=[]:=by rw [ByteArray.toList_eq]
  rw [hs,h0,decide_eq_false h] at h1;simp at h1
theorem Gu(v:Value)(l:List Pr)(fr en:ByteArray)(w:World)(hm:l.length≤140737488355328)(hr:gM w v l):Calls prog 94 #[v,.string fr,.string en] w fun e w'=>∃ a c,e = .returned (.slice a (ed l fr en).length c)∧gM w' (.slice a (ed l fr en).length c) (ed l fr en)∧Below w.heap.size w w':=by
 have HF:=ab (iT v l fr w hm hr);have HM:=ab hm;have HR:=ab hr;obtain ⟨a,cap,hv⟩:=hr.form;subst hv;have hql:=cH l fr;have hel:=Ke l en;obtain ⟨q,hq⟩ : ∃ q,q=aS l fr:=⟨_,rfl⟩;obtain ⟨E,hE⟩ : ∃ E,E=sI l en:=⟨_,rfl⟩;rw [← hq] at HF hql;rw [← hE] at hel;obtain ⟨K,hK⟩ : ∃ K,K=max q E:=⟨_,rfl⟩;obtain ⟨a2,iM,nP⟩:=Tv hr (m:=q) (k:=K) (by omega) (by omega)
 have hW:ed l fr en=(l.take K).drop q:=by unfold ed;rw [← hq,← hE,hK]
 have hWl:(ed l fr en).length=K - q:=by
  rw [hW,al,ag];omega
 have HW:=ab hW;have HWl:=ab hWl;have pe:=ab iM;have HE:=ab hE;have VQ:max (q:Int) (E:Int)=(K:Int):=by omega
 clear hr iM hq hE hW hWl hm;by_cases ht:en=⟨#[]⟩
 ·have HEE:Hid (E=l.length):=by show E=_;rw [HE.out];unfold sI;rw [if_pos ht]
  subst ht;obtain ⟨m,nk⟩ : ∃ m,m=l.length:=⟨_,rfl⟩;have hmE:E=m:=by rw [nk];exact HEE.out
  subst hmE;have SV:=ab nk;rw [← nk] at HF HR nP hql ⊢;clear nk;clear hK;go_enter func94,ntmps94;go_wp2_with fail;refine HF.out.mono ?_
  rintro e w1 ⟨rfl,aO⟩;have bT:=ab aO;clear aO HF;go_wp2;go_ret;exact ⟨a2,cap - q,by rw [HWl.out];rfl,by rw [HWl.out,HW.out];exact pe.out.below bT.out,bT.out⟩
 ·have HEE:Hid (E=aS l en):=by show E=_;rw [HE.out];unfold sI;rw [if_neg ht]
  have cY:=Aq ht;clear hK ht;go_enter func94,ntmps94;go_wp2_with fail;refine HF.out.mono ?_
  rintro e w1 ⟨rfl,aO⟩;have bT:=ab aO;have NB:=ab (iT _ l en w1 HM.out (HR.out.below aO));rw [← HEE.out] at NB;clear aO HF;go_wp2_with fail;refine NB.out.mono ?_
  rintro e w2 ⟨rfl,aV⟩;have bL:=ab (Below.next bT.out aV);clear aV NB;go_wp2;go_ret;exact ⟨a2,cap - q,by rw [HWl.out];rfl,by rw [HWl.out,HW.out];exact pe.out.below bL.out,bL.out⟩
def A0(lk:List B.Lk)(i:Nat)(en:ByteArray):Bool :=
 match i with
 | 0=>false
 | j+1=>if en=⟨#[]⟩ then false else match lk[j]? with | some p=>!cR p.1 en | none=>false
theorem FH(f:Int)(lv:Value)(lk:List B.Lk)(en:ByteArray)(w:World)(hl:B.dm w lv lk):Calls prog 95 #[.agg #[.int .i64 f,lv],.int .i64 0,.string en] w fun e w'=>e = .returned (.bool false)∧Below w.heap.size w w':=by
 have q0:=ai w (.cells #[.int .i64 f,lv] 150);have HQ:=ab q0;obtain ⟨la,lc,pW⟩:=hl.form;subst pW;clear q0 hl;go_enter func95,ntmps95;go_wp2;go_ret;exact ⟨rfl,HQ.out⟩
theorem CA(f:Int)(lv:Value)(lk:List B.Lk)(i:Nat)(w:World)(hl:B.dm w lv lk):Calls prog 95 #[.agg #[.int .i64 f,lv],.int .i64 (i:Int),.string ⟨#[]⟩] w fun e w'=>e = .returned (.bool false)∧Below w.heap.size w w':=by
 have q0:=ai w (.cells #[.int .i64 f,lv] 150);have HQ:=ab q0;obtain ⟨la,lc,pW⟩:=hl.form;subst pW;clear q0 hl;by_cases h0:(0:Int)<(i:Int)
 ·go_enter func95,ntmps95;go_wp2;go_ret;exact ⟨rfl,HQ.out⟩
 ·go_enter func95,ntmps95;go_wp2;go_ret;exact ⟨rfl,HQ.out⟩
theorem FI(f:Int)(lv:Value)(lk:List B.Lk)(j:Nat)(en:ByteArray)(w:World)(hl:B.dm w lv lk)(hj:j<lk.length)(hm:lk.length≤4000)(Zg:¬ en=⟨#[]⟩):Calls prog 95 #[.agg #[.int .i64 f,lv],.int .i64 ((j:Int)+1),.string en] w fun e w'=>e = .returned (.bool (!cR lk[j].1 en))∧Below w.heap.size w w':=by
 have q0:=ai w (.cells #[.int .i64 f,lv] 150);have x0:=B.au.new w #[.int .i64 f,lv] 150;have k1:=x0.c1;have Uo:=hl.below q0;obtain ⟨la,lc,pW⟩:=hl.form;subst pW;obtain ⟨_,_,lM,_,_,hc⟩:=Uo;simp only [Value.slice.injEq] at lM;obtain ⟨rfl,-,rfl⟩:=lM;obtain ⟨g,o,rfl,c1,-⟩:=hc j hj;have HQ:=ab q0;have cY:=Aq Zg;have h0:(0:Int)≤(j:Int):=by omega
 have h1:(j:Int)<(lk.length:Int):=by omega
 have h2:((j:Int)+1) - 1=(j:Int):=by omega
 generalize (lk[j]).1=kk at c1 ⊢;clear q0 hl hc x0 Zg hj;go_enter func95,ntmps95;go_wp2;go_ret;exact ⟨rfl,HQ.out⟩
theorem Ce(f:Int)(lv:Value)(lk:List B.Lk)(i:Nat)(en:ByteArray)(w:World)(hl:B.dm w lv lk)(hi:i≤lk.length)(hm:lk.length≤4000):Calls prog 95 #[.agg #[.int .i64 f,lv],.int .i64 (i:Int),.string en] w fun e w'=>e = .returned (.bool (A0 lk i en))∧Below w.heap.size w w':=by
 by_cases Zg:en=⟨#[]⟩
 ·subst Zg;have e:A0 lk i ⟨#[]⟩=false:=by
   unfold A0;cases i with
   | zero=>rfl
   | succ j=>simp
  rw [e];exact CA f lv lk i w hl
 ·cases i with
  | zero=>exact FH f lv lk en w hl
  | succ j =>
   have e:A0 lk (j+1) en=!cR lk[j].1 en:=by
    unfold A0;simp only;rw [if_neg Zg,af (by omega)]
   rw [e,show ((j+1:Nat):Int)=(j:Int)+1 by omega]
   exact FI f lv lk j en w hl (by omega) hm Zg
theorem Jq:∀ {l:List Pr},gK l→l.Pairwise fun a b=>cR a.1 b.1=true
 | [],_=>List.Pairwise.nil
 | p::l,h=>by
  have:=qD (a:=[p]) (b:=l) h;exact List.Pairwise.cons (fun q hq=>this.2.2 p (by simp) q hq) (Jq this.2.1)
theorem vu{α:Type}{R:α→α→Prop}{Q:α→Bool}(hR:∀ a b,R a b→Q a=true→Q b=true):∀ {l:List α},l.Pairwise R→l.filter Q=l.drop (l.findIdx Q)
 | [],_=>rfl
 | a::l,h=>by
  cases h with
  | cons h1 h2 =>
   cases hq:Q a
   ·rw [List.filter_cons_of_neg (by rw [hq];simp),lB,hq,vu hR h2];simp
   ·rw [List.filter_cons_of_pos hq,lB,hq];simp only [cond_true,List.drop_zero];rw [List.filter_eq_self.2 (fun b hb=>hR a b (h1 b hb) hq)]
theorem vr{α:Type}{R:α→α→Prop}{P:α→Bool}(hR:∀ a b,R a b→P b=true→P a=true):∀ {l:List α},l.Pairwise R→l.filter P=l.take (l.findIdx fun a=>!P a)
 | [],_=>rfl
 | a::l,h=>by
  cases h with
  | cons h1 h2 =>
   cases hp:P a
   ·rw [List.filter_cons_of_neg (by rw [hp];simp),lB,hp]
    simp only [Bool.not_false,cond_true,List.take_zero];rw [List.filter_eq_nil_iff.2 (fun b hb Gd=>by rw [hR a b (h1 b hb) Gd] at hp;cases hp)]
   ·rw [List.filter_cons_of_pos hp,lB,hp,vr hR h2];simp
def jQ(fr en:ByteArray)(p:Pr):Bool:=!cR p.1 fr && (decide (en=⟨#[]⟩) || cR p.1 en)
theorem KE{l:List Pr}(hr:gK l)(fr en:ByteArray):ed l fr en=l.filter (jQ fr en):=by
 have hp:=Jq hr;have e1:l.filter (fun p=>decide (en=⟨#[]⟩) || cR p.1 en)=l.take (sI l en):=by
  unfold sI;split
  ·rename_i h
   rw [List.take_length,List.filter_eq_self.2 (fun p _=>by simp [h])]
  ·rename_i h
   have:=vr (P:=fun p:Pr=>cR p.1 en) (fun a b Bg hb=>dq Bg hb) hp
   simp only [decide_eq_false h,Bool.false_or];rw [this];rfl
 have e2:l.filter (jQ fr en)=(l.take (sI l en)).filter (fun p=>!cR p.1 fr):=by
  rw [← e1,List.filter_filter];rfl
 have NO:(l.take (sI l en)).Pairwise fun a b=>cR a.1 b.1=true:=hp.sublist (List.take_sublist _ _)
 rw [e2,vu (Q:=fun p:Pr=>!cR p.1 fr) (fun a b Bg ha=>by
  cases h:cR b.1 fr
  ·rfl
  ·rw [dq Bg h] at ha;simp at ha) NO]
 unfold ed;have hE:=Ke l en;have hq:(l.take (sI l en)).findIdx (fun p=>!cR p.1 fr)=min (aS l fr) (sI l en):=by
  rw [List.findIdx_take];show min (sI l en) (aS l fr)=_
  omega
 rw [hq];by_cases h:aS l fr≤sI l en
 ·rw [Nat.max_eq_right h,aT h]
 ·rw [Nat.max_eq_left (by omega),Nat.min_eq_right (by omega)]
  rw [dC (by rw [ag];omega),dC (by rw [ag];omega)]
def yU(en:ByteArray):Option ByteArray→Bool
 | none=>false
 | some k=>!decide (en=⟨#[]⟩) && !cR k en
def lQ{α:Type}(g:α→List Pr→List Pr × Bool)(en:ByteArray):Option ByteArray→List ByteArray→List α→List Pr→List Pr × Bool
 | _,_,[],acc=>(acc,true)
 | ah,ks,c::cs,acc=>if yU en ah=true then (acc,false) else if (g c acc).2=true then lQ g en ks.head? ks.tail cs (g c acc).1 else ((g c acc).1,false)
def fy(fr en:ByteArray)(lim:Nat):(h:Nat)→Nd h→List Pr→List Pr × Bool
 | 0,t,acc=>(acc++(ed t.2 fr en).take (lim - acc.length),decide ((acc++(ed t.2 fr en).take (lim - acc.length)).length<lim))
 | h+1,t,acc=>lQ (fy fr en lim h) en (iZ none (t.2.1.take (t.2.1.findIdx fun k=>cR fr k))) (t.2.1.drop (t.2.1.findIdx fun k=>cR fr k)) (t.2.2.drop (t.2.1.findIdx fun k=>cR fr k)) acc
def OP(en:ByteArray)(hi:Option ByteArray):Prop:=∀ u,hi=some u→¬ en=⟨#[]⟩∧cR u en=false
theorem Jj{en k:ByteArray}{hi:Option ByteArray}(hs:¬ en=⟨#[]⟩∧cR k en=false)(hk:ltB k hi):OP en hi:=fun u hu=>⟨hs.1,by
 cases h:cR u en
 ·rfl
 ·rw [dq (hk u hu) h] at hs;cases hs.2⟩
theorem Jr{fr en:ByteArray}{l:List Pr}{lo:Option ByteArray}(hl:∀ p ∈ l,geB lo p.1)(k:ByteArray)(hk:lo=some k)(hs:¬ en=⟨#[]⟩∧cR k en=false):l.filter (jQ fr en)=[] :=
 List.filter_eq_nil_iff.2 fun p hp h=>by
  have h1:=hl p hp k hk;unfold jQ at h;rw [decide_eq_false hs.1,Bool.false_or,bV] at h;have h2:cR k en=true:=by
   cases SE:cR k p.1
   ·have:=mu SE h1;rw [this];exact h.2
   ·exact dq SE h.2
  rw [h2] at hs;cases hs.2
def I4(fr en:ByteArray)(lim:Nat)(l acc:List Pr)(hi:Option ByteArray)(r:List Pr × Bool):Prop :=
 r.1=acc++(l.filter (jQ fr en)).take (lim - acc.length)∧(r.2=false→lim≤r.1.length∨OP en hi)
theorem OE{α:Type}(n:Nat)(X Y:List α):(X++Y).take n=X.take n++Y.take (n - (X.take n).length):=by
 rw [List.take_append,ag];congr 2
 omega
theorem E8{fr en:ByteArray}{lim h:Nat}(ih:∀ {t:Nd h} {lo hi:Option ByteArray} {acc:List Pr},kG h t lo hi→acc.length≤lim→I4 fr en lim (flat h t) acc hi (fy fr en lim h t acc)):∀ (cs:List (Nd h)) {ks:List ByteArray} {lo hi ah:Option ByteArray} {acc:List Pr},gi (kG h) lo hi ks cs→(∀ k,ah=some k→lo=some k)→acc.length≤lim→I4 fr en lim (cs.flatMap (flat h)) acc hi (lQ (fy fr en lim h) en ah ks cs acc)
 | [],ks,_,_,_,_,ho,_,_=>by cases ks <;> simp [gi] at ho
 | c::cs,ks,lo,hi,ah,acc,ho,hah,hacc=>by
  have Ie:=xU (F:=flat h) (fun _ _ _ hc=>qh h hc.1) ho
  unfold lQ;by_cases hb:yU en ah=true
  ·rw [if_pos hb];cases ah with
   | none=>simp [yU] at hb
   | some k =>
    have n7:=hah k rfl;have hs:¬ en=⟨#[]⟩∧cR k en=false:=by
     simp only [yU,bV,Bool.not_eq_true',decide_eq_false_iff_not] at hb;exact hb
    refine ⟨by rw [Jr (fun p hp=>(Ie p hp).1) k n7 hs];simp,fun _=>.inr ?_⟩
    obtain ⟨p,hp⟩ : ∃ p,p ∈ flat h c:=by
     have:=rV h (rW ho);have h1:1≤2 ^ h:=Nat.one_le_two_pow;exact List.exists_mem_of_length_pos (by omega)
    have Y5:=Ie p (by rw [List.flatMap_cons];exact dV _ hp)
    exact Jj hs fun u hu=>VF (Y5.1 k n7) (Y5.2 u hu)
  ·rw [if_neg hb];cases ks with
   | nil =>
    cases cs with
    | cons _ _=>simp [gi] at ho
    | nil =>
     have hc:kG h c lo hi:=ho;obtain ⟨g1,g2⟩:=ih (acc:=acc) hc hacc;have e:([c] : List (Nd h)).flatMap (flat h)=flat h c:=by simp
     rw [e];by_cases hr:(fy fr en lim h c acc).2=true
     ·rw [if_pos hr];refine ⟨?_,fun h=>?_⟩
      ·show (fy fr en lim h c acc).1=_
       exact g1
      ·exact absurd h (by show ¬ true=false;simp)
     ·rw [if_neg hr];exact ⟨g1,fun _=>g2 (by simpa using hr)⟩
   | cons k ks =>
    obtain ⟨hk,hm,hc,J2⟩:=ho;obtain ⟨g1,g2⟩:=ih (acc:=acc) hc hacc;have aeC:=xU (F:=flat h) (fun _ _ _ hc=>qh h hc.1) J2
    have hlen:(fy fr en lim h c acc).1.length≤lim:=by
     rw [g1,ae,ag];omega
    have hle:(fy fr en lim h c acc).1.length=acc.length+(((flat h c).filter (jQ fr en)).take (lim - acc.length)).length:=by rw [g1,ae]
    have key:∀ Y:List Pr,acc++(((flat h c).filter (jQ fr en))++Y).take (lim - acc.length)=(fy fr en lim h c acc).1++Y.take (lim - (fy fr en lim h c acc).1.length):=fun Y=>by
     rw [OE,← ay,← g1,hle];congr 2
     omega
    rw [List.flatMap_cons];by_cases hr:(fy fr en lim h c acc).2=true
    ·rw [if_pos hr];obtain ⟨r1,r2⟩:=E8 ih cs (ah:=some k) J2 (fun k' NT=>NT) hlen
     refine ⟨?_,r2⟩;show (lQ (fy fr en lim h) en (some k) ks cs (fy fr en lim h c acc).1).1=_
     rw [r1,List.filter_append,key]
    ·rw [if_neg hr];refine ⟨?_,fun _=>?_⟩
     ·show (fy fr en lim h c acc).1=_
      rw [List.filter_append,key];rcases g2 (by simpa using hr) with h1 | h1
      ·rw [show lim - (fy fr en lim h c acc).1.length=0 by omega];simp
      ·rw [Jr (fun p hp=>(aeC p hp).1) k rfl (h1 k rfl)];simp
     ·rcases g2 (by simpa using hr) with h1 | h1
      ·exact .inl h1
      ·exact .inr (Jj (h1 k rfl) hk.2)
theorem Cq{fr en:ByteArray}{lim:Nat}:∀ (h:Nat) {t:Nd h} {lo hi:Option ByteArray} {acc:List Pr},Ok h t lo hi→acc.length≤lim→I4 fr en lim (flat h t) acc hi (fy fr en lim h t acc)
 | 0,t,lo,hi,acc,ho,hacc=>by
  refine ⟨?_,fun hf=>.inl ?_⟩
  ·show acc++(ed t.2 fr en).take _=acc++(t.2.filter (jQ fr en)).take _
   rw [KE ho.1]
  ·have hf:decide ((acc++(ed t.2 fr en).take (lim - acc.length)).length<lim)=false:=hf;have:=of_decide_eq_false hf;show lim≤(acc++(ed t.2 fr en).take (lim - acc.length)).length
   omega
 | h+1,t,lo,hi,acc,ho,hacc=>by
  have hc:=(eS h t lo hi).1 ho;have hl:=iD hc;obtain ⟨q,hq⟩ : ∃ q,q=t.2.1.findIdx fun k=>cR fr k:=⟨_,rfl⟩
  have hql:q≤t.2.1.length:=by rw [hq];exact List.findIdx_le_length
  obtain ⟨c,hcq⟩ : ∃ c,t.2.2[q]?=some c:=⟨_,af (by omega)⟩
  obtain ⟨e1,e2,el,ei⟩:=ml hl hcq;have vj:=hc;rw [e1,e2] at vj;obtain ⟨js,J2⟩:=(pF el).1 vj;have hA:∀ k ∈ t.2.1.take q,cR fr k=false:=fun k hk=>by
   obtain ⟨i,mc,rfl⟩:=aK hk;rw [ag] at mc;rw [bF];have bO:i<t.2.1.findIdx fun k=>cR fr k:=by rw [← hq];omega
   have:=List.not_of_lt_findIdx bO;simpa using this
  have aaZ:((t.2.2.take q).flatMap (flat h)).filter (jQ fr en)=[]:=List.filter_eq_nil_iff.2 fun p hp hr=>by
   have:=rS (P:=kG h) (fun _ _ _ hc=>qh h hc.1) js hA p hp
   unfold jQ at hr;rw [this] at hr;simp at hr
  have abD:t.2.2.drop q=c::t.2.2.drop (q+1):=by
   obtain ⟨Qq,hv⟩:=List.getElem?_eq_some_iff.1 hcq;have:=bg Qq;rw [hv] at this;exact this
  have hr:=E8 (fr:=fr) (en:=en) (lim:=lim) (fun ho ha=>Cq h ho.1 ha) (c::t.2.2.drop (q+1)) (ah:=iZ none (t.2.1.take q)) J2 (fun k hk=>by
   cases hA2:t.2.1.take q with
   | nil=>rw [hA2] at hk;simp [iZ] at hk
   | cons a A=>rw [hA2] at hk;exact hk) hacc
  have ef:(flat (h+1) t).filter (jQ fr en)=((c::t.2.2.drop (q+1)).flatMap (flat h)).filter (jQ fr en):=by
   show (t.2.2.flatMap (flat h)).filter _=_
   rw [e2,aN,List.filter_append];rw [← e2,aaZ,List.nil_append]
  have eg:fy fr en lim (h+1) t acc=lQ (fy fr en lim h) en (iZ none (t.2.1.take q)) (t.2.1.drop q) (c::t.2.2.drop (q+1)) acc:=by
   rw [← abD,hq];rfl
  rw [eg];exact ⟨by rw [ef];exact hr.1,hr.2⟩
theorem Mw{fr en:ByteArray}{lim h:Nat}{t:Nd h}(ho:Ok h t none none):(fy fr en lim h t []).1=((flat h t).filter (jQ fr en)).take lim:=(Cq h ho (by simp)).1
theorem df.refl(w:World):df w w:=⟨aj _,fun _ _=>.inl rfl⟩
theorem Va.same{w w':World}{k:Nat}(h:Va w' k)(he:w'.heap[k]?=w.heap[k]?):Va w k:=by
 refine ⟨fun j v hc=>h.1 j v ((World.cell?_of_block (a:=⟨k,j,none⟩) he).trans hc),fun cs fr h1=>h.2.1 cs fr (he.trans h1),fun cs fr h1=>h.2.2 cs fr (he.trans h1)⟩
theorem df.trans{w w1 w2:World}(h1:df w w1)(h2:df w1 w2):df w w2:=⟨ar h1.size h2.size,fun k hk=>by
 rcases h1.block k hk with e | e
 ·rcases h2.block k (aq hk h1.size) with e2 | e2
  ·exact .inl (e2.trans e)
  ·exact .inr (e2.same e)
 ·exact .inr e⟩
theorem OR(p:PD):∀ q ∈ p.sn.us,∃ id,q = .pg id:=fun q hq=>by
 cases p with
 | leaf l=>simp [PD.sn] at hq
 | br f lk =>
  obtain ⟨i,hi,rfl⟩:=aK hq;obtain ⟨x,_,h2⟩:=Ju f lk i _ (af hi);exact ⟨x,h2⟩
def pz(d:S.V.bE)(w0:World):Sys d XT where
 K:=fun w p x=>(eu (cF d) w0 x.1 p x.2∧jH x)∧(df w0 w∨∃ id,p = .pg id)
 N:=fun w n x=>(aW (cF d) w0 x.1 n x.2∧jH x)∧(df w0 w∨∀ q ∈ n.us,∃ id,q = .pg id)
 E:=False
 sub:=ZU
 rk:=fun x=>x.1
 ka:=fun ha h=>⟨h.1,h.2.imp (fun g=>g.trans ha) id⟩
 na:=fun ha h=>⟨h.1,h.2.imp (fun g=>g.trans ha) id⟩
 qi:=fun {w n x i p} hn hp=>by
  obtain ⟨y,h1,h2⟩:=(dh d).qi (w:=w0) (n:=n) (x:=x) hn.1 hp;exact ⟨y,h1,h2,hn.2.imp id fun g=>g p (cL hp)⟩
 fit:=fun h=>lp h.1.1 h.1.2
 gX:=fun h=>by
  obtain ⟨p,h1,h2⟩:=JF h.1.1;exact .inr ⟨p,h1,fun w'=>⟨⟨h2 w0,h.1.2⟩,.inr (OR p)⟩⟩
 node:=fun h=>by
  obtain ⟨⟨⟨_,m,pv,lv,cv,hs,hm⟩,hg⟩,ha⟩:=h;rcases ha with ha | ⟨id,he⟩
  ·exact ⟨m,pv,lv,cv,hs.cN ha,⟨hm,hg⟩,.inl ha⟩
  ·cases he
 Z0:=.inr fun x i y hs=>by
  obtain ⟨h,t⟩:=x;cases h with
  | zero=>exact hs.elim
  | succ h =>
   obtain ⟨c,_,rfl⟩:=hs;exact aj _
def zb(w:World)(base:Nat)(v:Value)(l:List Pr):Prop :=
 fJ w base v l∧∀ g,v.ownBlock=some g→∃ cur,w.heap[g]?=some (.cells cur 52 (0,0))∧∀ u ∈ cur.toList,∃ s,u = .string s
theorem zb.nil(w:World)(base:Nat):zb w base (.slice none 0 0) []:=⟨fJ.nil w base,fun g h=>by simp [Value.ownBlock] at h⟩
theorem rQ(l:List Pr):∀ u ∈ iH l,∃ s,u = .string s:=by
 intro u hu;simp only [iH,l8] at hu;obtain ⟨p,_,h⟩:=hu;simp at h
 rcases h with rfl | rfl
 ·exact ⟨_,rfl⟩
 ·exact ⟨_,rfl⟩
theorem C4(n:Nat):∀ u ∈ (Builtin.zeroCells (Value.agg #[.string ByteArray.empty,.string ByteArray.empty]).cells n).toList,∃ s,u = .string s:=by
 intro u hu;simp only [Builtin.zeroCells,Value.cells] at hu;simp at hu
 obtain ⟨i,_,rfl⟩:=hu;rcases bY i with h | h
 ·rw [h];exact ⟨_,rfl⟩
 ·rw [h];exact ⟨_,rfl⟩
theorem zb.app(base:Nat)(v s:Value)(xs us:List Pr)(w:World)(h:zb w base v xs)(hs:gM w s us)(hb:(xs.length+us.length)*32≤140737488355328)(dd:base≤w.heap.size):∃ a' eO w',(Builtin.append_ #[63,63] 63 #[v,s]).run prog w = .ok (.slice a' (xs.length+us.length) eO) w'∧zb w' base (.slice a' (xs.length+us.length) eO) (xs++us)∧w.grownBy w' v.ownBlock∧∀ g,(Value.slice a' (xs.length+us.length) eO).ownBlock=some g→v.ownBlock=some g∨w.heap.size≤g:=by
 obtain ⟨i0,hi,hz,b8,kQ⟩:=info_parts JY;obtain ⟨a',c',w',hr,aE,hg⟩:=gh base v s xs us w h.1 hs hb dd;suffices hh:(∀ g,(Value.slice a' (xs.length+us.length) c').ownBlock=some g→v.ownBlock=some g∨w.heap.size≤g)∧∀ g,(Value.slice a' (xs.length+us.length) c').ownBlock=some g→∃ cur,w'.heap[g]?=some (.cells cur 52 (0,0))∧∀ u ∈ cur.toList,∃ s,u = .string s from ⟨a',c',w',hr,⟨aE,hh.2⟩,hg,hh.1⟩
 have NV:∃ a' c',v = .slice a' xs.length c':=h.1.form;obtain ⟨a,RH,rfl,hle,qP,hc⟩:=hs;cases a with
 | none =>
  have h0:us=[]:=by
   cases us with
   | nil=>rfl
   | cons u r=>obtain ⟨g,o,he,_⟩:=hc 0 (by simp);cases he
  subst h0;have iM:=run_append_owned_none (P:=prog) w base 63 63 52 i0 2 underlying63 hi v xs.length (iH xs) h.1;rw [qP rfl] at hr;rw [List.length_nil] at hr aE ⊢;rw [iM] at hr;simp only [Result.ok.injEq] at hr;obtain ⟨hv,rfl⟩:=hr;rw [← hv];exact ⟨fun g gJ=>.inl gJ,h.2⟩
 | some ad =>
  have ie:∀ j u,(iH us)[j]?=some u→w.cell? (ad.add j)=some u:=fun j u hj=>by
   have lY:=(List.getElem?_eq_some_iff.1 hj).1;rw [eK] at lY;obtain ⟨g,o,he,c1,c2⟩:=hc (j / 2) (by omega)
   cases he;have hg:=wi us (j / 2) (by omega)
   rw [bh];rcases bY j with hm | hm
   ·have e:j / 2*2=j:=by omega
    rw [e] at hg c1;rw [hg.1] at hj;cases hj;exact c1
   ·have e:j / 2*2+1=j:=by omega
    rw [dN,e] at c2;rw [e] at hg;rw [hg.2] at hj;cases hj;exact c2
  rcases h.1.2 with ⟨rfl,h0⟩ | ⟨g0,cap,cur,rfl,mS,qm,CQ,sA,fI,lE⟩
  ·by_cases hu0:us.length=0
   ·have NM:us=[]:=List.length_eq_zero_iff.1 hu0;have hxs:xs=[]:=by
     have:=h0;cases xs with
     | nil=>rfl
     | cons _ _=>simp at this
    subst NM hxs;obtain ⟨v',w2,iM,_,_,ae2⟩:=run_append_own (P:=prog) w base 63 63 52 i0 _ 2 32 underlying63 hi hz b8 kQ rfl (by decide) (.slice none 0 0) 0 [] (World.ownsRow_nil _ _ _ _) ad 0 RH [] rfl (fun j u hj=>by simp at hj) (fun u hu=>by simp at hu) (by unfold maxLen;omega) (by omega) dd
    have hv:=ae2.2 ⟨rfl,rfl⟩;subst hv;have hr:(Builtin.append_ #[63,63] 63 #[.slice none 0 0,.slice (some ad) 0 RH]).run prog w = .ok (.slice a' 0 c') w':=hr;rw [iM] at hr;simp only [Result.ok.injEq,Value.slice.injEq] at hr;obtain ⟨⟨rfl,-,-⟩,-⟩:=hr;exact ⟨fun g gJ=>by simp [Value.ownBlock] at gJ,fun g gJ=>by simp [Value.ownBlock] at gJ⟩
   ·have hq:=run_append_nil (P:=prog) w 63 63 52 i0 _ underlying63 hi hz ad us.length RH (iH us) (by rw [b8];exact eK us) ie (by omega) (by omega) (by rw [kQ];omega)
    rw [hq] at hr;simp only [Result.ok.injEq,Value.slice.injEq] at hr;obtain ⟨⟨rfl,-,-⟩,rfl⟩:=hr;refine ⟨fun g gJ=>?_,fun g gJ=>?_⟩
    ·simp only [Value.ownBlock,Option.some.injEq] at gJ;right;subst gJ;simp
    simp only [Value.ownBlock,Option.some.injEq] at gJ;subst gJ;refine ⟨_,heap_alloc_new (World.drew _) _,fun u hu=>?_⟩
    simp only [b7,cA] at hu;rcases hu with hu | hu
    ·exact rQ us u (by simpa using hu)
    ·exact C4 _ u hu
  ·have zr:∀ u ∈ cur.toList,∃ s,u = .string s:=by
    obtain ⟨fN,h1,h2⟩:=h.2 g0 rfl;rw [qm] at h1;simp only [Option.some.injEq,Obj.cells.injEq,and_true] at h1;subst h1;exact h2
   by_cases eb:xs.length+us.length≤cap
   ·have hq:=run_append_room (P:=prog) w 63 63 52 i0 underlying63 hi g0 xs.length cap cur qm ad us.length RH (iH us) (by rw [b8];exact eK us) ie (by intro u hu;obtain ⟨s,rfl⟩:=rQ us u hu;rfl) eb (by rw [b8,fI,eK];omega)
    rw [hq] at hr;simp only [Result.ok.injEq,Value.slice.injEq] at hr;obtain ⟨⟨rfl,-,-⟩,rfl⟩:=hr;refine ⟨fun g gJ=>?_,fun g gJ=>?_⟩
    ·simp only [Value.ownBlock,Option.some.injEq] at gJ;left;subst gJ;rfl
    simp only [Value.ownBlock,Option.some.injEq] at gJ;subst gJ;refine ⟨_,setRow_heap _ g0 cur _ _ _ qm,fun u hu=>?_⟩
    simp only [cA] at hu;rcases hu with (hu | hu) | hu
    ·exact zr u (bJ hu)
    ·exact rQ us u hu
    ·exact zr u (bK hu)
   ·have n7:(iH xs).length=xs.length*i0.size:=by rw [b8];exact eK xs
    have holds:∀ j u,(iH xs)[j]?=some u→w.cell? ((⟨g0,0,none⟩ : Addr).add j)=some u:=World.ownsRow.cells h.1 (g:=g0) rfl;have hq:=run_append_grow (P:=prog) w 63 63 52 i0 _ underlying63 hi hz ⟨g0,0,none⟩ xs.length cap (iH xs) n7 holds ad us.length RH (iH us) (by rw [b8];exact eK us) ie (by omega) (by omega) (growslice_fits (by omega) (by rw [kQ];omega))
    rw [hq] at hr;simp only [Result.ok.injEq,Value.slice.injEq] at hr;obtain ⟨⟨rfl,-,-⟩,rfl⟩:=hr;refine ⟨fun g gJ=>?_,fun g gJ=>?_⟩
    ·simp only [Value.ownBlock,Option.some.injEq] at gJ;right;subst gJ;simp
    simp only [Value.ownBlock,Option.some.injEq] at gJ;subst gJ;refine ⟨_,heap_alloc_new (World.drew _) _,fun u hu=>?_⟩
    simp only [b7,cA] at hu;rcases hu with (hu | hu) | hu
    ·exact rQ xs u (by simpa using hu)
    ·exact rQ us u (by simpa using hu)
    ·exact C4 _ u hu
open Go.Maps
variable {b:Nat} {w:World} {l:List Nat}
def TZ:C.Ch→Int
 | .pg id=>id
 | .nd _=>0
theorem xP(p:C.Ch)(w:World):Calls prog 67 #[p.val] w fun e w'=>e = .returned (.int .i64 (TZ p))∧w=w':=by
 cases p with
 | pg id =>
  have a1:=fun W=>RS (.int .i64 id) W
  show Calls prog 67 #[.iface 146 (.int .i64 id)] w fun e w'=>e = .returned (.int .i64 id)∧w=w'
  go_enter func67,ntmps67;go_wp2;go_ret;exact ⟨rfl,rfl⟩
 | nd b =>
  have a1:=fun W=>Km (.pointer (some ⟨b,0,none⟩)) W
  show Calls prog 67 #[.iface 152 (.pointer (some ⟨b,0,none⟩))] w fun e w'=>e = .returned (.int .i64 0)∧w=w'
  go_enter func67,ntmps67;go_wp2;go_ret;exact ⟨rfl,rfl⟩
theorem P8:Keyed prog 3:=int_keyed underlying3
theorem Vw(w:World):(zeroValue 208).run prog w = .ok (.agg #[]) w:=by kernel_rfl
theorem aek(i:Nat)(h:i<1048576):keyOf prog 3 (.int .i64 (i:Int))=some (.int .i64 (i:Int)):=keyOf_int_mk underlying3 (WalkArith.wf_i64 (by omega))
def LF(l:List Nat):DataW Unit:=setOf (.agg []) (l.map fun i:Nat=>Lit.int .i64 (i:Int))
structure Met(w:World)(b:Nat)(l:List Nat):Prop where
 ok:∀ i ∈ l,1≤i∧i<1048576
 map:w.ownsMap prog 3 (unitElem (H:=Unit)) b l.length (LF l)
theorem TK(l:List Nat)(j:Nat):Maps.has (LF l) (.int .i64 (j:Int))=decide (j ∈ l):=by
 unfold LF;rw [has_setOf _ _ _ (fun x hx=>by
  obtain ⟨i,hi,rfl⟩:=List.mem_map.1 hx;exact trivial)]
 rw [kC];simp only [List.any_map,List.any_eq_true,decide_eq_true_eq,Function.comp,Lit.sameKey];constructor
 ·rintro ⟨x,hx,he⟩;have h9:(x:Int)=(j:Int):=by simpa using he
  have:x=j:=by omega
  exact this▸hx
 ·intro hj;exact ⟨j,hj,by simp⟩
theorem Met.put{l:List Nat}(i:Nat):(LF l).put (.int .i64 (i:Int)) (.agg [])=LF (l++[i]):=by
 unfold LF;rw [bz,List.map_singleton,setOf_snoc]
theorem Met.same{w':World}(h:Met w b l)(hb:w'.heap[b]?=w.heap[b]?):Met w' b l:=by
 refine ⟨h.ok,?_⟩;have:=h.map;obtain ⟨es,clock,h1,h2⟩:=this;exact ⟨es,clock,hb.trans h1,h2⟩
theorem Met.lt(h:Met w b l):b<w.heap.size:=by
 obtain ⟨es,clock,h1,_⟩:=h.map;exact (Array.getElem?_eq_some_iff.1 h1).1
theorem Met.ne(h:Met w b l){g o:Nat}{u:Value}(hc:w.cell? ⟨g,o,none⟩=some u):g≠b:=fun e=>by
 subst e;obtain ⟨es,clock,h1,_⟩:=h.map;simp [World.cell?,h1] at hc
theorem r9(p:C.Ch)(i:Nat)(hi:TZ p=(i:Int))(bO:i<1048576)(b:Nat)(l:List Nat)(w:World)(h:Met w b l)(hn:l.length<1099511627776):Calls prog 91 #[.map (some b),p.val] w fun e w'=>e = .returned (.bool (decide (i ∈ l)))∧Met w' b (if i=0 then l else l++[i])∧w.grownBy w' (some b):=by
 have HP:=ab (xP p w);have HK:=ab (aek i bO);have HM:=ab h;have HH:=ab (TK l i);have aE:=h.map;obtain ⟨pt,px,ir⟩:=bU p;rw [hi] at HP;rw [ir] at HP ⊢;clear h ir hi;go_enter func91,ntmps91;go_wp2_with fail;refine HP.out.mono ?_
 rintro e w1 ⟨rfl,rfl⟩;by_cases h0:i=0
 ·subst h0;go_wp2_with (first
   | (at_lookup;refine wpList_lookup_own_unit _ rfl _ _ 166 rfl 3 208 P8 underlying166 (Vw _) b l.length _ rfl aE _ _ rfl HK.out ?_;rw [HH.out])
   | go_in)
  go_ret;exact ⟨rfl,⟨HM.out.ok,HM.out.map.alloc _⟩,(World.grownBy_alloc _ _ _)⟩
 ·have ud:¬ (i:Int)=0:=by omega
  go_wp2_with (first
   | (at_lookup;refine wpList_lookup_own_unit _ rfl _ _ 166 rfl 3 208 P8 underlying166 (Vw _) b l.length _ rfl aE _ _ rfl HK.out ?_;rw [HH.out])
   | (at_mapUpdate;refine wpList_mapUpdate_own _ rfl _ _ _ 166 rfl 3 208 P8 underlying166 (unitElem (H:=Unit)) b l.length _ rfl (aE.alloc _) (by unfold maxLen;omega) _ _ _ rfl rfl HK.out _ [] unitElem_mk ?_;intro w2 lO yx)
   | go_in)
  go_ret;refine ⟨rfl,⟨?_,?_⟩,(World.grownBy_alloc _ _ _).trans yx⟩
  ·intro j hj;rcases List.mem_append.1 hj with hj | hj
   ·exact HM.out.ok j hj
   ·have:j=i:=by simpa using hj
    omega
  ·rw [← Met.put,ae];exact lO
theorem JP(i:Nat)(l:List Nat):(if i=0 then l else l++[i])=l++cU i:=by
 unfold cU;split <;> simp
end T
end Go.Proofs.YtihmgigfkmofnaaGreatDoor
namespace Go.Proofs.YtihmgigfkmofnaaGreatDoor
namespace T
open Go.RowKit
variable {db:Nat} {v:Value} {mb:Nat} {w:World} {bp:Nat} {F:Nat→Prop} {w':World} {b:Nat} {cv lv pv:Value} {n:SN}
structure wV(db bp mb:Nat)(w:World)(v:Value)(w':World)(v':Value):Prop where
 size:w.heap.size≤w'.heap.size
 block:∀ k,k<w.heap.size→k≠db→k≠bp→k≠mb→v.ownBlock≠some k→w'.heap[k]?=w.heap[k]?
 own:∀ g,v'.ownBlock=some g→v.ownBlock=some g∨w.heap.size≤g
theorem wV.trans{w1 w2:World}{v1 v2:Value}(h:wV db bp mb w v w1 v1)(k:wV db bp mb w1 v1 w2 v2):wV db bp mb w v w2 v2:=by
 refine ⟨ar h.size k.size,fun i hi h1 h2 hm h3=>?_,fun g hg=>?_⟩
 ·rw [k.block i (aq hi h.size) h1 h2 hm (fun e=>by
   rcases h.own i e with e' | e'
   ·exact h3 e'
   ·omega)]
  exact h.block i hi h1 h2 hm h3
 ·rcases k.own g hg with e | e
  ·exact h.own g e
  ·exact .inr (ar h.size e)
theorem wV.mv(v:Value)(h:Mv db F w w'):wV db bp mb w v w' v:=⟨h.size,fun k hk h1 _ _ _=>h.one.block k hk h1,fun _ h=>.inl h⟩
theorem wV.below(v:Value)(h:Below w.heap.size w w'):wV db bp mb w v w' v:=⟨h.size,fun k hk _ _ _ _=>h.block k hk,fun _ h=>.inl h⟩
structure Br(w:World)(b:Nat)(n:SN)(pv lv cv:Value):Prop where
 row:B.au w b #[pv,.int .i64 n.f,lv,cv] 155
 bn:B.dm w lv n.lk
 kids:C.dm w cv n.us
theorem dP.br(h:dP w b n pv lv cv):Br w b n pv lv cv:=⟨h.row,h.bn,h.kids⟩
theorem Br.gth{base:Nat}{A:Nat→Addr}{d:S.V.bE}{v':Value}{acc:List Pr}{lo:Nat}{T:TypeId}(h:Br w b n pv lv cv)(hg:wV db bp mb w v w' v')(hv:Dv base A db F d w)(hp:B.au w bp #[v] T)(hT:T≠155)(hs:zb w lo v acc){M:List Nat}(hmt:Met w mb M):Br w' b n pv lv cv:=by
 have lW:∀ {g o:Nat} {u:Value},w.cell? ⟨g,o,none⟩=some u→g≠mb:=fun {g o u} hc e=>by
  subst e;obtain ⟨es,clock,h1,_⟩:=hmt.map;simp [World.cell?,h1] at hc
 obtain ⟨d',_,hd⟩:=hv.dev;obtain ⟨va,vc,lM⟩:=hs.1.form;have NX:∀ {g o:Nat} {u:Value},w.cell? ⟨g,o,none⟩=some u→(∀ a n c,u≠.slice a n c)→g≠bp:=fun {g o u} hc hu e=>by
  subst e;unfold B.au at hp;rw [cell_of_row w g o _ _ _ hp] at hc;have ho:o<1:=by have:=(Array.getElem?_eq_some_iff.1 hc).1;simpa using this
  have ho:o=0:=by omega
  subst ho;cases hc;exact hu _ _ _ lM
 have aE:∀ {g o:Nat} {u:Value},w.cell? ⟨g,o,none⟩=some u→(∀ s,u≠.string s)→v.ownBlock≠some g:=fun {g o u} hc hu e=>by
  obtain ⟨cur,h1,h2⟩:=hs.2 g e;rw [cell_of_row w g o cur _ _ h1] at hc;obtain ⟨h3,h4⟩:=Array.getElem?_eq_some_iff.1 hc;obtain ⟨s,hs⟩:=h2 u (by rw [← h4];exact gH h3)
  exact hu s hs
 refine ⟨?_,?_,?_⟩
 ·refine (hg.block b h.row.lt ?_ ?_ (lW (h.row.cell 0 (by simp))) ?_).trans h.row
  ·intro e;subst e;obtain ⟨mb,nb,Li,av,Dn,hb⟩:=hd;have h1:=h.row;unfold B.au at h1;rw [hb.dx] at h1;simp at h1
  ·intro e;subst e;have h1:=h.row;unfold B.au at h1 hp;rw [hp] at h1;simp only [Option.some.injEq,Obj.cells.injEq] at h1;exact hT h1.2.1
  ·intro e;obtain ⟨cur,h1,h2⟩:=hs.2 b e;have h3:=h.row;unfold B.au at h3;rw [h1] at h3;simp at h3
 ·obtain ⟨a,cap,rfl,hle,hn,hc⟩:=h.bn;refine ⟨a,cap,rfl,hle,hn,fun j hj=>?_⟩
  obtain ⟨g,o,ha,h1,h2⟩:=hc j hj;have he:=hg.block g (World.block_lt_of_cell? w _ h1) (fun e=>by subst e;exact (kX hd h1).1 _ rfl) (NX h1 (fun _ _ _ e=>by cases e)) (lW h1) (aE h2 (fun _ e=>by cases e))
  exact ⟨g,o,ha,bP he h1,bP he h2⟩
 ·obtain ⟨a,cap,rfl,hle,hn,hc⟩:=h.kids;refine ⟨a,cap,rfl,hle,hn,fun j u hj=>?_⟩
  obtain ⟨g,o,ha,h1⟩:=hc j u hj;obtain ⟨p,_,rfl⟩ : ∃ p ∈ n.us,p.val=u:=by
   have:=cL hj;simpa [C.bn] using this
  obtain ⟨t,x,NO⟩:=bU p;have Gl:=h1;rw [NO] at Gl;have he:=hg.block g (World.block_lt_of_cell? w _ h1) (fun e=>by subst e;exact (kX hd Gl).2 _ _ rfl) (NX Gl (fun _ _ _ e=>by cases e)) (lW h1) (aE Gl (fun _ e=>by cases e))
  exact ⟨g,o,ha,bP he h1⟩
end T
end Go.Proofs.YtihmgigfkmofnaaGreatDoor
