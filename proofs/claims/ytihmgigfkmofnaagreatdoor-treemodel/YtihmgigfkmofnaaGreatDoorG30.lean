import Derived.Test.YtihmgigfkmofnaaGreatDoorG29
import Derived.Maps.OwnOps
set_option maxHeartbeats 4000000
set_option maxRecDepth 100000
open Go.Proofs.Tryz
namespace Go.Proofs.YtihmgigfkmofnaaGreatDoor
namespace T
open Go.RowKit
def valOf(l:List Pr)(key:ByteArray):ByteArray:=if h:bh l key=true then (l[aJ l key]'(fG h)).2 else ⟨#[]⟩
theorem JX{X Y Z:List Pr}{key:ByteArray}(hX:∀ p ∈ X,cX p.1 key=true)(hZ:∀ p ∈ Z,cX key p.1=true):valOf (X++(Y++Z)) key=valOf Y key:=by
 unfold valOf;have hf:=nA (Y:=Y) hX hZ;by_cases h:bh Y key=true
 ·rw [dif_pos h,dif_pos (by rw [hf];exact h)]
  have h1:=kY (Y:=Y) hX hZ;have h2:=QL (X:=X) (Z:=Z) (fG h);have h3:(X++(Y++Z))[aJ (X++(Y++Z)) key]?=Y[aJ Y key]?:=by rw [h1];exact h2
  rw [af (fG (by rw [hf];exact h)),af (fG h)] at h3
  rw [Option.some.inj h3]
 ·rw [dif_neg h,dif_neg (by rw [hf];exact h)]
section
variable {base:Nat} {A:Nat→Addr} {db:Nat} {F:Nat→Prop} {d:S.V.bq} {W0:World} {r:cQ}
theorem LX{w:World}{tb:Nat}(key:ByteArray)(hc:Ts base A db F d W0 w tb r)(hn:(aC r).length≤4611686018427387904)(dm:key.size≤140737488355328):Calls prog 16 #[.pointer (some ⟨tb,0,none⟩),.string key] w fun e w'=>(cP (key,⟨#[]⟩)=true∧e = .returned (.tuple #[.bool (bh (aC r) key),.nilIface])∧((bh (aC r) key=true∧∃ r',qZ key (fun l=>cU l key) r r'∧Ts base A db F d W0 w' tb r')∨(bh (aC r) key=false∧Ts base A db F d W0 w' tb r)))∨(¬ cP (key,⟨#[]⟩)=true∧e = .returned (.tuple #[.bool false,.iface 360 (.pointer (some (A 0)))])∧Ts base A db F d W0 w' tb r):=by
 have A9:=ab (qD A key ⟨#[]⟩ w dm (by simp [ByteArray.size]) hc.dv.zJ)
 have HC:=ab hc;have HN:=ab hn;clear hc hn;by_cases hm:cP (key,⟨#[]⟩)=true
 ·rw [if_pos hm] at A9;have HM:=ab hm;clear dm hm;go_enter func16,ntmps16;go_wp2_with fail;refine A9.out.mono ?_
  rintro e w1 ⟨rfl,aP⟩;have QW:=ab (oh key HC.out HN.out aP);clear aP A9;go_wp2_with fail;refine QW.out.mono ?_
  rintro e w2 ⟨GU,iG,iw⟩;have oZ:=ab iG;have yL:=ab iw;have Fo:=ab (HC.out.mv iw iG);obtain ⟨rv,ht,VP⟩:=Fo.out.tr;have wg:=ab ht;have HRF:=ab VP;rcases GU with ⟨Uw,rfl⟩ | ⟨x,ss,s,a,c,pv,lv,cv,t0,VO,rfl,ho,gA,hs,kB,cx,hl,Rh⟩
  ·subst Uw;clear iG iw QW ht VP;go_wp2_with fail;refine (ia w2).mono ?_
   rintro e w2' ⟨rfl,rfl⟩;go_wp2_with fail;refine (Az (.slice none 0 0) [] key w2 (by simp) (gK.nil _)).mono ?_
   rintro e w5 ⟨u,rfl,hu,mB⟩;rw [show bh [] key=false from rfl]
   have Cx:=ab (Fo.out.below mB);obtain ⟨ua,uc,O9⟩:=hu.form;subst O9;clear hu mB;go_wp2;go_ret2;exact .inl ⟨HM.out,rfl,.inr ⟨rfl,Cx.out⟩⟩
  ·subst VO;obtain ⟨X,Z,iB,hX,hZ⟩:=FZ x.1 HC.out.ok.1 Rh;have Zv:bh (aC (some x)) key=bh s.n.ps key:=by
    show bh (flat x.1 x.2) key=_
    rw [iB,nA hX hZ,kB]
   have JJ:=ab Zv;have RJ:Hid (rv = .nilIface∨∃ t x,rv = .iface t x):=HRF.out.form;have HO:=ab ho;have HW:=ab gA;have sX:=ab kB;have ji:=ab cx;have HL:=ab hl;have sH:=ab (hU a ss.length c (ss.map eT.lk) s.lk s.n pv lv cv w2 (by rw [aA]) (by omega) ho.1.at hs)
   have CA:=ab hs.iD;have HPM:=ab hs.fine.1;obtain ⟨m,Co⟩ : ∃ m,m=ss.length:=⟨_,rfl⟩;have wh:=ab Co;rw [← Co] at sH HO HL ⊢;obtain ⟨xa,xc,zC⟩:=hs.iD.form;subst zC;clear ho gA hs kB cx hl iG iw QW Co ht VP Rh iB hX hZ Zv;go_wp2_with fail;refine sH.out.mono ?_
   rintro e w2' ⟨rfl,rfl⟩;go_wp2_with fail;refine (Az _ s.n.ps key w2 (by have:=iM s.n.ps;have:=ji.out;rw [← sX.out] at this;omega) CA.out).mono ?_
   rintro e w5 ⟨u,rfl,hu,mB⟩;have jj:=ab mB;have yg:=sB (s:=s) (t0:=t0) key (fun l=>cU l key) (fit_drop key) HC.out (yL.out.trans (Mv.of jj.out)) (oZ.out.below jj.out) (wg.out.below jj.out) RJ.out (by have:=HL.out;have:=wh.out;omega) (by rw [← wh.out];exact HO.out.below jj.out) (HW.out.bU (cM.of jj.out)) ji.out (by rw [← sX.out];exact HPM.out) (by rw [← sX.out];exact hu.at)
   rw [← wh.out] at yg;have RN:=ab yg;have Cx:=ab (Fo.out.below mB);obtain ⟨ua,uc,O9⟩:=hu.form;subst O9;clear hu mB yg;cases Ey:bh s.n.ps key with
   | false =>
    have HF:Hid (bh (aC (some x)) key=false):=JJ.out.trans Ey;go_wp2;go_ret2;exact .inl ⟨HM.out,by rw [HF.out];rfl,.inr ⟨HF.out,Cx.out⟩⟩
   | true =>
    have HF:Hid (bh (aC (some x)) key=true):=JJ.out.trans Ey;go_wp2_with fail;refine RN.out.mono ?_
    rintro e w6 ⟨rfl,htc⟩;have adK:=ab htc;clear htc RN;go_wp2;go_ret2;exact .inl ⟨HM.out,by rw [HF.out];rfl,.inl ⟨HF.out,adK.out⟩⟩
 ·rw [if_neg hm] at A9;have HM:=ab hm;clear dm hm;go_enter func16,ntmps16;go_wp2_with fail;refine A9.out.mono ?_
  rintro e w1 ⟨rfl,aP⟩;have Cx:=ab (HC.out.below aP);clear aP A9;go_wp2;go_ret2;exact .inr ⟨HM.out,rfl,Cx.out⟩
theorem Ls{w:World}{tb:Nat}(key:ByteArray)(hc:Ts base A db F d W0 w tb r)(hn:(aC r).length≤4611686018427387904)(dm:key.size≤140737488355328):Calls prog 17 #[.pointer (some ⟨tb,0,none⟩),.string key] w fun e w'=>e = .returned (if cP (key,⟨#[]⟩)=true then .tuple #[.string (valOf (aC r) key),.bool (bh (aC r) key),.nilIface] else .tuple #[.string ⟨#[]⟩,.bool false,.iface 360 (.pointer (some (A 0)))])∧Ts base A db F d W0 w' tb r:=by
 have A9:=ab (qD A key ⟨#[]⟩ w dm (by simp [ByteArray.size]) hc.dv.zJ)
 have HC:=ab hc;have HN:=ab hn;clear hc hn;by_cases hm:cP (key,⟨#[]⟩)=true
 ·rw [if_pos hm] at A9;rw [if_pos hm];clear dm hm;go_enter func17,ntmps17;go_wp2_with fail;refine A9.out.mono ?_
  rintro e w1 ⟨rfl,aP⟩;have QW:=ab (oh key HC.out HN.out aP);clear aP A9;go_wp2_with fail;refine QW.out.mono ?_
  rintro e w2 ⟨GU,iG,iw⟩;have Fo:=ab (HC.out.mv iw iG);rcases GU with ⟨Uw,rfl⟩ | ⟨x,ss,s,a,c,pv,lv,cv,t0,VO,rfl,ho,gA,hs,kB,cx,hl,Rh⟩
  ·subst Uw;clear iG iw QW;go_wp2_with fail;refine (ia w2).mono ?_
   rintro e w2' ⟨rfl,rfl⟩;go_wp2_with fail;refine (jb (.slice none 0 0) [] key w2 (by simp) (gK.nil _)).mono ?_
   rintro e w5 ⟨rfl,mB⟩;rw [show bh [] key=false from rfl,show aJ [] key=0 from rfl]
   have Cx:=ab (Fo.out.below mB);clear mB;go_wp2;go_ret3;exact ⟨rfl,Cx.out⟩
  ·subst VO;obtain ⟨X,Z,iB,hX,hZ⟩:=FZ x.1 HC.out.ok.1 Rh;have Zv:bh (aC (some x)) key=bh s.n.ps key:=by
    show bh (flat x.1 x.2) key=_
    rw [iB,nA hX hZ,kB]
   have Eg:valOf (aC (some x)) key=valOf s.n.ps key:=by
    show valOf (flat x.1 x.2) key=_
    rw [iB,JX hX hZ,kB]
   have JJ:=ab Zv;have HVL:=ab Eg;have sX:=ab kB;have ji:=ab cx;have sH:=ab (hU a ss.length c (ss.map eT.lk) s.lk s.n pv lv cv w2 (by rw [aA]) (by omega) ho.1.at hs)
   have CA:=ab hs.iD;obtain ⟨m,Co⟩ : ∃ m,m=ss.length:=⟨_,rfl⟩;rw [← Co] at sH ⊢;obtain ⟨xa,xc,zC⟩:=hs.iD.form;subst zC;clear ho gA hs kB cx hl iG iw QW Co Rh iB hX hZ Zv Eg;go_wp2_with fail;refine sH.out.mono ?_
   rintro e w2' ⟨rfl,rfl⟩;go_wp2_with fail;refine (jb _ s.n.ps key w2 (by have:=iM s.n.ps;have:=ji.out;rw [← sX.out] at this;omega) CA.out).mono ?_
   rintro e w5 ⟨rfl,mB⟩;have Cx:=ab (Fo.out.below mB);have adQ:=ab (CA.out.below mB);clear mB;cases Ey:bh s.n.ps key with
   | false =>
    have HF:Hid (bh (aC (some x)) key=false):=JJ.out.trans Ey;have HVE:Hid (valOf (aC (some x)) key=⟨#[]⟩):=HVL.out.trans (by unfold valOf;rw [dif_neg (by rw [Ey];simp)])
    go_wp2;go_ret3;exact ⟨by rw [HF.out,HVE.out];rfl,Cx.out⟩
   | true =>
    have bP:=fG Ey;have HF:Hid (bh (aC (some x)) key=true):=JJ.out.trans Ey;have SS:valOf (aC (some x)) key=(s.n.ps[aJ s.n.ps key]).2:=HVL.out.trans (by unfold valOf;rw [dif_pos Ey])
    obtain ⟨_,_,jS,_,_,aX⟩:=adQ.out;simp only [Value.slice.injEq] at jS;obtain ⟨rfl,-,rfl⟩:=jS;obtain ⟨g,o,rfl,c1,c2⟩:=aX (aJ s.n.ps key) bP;have Lb:(0:Int)≤(aJ s.n.ps key:Int):=by omega
    have Jg:(aJ s.n.ps key:Int)<(s.n.ps.length:Int):=by omega
    generalize (s.n.ps[aJ s.n.ps key]).2=val at c2 SS;have HVE:=ab SS;clear SS;generalize aJ s.n.ps key=fq at *;clear aX bP c1;go_wp2;go_ret3;exact ⟨by rw [HF.out,HVE.out];rfl,Cx.out⟩
 ·rw [if_neg hm] at A9;rw [if_neg hm];clear dm hm;go_enter func17,ntmps17;go_wp2_with fail;refine A9.out.mono ?_
  rintro e w1 ⟨rfl,aP⟩;have Cx:=ab (HC.out.below aP);clear aP A9;go_wp2;go_ret3;exact ⟨rfl,Cx.out⟩
end
theorem Sl{w:World}{a:Option Addr}{n m k cap:Nat}{l:List Pr}(h:gK w (.slice a n cap) l)(hm:m≤k)(hk:k≤n):∃ a',gK w (.slice a' (k - m) (cap - m)) ((l.take k).drop m)∧∀ w',(Instr.sliceAt 63 (.slice a n cap) (some (.int .i64 (m:Int))) (some (.int .i64 (k:Int))) none).run prog w' = .ok (.slice a' (k - m) (cap - m)) w':=by
 have h:=h.take hk;obtain ⟨a',eP,he,hle,hn,hc⟩:=h;simp only [Value.slice.injEq] at he;obtain ⟨rfl,my,rfl⟩:=he;have my:=my.symm;refine ⟨if cap=m then a else a.map (·.add (m*2)),⟨_,_,by rw [ao,my],by rw [ao];omega,fun ha=>?_,fun j hj=>?_⟩,fun w'=>?_⟩
 ·split at ha
  ·omega
  ·cases a with
   | none=>have:=hn rfl;omega
   | some x=>cases ha
 ·rw [ao] at hj;obtain ⟨g,o,ha,h1,h2⟩:=hc (m+j) (by omega)
  subst ha;refine ⟨g,o+m*2,?_,?_,?_⟩
  ·rw [if_neg (by omega)];simp [bB]
  ·rw [dd,show o+m*2+j*2=o+(m+j)*2 by omega];exact h1
  ·rw [dd,show o+m*2+j*2+1=o+(m+j)*2+1 by omega];exact h2
 ·rw [run_sliceAt_slice (h:=underlying63),run_slice_lh (ht:=underlying63) (h0:=by omega) (h1:=by omega) (h2:=by omega)]
  have hz:(sizeOf (prog.elem 63)).run prog w' = .ok 2 w':=by kernel_rfl
  rw [hz];simp [Result.andThen,sliced]
def sA(l:List Pr)(en:ByteArray):Nat:=if en=⟨#[]⟩ then l.length else aJ l en
def eb(l:List Pr)(fr en:ByteArray):List Pr:=(l.take (max (aJ l fr) (sA l en))).drop (aJ l fr)
theorem Jt(l:List Pr)(en:ByteArray):sA l en≤l.length:=by
 unfold sA;split
 ·exact aj _
 ·exact cp l en
theorem zZ{s:ByteArray}(h:¬ s=⟨#[]⟩):s.toList.isEmpty=false:=by
 cases hs:s.toList with
 | cons _ _=>rfl
 | nil =>
  have h1:=oV s ⟨#[]⟩;have h0:(⟨#[]⟩ : ByteArray).toList=[]:=by rw [ByteArray.toList_eq]
  rw [hs,h0,decide_eq_false h] at h1;simp at h1
theorem FW(v:Value)(l:List Pr)(fr en:ByteArray)(w:World)(hm:l.length≤140737488355328)(hr:gK w v l):Calls prog 94 #[v,.string fr,.string en] w fun e w'=>∃ a c,e = .returned (.slice a (eb l fr en).length c)∧gK w' (.slice a (eb l fr en).length c) (eb l fr en)∧Below w.heap.size w w':=by
 have HF:=ab (jb v l fr w hm hr);have HM:=ab hm;have HR:=ab hr;obtain ⟨a,cap,hv⟩:=hr.form;subst hv;have YO:=cp l fr;have hel:=Jt l en;obtain ⟨q,hq⟩ : ∃ q,q=aJ l fr:=⟨_,rfl⟩;obtain ⟨E,hE⟩ : ∃ E,E=sA l en:=⟨_,rfl⟩;rw [← hq] at HF YO;rw [← hE] at hel;obtain ⟨K,hK⟩ : ∃ K,K=max q E:=⟨_,rfl⟩;obtain ⟨a2,iT,qM⟩:=Sl hr (m:=q) (k:=K) (by omega) (by omega)
 have hW:eb l fr en=(l.take K).drop q:=by unfold eb;rw [← hq,← hE,hK]
 have hWl:(eb l fr en).length=K - q:=by
  rw [hW,ao,ag];omega
 have HW:=ab hW;have HWl:=ab hWl;have o7:=ab iT;have HE:=ab hE;have Uz:max (q:Int) (E:Int)=(K:Int):=by omega
 clear hr iT hq hE hW hWl hm;by_cases ht:en=⟨#[]⟩
 ·have HEE:Hid (E=l.length):=by show E=_;rw [HE.out];unfold sA;rw [if_pos ht]
  subst ht;obtain ⟨m,ny⟩ : ∃ m,m=l.length:=⟨_,rfl⟩;have hmE:E=m:=by rw [ny];exact HEE.out
  subst hmE;have RK:=ab ny;rw [← ny] at HF HR qM YO ⊢;clear ny;clear hK;go_enter func94,ntmps94;go_wp2_with fail;refine HF.out.mono ?_
  rintro e w1 ⟨rfl,aP⟩;have bQ:=ab aP;clear aP HF;go_wp2;go_ret;exact ⟨a2,cap - q,by rw [HWl.out];rfl,by rw [HWl.out,HW.out];exact o7.out.below bQ.out,bQ.out⟩
 ·have HEE:Hid (E=aJ l en):=by show E=_;rw [HE.out];unfold sA;rw [if_neg ht]
  have dK:=zZ ht;clear hK ht;go_enter func94,ntmps94;go_wp2_with fail;refine HF.out.mono ?_
  rintro e w1 ⟨rfl,aP⟩;have bQ:=ab aP;have MA:=ab (jb _ l en w1 HM.out (HR.out.below aP));rw [← HEE.out] at MA;clear aP HF;go_wp2_with fail;refine MA.out.mono ?_
  rintro e w2 ⟨rfl,aO⟩;have bJ:=ab (Below.next bQ.out aO);clear aO MA;go_wp2;go_ret;exact ⟨a2,cap - q,by rw [HWl.out];rfl,by rw [HWl.out,HW.out];exact o7.out.below bJ.out,bJ.out⟩
def AH(lk:List B.Lk)(i:Nat)(en:ByteArray):Bool :=
 match i with
 | 0=>false
 | j+1=>if en=⟨#[]⟩ then false else match lk[j]? with | some p=>!cX p.1 en | none=>false
theorem E8(f:Int)(lv:Value)(lk:List B.Lk)(en:ByteArray)(w:World)(hl:B.cV w lv lk):Calls prog 95 #[.agg #[.int .i64 f,lv],.int .i64 0,.string en] w fun e w'=>e = .returned (.bool false)∧Below w.heap.size w w':=by
 have q0:=ai w (.cells #[.int .i64 f,lv] 150);have HQ:=ab q0;obtain ⟨la,lc,nT⟩:=hl.form;subst nT;clear q0 hl;go_enter func95,ntmps95;go_wp2;go_ret;exact ⟨rfl,HQ.out⟩
theorem B6(f:Int)(lv:Value)(lk:List B.Lk)(i:Nat)(w:World)(hl:B.cV w lv lk):Calls prog 95 #[.agg #[.int .i64 f,lv],.int .i64 (i:Int),.string ⟨#[]⟩] w fun e w'=>e = .returned (.bool false)∧Below w.heap.size w w':=by
 have q0:=ai w (.cells #[.int .i64 f,lv] 150);have HQ:=ab q0;obtain ⟨la,lc,nT⟩:=hl.form;subst nT;clear q0 hl;by_cases h0:(0:Int)<(i:Int)
 ·go_enter func95,ntmps95;go_wp2;go_ret;exact ⟨rfl,HQ.out⟩
 ·go_enter func95,ntmps95;go_wp2;go_ret;exact ⟨rfl,HQ.out⟩
theorem E9(f:Int)(lv:Value)(lk:List B.Lk)(j:Nat)(en:ByteArray)(w:World)(hl:B.cV w lv lk)(hj:j<lk.length)(hm:lk.length≤4000)(Xy:¬ en=⟨#[]⟩):Calls prog 95 #[.agg #[.int .i64 f,lv],.int .i64 ((j:Int)+1),.string en] w fun e w'=>e = .returned (.bool (!cX lk[j].1 en))∧Below w.heap.size w w':=by
 have q0:=ai w (.cells #[.int .i64 f,lv] 150);have x0:=B.ax.new w #[.int .i64 f,lv] 150;have k1:=x0.c1;have Ta:=hl.below q0;obtain ⟨la,lc,nT⟩:=hl.form;subst nT;obtain ⟨_,_,jS,_,_,hc⟩:=Ta;simp only [Value.slice.injEq] at jS;obtain ⟨rfl,-,rfl⟩:=jS;obtain ⟨g,o,rfl,c1,-⟩:=hc j hj;have HQ:=ab q0;have dK:=zZ Xy;have h0:(0:Int)≤(j:Int):=by omega
 have h1:(j:Int)<(lk.length:Int):=by omega
 have h2:((j:Int)+1) - 1=(j:Int):=by omega
 generalize (lk[j]).1=kk at c1 ⊢;clear q0 hl hc x0 Xy hj;go_enter func95,ntmps95;go_wp2;go_ret;exact ⟨rfl,HQ.out⟩
theorem BI(f:Int)(lv:Value)(lk:List B.Lk)(i:Nat)(en:ByteArray)(w:World)(hl:B.cV w lv lk)(hi:i≤lk.length)(hm:lk.length≤4000):Calls prog 95 #[.agg #[.int .i64 f,lv],.int .i64 (i:Int),.string en] w fun e w'=>e = .returned (.bool (AH lk i en))∧Below w.heap.size w w':=by
 by_cases Xy:en=⟨#[]⟩
 ·subst Xy;have e:AH lk i ⟨#[]⟩=false:=by
   unfold AH;cases i with
   | zero=>rfl
   | succ j=>simp
  rw [e];exact B6 f lv lk i w hl
 ·cases i with
  | zero=>exact E8 f lv lk en w hl
  | succ j =>
   have e:AH lk (j+1) en=!cX lk[j].1 en:=by
    unfold AH;simp only;rw [if_neg Xy,af (by omega)]
   rw [e,show ((j+1:Nat):Int)=(j:Int)+1 by omega]
   exact E9 f lv lk j en w hl (by omega) hm Xy
theorem IG:∀ {l:List Pr},gD l→l.Pairwise fun a b=>cX a.1 b.1=true
 | [],_=>List.Pairwise.nil
 | p::l,h=>by
  have:=qA (a:=[p]) (b:=l) h;exact List.Pairwise.cons (fun q hq=>this.2.2 p (by simp) q hq) (IG this.2.1)
theorem uU{α:Type}{R:α→α→Prop}{Q:α→Bool}(hR:∀ a b,R a b→Q a=true→Q b=true):∀ {l:List α},l.Pairwise R→l.filter Q=l.drop (l.findIdx Q)
 | [],_=>rfl
 | a::l,h=>by
  cases h with
  | cons h1 h2 =>
   cases hq:Q a
   ·rw [List.filter_cons_of_neg (by rw [hq];simp),lH,hq,uU hR h2];simp
   ·rw [List.filter_cons_of_pos hq,lH,hq];simp only [cond_true,List.drop_zero];rw [List.filter_eq_self.2 (fun b hb=>hR a b (h1 b hb) hq)]
theorem uT{α:Type}{R:α→α→Prop}{P:α→Bool}(hR:∀ a b,R a b→P b=true→P a=true):∀ {l:List α},l.Pairwise R→l.filter P=l.take (l.findIdx fun a=>!P a)
 | [],_=>rfl
 | a::l,h=>by
  cases h with
  | cons h1 h2 =>
   cases hp:P a
   ·rw [List.filter_cons_of_neg (by rw [hp];simp),lH,hp]
    simp only [Bool.not_false,cond_true,List.take_zero];rw [List.filter_eq_nil_iff.2 (fun b hb FG=>by rw [hR a b (h1 b hb) FG] at hp;cases hp)]
   ·rw [List.filter_cons_of_pos hp,lH,hp,uT hR h2];simp
def jt(fr en:ByteArray)(p:Pr):Bool:=!cX p.1 fr && (decide (en=⟨#[]⟩) || cX p.1 en)
theorem JT{l:List Pr}(hr:gD l)(fr en:ByteArray):eb l fr en=l.filter (jt fr en):=by
 have hp:=IG hr;have e1:l.filter (fun p=>decide (en=⟨#[]⟩) || cX p.1 en)=l.take (sA l en):=by
  unfold sA;split
  ·rename_i h
   rw [List.take_length,List.filter_eq_self.2 (fun p _=>by simp [h])]
  ·rename_i h
   have:=uT (P:=fun p:Pr=>cX p.1 en) (fun a b Cu hb=>dk Cu hb) hp
   simp only [decide_eq_false h,Bool.false_or];rw [this];rfl
 have e2:l.filter (jt fr en)=(l.take (sA l en)).filter (fun p=>!cX p.1 fr):=by
  rw [← e1,List.filter_filter];rfl
 have Xs:(l.take (sA l en)).Pairwise fun a b=>cX a.1 b.1=true:=hp.sublist (List.take_sublist _ _)
 rw [e2,uU (Q:=fun p:Pr=>!cX p.1 fr) (fun a b Cu ha=>by
  cases h:cX b.1 fr
  ·rfl
  ·rw [dk Cu h] at ha;simp at ha) Xs]
 unfold eb;have hE:=Jt l en;have hq:(l.take (sA l en)).findIdx (fun p=>!cX p.1 fr)=min (aJ l fr) (sA l en):=by
  rw [List.findIdx_take];show min (sA l en) (aJ l fr)=_
  omega
 rw [hq];by_cases h:aJ l fr≤sA l en
 ·rw [Nat.max_eq_right h,a8 h]
 ·rw [Nat.max_eq_left (by omega),Nat.min_eq_right (by omega)]
  rw [dB (by rw [ag];omega),dB (by rw [ag];omega)]
def yy(en:ByteArray):Option ByteArray→Bool
 | none=>false
 | some k=>!decide (en=⟨#[]⟩) && !cX k en
def lV{α:Type}(g:α→List Pr→List Pr × Bool)(en:ByteArray):Option ByteArray→List ByteArray→List α→List Pr→List Pr × Bool
 | _,_,[],acc=>(acc,true)
 | ah,ks,c::cs,acc=>if yy en ah=true then (acc,false) else if (g c acc).2=true then lV g en ks.head? ks.tail cs (g c acc).1 else ((g c acc).1,false)
def fu(fr en:ByteArray)(lim:Nat):(h:Nat)→Nd h→List Pr→List Pr × Bool
 | 0,t,acc=>(acc++(eb t.2 fr en).take (lim - acc.length),decide ((acc++(eb t.2 fr en).take (lim - acc.length)).length<lim))
 | h+1,t,acc=>lV (fu fr en lim h) en (jg none (t.2.1.take (t.2.1.findIdx fun k=>cX fr k))) (t.2.1.drop (t.2.1.findIdx fun k=>cX fr k)) (t.2.2.drop (t.2.1.findIdx fun k=>cX fr k)) acc
def NH(en:ByteArray)(hi:Option ByteArray):Prop:=∀ u,hi=some u→¬ en=⟨#[]⟩∧cX u en=false
theorem Iz{en k:ByteArray}{hi:Option ByteArray}(hs:¬ en=⟨#[]⟩∧cX k en=false)(hk:ltB k hi):NH en hi:=fun u hu=>⟨hs.1,by
 cases h:cX u en
 ·rfl
 ·rw [dk (hk u hu) h] at hs;cases hs.2⟩
theorem II{fr en:ByteArray}{l:List Pr}{lo:Option ByteArray}(hl:∀ p ∈ l,geB lo p.1)(k:ByteArray)(hk:lo=some k)(hs:¬ en=⟨#[]⟩∧cX k en=false):l.filter (jt fr en)=[] :=
 List.filter_eq_nil_iff.2 fun p hp h=>by
  have h1:=hl p hp k hk;unfold jt at h;rw [decide_eq_false hs.1,Bool.false_or,cF] at h;have h2:cX k en=true:=by
   cases G5:cX k p.1
   ·have:=mu G5 h1;rw [this];exact h.2
   ·exact dk G5 h.2
  rw [h2] at hs;cases hs.2
def Ij(fr en:ByteArray)(lim:Nat)(l acc:List Pr)(hi:Option ByteArray)(r:List Pr × Bool):Prop :=
 r.1=acc++(l.filter (jt fr en)).take (lim - acc.length)∧(r.2=false→lim≤r.1.length∨NH en hi)
theorem Nu{α:Type}(n:Nat)(X Y:List α):(X++Y).take n=X.take n++Y.take (n - (X.take n).length):=by
 rw [List.take_append,ag];congr 2
 omega
theorem EC{fr en:ByteArray}{lim h:Nat}(ih:∀ {t:Nd h} {lo hi:Option ByteArray} {acc:List Pr},ld h t lo hi→acc.length≤lim→Ij fr en lim (flat h t) acc hi (fu fr en lim h t acc)):∀ (cs:List (Nd h)) {ks:List ByteArray} {lo hi ah:Option ByteArray} {acc:List Pr},gX (ld h) lo hi ks cs→(∀ k,ah=some k→lo=some k)→acc.length≤lim→Ij fr en lim (cs.flatMap (flat h)) acc hi (lV (fu fr en lim h) en ah ks cs acc)
 | [],ks,_,_,_,_,ho,_,_=>by cases ks <;> simp [gX] at ho
 | c::cs,ks,lo,hi,ah,acc,ho,hah,hacc=>by
  have Ru:=xz (F:=flat h) (fun _ _ _ hc=>qe h hc.1) ho
  unfold lV;by_cases hb:yy en ah=true
  ·rw [if_pos hb];cases ah with
   | none=>simp [yy] at hb
   | some k =>
    have si:=hah k rfl;have hs:¬ en=⟨#[]⟩∧cX k en=false:=by
     simp only [yy,cF,Bool.not_eq_true',decide_eq_false_iff_not] at hb;exact hb
    refine ⟨by rw [II (fun p hp=>(Ru p hp).1) k si hs];simp,fun _=>.inr ?_⟩
    obtain ⟨p,hp⟩ : ∃ p,p ∈ flat h c:=by
     have:=rN h (rO ho);have h1:1≤2 ^ h:=Nat.one_le_two_pow;exact List.exists_mem_of_length_pos (by omega)
    have hpi:=Ru p (by rw [List.flatMap_cons];exact dV _ hp)
    exact Iz hs fun u hu=>Ul (hpi.1 k si) (hpi.2 u hu)
  ·rw [if_neg hb];cases ks with
   | nil =>
    cases cs with
    | cons _ _=>simp [gX] at ho
    | nil =>
     have hc:ld h c lo hi:=ho;obtain ⟨g1,g2⟩:=ih (acc:=acc) hc hacc;have e:([c] : List (Nd h)).flatMap (flat h)=flat h c:=by simp
     rw [e];by_cases hr:(fu fr en lim h c acc).2=true
     ·rw [if_pos hr];refine ⟨?_,fun h=>?_⟩
      ·show (fu fr en lim h c acc).1=_
       exact g1
      ·exact absurd h (by show ¬ true=false;simp)
     ·rw [if_neg hr];exact ⟨g1,fun _=>g2 (by simpa using hr)⟩
   | cons k ks =>
    obtain ⟨hk,hm,hc,Jf⟩:=ho;obtain ⟨g1,g2⟩:=ih (acc:=acc) hc hacc;have acj:=xz (F:=flat h) (fun _ _ _ hc=>qe h hc.1) Jf
    have hlen:(fu fr en lim h c acc).1.length≤lim:=by
     rw [g1,ae,ag];omega
    have hle:(fu fr en lim h c acc).1.length=acc.length+(((flat h c).filter (jt fr en)).take (lim - acc.length)).length:=by rw [g1,ae]
    have key:∀ Y:List Pr,acc++(((flat h c).filter (jt fr en))++Y).take (lim - acc.length)=(fu fr en lim h c acc).1++Y.take (lim - (fu fr en lim h c acc).1.length):=fun Y=>by
     rw [Nu,← ay,← g1,hle];congr 2
     omega
    rw [List.flatMap_cons];by_cases hr:(fu fr en lim h c acc).2=true
    ·rw [if_pos hr];obtain ⟨r1,r2⟩:=EC ih cs (ah:=some k) Jf (fun k' Rt=>Rt) hlen
     refine ⟨?_,r2⟩;show (lV (fu fr en lim h) en (some k) ks cs (fu fr en lim h c acc).1).1=_
     rw [r1,oY,key]
    ·rw [if_neg hr];refine ⟨?_,fun _=>?_⟩
     ·show (fu fr en lim h c acc).1=_
      rw [oY,key];rcases g2 (by simpa using hr) with h1 | h1
      ·rw [show lim - (fu fr en lim h c acc).1.length=0 by omega];simp
      ·rw [II (fun p hp=>(acj p hp).1) k rfl (h1 k rfl)];simp
     ·rcases g2 (by simpa using hr) with h1 | h1
      ·exact .inl h1
      ·exact .inr (Iz (h1 k rfl) hk.2)
theorem BV{fr en:ByteArray}{lim:Nat}:∀ (h:Nat) {t:Nd h} {lo hi:Option ByteArray} {acc:List Pr},Ok h t lo hi→acc.length≤lim→Ij fr en lim (flat h t) acc hi (fu fr en lim h t acc)
 | 0,t,lo,hi,acc,ho,hacc=>by
  refine ⟨?_,fun hf=>.inl ?_⟩
  ·show acc++(eb t.2 fr en).take _=acc++(t.2.filter (jt fr en)).take _
   rw [JT ho.1]
  ·have hf:decide ((acc++(eb t.2 fr en).take (lim - acc.length)).length<lim)=false:=hf;have:=of_decide_eq_false hf;show lim≤(acc++(eb t.2 fr en).take (lim - acc.length)).length
   omega
 | h+1,t,lo,hi,acc,ho,hacc=>by
  have hc:=(fy h t lo hi).1 ho;have hl:=j9 hc;obtain ⟨q,hq⟩ : ∃ q,q=t.2.1.findIdx fun k=>cX fr k:=⟨_,rfl⟩
  have YO:q≤t.2.1.length:=by rw [hq];exact List.findIdx_le_length
  obtain ⟨c,hcq⟩ : ∃ c,t.2.2[q]?=some c:=⟨_,af (by omega)⟩
  obtain ⟨e1,e2,el,ei⟩:=ml hl hcq;have uM:=hc;rw [e1,e2] at uM;obtain ⟨gB,Jf⟩:=(pB el).1 uM;have hA:∀ k ∈ t.2.1.take q,cX fr k=false:=fun k hk=>by
   obtain ⟨i,mz,rfl⟩:=aQ hk;rw [ag] at mz;rw [bD];have bP:i<t.2.1.findIdx fun k=>cX fr k:=by rw [← hq];omega
   have:=List.not_of_lt_findIdx bP;simpa using this
  have YZ:((t.2.2.take q).flatMap (flat h)).filter (jt fr en)=[]:=List.filter_eq_nil_iff.2 fun p hp hr=>by
   have:=rL (P:=ld h) (fun _ _ _ hc=>qe h hc.1) gB hA p hp
   unfold jt at hr;rw [this] at hr;simp at hr
  have ZA:t.2.2.drop q=c::t.2.2.drop (q+1):=by
   obtain ⟨Jg,hv⟩:=List.getElem?_eq_some_iff.1 hcq;have:=bf Jg;rw [hv] at this;exact this
  have hr:=EC (fr:=fr) (en:=en) (lim:=lim) (fun ho ha=>BV h ho.1 ha) (c::t.2.2.drop (q+1)) (ah:=jg none (t.2.1.take q)) Jf (fun k hk=>by
   cases hA2:t.2.1.take q with
   | nil=>rw [hA2] at hk;simp [jg] at hk
   | cons a A=>rw [hA2] at hk;exact hk) hacc
  have ef:(flat (h+1) t).filter (jt fr en)=((c::t.2.2.drop (q+1)).flatMap (flat h)).filter (jt fr en):=by
   show (t.2.2.flatMap (flat h)).filter _=_
   rw [e2,aT,oY];rw [← e2,YZ,List.nil_append]
  have eg:fu fr en lim (h+1) t acc=lV (fu fr en lim h) en (jg none (t.2.1.take q)) (t.2.1.drop q) (c::t.2.2.drop (q+1)) acc:=by
   rw [← ZA,hq];rfl
  rw [eg];exact ⟨by rw [ef];exact hr.1,hr.2⟩
theorem Lt{fr en:ByteArray}{lim h:Nat}{t:Nd h}(ho:Ok h t none none):(fu fr en lim h t []).1=((flat h t).filter (jt fr en)).take lim:=(BV h ho (by simp)).1
theorem cM.refl(w:World):cM w w:=⟨aj _,fun _ _=>.inl rfl⟩
theorem TV.same{w w':World}{k:Nat}(h:TV w' k)(he:w'.heap[k]?=w.heap[k]?):TV w k:=by
 refine ⟨fun j v hc=>h.1 j v ((World.cell?_of_block (a:=⟨k,j,none⟩) he).trans hc),fun cs fr h1=>h.2.1 cs fr (he.trans h1),fun cs fr h1=>h.2.2 cs fr (he.trans h1)⟩
theorem cM.trans{w w1 w2:World}(h1:cM w w1)(h2:cM w1 w2):cM w w2:=⟨al h1.size h2.size,fun k hk=>by
 rcases h1.block k hk with e | e
 ·rcases h2.block k (ar hk h1.size) with e2 | e2
  ·exact .inl (e2.trans e)
  ·exact .inr (e2.same e)
 ·exact .inr e⟩
theorem NJ(p:PD):∀ q ∈ p.sn.us,∃ id,q = .pg id:=fun q hq=>by
 cases p with
 | leaf l=>simp [PD.sn] at hq
 | br f lk =>
  obtain ⟨i,hi,rfl⟩:=aQ hq;obtain ⟨x,_,h2⟩:=Bw f lk i _ (af hi);exact ⟨x,h2⟩
def ph(d:S.V.bq)(w0:World):Sys d XT where
 K:=fun w p x=>(eu (cJ d) w0 x.1 p x.2∧jI x)∧(cM w0 w∨∃ id,p = .pg id)
 N:=fun w n x=>(aU (cJ d) w0 x.1 n x.2∧jI x)∧(cM w0 w∨∀ q ∈ n.us,∃ id,q = .pg id)
 E:=False
 sub:=X6
 rk:=fun x=>x.1
 ka:=fun ha h=>⟨h.1,h.2.imp (fun g=>g.trans ha) id⟩
 na:=fun ha h=>⟨h.1,h.2.imp (fun g=>g.trans ha) id⟩
 pS:=fun {w n x i p} hn hp=>by
  obtain ⟨y,h1,h2⟩:=(de d).pS (w:=w0) (n:=n) (x:=x) hn.1 hp;exact ⟨y,h1,h2,hn.2.imp id fun g=>g p (cu hp)⟩
 fit:=fun h=>lz h.1.1 h.1.2
 gQ:=fun h=>by
  obtain ⟨p,h1,h2⟩:=IV h.1.1;exact .inr ⟨p,h1,fun w'=>⟨⟨h2 w0,h.1.2⟩,.inr (NJ p)⟩⟩
 node:=fun h=>by
  obtain ⟨⟨⟨_,m,pv,lv,cv,hs,hm⟩,hg⟩,ha⟩:=h;rcases ha with ha | ⟨id,he⟩
  ·exact ⟨m,pv,lv,cv,hs.bU ha,⟨hm,hg⟩,.inl ha⟩
  ·cases he
 Xh:=.inr fun x i y hs=>by
  obtain ⟨h,t⟩:=x;cases h with
  | zero=>exact hs.elim
  | succ h =>
   obtain ⟨c,_,rfl⟩:=hs;exact aj _
def yE(w:World)(base:Nat)(v:Value)(l:List Pr):Prop :=
 iC w base v l∧∀ g,v.ownBlock=some g→∃ cur,w.heap[g]?=some (.cells cur 52 (0,0))∧∀ u ∈ cur.toList,∃ s,u = .string s
theorem yE.nil(w:World)(base:Nat):yE w base (.slice none 0 0) []:=⟨iC.nil w base,fun g h=>by simp [Value.ownBlock] at h⟩
theorem rI(l:List Pr):∀ u ∈ iD l,∃ s,u = .string s:=by
 intro u hu;simp only [iD,ma] at hu;obtain ⟨p,_,h⟩:=hu;simp at h
 rcases h with rfl | rfl
 ·exact ⟨_,rfl⟩
 ·exact ⟨_,rfl⟩
theorem CF(n:Nat):∀ u ∈ (Builtin.zeroCells (Value.agg #[.string ByteArray.empty,.string ByteArray.empty]).cells n).toList,∃ s,u = .string s:=by
 intro u hu;simp only [Builtin.zeroCells,Value.cells] at hu;simp at hu
 obtain ⟨i,_,rfl⟩:=hu;rcases bW i with h | h
 ·rw [h];exact ⟨_,rfl⟩
 ·rw [h];exact ⟨_,rfl⟩
theorem yE.app(base:Nat)(v s:Value)(xs us:List Pr)(w:World)(h:yE w base v xs)(hs:gK w s us)(hb:(xs.length+us.length)*32≤140737488355328)(dy:base≤w.heap.size):∃ a' eP w',(Builtin.append_ #[63,63] 63 #[v,s]).run prog w = .ok (.slice a' (xs.length+us.length) eP) w'∧yE w' base (.slice a' (xs.length+us.length) eP) (xs++us)∧w.grownBy w' v.ownBlock∧∀ g,(Value.slice a' (xs.length+us.length) eP).ownBlock=some g→v.ownBlock=some g∨w.heap.size≤g:=by
 obtain ⟨i0,hi,hz,cx,kU⟩:=info_parts Jb;obtain ⟨a',c',w',hr,aE,hg⟩:=gV base v s xs us w h.1 hs hb dy;suffices hh:(∀ g,(Value.slice a' (xs.length+us.length) c').ownBlock=some g→v.ownBlock=some g∨w.heap.size≤g)∧∀ g,(Value.slice a' (xs.length+us.length) c').ownBlock=some g→∃ cur,w'.heap[g]?=some (.cells cur 52 (0,0))∧∀ u ∈ cur.toList,∃ s,u = .string s from ⟨a',c',w',hr,⟨aE,hh.2⟩,hg,hh.1⟩
 have MO:∃ a' c',v = .slice a' xs.length c':=h.1.form;obtain ⟨a,QC,rfl,hle,qN,hc⟩:=hs;cases a with
 | none =>
  have h0:us=[]:=by
   cases us with
   | nil=>rfl
   | cons u r=>obtain ⟨g,o,he,_⟩:=hc 0 (by simp);cases he
  subst h0;have iT:=run_append_owned_none (P:=prog) w base 63 63 52 i0 2 underlying63 hi v xs.length (iD xs) h.1;rw [qN rfl] at hr;rw [List.length_nil] at hr aE ⊢;rw [iT] at hr;simp only [Result.ok.injEq] at hr;obtain ⟨hv,rfl⟩:=hr;rw [← hv];exact ⟨fun g iA=>.inl iA,h.2⟩
 | some ad =>
  have ik:∀ j u,(iD us)[j]?=some u→w.cell? (ad.add j)=some u:=fun j u hj=>by
   have l6:=(List.getElem?_eq_some_iff.1 hj).1;rw [eJ] at l6;obtain ⟨g,o,he,c1,c2⟩:=hc (j / 2) (by omega)
   cases he;have hg:=vI us (j / 2) (by omega)
   rw [bB];rcases bW j with hm | hm
   ·have e:j / 2*2=j:=by omega
    rw [e] at hg c1;rw [hg.1] at hj;cases hj;exact c1
   ·have e:j / 2*2+1=j:=by omega
    rw [dM,e] at c2;rw [e] at hg;rw [hg.2] at hj;cases hj;exact c2
  rcases h.1.2 with ⟨rfl,h0⟩ | ⟨g0,cap,cur,rfl,mY,qh,Cn,sQ,fs,mX⟩
  ·by_cases hu0:us.length=0
   ·have ML:us=[]:=List.length_eq_zero_iff.1 hu0;have hxs:xs=[]:=by
     have:=h0;cases xs with
     | nil=>rfl
     | cons _ _=>simp at this
    subst ML hxs;obtain ⟨v',w2,iT,_,_,acL⟩:=run_append_own (P:=prog) w base 63 63 52 i0 _ 2 32 underlying63 hi hz cx kU rfl (by decide) (.slice none 0 0) 0 [] (World.ownsRow_nil _ _ _ _) ad 0 QC [] rfl (fun j u hj=>by simp at hj) (fun u hu=>by simp at hu) (by unfold maxLen;omega) (by omega) dy
    have hv:=acL.2 ⟨rfl,rfl⟩;subst hv;have hr:(Builtin.append_ #[63,63] 63 #[.slice none 0 0,.slice (some ad) 0 QC]).run prog w = .ok (.slice a' 0 c') w':=hr;rw [iT] at hr;simp only [Result.ok.injEq,Value.slice.injEq] at hr;obtain ⟨⟨rfl,-,-⟩,-⟩:=hr;exact ⟨fun g iA=>by simp [Value.ownBlock] at iA,fun g iA=>by simp [Value.ownBlock] at iA⟩
   ·have hq:=run_append_nil (P:=prog) w 63 63 52 i0 _ underlying63 hi hz ad us.length QC (iD us) (by rw [cx];exact eJ us) ik (by omega) (by omega) (by rw [kU];omega)
    rw [hq] at hr;simp only [Result.ok.injEq,Value.slice.injEq] at hr;obtain ⟨⟨rfl,-,-⟩,rfl⟩:=hr;refine ⟨fun g iA=>?_,fun g iA=>?_⟩
    ·simp only [Value.ownBlock,Option.some.injEq] at iA;right;subst iA;simp
    simp only [Value.ownBlock,Option.some.injEq] at iA;subst iA;refine ⟨_,heap_alloc_new (World.drew _) _,fun u hu=>?_⟩
    simp only [b6,cA] at hu;rcases hu with hu | hu
    ·exact rI us u (by simpa using hu)
    ·exact CF _ u hu
  ·have yV:∀ u ∈ cur.toList,∃ s,u = .string s:=by
    obtain ⟨fN,h1,h2⟩:=h.2 g0 rfl;rw [qh] at h1;simp only [Option.some.injEq,Obj.cells.injEq,and_true] at h1;subst h1;exact h2
   by_cases dZ:xs.length+us.length≤cap
   ·have hq:=run_append_room (P:=prog) w 63 63 52 i0 underlying63 hi g0 xs.length cap cur qh ad us.length QC (iD us) (by rw [cx];exact eJ us) ik (by intro u hu;obtain ⟨s,rfl⟩:=rI us u hu;rfl) dZ (by rw [cx,fs,eJ];omega)
    rw [hq] at hr;simp only [Result.ok.injEq,Value.slice.injEq] at hr;obtain ⟨⟨rfl,-,-⟩,rfl⟩:=hr;refine ⟨fun g iA=>?_,fun g iA=>?_⟩
    ·simp only [Value.ownBlock,Option.some.injEq] at iA;left;subst iA;rfl
    simp only [Value.ownBlock,Option.some.injEq] at iA;subst iA;refine ⟨_,setRow_heap _ g0 cur _ _ _ qh,fun u hu=>?_⟩
    simp only [cA] at hu;rcases hu with (hu | hu) | hu
    ·exact yV u (bH hu)
    ·exact rI us u hu
    ·exact yV u (bI hu)
   ·have si:(iD xs).length=xs.length*i0.size:=by rw [cx];exact eJ xs
    have holds:∀ j u,(iD xs)[j]?=some u→w.cell? ((⟨g0,0,none⟩ : Addr).add j)=some u:=World.ownsRow.cells h.1 (g:=g0) rfl;have hq:=run_append_grow (P:=prog) w 63 63 52 i0 _ underlying63 hi hz ⟨g0,0,none⟩ xs.length cap (iD xs) si holds ad us.length QC (iD us) (by rw [cx];exact eJ us) ik (by omega) (by omega) (growslice_fits (by omega) (by rw [kU];omega))
    rw [hq] at hr;simp only [Result.ok.injEq,Value.slice.injEq] at hr;obtain ⟨⟨rfl,-,-⟩,rfl⟩:=hr;refine ⟨fun g iA=>?_,fun g iA=>?_⟩
    ·simp only [Value.ownBlock,Option.some.injEq] at iA;right;subst iA;simp
    simp only [Value.ownBlock,Option.some.injEq] at iA;subst iA;refine ⟨_,heap_alloc_new (World.drew _) _,fun u hu=>?_⟩
    simp only [b6,cA] at hu;rcases hu with (hu | hu) | hu
    ·exact rI xs u (by simpa using hu)
    ·exact rI us u (by simpa using hu)
    ·exact CF _ u hu
open Go.Maps
def SO:C.Ch→Int
 | .pg id=>id
 | .nd _=>0
theorem xm(p:C.Ch)(w:World):Calls prog 67 #[p.val] w fun e w'=>e = .returned (.int .i64 (SO p))∧w=w':=by
 cases p with
 | pg id =>
  have a1:=fun W=>QM (.int .i64 id) W
  show Calls prog 67 #[.iface 146 (.int .i64 id)] w fun e w'=>e = .returned (.int .i64 id)∧w=w'
  go_enter func67,ntmps67;go_wp2;go_ret;exact ⟨rfl,rfl⟩
 | nd b =>
  have a1:=fun W=>Jz (.pointer (some ⟨b,0,none⟩)) W
  show Calls prog 67 #[.iface 152 (.pointer (some ⟨b,0,none⟩))] w fun e w'=>e = .returned (.int .i64 0)∧w=w'
  go_enter func67,ntmps67;go_wp2;go_ret;exact ⟨rfl,rfl⟩
theorem OX:Keyed prog 3:=int_keyed underlying3
theorem Ud(w:World):(zeroValue 208).run prog w = .ok (.agg #[]) w:=by kernel_rfl
theorem ab1(i:Nat)(h:i<1048576):keyOf prog 3 (.int .i64 (i:Int))=some (.int .i64 (i:Int)):=keyOf_int_mk underlying3 (WalkArith.wf_i64 (by omega))
def KN(l:List Nat):DataW Unit:=setOf (.agg []) (l.map fun i:Nat=>Lit.int .i64 (i:Int))
structure Met(w:World)(b:Nat)(l:List Nat):Prop where
 ok:∀ i ∈ l,1≤i∧i<1048576
 map:w.ownsMap prog 3 (unitElem (H:=Unit)) b l.length (KN l)
theorem Sx(l:List Nat)(j:Nat):Maps.has (KN l) (.int .i64 (j:Int))=decide (j ∈ l):=by
 unfold KN;rw [has_setOf _ _ _ (fun x hx=>by
  obtain ⟨i,hi,rfl⟩:=List.mem_map.1 hx;exact trivial)]
 rw [kG];simp only [List.any_map,List.any_eq_true,decide_eq_true_eq,Function.comp,Lit.sameKey];constructor
 ·rintro ⟨x,hx,he⟩;have h9:(x:Int)=(j:Int):=by simpa using he
  have:x=j:=by omega
  exact this▸hx
 ·intro hj;exact ⟨j,hj,by simp⟩
theorem Met.put{l:List Nat}(i:Nat):(KN l).put (.int .i64 (i:Int)) (.agg [])=KN (l++[i]):=by
 unfold KN;rw [bn,List.map_singleton,setOf_snoc]
theorem Met.same{w w':World}{b:Nat}{l:List Nat}(h:Met w b l)(hb:w'.heap[b]?=w.heap[b]?):Met w' b l:=by
 refine ⟨h.ok,?_⟩;have:=h.map;obtain ⟨es,clock,h1,h2⟩:=this;exact ⟨es,clock,hb.trans h1,h2⟩
theorem Met.lt{w:World}{b:Nat}{l:List Nat}(h:Met w b l):b<w.heap.size:=by
 obtain ⟨es,clock,h1,_⟩:=h.map;exact (Array.getElem?_eq_some_iff.1 h1).1
theorem Met.ne{w:World}{b:Nat}{l:List Nat}(h:Met w b l){g o:Nat}{u:Value}(hc:w.cell? ⟨g,o,none⟩=some u):g≠b:=fun e=>by
 subst e;obtain ⟨es,clock,h1,_⟩:=h.map;simp [World.cell?,h1] at hc
theorem rR(p:C.Ch)(i:Nat)(hi:SO p=(i:Int))(bP:i<1048576)(b:Nat)(l:List Nat)(w:World)(h:Met w b l)(hn:l.length<1099511627776):Calls prog 91 #[.map (some b),p.val] w fun e w'=>e = .returned (.bool (decide (i ∈ l)))∧Met w' b (if i=0 then l else l++[i])∧w.grownBy w' (some b):=by
 have HP:=ab (xm p w);have HK:=ab (ab1 i bP);have HM:=ab h;have HH:=ab (Sx l i);have aE:=h.map;obtain ⟨pt,px,gw⟩:=bz p;rw [hi] at HP;rw [gw] at HP ⊢;clear h gw hi;go_enter func91,ntmps91;go_wp2_with fail;refine HP.out.mono ?_
 rintro e w1 ⟨rfl,rfl⟩;by_cases h0:i=0
 ·subst h0;go_wp2_with (first
   | (at_lookup;refine wpList_lookup_own_unit _ rfl _ _ 166 rfl 3 208 OX underlying166 (Ud _) b l.length _ rfl aE _ _ rfl HK.out ?_;rw [HH.out])
   | go_in)
  go_ret;exact ⟨rfl,⟨HM.out.ok,HM.out.map.alloc _⟩,(World.grownBy_alloc _ _ _)⟩
 ·have yU:¬ (i:Int)=0:=by omega
  go_wp2_with (first
   | (at_lookup;refine wpList_lookup_own_unit _ rfl _ _ 166 rfl 3 208 OX underlying166 (Ud _) b l.length _ rfl aE _ _ rfl HK.out ?_;rw [HH.out])
   | (at_mapUpdate;refine wpList_mapUpdate_own _ rfl _ _ _ 166 rfl 3 208 OX underlying166 (unitElem (H:=Unit)) b l.length _ rfl (aE.alloc _) (by unfold maxLen;omega) _ _ _ rfl rfl HK.out _ [] unitElem_mk ?_;intro w2 lT xY)
   | go_in)
  go_ret;refine ⟨rfl,⟨?_,?_⟩,(World.grownBy_alloc _ _ _).trans xY⟩
  ·intro j hj;rcases List.mem_append.1 hj with hj | hj
   ·exact HM.out.ok j hj
   ·have:j=i:=by simpa using hj
    omega
  ·rw [← Met.put,ae];exact lT
theorem I4(i:Nat)(l:List Nat):(if i=0 then l else l++[i])=l++df i:=by
 unfold df;split <;> simp
end T
end Go.Proofs.YtihmgigfkmofnaaGreatDoor
namespace Go.Proofs.YtihmgigfkmofnaaGreatDoor
namespace T
open Go.RowKit
structure wj(db bp mb:Nat)(w:World)(v:Value)(w':World)(v':Value):Prop where
 size:w.heap.size≤w'.heap.size
 block:∀ k,k<w.heap.size→k≠db→k≠bp→k≠mb→v.ownBlock≠some k→w'.heap[k]?=w.heap[k]?
 own:∀ g,v'.ownBlock=some g→v.ownBlock=some g∨w.heap.size≤g
theorem wj.trans{db bp mb:Nat}{w w1 w2:World}{v v1 v2:Value}(h:wj db bp mb w v w1 v1)(k:wj db bp mb w1 v1 w2 v2):wj db bp mb w v w2 v2:=by
 refine ⟨al h.size k.size,fun i hi h1 h2 hm h3=>?_,fun g hg=>?_⟩
 ·rw [k.block i (ar hi h.size) h1 h2 hm (fun e=>by
   rcases h.own i e with e' | e'
   ·exact h3 e'
   ·omega)]
  exact h.block i hi h1 h2 hm h3
 ·rcases k.own g hg with e | e
  ·exact h.own g e
  ·exact .inr (al h.size e)
theorem wj.mv{db bp mb:Nat}{F:Nat→Prop}{w w':World}(v:Value)(h:Mv db F w w'):wj db bp mb w v w' v:=⟨h.size,fun k hk h1 _ _ _=>h.one.block k hk h1,fun _ h=>.inl h⟩
theorem wj.below{db bp mb:Nat}{w w':World}(v:Value)(h:Below w.heap.size w w'):wj db bp mb w v w' v:=⟨h.size,fun k hk _ _ _ _=>h.block k hk,fun _ h=>.inl h⟩
structure Br(w:World)(b:Nat)(n:SN)(pv lv cv:Value):Prop where
 row:B.ax w b #[pv,.int .i64 n.f,lv,cv] 155
 bm:B.cV w lv n.lk
 kids:C.cV w cv n.us
theorem dG.br{w:World}{b:Nat}{n:SN}{pv lv cv:Value}(h:dG w b n pv lv cv):Br w b n pv lv cv:=⟨h.row,h.bm,h.kids⟩
theorem Br.ZZ{base:Nat}{A:Nat→Addr}{db bp mb:Nat}{F:Nat→Prop}{d:S.V.bq}{w w':World}{v v':Value}{acc:List Pr}{lo:Nat}{T:TypeId}{b:Nat}{n:SN}{pv lv cv:Value}(h:Br w b n pv lv cv)(hg:wj db bp mb w v w' v')(hv:Dv base A db F d w)(hp:B.ax w bp #[v] T)(hT:T≠155)(hs:yE w lo v acc){M:List Nat}(Y6:Met w mb M):Br w' b n pv lv cv:=by
 have lZ:∀ {g o:Nat} {u:Value},w.cell? ⟨g,o,none⟩=some u→g≠mb:=fun {g o u} hc e=>by
  subst e;obtain ⟨es,clock,h1,_⟩:=Y6.map;simp [World.cell?,h1] at hc
 obtain ⟨d',_,hd⟩:=hv.dev;obtain ⟨va,vc,jS⟩:=hs.1.form;have MQ:∀ {g o:Nat} {u:Value},w.cell? ⟨g,o,none⟩=some u→(∀ a n c,u≠.slice a n c)→g≠bp:=fun {g o u} hc hu e=>by
  subst e;unfold B.ax at hp;rw [cell_of_row w g o _ _ _ hp] at hc;have ho:o<1:=by have:=(Array.getElem?_eq_some_iff.1 hc).1;simpa using this
  have ho:o=0:=by omega
  subst ho;cases hc;exact hu _ _ _ jS
 have aE:∀ {g o:Nat} {u:Value},w.cell? ⟨g,o,none⟩=some u→(∀ s,u≠.string s)→v.ownBlock≠some g:=fun {g o u} hc hu e=>by
  obtain ⟨cur,h1,h2⟩:=hs.2 g e;rw [cell_of_row w g o cur _ _ h1] at hc;obtain ⟨h3,h4⟩:=Array.getElem?_eq_some_iff.1 hc;obtain ⟨s,hs⟩:=h2 u (by rw [← h4];exact gH h3)
  exact hu s hs
 refine ⟨?_,?_,?_⟩
 ·refine (hg.block b h.row.lt ?_ ?_ (lZ (h.row.cell 0 (by simp))) ?_).trans h.row
  ·intro e;subst e;obtain ⟨mb,nb,Ku,av,Dn,hb⟩:=hd;have h1:=h.row;unfold B.ax at h1;rw [hb.dn] at h1;simp at h1
  ·intro e;subst e;have h1:=h.row;unfold B.ax at h1 hp;rw [hp] at h1;simp only [Option.some.injEq,Obj.cells.injEq] at h1;exact hT h1.2.1
  ·intro e;obtain ⟨cur,h1,h2⟩:=hs.2 b e;have h3:=h.row;unfold B.ax at h3;rw [h1] at h3;simp at h3
 ·obtain ⟨a,cap,rfl,hle,hn,hc⟩:=h.bm;refine ⟨a,cap,rfl,hle,hn,fun j hj=>?_⟩
  obtain ⟨g,o,ha,h1,h2⟩:=hc j hj;have he:=hg.block g (World.block_lt_of_cell? w _ h1) (fun e=>by subst e;exact (kZ hd h1).1 _ rfl) (MQ h1 (fun _ _ _ e=>by cases e)) (lZ h1) (aE h2 (fun _ e=>by cases e))
  exact ⟨g,o,ha,bV he h1,bV he h2⟩
 ·obtain ⟨a,cap,rfl,hle,hn,hc⟩:=h.kids;refine ⟨a,cap,rfl,hle,hn,fun j u hj=>?_⟩
  obtain ⟨g,o,ha,h1⟩:=hc j u hj;obtain ⟨p,_,rfl⟩ : ∃ p ∈ n.us,p.val=u:=by
   have:=cu hj;simpa [C.bm] using this
  obtain ⟨t,x,Xs⟩:=bz p;have Jo:=h1;rw [Xs] at Jo;have he:=hg.block g (World.block_lt_of_cell? w _ h1) (fun e=>by subst e;exact (kZ hd Jo).2 _ _ rfl) (MQ Jo (fun _ _ _ e=>by cases e)) (lZ h1) (aE Jo (fun _ e=>by cases e))
  exact ⟨g,o,ha,bV he h1⟩
end T
end Go.Proofs.YtihmgigfkmofnaaGreatDoor
