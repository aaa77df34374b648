import Derived.Test.YtihmgigfkmofnaaGreatDoorG19
set_option maxHeartbeats 2000000
set_option maxRecDepth 100000
open Go.Proofs.Tryz
namespace Go.Proofs.YtihmgigfkmofnaaGreatDoor
namespace S
open Go.RowKit
def Oh:Sh:=⟨0,0,0,0,⟨#[]⟩⟩
def fP(d:V.bE)(id:Int):V.bE × Sh × Nat :=
 if 2≤id∧id<1048576∧(id+1)*8≤d.size then
  if (d.read (id*8) 8).2.2=0 then ((d.read (id*8) 8).1,if gD (d.read (id*8) 8).2.1 id then (parse (d.read (id*8) 8).2.1,0) else (Oh,2))
  else ((d.read (id*8) 8).1,Oh,(d.read (id*8) 8).2.2)
 else (d,Oh,1)
def tk:Obj:=.cells #[.int .i64 0,.int .i64 0,.int .u64 0,.int .i64 0,.string ⟨#[]⟩] 87
theorem Lf{d:V.bE}{s n:Int}(h0:0≤s)(h1:0≤n)(h2:s≤d.size - n)(h3:n≤1024):(d.read s n).2.2=if d.dead then 8 else 0:=by
 unfold V.bE.read;have hf:d.fits s n=true:=by unfold V.bE.fits;exact decide_eq_true ⟨h0,h1,h2⟩
 cases d.dead with
 | true=>rfl
 | false =>
  rw [hf];simp only [kH,if_false,ph];rw [if_neg (by omega)]
theorem DK(a:Addr)(l:List UInt8)(id:Int):rO a l id=#[.agg (if gD l id then parse l else Oh).cells.toArray,if gD l id then .nilIface else .iface 360 (.pointer (some a))]:=by
 unfold rO;split <;> rfl
theorem Ky{w w2:World}{F F':Nat→Prop}(hs:V.Step F F' (w.alloc tk) w2)(hF:∀ k,F k→k<w.heap.size):w2.heap[w.heap.size]?=some (.cells #[.int .i64 0,.int .i64 0,.int .u64 0,.int .i64 0,.string ⟨#[]⟩] 87 (0,0)):=by
 rw [hs.block w.heap.size (by simp) (fun hf=>by have:=hF _ hf;omega)]
 exact heap_alloc_new w _
theorem yE{w w3:World}{b:Nat}{F:Nat→Prop}{d:V.bE}{u0 u1 u2 u3 u4:Value}(h:V.cP w3 b F d)(hs:V.Step F F w w3)(hF:∀ k,F k→k<w.heap.size)(ER:V.Step (fun k=>k=b) (fun k=>k=b) w w3):V.cP (((((w3.setCell ⟨w.heap.size,0,none⟩ u0).setCell ⟨w.heap.size,1,none⟩ u1).setCell ⟨w.heap.size,2,none⟩ u2).setCell ⟨w.heap.size,3,none⟩ u3).setCell ⟨w.heap.size,4,none⟩ u4) b F d∧V.Step F F w (((((w3.setCell ⟨w.heap.size,0,none⟩ u0).setCell ⟨w.heap.size,1,none⟩ u1).setCell ⟨w.heap.size,2,none⟩ u2).setCell ⟨w.heap.size,3,none⟩ u3).setCell ⟨w.heap.size,4,none⟩ u4)∧V.Step (fun k=>k=b) (fun k=>k=b) w (((((w3.setCell ⟨w.heap.size,0,none⟩ u0).setCell ⟨w.heap.size,1,none⟩ u1).setCell ⟨w.heap.size,2,none⟩ u2).setCell ⟨w.heap.size,3,none⟩ u3).setCell ⟨w.heap.size,4,none⟩ u4):=by
 have h5:=@MC w3 w.heap.size u0 u1 u2 u3 u4;refine ⟨h.keep h5 (fun k hk e=>by have:=hF k hk;omega),⟨h5.os.trans hs.os,h5.tape.trans hs.tape,h5.output.trans hs.output,ar hs.size h5.size,fun q hq hn=>(h5.block q (aq hq hs.size) (by omega)).trans (hs.block q hq hn),fun q hq=>hs.sub q hq⟩,⟨h5.os.trans ER.os,h5.tape.trans ER.tape,h5.output.trans ER.output,ar ER.size h5.size,fun q hq hn=>(h5.block q (aq hq ER.size) (by omega)).trans (ER.block q hq hn),fun q hq=>ER.sub q hq⟩⟩
theorem AQ(base:Nat)(A:Nat→Addr)(db:Nat)(F:Nat→Prop)(d:V.bE)(id:Int)(w:World)(hd:V.cP w db F d)(hE:Env base A w)(hF:∀ k,F k→base≤k):Calls prog 113 #[.pointer (some ⟨db,0,none⟩),.int .i64 id] w fun e w'=>e = .returned (.tuple #[.agg (fP d id).2.1.cells.toArray,V.im A (fP d id).2.2])∧V.cP w' db F (fP d id).1∧V.Step F F w w'∧V.Step (fun k=>k=db) (fun k=>k=db) w w':=by
 have HE:=ab hE;have HD:=ab hd;have YM:=ab hF;have HB:=ab (ai w tk);have HFl:=ab hd.lt;have HZ0:Hid (∀ w3,V.Step F F w w3→w3.heap[w.heap.size]?=some (.cells #[.int .i64 0,.int .i64 0,.int .u64 0,.int .i64 0,.string ⟨#[]⟩] 87 (0,0))→True):=fun _ _ _=>trivial
 have IV:Hid ((w.alloc tk).heap[w.heap.size]?=some (.cells #[.int .i64 0,.int .i64 0,.int .u64 0,.int .i64 0,.string ⟨#[]⟩] 87 (0,0))):=heap_alloc_new w _;have Vm:=ab (sr id);clear hE hd hF HZ0;by_cases hid:2≤id∧id<1048576
 ·obtain ⟨CT,vU⟩:=hid;have ud:0≤id:=by omega
  have HIT:Hid (∀ w,Calls prog 150 #[.int .i64 id] w fun e w'=>e = .returned (.bool true)∧w=w'):=fun w=>by
   have h:=Vm.out w;rw [decide_eq_true ⟨CT,vU⟩] at h;exact h
  clear Vm;by_cases eF:(id+1)*8≤d.size
  ·have HDF:=ab (decide_eq_true eF);have V3:=Lf (d:=d) (s:=id*8) (n:=8) (by omega) (by omega) (by omega) (by omega)
   have YB:Hid (fP d id=if (d.read (id*8) 8).2.2=0 then ((d.read (id*8) 8).1,if gD (d.read (id*8) 8).2.1 id then (parse (d.read (id*8) 8).2.1,0) else (Oh,2)) else ((d.read (id*8) 8).1,Oh,(d.read (id*8) 8).2.2)):=by
    show fP d id=_
    unfold fP;rw [if_pos ⟨CT,vU,eF⟩]
   have Sp:=ab (HD.out.below HB.out);have HEV:=ab (HE.out.up HB.out);have Nx:=ab (V.mm base A db F d (w.alloc tk) Sp.out HEV.out.errs (id*8) 8 (by decide))
   have FX:=ab (mY db F d id (w.alloc tk) Sp.out ud vU);rw [HDF.out] at FX;have NW:(d.read (id*8) 8).2.2=8∨(d.read (id*8) 8).2.2=0:=by rw [V3];cases d.dead <;> simp
   clear V3 HDF eF;generalize d.read (id*8) 8=R at *;obtain ⟨Rd,Rl,Rc⟩:=R;simp only at NW YB;obtain ⟨ev,Cm⟩ : ∃ ev,ev=V.im A Rc:=⟨_,rfl⟩;have HRX:Hid (Calls prog 151 #[.pointer (some ⟨db,0,none⟩),.int .i64 (id*8),.int .i64 8] (w.alloc tk) fun e w'=>∃ va vc,e = .returned (.tuple #[.slice va Rl.length vc,ev])∧w'.ownsRow (w.alloc tk).heap.size 5 1 (.slice va Rl.length vc) Rl.length (dW Rl)∧V.cP w' db F Rd∧V.Step F F (w.alloc tk) w'∧V.Step (fun k=>k=db) (fun k=>k=db) (w.alloc tk) w'):=by
    refine Nx.out.mono ?_
    rintro e w2 ⟨v,P⟩;obtain ⟨va,vc,rfl,-⟩:=V.gY P.row;exact ⟨va,vc,by rw [Cm];exact P.ret,P.row,P.dev,P.step,P.one⟩
   have acY:=ab Cm;clear Nx Cm;go_enter func113,ntmps113;go_wp2_with fail;refine (HIT.out _).mono ?_
   rintro e W0' ⟨rfl,rfl⟩;go_wp2_with fail;refine FX.out.mono ?_
   rintro e W0' ⟨rfl,rfl⟩;go_wp2_with fail;refine (uj id _ ud (by omega)).mono ?_
   rintro e W0' ⟨rfl,rfl⟩;go_wp2_with fail;refine HRX.out.mono ?_
   rintro e w2 ⟨va,vc,rfl,bH,QL,hstp,ES⟩;have jx:Hid (V.Step (fun k=>k=db) (fun k=>k=db) w w2):=(V.Step.bD HB.out).trans ES
   clear ES;have pe:Hid (w2.heap[w.heap.size]?=some (.cells #[.int .i64 0,.int .i64 0,.int .u64 0,.int .i64 0,.string ⟨#[]⟩] 87 (0,0))):=Ky hstp HFl.out;have uL:=ab (DL bH);have Zy:=ab QL;have lD:Hid (V.Step F F w w2):=(V.Step.bD HB.out).trans hstp;have WB:=ab (HEV.out.step hstp YM.out);clear bH QL hstp HRX FX;rcases NW with rfl | rfl
   ·have nF:=pe.out;obtain ⟨⟨z0,z1,z2,z3,z4⟩,y⟩:=Vv nF;have SW:Hid (fP d id=(Rd,Oh,8)):=by show fP d id=_;rw [YB.out];rfl
    obtain rfl:ev = .iface 360 (.pointer (some (A 7))):=acY.out;clear YB nF;go_wp2_with fail
    (try simp only [Exit.inBlock,Exit.then])
    rw [SW.out];refine bodyPost_ret (aR rfl _ _ w.heap.size 87 #[.int .i64 0,.int .i64 0,.int .u64 0,.int .i64 0,.string ⟨#[]⟩] (0,0) _ rfl (oy pe.out) underlying87 rfl (by kernel_rfl)) rfl ⟨rfl,?_⟩
    exact yE Zy.out lD.out HFl.out jx.out
   ·obtain rfl:ev = .nilIface:=acY.out;have SW:Hid (fP d id=(Rd,if gD Rl id then (parse Rl,0) else (Oh,2))):=by show fP d id=_;rw [YB.out];rfl
    have wP:=ab (mm (A 1) _ Rl id _ uL.out WB.out.lay WB.out.tab WB.out.text);rw [DK] at wP;clear YB;obtain ⟨sh,CP⟩ : ∃ sh,sh=if gD Rl id then parse Rl else Oh:=⟨_,rfl⟩
    obtain ⟨er,her⟩ : ∃ er:Value,er=if gD Rl id then .nilIface else .iface 360 (.pointer (some (A 1))):=⟨_,rfl⟩
    rw [← CP,← her] at wP;have HLW:Hid ((fP d id).2.1=sh∧V.im A (fP d id).2.2=er∧(fP d id).1=Rd):=by
     show _∧_∧_
     rw [SW.out,CP,her];split <;> exact ⟨rfl,rfl,rfl⟩
    clear CP her SW;obtain ⟨k5,i5,t5,c5,b5⟩:=sh;go_wp2_with fail;refine wP.out.mono ?_
    rintro e w3 ⟨rfl,bW⟩;have nF:w3.heap[w.heap.size]?=some (.cells #[.int .i64 0,.int .i64 0,.int .u64 0,.int .i64 0,.string ⟨#[]⟩] 87 (0,0)):=(bW.block _ ((Array.getElem?_eq_some_iff.1 pe.out).1)).trans pe.out;have SS:=ab nF;have HP3:=ab (Zy.out.below bW);have N5:Hid (V.Step F F w w3):=lD.out.trans (V.Step.bD bW);have rl:Hid (V.Step (fun k=>k=db) (fun k=>k=db) w w3):=jx.out.trans (V.Step.bD bW)
    obtain ⟨⟨z0,z1,z2,z3,z4⟩,y⟩:=Vv nF;have Se:Hid ((⟨k5,i5,t5,c5,b5⟩ : Sh).cells.toArray=#[.int .i64 k5,.int .i64 i5,.int .u64 (t5:Int),.int .i64 c5,.string b5]):=rfl;rw [Se.out];clear nF bW;go_wp2_with fail
    (try simp only [Exit.inBlock,Exit.then])
    rw [HLW.out.1,HLW.out.2.1,HLW.out.2.2];refine bodyPost_ret (aR rfl _ _ w.heap.size 87 #[.int .i64 k5,.int .i64 i5,.int .u64 (t5:Int),.int .i64 c5,.string b5] (0,0) _ rfl (oy SS.out) underlying87 rfl (by kernel_rfl)) rfl ⟨rfl,?_⟩
    exact yE HP3.out N5.out HFl.out rl.out
  ·have FX:=ab (mY db F d id (w.alloc tk) (HD.out.below HB.out) ud vU);rw [decide_eq_false eF] at FX;have SW:Hid (fP d id=(d,Oh,1)):=by show fP d id=_;unfold fP;rw [if_neg (fun h=>eF h.2.2)]
   have cE:(w.alloc (.cells #[.int .i64 0,.int .i64 0,.int .u64 0,.int .i64 0,.string ⟨#[]⟩] 87)).cell? ⟨0,0,none⟩=some (.iface 360 (.pointer (some (A 0)))):=(HE.out.up HB.out).errs.arg;have nF:=IV.out;unfold tk at nF;obtain ⟨⟨z0,z1,z2,z3,z4⟩,y⟩:=Vv nF;clear nF;clear eF;go_enter func113,ntmps113;go_wp2_with fail;refine (HIT.out _).mono ?_
   rintro e W0' ⟨rfl,rfl⟩;go_wp2_with fail;refine FX.out.mono ?_
   rintro e W0' ⟨rfl,rfl⟩;unfold tk;go_wp2_with fail;go_region
   all_goals
    go_wp2_with fail
    (try simp only [Exit.inBlock,Exit.then])
    rw [SW.out];refine bodyPost_ret (aR rfl _ _ w.heap.size 87 #[.int .i64 0,.int .i64 0,.int .u64 0,.int .i64 0,.string ⟨#[]⟩] (0,0) _ rfl IV.out underlying87 rfl (by kernel_rfl)) rfl ⟨rfl,?_⟩
    exact ⟨HD.out.below (V.below_drewN HB.out 1),V.Step.bD (V.below_drewN HB.out 1),V.Step.bD (V.below_drewN HB.out 1)⟩
 ·have HIT:Hid (∀ w,Calls prog 150 #[.int .i64 id] w fun e w'=>e = .returned (.bool false)∧w=w'):=fun w=>by
   have h:=Vm.out w;rw [decide_eq_false hid] at h;exact h
  have SW:Hid (fP d id=(d,Oh,1)):=by show fP d id=_;unfold fP;rw [if_neg (fun h=>hid ⟨h.1,h.2.1⟩)]
  have cE:(w.alloc (.cells #[.int .i64 0,.int .i64 0,.int .u64 0,.int .i64 0,.string ⟨#[]⟩] 87)).cell? ⟨0,0,none⟩=some (.iface 360 (.pointer (some (A 0)))):=(HE.out.up HB.out).errs.arg;have nF:=IV.out;unfold tk at nF;obtain ⟨⟨z0,z1,z2,z3,z4⟩,y⟩:=Vv nF;clear nF;clear hid Vm;go_enter func113,ntmps113;go_wp2_with fail;refine (HIT.out _).mono ?_
  rintro e W0' ⟨rfl,rfl⟩;go_wp2_with fail;go_region
  all_goals
   go_wp2_with fail
   (try simp only [Exit.inBlock,Exit.then])
   rw [SW.out];refine bodyPost_ret (aR rfl _ _ w.heap.size 87 #[.int .i64 0,.int .i64 0,.int .u64 0,.int .i64 0,.string ⟨#[]⟩] (0,0) _ rfl IV.out underlying87 rfl (by kernel_rfl)) rfl ⟨rfl,?_⟩
   exact ⟨HD.out.below (V.below_drewN HB.out 1),V.Step.bD (V.below_drewN HB.out 1),V.Step.bD (V.below_drewN HB.out 1)⟩
end S
namespace T
open Go.RowKit
variable {F:Nat→Prop} {db:Nat} {d:S.V.bE} {w:World} {base:Nat} {A:Nat→Addr} {s:S.Sh} {id:Int} {p:PD}
def Nr(d d':S.V.bE):Prop:=∃ n,d'={ d with nr:=n }
theorem Nr.refl(d:S.V.bE):Nr d d:=⟨d.nr,rfl⟩
theorem Nr.trans{a b c:S.V.bE}(h:Nr a b)(k:Nr b c):Nr a c:=by
 obtain ⟨n,rfl⟩:=h;obtain ⟨m,rfl⟩:=k;exact ⟨m,rfl⟩
structure Mv(db:Nat)(F:Nat→Prop)(w w':World):Prop where
 step:S.V.Step F F w w'
 one:One db w w'
theorem Mv.refl(db:Nat)(F:Nat→Prop)(w:World):Mv db F w w:=⟨S.V.Step.refl _ _,S.V.Step.refl _ _⟩
theorem Mv.trans{db:Nat}{F:Nat→Prop}{a b c:World}(h:Mv db F a b)(k:Mv db F b c):Mv db F a c:=⟨h.step.trans k.step,h.one.trans k.one⟩
theorem Mv.of{a b:World}(h:Below a.heap.size a b):Mv db F a b:=⟨S.V.Step.bD h,S.V.Step.bD h⟩
theorem Mv.size{db:Nat}{F:Nat→Prop}{a b:World}(h:Mv db F a b):a.heap.size≤b.heap.size:=h.step.size
structure Dv(base:Nat)(A:Nat→Addr)(db:Nat)(F:Nat→Prop)(d:S.V.bE)(w:World):Prop where
 dev:∃ d',Nr d d'∧S.V.cP w db F d'
 env:S.Env base A w
 errs:dI 13 fe A w
 up:∀ k,F k→base≤k
 alive:d.dead=false
 lo:∀ i,i<13→fe i<base∧(A i).block<base
theorem Dv.below{base:Nat}{A:Nat→Addr}{db:Nat}{F:Nat→Prop}{d:S.V.bE}{w w':World}(h:Dv base A db F d w)(hb:Below w.heap.size w w'):Dv base A db F d w':=by
 obtain ⟨d',h1,h2⟩:=h.dev;exact ⟨⟨d',h1,h2.below hb⟩,h.env.up hb,h.errs.keep hb,h.up,h.alive,h.lo⟩
theorem Dv.uq(h:Dv base A db F d w):jC A w:=⟨h.errs.KF (by decide),(h.errs.1 11 (by decide)).1⟩
theorem Dv.UG(h:Dv base A db F d w):B.p9 A w:=B.Fg h.errs
theorem Dv.g(h:Dv base A db F d w)(i:Nat)(hi:i<13):w.cell? ⟨fe i,0,none⟩=some (.iface 360 (.pointer (some (A i)))):=(h.errs.1 i hi).1
theorem tF{w':World}(h:Mv db F w w'){b:Nat}{cs:Array Value}{t:TypeId}(hs:B.au w b cs t)(ht:b≠db):B.au w' b cs t:=(h.one.block b hs.lt ht).trans hs
theorem Tr(d:S.V.bE)(id:Int)(Be:d.dead=false)(h0:0≤id)(eF:(id+1)*8≤d.size):d.read (id*8) 8=(S.TQ d,S.V.iR d (id*8) 8,0):=by
 have hf:d.fits (id*8) 8=true:=by
  unfold S.V.bE.fits;exact decide_eq_true ⟨by omega,by omega,by omega⟩
 obtain ⟨sz,eG,aX,eQ,dead,nr,nw,ns⟩:=d;simp only at Be;subst Be;unfold S.V.bE.read;rw [hf];simp only [kH,if_false,ph];rw [if_neg (by decide)]
 rfl
theorem pB{s':S.Sh}(h:fE d id s)(k:fE d id s'):s=s':=by
 have e1:=S.ll s h.1 h.2.1;have e2:=S.ll s' k.1 k.2.1;have e3:S.gX s=S.gX s':=by rw [← h.2.2.2.2,← k.2.2.2.2,h.2.2.1,k.2.2.1]
 rw [← e1,← e2,e3]
theorem holds_one{p':PD}(h:gj s p)(k:gj s p'):p=p':=by
 rcases h with ⟨h1,_,h3⟩ | ⟨h1,_,h3⟩ <;> rcases k with ⟨k1,_,k3⟩ | ⟨k1,_,k3⟩
 ·rw [h3,k3]
 ·omega
 ·omega
 ·rw [h3,k3]
theorem Jv(h:fE d id s)(k:gj s p):cF d id=some p:=by
 have he:∃ p s,fE d id s∧gj s p:=⟨p,s,h,k⟩;cases hp:cF d id with
 | none =>
  unfold cF at hp;rw [dif_pos he] at hp;cases hp
 | some q =>
  obtain ⟨s',h',k'⟩:=tI hp;rw [pB h' h] at k';rw [holds_one k k']
theorem B3(h:∀ s p,fE d id s→¬ gj s p):cF d id=none:=by
 cases hp:cF d id with
 | none=>rfl
 | some q =>
  obtain ⟨s',h',k'⟩:=tI hp;exact absurd k' (h s' q h')
theorem uY(d:S.V.bE)(id:Int)(Be:d.dead=false):Nr d (S.fP d id).1∧(((S.fP d id).2.2=0∧fE d id (S.fP d id).2.1)∨(((S.fP d id).2.2=1∨(S.fP d id).2.2=2)∧∀ s,¬ fE d id s)):=by
 unfold S.fP;split
 ·rename_i h
  rw [Tr d id Be (by omega) h.2.2]
  simp only [if_true];refine ⟨⟨_,rfl⟩,?_⟩;split
  ·rename_i cM
   refine .inl ⟨rfl,cM.2.2.1,S.VC _,cM.2.1,?_,?_⟩
   ·have:=cM.2.1;show ((S.parse _).id+1)*8≤d.size
    rw [this];exact h.2.2
   ·have:=cM.2.1;show S.V.iR d ((S.parse _).id*8) 8=S.gX (S.parse _)
    rw [this,cM.2.2.2]
  ·rename_i fl
   refine .inr ⟨.inr rfl,fun s hs=>fl ?_⟩
   have e:=hs.2.2.2.2;rw [hs.2.2.1] at e;rw [e];exact (S.D3 s hs.1 hs.2.1 id).2 hs.2.2.1.symm
 ·rename_i h
  refine ⟨Nr.refl d,.inr ⟨.inl rfl,fun s hs=>h ?_⟩⟩
  have h1:=hs.1.2.2.1;have h2:=hs.2.2.2.1;rw [hs.2.2.1] at h1 h2;exact ⟨h1.1,h1.2,h2⟩
def _root_.Go.Proofs.YtihmgigfkmofnaaGreatDoor.T.PD.sn:PD→SN
 | .leaf l=>⟨l,0,[],[]⟩
 | .br f lk=>⟨[],f,lk,B2 f lk⟩
theorem LK(A:Nat→Addr)(kd id tx c:Value)(cn:Int)(body:ByteArray)(hc:c = .int .i64 cn)(w:World)(fl:¬ (0≤cn∧lV cn.toNat body.data.toList))(hE:dI 13 fe A w):Calls prog 174 #[.agg #[kd,id,tx,c,.string body]] w fun e w'=>e = .returned (.tuple #[.pointer none,.iface 360 (.pointer (some (A 8)))])∧Below w.heap.size w w':=by
 subst hc;have q0:=ai w (.cells #[kd,id,tx,.int .i64 cn,.string body] 87);have x0:=B.au.new w #[kd,id,tx,.int .i64 cn,.string body] 87;have k3:(w.alloc (.cells #[kd,id,tx,.int .i64 cn,.string body] 87)).cell? ⟨w.heap.size,3,none⟩=some (.int .i64 cn):=x0.cell 3 (by simp)
 have k4:(w.alloc (.cells #[kd,id,tx,.int .i64 cn,.string body] 87)).cell? ⟨w.heap.size,4,none⟩=some (.string body):=x0.cell 4 (by simp)
 have nC:Hid (Calls prog 114 #[.int .i64 cn,.string body] (w.alloc (.cells #[kd,id,tx,.int .i64 cn,.string body] 87)) fun e w'=>e = .returned (.tuple #[.slice none 0 0,.iface 360 (.pointer (some (A 1)))])∧Below w.heap.size w w'∧w'.cell? ⟨8,0,none⟩=some (.iface 360 (.pointer (some (A 8))))):=by
  refine (yh A cn body _ ⟨(hE.keep q0).KF (by decide),((hE.keep q0).1 11 (by decide)).1⟩).mono fun e w' ⟨hv,hb⟩=>?_
  rcases hv with ⟨h1,h2,_⟩ | ⟨_,he⟩
  ·exact absurd ⟨h1,h2⟩ fl
  ·exact ⟨he,Below.next q0 hb,(((hE.keep q0).keep hb).1 8 (by decide)).1⟩
 clear q0 x0 fl hE;go_enter func174,ntmps174;go_wp2_with fail;refine nC.out.mono ?_
 rintro e w1 ⟨rfl,aO,fM⟩;have HB:=ab aO;clear aO nC k3 k4;go_wp2_with fail;go_quiet (fail)
 go_wp2;go_ret2;exact ⟨rfl,aA HB.out _⟩
theorem LM(A:Nat→Addr)(kd id tx c:Value)(cn:Int)(body:ByteArray)(hc:c = .int .i64 cn)(w:World)(fl:¬ (0≤cn∧B.uM cn.toNat body.data.toList))(hE:dI 13 fe A w):Calls prog 175 #[.agg #[kd,id,tx,c,.string body]] w fun e w'=>e = .returned (.tuple #[.pointer none,.iface 360 (.pointer (some (A 8)))])∧Below w.heap.size w w':=by
 subst hc;have q0:=ai w (.cells #[kd,id,tx,.int .i64 cn,.string body] 87);have x0:=B.au.new w #[kd,id,tx,.int .i64 cn,.string body] 87;have k3:(w.alloc (.cells #[kd,id,tx,.int .i64 cn,.string body] 87)).cell? ⟨w.heap.size,3,none⟩=some (.int .i64 cn):=x0.cell 3 (by simp)
 have k4:(w.alloc (.cells #[kd,id,tx,.int .i64 cn,.string body] 87)).cell? ⟨w.heap.size,4,none⟩=some (.string body):=x0.cell 4 (by simp)
 have nC:Hid (Calls prog 116 #[.int .i64 cn,.string body] (w.alloc (.cells #[kd,id,tx,.int .i64 cn,.string body] 87)) fun e w'=>e = .returned (.tuple #[.agg #[.int .i64 0,.slice none 0 0],.iface 360 (.pointer (some (A 1)))])∧Below w.heap.size w w'∧w'.cell? ⟨8,0,none⟩=some (.iface 360 (.pointer (some (A 8))))):=by
  refine (B.yW A cn body _ (B.Fg (hE.keep q0))).mono fun e w' ⟨hv,hb⟩=>?_
  rcases hv with ⟨h1,h2,_⟩ | ⟨_,he⟩
  ·exact absurd ⟨h1,h2⟩ fl
  ·exact ⟨he,Below.next q0 hb,(((hE.keep q0).keep hb).1 8 (by decide)).1⟩
 clear q0 x0 fl hE;go_enter func175,ntmps175;go_wp2_with fail;refine nC.out.mono ?_
 rintro e w1 ⟨rfl,aO,fM⟩;have q2:=ai w1 (.cells #[.int .i64 0,.slice none 0 0] 150);have g2:(w1.alloc (.cells #[.int .i64 0,.slice none 0 0] 150)).cell? ⟨8,0,none⟩=some (.iface 360 (.pointer (some (A 8)))):=(q2.cell (p:=⟨8,0,none⟩) (World.block_lt_of_cell? w1 _ fM)).trans fM;have HB:=ab (Below.next aO q2);clear aO nC k3 k4 q2;go_wp2_with fail;go_quiet (fail)
 go_wp2;go_ret2;exact ⟨rfl,aA HB.out _⟩
def vK(A:Nat→Addr)(P:Option PD)(e:Ending)(w':World):Prop :=
 (P=none∧e = .returned (.tuple #[.pointer none,.iface 360 (.pointer (some (A 8)))])) ∨
 (∃ p b pv lv cv,P=some p∧e = .returned (.tuple #[.pointer (some ⟨b,0,none⟩),.nilIface])∧dP w' b p.sn pv lv cv)
theorem vK.form{A:Nat→Addr}{P:Option PD}{e:Ending}{w':World}(h:vK A P e w'):∃ p v,e = .returned (.tuple #[.pointer p,v])∧vK A P (.returned (.tuple #[.pointer p,v])) w'∧(v = .nilIface∨v = .iface 360 (.pointer (some (A 8)))):=by
 rcases h with ⟨h1,rfl⟩ | ⟨p,b,pv,lv,cv,h1,rfl,h2⟩
 ·exact ⟨_,_,rfl,.inl ⟨h1,rfl⟩,.inr rfl⟩
 ·exact ⟨_,_,rfl,.inr ⟨p,b,pv,lv,cv,h1,rfl,h2⟩,.inl rfl⟩
theorem Ly(base:Nat)(A:Nat→Addr)(db:Nat)(F:Nat→Prop)(d:S.V.bE)(id:Int)(w:World)(hv:Dv base A db F d w):Calls prog 135 #[.pointer (some ⟨db,0,none⟩),.int .i64 id] w fun e w'=>vK A (cF d id) e w'∧Dv base A db F d w'∧Mv db F w w':=by
 obtain ⟨d0,J4,hd⟩:=hv.dev;have QN:d0.dead=false:=by obtain ⟨n,rfl⟩:=J4;exact hv.alive
 have ru:cF d0=cF d:=by obtain ⟨n,rfl⟩:=J4;rfl
 rw [← ru];obtain ⟨Y8,fI⟩:=uY d0 id QN;have Wu:=ab (S.AQ base A db F d0 id w hd hv.env hv.up);generalize S.fP d0 id=R at *;obtain ⟨Rd,s,c⟩:=R;simp only at Y8 fI Wu;have Ks:Hid (∀ w1,S.V.cP w1 db F Rd→S.V.Step F F w w1→One db w w1→Dv base A db F d w1∧Mv db F w w1):=fun w1 h1 h2 h3 =>
  ⟨⟨⟨Rd,J4.trans Y8,h1⟩,hv.env.step h2 hv.up,yG h3 hd h1 hv.errs,hv.up,hv.alive,hv.lo⟩,⟨h2,h3⟩⟩
 obtain ⟨kd,zK,tx,cn,bd⟩:=s;simp only [S.Sh.cells] at Wu;rcases fI with ⟨rfl,CP⟩ | ⟨abL,fl⟩
 ·have oR:kd=66∨kd=76:=CP.1.1;have qQ:(0:Int)≤cn:=CP.1.2.1.1;have EV:=fun W=>Fi (some (A 7)) W
  have FX:=ab CP;have HC0:=ab qQ;have e0:S.V.im A 0 = .nilIface:=rfl;rw [e0] at Wu;clear hv hd QN J4 ru Y8 CP qQ e0;rcases oR with oR | oR
  focus
   have kR:Hid (∀ W,Dv base A db F d W→Calls prog 175 #[.agg #[.int .i64 kd,.int .i64 zK,.int .u64 (tx:Int),.int .i64 cn,.string bd]] W fun e w'=>vK A (cF d0 id) e w'∧Below W.heap.size W w'):=fun W hW=>by
    by_cases pY:B.uM cn.toNat bd.data.toList
    ·refine (PQ A _ _ _ _ cn bd rfl W HC0.out pY hW.UG).mono ?_
     rintro e w3 ⟨b,pv,lv,cv,rfl,Ud,bW⟩;exact ⟨.inr ⟨_,b,pv,lv,cv,Jv FX.out (.inr ⟨oR,pY,rfl⟩),rfl,Ud⟩,bW⟩
    ·refine (LM A _ _ _ _ cn bd rfl W (fun h=>pY h.2) hW.errs).mono ?_
     rintro e w3 ⟨rfl,bW⟩;refine ⟨.inl ⟨B3 fun s p h1 h2=>?_,rfl⟩,bW⟩
     rw [pB h1 FX.out] at h2;rcases h2 with ⟨h,_⟩ | ⟨_,h,_⟩
     ·exact absurd (oR.symm.trans h) (by decide)
     ·exact pY h
  rotate_left;focus
   have kR:Hid (∀ W,Dv base A db F d W→Calls prog 174 #[.agg #[.int .i64 kd,.int .i64 zK,.int .u64 (tx:Int),.int .i64 cn,.string bd]] W fun e w'=>vK A (cF d0 id) e w'∧Below W.heap.size W w'):=fun W hW=>by
    by_cases pY:lV cn.toNat bd.data.toList
    ·refine (PO A _ _ _ _ cn bd rfl W HC0.out pY hW.uq).mono ?_
     rintro e w3 ⟨b,pv,lv,cv,rfl,Ud,bW⟩;exact ⟨.inr ⟨_,b,pv,lv,cv,Jv FX.out (.inl ⟨oR,pY,rfl⟩),rfl,Ud⟩,bW⟩
    ·refine (LK A _ _ _ _ cn bd rfl W (fun h=>pY h.2) hW.errs).mono ?_
     rintro e w3 ⟨rfl,bW⟩;refine ⟨.inl ⟨B3 fun s p h1 h2=>?_,rfl⟩,bW⟩
     rw [pB h1 FX.out] at h2;rcases h2 with ⟨_,h,_⟩ | ⟨h,_⟩
     ·exact pY h
     ·exact absurd (oR.symm.trans h) (by decide)
  all_goals
   clear FX HC0;go_enter func135,ntmps135;go_wp2_with fail;refine Wu.out.mono ?_
   rintro e w1 ⟨rfl,zq,ja,kP⟩;obtain ⟨fD,fo⟩:=Ks.out w1 zq ja kP;have q2:=ai w1 (.cells #[.int .i64 kd,.int .i64 zK,.int .u64 (tx:Int),.int .i64 cn,.string bd] 87);have x2:=B.au.new w1 #[.int .i64 kd,.int .i64 zK,.int .u64 (tx:Int),.int .i64 cn,.string bd] 87;have je:=fD.below q2;have g7':World.cell? _ ⟨7,0,none⟩=_:=je.g 7 (by decide)
   have k0:=x2.cell 0 (by simp)
   have k1:=x2.cell 1 (by simp)
   have k2:=x2.cell 2 (by simp)
   have k3:=x2.cell 3 (by simp)
   have k4:=x2.cell 4 (by simp)
   simp only [a8,List.getElem_cons_zero,List.getElem_cons_succ] at k0 k1 k2 k3 k4;have Gn:=ab (kR.out _ je);have BF:=ab q2;have uK:=ab fD;have Oa:=ab fo;clear Wu zq ja kP q2 x2 fD je fo Ks kR;subst oR;go_wp2_with fail;refine Gn.out.mono ?_
   rintro e w3 ⟨hr,bW⟩;have vl:=Below.next BF.out bW;obtain ⟨p,v,rfl,hr,_⟩:=hr.form;have cz:Hid (vK A (cF d0 id) (.returned (.tuple #[.pointer p,v])) w3∧Dv base A db F d w3∧Mv db F w w3):=⟨hr,uK.out.below vl,Oa.out.trans (Mv.of vl)⟩;clear hr bW vl k0 k1 k2 k3 k4 g7' Gn;go_wp2;go_ret2;exact cz.out
 ·have N9:Hid (cF d0 id=none):=B3 fun s p h1 _=>fl s h1
  obtain ⟨j,hj,hec⟩ : ∃ j,j<2∧S.V.im A c = .iface 360 (.pointer (some (A j))):=by
   rcases abL with rfl | rfl
   ·exact ⟨0,by decide,rfl⟩
   ·exact ⟨1,by decide,rfl⟩
  rw [hec] at Wu;clear hv hd QN J4 ru Y8 fl abL hec;go_enter func135,ntmps135;go_wp2_with fail;refine Wu.out.mono ?_
  rintro e w1 ⟨rfl,zq,ja,kP⟩;obtain ⟨fD,fo⟩:=Ks.out w1 zq ja kP;have q2:=ai w1 (.cells #[.int .i64 kd,.int .i64 zK,.int .u64 (tx:Int),.int .i64 cn,.string bd] 87);have g7':(w1.alloc (.cells #[.int .i64 kd,.int .i64 zK,.int .u64 (tx:Int),.int .i64 cn,.string bd] 87)).cell? ⟨7,0,none⟩=some (.iface 360 (.pointer (some (A 7)))):=(fD.below q2).g 7 (by decide)
  have g8':(w1.alloc (.cells #[.int .i64 kd,.int .i64 zK,.int .u64 (tx:Int),.int .i64 cn,.string bd] 87)).cell? ⟨8,0,none⟩=some (.iface 360 (.pointer (some (A 8)))):=(fD.below q2).g 8 (by decide)
  have cY:=Q8 A j 7 _ (fD.below q2).errs (by omega) (by decide) (by omega)
  have BF:=ab q2;have cz:Hid (vK A (cF d0 id) (.returned (.tuple #[.pointer none,.iface 360 (.pointer (some (A 8)))])) (w1.alloc (.cells #[.int .i64 kd,.int .i64 zK,.int .u64 (tx:Int),.int .i64 cn,.string bd] 87))∧Dv base A db F d (w1.alloc (.cells #[.int .i64 kd,.int .i64 zK,.int .u64 (tx:Int),.int .i64 cn,.string bd] 87))∧Mv db F w (w1.alloc (.cells #[.int .i64 kd,.int .i64 zK,.int .u64 (tx:Int),.int .i64 cn,.string bd] 87))):=⟨.inl ⟨N9.out,rfl⟩,fD.below q2,fo.trans (Mv.of q2)⟩;clear Wu zq ja kP q2 fD fo Ks;go_wp2_with fail;go_quiet (fail)
  go_wp2;go_ret2;exact ⟨.inl ⟨N9.out,rfl⟩,cz.out.2.1.below (aA (Below.refl _ _) _),cz.out.2.2.trans (Mv.of (aA (Below.refl _ _) _))⟩
end T
namespace W
open Go.RowKit
variable {v:Value} {w w':World} {base n:Nat}
abbrev Lk:=Nat × Int
def bn(l:List Lk):List Value:=l.flatMap fun p=>[Value.pointer (some ⟨p.1,0,none⟩),.int .i64 p.2]
theorem eB(p:Lk)(l:List Lk):bn (p::l) = .pointer (some ⟨p.1,0,none⟩)::.int .i64 p.2::bn l:=by simp [bn]
theorem di(a b:List Lk):bn (a++b)=bn a++bn b:=by simp [bn]
theorem aU(l:List Lk):(bn l).length=l.length*2:=by
 induction l with
 | nil=>rfl
 | cons p l ih=>rw [eB];simp [ih];omega
theorem gI(l:List Lk):∀ j (h:j<l.length),(bn l)[j*2]?=some (.pointer (some ⟨l[j].1,0,none⟩))∧(bn l)[j*2+1]?=some (.int .i64 l[j].2):=by
 induction l with
 | nil=>intro j h;simp at h
 | cons p l ih =>
  intro j h;rw [eB];cases j with
  | zero=>exact ⟨rfl,rfl⟩
  | succ j =>
   have:=ih j (by simpa using h)
   rw [show (j+1)*2=j*2+1+1 by omega]
   simpa using this
theorem fW(l:List Lk):∀ u ∈ bn l,u.oneCell'=true:=by
 intro u hu;simp only [bn,l8] at hu;obtain ⟨p,_,h⟩:=hu;simp at h
 rcases h with rfl | rfl <;> rfl
theorem lL:(prog.info? 159).map (fun i=>(i.zero,i.size,i.bytes))=some (some (.agg #[.pointer none,.int .i64 0]),2,16):=by kernel_rfl
def dm(w:World)(v:Value)(l:List Lk):Prop:=∃ a cap,v = .slice a l.length cap∧l.length≤cap∧(a=none→cap=0) ∧
 ∀ j (h:j<l.length),∃ g o,a=some ⟨g,o,none⟩∧w.cell? ⟨g,o+j*2,none⟩=some (.pointer (some ⟨l[j].1,0,none⟩))∧w.cell? ⟨g,o+j*2+1,none⟩=some (.int .i64 l[j].2)
theorem dm.below{l:List Lk}(h:dm w v l)(hb:Below w.heap.size w w'):dm w' v l:=by
 obtain ⟨a,cap,rfl,hle,hn,hc⟩:=h;refine ⟨a,cap,rfl,hle,hn,fun j hj=>?_⟩
 obtain ⟨g,o,ha,h1,h2⟩:=hc j hj;exact ⟨g,o,ha,(hb.cell (p:=⟨g,o+j*2,none⟩) (World.block_lt_of_cell? w _ h1)).trans h1,(hb.cell (p:=⟨g,o+j*2+1,none⟩) (World.block_lt_of_cell? w _ h2)).trans h2⟩
theorem dm.form{l:List Lk}(h:dm w v l):∃ a c,v = .slice a l.length c:=by
 obtain ⟨a,c,rfl,_⟩:=h;exact ⟨a,c,rfl⟩
theorem dm.rX{l:List Lk}(h:w.ownsRow base 159 2 v n (bn l)):dm w v l:=by
 have hl:=h.1;rw [aU] at hl;have hl:l.length=n:=by omega
 rcases h.2 with ⟨rfl,hn⟩ | ⟨g,cap,cur,rfl,hb,hg,CQ,sA,fI,lE⟩
 ·have h0:l.length=0:=by omega
  exact ⟨none,0,by rw [h0],by omega,fun _=>rfl,fun j hj=>by omega⟩
 ·refine ⟨some ⟨g,0,none⟩,cap,by rw [hl],by omega,fun h=>(by cases h),fun j hj=>⟨g,0,rfl,?_,?_⟩⟩
  ·rw [Nat.zero_add,h.cellAt (j*2) (by omega)];exact (gI l j hj).1
  ·rw [Nat.zero_add,h.cellAt (j*2+1) (by omega)];exact (gI l j hj).2
def b9(w:World)(base:Nat)(v:Value)(l:List Lk):Prop:=w.ownsRow base 159 2 v l.length (bn l)
theorem b9.at{l:List Lk}(h:b9 w base v l):dm w v l:=dm.rX h
theorem b9.form{w:World}{base:Nat}{v:Value}{l:List Lk}(h:b9 w base v l):∃ a c,v = .slice a l.length c:=h.at.form
theorem b9.below{l:List Lk}(h:b9 w base v l)(hb:Below w.heap.size w w'):b9 w' base v l:=by
 refine ⟨h.1,?_⟩;rcases h.2 with h' | ⟨g,cap,cur,h',h1,h2,hr⟩
 ·exact .inl h'
 ·refine .inr ⟨g,cap,cur,h',h1,?_,hr⟩;have hg:g<w.heap.size:=by
   rcases a6 g w.heap.size with h' | h'
   ·exact h'
   ·rw [aZ h'] at h2;cases h2
  rw [hb.block g hg];exact h2
theorem b9.nil(w:World)(base:Nat):b9 w base (.slice none 0 0) []:=World.ownsRow_nil _ _ _ _
theorem fs(base:Nat)(v s:Value)(xs us:List Lk)(w:World)(aE:b9 w base v xs)(hs:dm w s us)(hb:(xs.length+us.length)*16≤140737488355328)(dd:base≤w.heap.size):∃ a' eO w',(Builtin.append_ #[101,101] 101 #[v,s]).run prog w = .ok (.slice a' (xs.length+us.length) eO) w'∧b9 w' base (.slice a' (xs.length+us.length) eO) (xs++us)∧w.grownBy w' v.ownBlock:=by
 obtain ⟨i0,hi,hz,b8,kQ⟩:=info_parts lL;obtain ⟨a,cap,rfl,hle,qP,hc⟩:=hs;have NV:∃ a' c',v = .slice a' xs.length c':=aE.form;unfold b9 at aE ⊢;rw [ae,di];cases a with
 | none =>
  have h0:us=[]:=by
   cases us with
   | nil=>rfl
   | cons u r=>obtain ⟨g,o,he,_⟩:=hc 0 (by simp);cases he
  subst h0;rw [qP rfl];have hr:=run_append_owned_none (P:=prog) w base 101 101 159 i0 2 underlying101 hi v xs.length (bn xs) aE;obtain ⟨a',c',rfl⟩:=NV;exact ⟨a',c',w,hr,by simpa [bn] using aE,⟨rfl,rfl,rfl,aj _,fun _ _ _=>rfl⟩⟩
 | some ad =>
  obtain ⟨v',w',hr,gr,Bd,_⟩:=run_append_own (P:=prog) w base 101 101 159 i0 _ 2 16 underlying101 hi hz b8 kQ rfl (by decide) v xs.length (bn xs) aE ad us.length cap (bn us) (aU us) (fun j u hj=>by
   have lY:=(List.getElem?_eq_some_iff.1 hj).1;rw [aU] at lY;obtain ⟨g,o,he,c1,c2⟩:=hc (j / 2) (by omega)
   cases he;have hg:=gI us (j / 2) (by omega)
   rw [bh];rcases bY j with hm | hm
   ·have e:j / 2*2=j:=by omega
    rw [e] at hg c1;rw [hg.1] at hj;cases hj;exact c1
   ·have e:j / 2*2+1=j:=by omega
    rw [dN,e] at c2;rw [e] at hg;rw [hg.2] at hj;cases hj;exact c2) (fW us) (by unfold maxLen;omega) hb dd
  have hf:∃ a' c',v' = .slice a' (xs.length+us.length) c':=by
   rcases gr.2 with ⟨rfl,h0⟩ | ⟨g,cap,cur,rfl,_⟩
   ·exact ⟨none,0,by rw [h0]⟩
   ·exact ⟨_,_,rfl⟩
  obtain ⟨a',c',rfl⟩:=hf;exact ⟨a',c',w',hr,gr,Bd⟩
theorem b9.dx{l:List Lk}(h:b9 w base v l):∀ k,v.ownBlock=some k→base≤k∧k<w.heap.size:=World.ownsRow.lt h
theorem wB(w:World)(p:Lk)(t:TypeId):dm (w.alloc (.cells #[Value.pointer (some ⟨p.1,0,none⟩),.int .i64 p.2] t)) (.slice (some ⟨w.heap.size,0,none⟩) 1 1) [p]:=by
 have hb:=bM w #[Value.pointer (some ⟨p.1,0,none⟩),.int .i64 p.2] t;refine ⟨_,_,rfl,aj _,fun h=>(by cases h),fun j hj=>⟨_,_,rfl,?_,?_⟩⟩
 ·have:j=0:=by simpa using hj
  subst this;exact hb.2 0 (by simp)
 ·have:j=0:=by simpa using hj
  subst this;exact hb.2 1 (by simp)
theorem dm.spot{a:Option Addr}{c:Nat}{l:List Lk}(h:dm w (.slice a n c) l)(j:Nat)(hj:j<l.length):∃ g o,a = .some ⟨g,o,none⟩∧w.cell? ⟨g,o+j*2,none⟩ = .some (.pointer (some ⟨l[j].1,0,none⟩))∧w.cell? ⟨g,o+j*2+1,none⟩ = .some (.int .i64 l[j].2):=by
 obtain ⟨a',c',he,_,_,hc⟩:=h;cases he;exact hc j hj
end W
namespace T
open Go.RowKit
variable {w w':World} {d:S.V.bE} {db:Nat} {F:Nat→Prop} {base:Nat} {A:Nat→Addr} {v:Value} {l:List W.Lk}
def Va(w:World)(k:Nat):Prop :=
 (∀ j v,w.cell? ⟨k,j,none⟩=some v→(∀ s,v≠.string s)∧∀ t x,v≠.iface t x)∧(∀ cs fr,w.heap[k]?≠some (.cells cs 155 fr))∧∀ cs fr,w.heap[k]?≠some (.cells cs 100 fr)
structure df(w w':World):Prop where
 size:w.heap.size≤w'.heap.size
 block:∀ k,k<w.heap.size→w'.heap[k]?=w.heap[k]?∨Va w k
theorem df.of(h:Below w.heap.size w w'):df w w':=⟨h.size,fun k hk=>.inl (h.block k hk)⟩
theorem Mv.cN(h:Mv db F w w')(hv:Dv base A db F d w):df w w':=⟨h.size,fun k hk=>by
 by_cases e:k=db
 ·subst e;obtain ⟨d',_,hd⟩:=hv.dev;refine .inr ⟨fun j v hc=>kX hd hc,?_,?_⟩
  ·intro cs fr h1;obtain ⟨mb,nb,Li,av,Dn,hb⟩:=hd;rw [hb.dx] at h1;simp at h1
  ·intro cs fr h1;obtain ⟨mb,nb,Li,av,Dn,hb⟩:=hd;rw [hb.dx] at h1;simp at h1
 ·exact .inl (h.one.block k hk e)⟩
theorem df.str(h:df w w'){g o:Nat}{s:ByteArray}(hc:w.cell? ⟨g,o,none⟩=some (.string s)):w'.heap[g]?=w.heap[g]? :=
 (h.block g (World.block_lt_of_cell? w _ hc)).elim id fun e=>absurd rfl ((e.1 o _ hc).1 s)
theorem df.ifc(h:df w w'){g o:Nat}{t:TypeId}{x:Value}(hc:w.cell? ⟨g,o,none⟩=some (.iface t x)):w'.heap[g]?=w.heap[g]? :=
 (h.block g (World.block_lt_of_cell? w _ hc)).elim id fun e=>absurd rfl ((e.1 o _ hc).2 t x)
theorem bP{g o:Nat}(h:w'.heap[g]?=w.heap[g]?)(hc:w.cell? ⟨g,o,none⟩=some v):w'.cell? ⟨g,o,none⟩=some v :=
 (World.cell?_of_block (a:=⟨g,o,none⟩) h).trans hc
theorem Pf(h:df w w'){v:Value}{l:List Pr}(hr:gM w v l):gM w' v l:=by
 obtain ⟨a,cap,rfl,hle,hn,hc⟩:=hr;refine ⟨a,cap,rfl,hle,hn,fun j hj=>?_⟩
 obtain ⟨g,o,ha,h1,h2⟩:=hc j hj;have hg:=h.str h1;exact ⟨g,o,ha,bP hg h1,bP hg h2⟩
theorem PU(h:df w w'){v:Value}{l:List B.Lk}(hr:B.dm w v l):B.dm w' v l:=by
 obtain ⟨a,cap,rfl,hle,hn,hc⟩:=hr;refine ⟨a,cap,rfl,hle,hn,fun j hj=>?_⟩
 obtain ⟨g,o,ha,h1,h2⟩:=hc j hj;have hg:=h.str h1;exact ⟨g,o,ha,bP hg h1,bP hg h2⟩
theorem Rw(h:df w w'){v:Value}{l:List C.Ch}(hr:C.dm w v l):C.dm w' v l:=by
 obtain ⟨a,cap,rfl,hle,hn,hc⟩:=hr;refine ⟨a,cap,rfl,hle,hn,fun j u hj=>?_⟩
 obtain ⟨g,o,ha,h1⟩:=hc j u hj;obtain ⟨p,_,rfl⟩ : ∃ p ∈ l,p.val=u:=by
  have:=cL hj;simpa [C.bn] using this
 obtain ⟨t,x,hp⟩:=bU p;have hg:=h.ifc (hp▸h1);exact ⟨g,o,ha,bP hg h1⟩
theorem dP.cN(h:df w w'){b:Nat}{n:SN}{pv lv cv:Value}(hs:dP w b n pv lv cv):dP w' b n pv lv cv:=by
 refine ⟨?_,Pf h hs.iH,PU h hs.bn,Rw h hs.kids,hs.fine⟩;rcases h.block b hs.row.lt with e | e
 ·exact e.trans hs.row
 ·exact absurd hs.row (e.2.1 _ _)
theorem dX(h:df w w'){b:Nat}{cs:Array Value}(hs:B.au w b cs 100):B.au w' b cs 100:=by
 rcases h.block b hs.lt with e | e
 ·exact e.trans hs
 ·exact absurd hs (e.2.2 _ _)
theorem Dv.Ct(h:Dv base A db F d w):db<w.heap.size:=by
 obtain ⟨d',_,mb,nb,Li,av,Dn,hb⟩:=h.dev;exact (Array.getElem?_eq_some_iff.1 hb.dx).1
theorem Dv.grown{w0 w1 w2:World}(fD:Dv base A db F d w1)(n9:Below w0.heap.size w1 w2)(hm:Mv db F w0 w1)(iK:Dv base A db F d w0):Dv base A db F d w2∧Mv db F w0 w2:=by
 obtain ⟨d1,n1,zq⟩:=fD.dev;obtain ⟨d0,n0,Gi⟩:=iK.dev;have hF0:∀ k,F k→k<w0.heap.size:=Gi.lt;have hs:S.V.Step (fun k=>w0.heap.size≤k) (fun k=>w0.heap.size≤k) w1 w2:=⟨n9.os,n9.tape,n9.output,n9.size,fun k hk hn=>n9.block k (by omega),fun _ h=>.inl h⟩
 have Ml:S.V.cP w2 db F d1:=zq.keep hs (fun k hk e=>by have:=hF0 k hk;omega)
 have jD:Mv db F w0 w2:=⟨⟨n9.os.trans hm.step.os,n9.tape.trans hm.step.tape,n9.output.trans hm.step.output,ar hm.size n9.size,fun k hk hn=>(n9.block k hk).trans (hm.step.block k hk hn),fun _ h=>.inl h⟩,⟨n9.os.trans hm.step.os,n9.tape.trans hm.step.tape,n9.output.trans hm.step.output,ar hm.size n9.size,fun k hk hn=>(n9.block k hk).trans (hm.one.block k hk hn),fun _ h=>.inl h⟩⟩
 exact ⟨⟨⟨d1,n1,Ml⟩,fD.env.keep (n9.mono iK.env.errs.size),yG jD.one Gi Ml iK.errs,fD.up,fD.alive,fD.lo⟩,jD⟩
def Plain(u:Value):Prop:=(∃ p,u = .pointer p)∨∃ k x,u = .int k x
theorem Plain.no{u:Value}(h:Plain u):(∀ s,u≠.string s)∧∀ t x,u≠.iface t x:=by
 rcases h with ⟨p,rfl⟩ | ⟨k,x,rfl⟩
 ·exact ⟨(fun s e=>by cases e),(fun t x e=>by cases e)⟩
 ·exact ⟨(fun s e=>by cases e),(fun t x e=>by cases e)⟩
theorem pH(l:List W.Lk):∀ u ∈ W.bn l,Plain u:=by
 intro u hu;simp only [W.bn,l8] at hu;obtain ⟨p,_,h⟩:=hu;simp at h
 rcases h with rfl | rfl
 ·exact .inl ⟨_,rfl⟩
 ·exact .inr ⟨_,_,rfl⟩
def uF(w:World)(base:Nat)(v:Value)(l:List W.Lk):Prop :=
 W.b9 w base v l∧∀ g,v.ownBlock=some g→∃ cur,w.heap[g]?=some (.cells cur 159 (0,0))∧∀ u ∈ cur.toList,Plain u
theorem uF.nil(w:World)(base:Nat):uF w base (.slice none 0 0) []:=⟨W.b9.nil w base,fun g h=>by simp [Value.ownBlock] at h⟩
theorem uF.odd(h:uF w base v l){g:Nat}(hg:v.ownBlock=some g):Va w g:=by
 obtain ⟨cur,h1,h2⟩:=h.2 g hg;refine ⟨fun j u hc=>?_,fun cs fr e=>?_,fun cs fr e=>?_⟩
 ·rw [cell_of_row w g j cur _ _ h1] at hc;exact (h2 u (by have:=Array.getElem?_eq_some_iff.1 hc;obtain ⟨h3,h4⟩:=this;rw [← h4];exact gH h3)).no
 ·rw [h1] at e;simp at e
 ·rw [h1] at e;simp at e
theorem uF.below{w w':World}{base:Nat}{v:Value}{l:List W.Lk}(h:uF w base v l)(hb:Below w.heap.size w w'):uF w' base v l:=by
 refine ⟨h.1.below hb,fun g hg=>?_⟩
 obtain ⟨cur,h1,h2⟩:=h.2 g hg;exact ⟨cur,(hb.block g (Array.getElem?_eq_some_iff.1 h1).1).trans h1,h2⟩
theorem uF.mv(h:uF w base v l)(hm:Mv db F w w')(hdb:db<base):uF w' base v l:=by
 refine ⟨⟨h.1.1,?_⟩,fun g hg=>?_⟩
 ·rcases h.1.2 with h' | ⟨g,cap,cur,h',h1,h2,hr⟩
  ·exact .inl h'
  ·exact .inr ⟨g,cap,cur,h',h1,(hm.one.block g (Array.getElem?_eq_some_iff.1 h2).1 (by omega)).trans h2,hr⟩
 ·obtain ⟨cur,h1,h2⟩:=h.2 g hg;have:=(h.1.dx g hg).1;exact ⟨cur,(hm.one.block g (Array.getElem?_eq_some_iff.1 h1).1 (by omega)).trans h1,h2⟩
theorem qq(n:Nat):∀ u ∈ (Builtin.zeroCells (Value.agg #[.pointer none,.int .i64 0]).cells n).toList,Plain u:=by
 intro u hu;simp only [Builtin.zeroCells,Value.cells] at hu;simp at hu
 obtain ⟨i,_,rfl⟩:=hu;rcases bY i with h | h
 ·rw [h];exact .inl ⟨none,rfl⟩
 ·rw [h];exact .inr ⟨.i64,0,rfl⟩
theorem uF.push(base:Nat)(v:Value)(l:List W.Lk)(p:W.Lk)(w:World)(h:uF w base v l)(hn:l.length≤100000)(dd:base≤w.heap.size):∃ a' c' w',(Builtin.append_ #[101,101] 101 #[v,.slice (some ⟨w.heap.size,0,none⟩) 1 1]).run prog (w.alloc (.cells #[.pointer (some ⟨p.1,0,none⟩),.int .i64 p.2] 159)) = .ok (.slice a' (l.length+1) c') w'∧uF w' base (.slice a' (l.length+1) c') (l++[p])∧(w.alloc (.cells #[.pointer (some ⟨p.1,0,none⟩),.int .i64 p.2] 159)).grownBy w' v.ownBlock∧df w w'∧(∀ g,(Value.slice a' (l.length+1) c').ownBlock=some g→v.ownBlock=some g∨w.heap.size≤g):=by
 obtain ⟨i0,hi,hz,b8,kQ⟩:=info_parts W.lL;have ho:W.b9 (w.alloc (.cells #[.pointer (some ⟨p.1,0,none⟩),.int .i64 p.2] 159)) base v l:=World.ownsRow.alloc h.1 _;obtain ⟨a',c',w',hr,aE,hg⟩:=W.fs base v _ l [p] _ ho (W.wB w p 159) (by simp;omega) (by simp;omega)
 have aw:df w w':=⟨by have:=hg.size;simp at this;omega,fun k hk=>by
  by_cases e:some k=v.ownBlock
  ·exact .inr (h.odd e.symm)
  ·left
   rw [hg.block k (by simp;omega) e]
   exact heap_alloc_old w _ hk⟩
 have me:=bM w #[.pointer (some ⟨p.1,0,none⟩),.int .i64 p.2] 159;have ie:∀ j u,([.pointer (some ⟨p.1,0,none⟩),.int .i64 p.2] : List Value)[j]?=some u→(w.alloc (.cells #[.pointer (some ⟨p.1,0,none⟩),.int .i64 p.2] 159)).cell? ((⟨w.heap.size,0,none⟩ : Addr).add j)=some u:=fun j u hj=>by
  rw [bh,Nat.zero_add];match j,hj with
  | 0,hj=>cases hj;exact me.2 0 (by simp)
  | 1,hj=>cases hj;exact me.2 1 (by simp)
 have SC:∀ u ∈ ([.pointer (some ⟨p.1,0,none⟩),.int .i64 p.2] : List Value),Plain u:=pH [p];suffices hh:(∀ g,(Value.slice a' (l.length+1) c').ownBlock=some g→v.ownBlock=some g∨w.heap.size≤g)∧∀ g,(Value.slice a' (l.length+1) c').ownBlock=some g→∃ cur,w'.heap[g]?=some (.cells cur 159 (0,0))∧∀ u ∈ cur.toList,Plain u from ⟨a',c',w',hr,⟨aE,hh.2⟩,hg,aw,hh.1⟩
 rcases h.1.2 with ⟨rfl,h0⟩ | ⟨g0,cap,cur,rfl,mS,qm,CQ,sA,fI,lE⟩
 ·have hq:=run_append_nil (P:=prog) (w.alloc (.cells #[.pointer (some ⟨p.1,0,none⟩),.int .i64 p.2] 159)) 101 101 159 i0 _ underlying101 hi hz ⟨w.heap.size,0,none⟩ 1 1 _ (by rw [b8];rfl) ie (by omega) (by omega) (by rw [kQ];omega)
  rw [hq] at hr;simp only [Result.ok.injEq,Value.slice.injEq] at hr;obtain ⟨⟨rfl,-,-⟩,rfl⟩:=hr;refine ⟨fun g gJ=>?_,fun g gJ=>?_⟩
  ·simp only [Value.ownBlock,Option.some.injEq] at gJ;right;subst gJ;simp
  simp only [Value.ownBlock,Option.some.injEq] at gJ;subst gJ;refine ⟨_,heap_alloc_new (World.drew _) _,fun u hu=>?_⟩
  simp only [b7,cA] at hu;rcases hu with hu | hu
  ·exact SC u (by simpa using hu)
  ·exact qq _ u hu
 ·have fM:(w.alloc (.cells #[.pointer (some ⟨p.1,0,none⟩),.int .i64 p.2] 159)).heap[g0]?=some (.cells cur 159 (0,0)):=(heap_alloc_old w _ (Array.getElem?_eq_some_iff.1 qm).1).trans qm;have zr:∀ u ∈ cur.toList,Plain u:=by
   obtain ⟨fN,h1,h2⟩:=h.2 g0 rfl;rw [qm] at h1;simp only [Option.some.injEq,Obj.cells.injEq,and_true] at h1;subst h1;exact h2
  by_cases eb:l.length+1≤cap
  ·have hq:=run_append_room (P:=prog) (w.alloc (.cells #[.pointer (some ⟨p.1,0,none⟩),.int .i64 p.2] 159)) 101 101 159 i0 underlying101 hi g0 l.length cap cur fM ⟨w.heap.size,0,none⟩ 1 1 _ (by rw [b8];rfl) ie (by intro u hu;rcases SC u hu with ⟨q,rfl⟩ | ⟨q,x,rfl⟩ <;> rfl) eb (by rw [b8,fI];simp;omega)
   rw [hq] at hr;simp only [Result.ok.injEq,Value.slice.injEq] at hr;obtain ⟨⟨rfl,-,-⟩,rfl⟩:=hr;refine ⟨fun g gJ=>?_,fun g gJ=>?_⟩
   ·simp only [Value.ownBlock,Option.some.injEq] at gJ;left;subst gJ;rfl
   simp only [Value.ownBlock,Option.some.injEq] at gJ;subst gJ;refine ⟨_,setRow_heap _ g0 cur _ _ _ fM,fun u hu=>?_⟩
   simp only [cA] at hu;rcases hu with (hu | hu) | hu
   ·exact zr u (bJ hu)
   ·exact SC u hu
   ·exact zr u (bK hu)
  ·have n7:(W.bn l).length=l.length*i0.size:=by rw [b8];exact W.aU l
   have holds:∀ j u,(W.bn l)[j]?=some u→(w.alloc (.cells #[.pointer (some ⟨p.1,0,none⟩),.int .i64 p.2] 159)).cell? ((⟨g0,0,none⟩ : Addr).add j)=some u:=World.ownsRow.cells ho (g:=g0) rfl;have hq:=run_append_grow (P:=prog) (w.alloc (.cells #[.pointer (some ⟨p.1,0,none⟩),.int .i64 p.2] 159)) 101 101 159 i0 _ underlying101 hi hz ⟨g0,0,none⟩ l.length cap (W.bn l) n7 holds ⟨w.heap.size,0,none⟩ 1 1 _ (by rw [b8];rfl) ie (by omega) (by omega) (growslice_fits (by omega) (by rw [kQ];omega))
   rw [hq] at hr;simp only [Result.ok.injEq,Value.slice.injEq] at hr;obtain ⟨⟨rfl,-,-⟩,rfl⟩:=hr;refine ⟨fun g gJ=>?_,fun g gJ=>?_⟩
   ·simp only [Value.ownBlock,Option.some.injEq] at gJ;right;subst gJ;simp
   simp only [Value.ownBlock,Option.some.injEq] at gJ;subst gJ;refine ⟨_,heap_alloc_new (World.drew _) _,fun u hu=>?_⟩
   simp only [b7,cA] at hu;rcases hu with (hu | hu) | hu
   ·exact pH l u (by simpa using hu)
   ·exact SC u (by simpa using hu)
   ·exact qq _ u hu
end T
end Go.Proofs.YtihmgigfkmofnaaGreatDoor
