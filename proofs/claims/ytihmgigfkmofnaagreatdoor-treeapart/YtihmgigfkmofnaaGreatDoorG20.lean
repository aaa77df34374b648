import Derived.Test.YtihmgigfkmofnaaGreatDoorG19
set_option maxHeartbeats 2000000
set_option maxRecDepth 100000
open Go.Proofs.Tryz
namespace Go.Proofs.YtihmgigfkmofnaaGreatDoor
namespace S
open Go.RowKit
def MX:Sh:=⟨0,0,0,0,⟨#[]⟩⟩
def fN(d:V.bq)(id:Int):V.bq × Sh × Nat :=
 if 2≤id∧id<1048576∧(id+1)*8≤d.size then
  if (d.read (id*8) 8).2.2=0 then ((d.read (id*8) 8).1,if gx (d.read (id*8) 8).2.1 id then (parse (d.read (id*8) 8).2.1,0) else (MX,2))
  else ((d.read (id*8) 8).1,MX,(d.read (id*8) 8).2.2)
 else (d,MX,1)
def sw:Obj:=.cells #[.int .i64 0,.int .i64 0,.int .u64 0,.int .i64 0,.string ⟨#[]⟩] 87
theorem Ke{d:V.bq}{s n:Int}(h0:0≤s)(h1:0≤n)(h2:s≤d.size - n)(h3:n≤1024):(d.read s n).2.2=if d.dead then 8 else 0:=by
 unfold V.bq.read;have hf:d.fits s n=true:=by unfold V.bq.fits;exact decide_eq_true ⟨h0,h1,h2⟩
 cases d.dead with
 | true=>rfl
 | false =>
  rw [hf];simp only [kq,if_false,oM];rw [if_neg (by omega)]
theorem CT(a:Addr)(l:List UInt8)(id:Int):q7 a l id=#[.agg (if gx l id then parse l else MX).cells.toArray,if gx l id then .nilIface else .iface 360 (.pointer (some a))]:=by
 unfold q7;split <;> rfl
theorem JC{w w2:World}{F F':Nat→Prop}(hs:V.Step F F' (w.alloc sw) w2)(hF:∀ k,F k→k<w.heap.size):w2.heap[w.heap.size]?=some (.cells #[.int .i64 0,.int .i64 0,.int .u64 0,.int .i64 0,.string ⟨#[]⟩] 87 (0,0)):=by
 rw [hs.block w.heap.size (by simp) (fun hf=>by have:=hF _ hf;omega)]
 exact heap_alloc_new w _
theorem xP{w w3:World}{b:Nat}{F:Nat→Prop}{d:V.bq}{u0 u1 u2 u3 u4:Value}(h:V.cJ w3 b F d)(hs:V.Step F F w w3)(hF:∀ k,F k→k<w.heap.size)(D2:V.Step (fun k=>k=b) (fun k=>k=b) w w3):V.cJ (((((w3.setCell ⟨w.heap.size,0,none⟩ u0).setCell ⟨w.heap.size,1,none⟩ u1).setCell ⟨w.heap.size,2,none⟩ u2).setCell ⟨w.heap.size,3,none⟩ u3).setCell ⟨w.heap.size,4,none⟩ u4) b F d∧V.Step F F w (((((w3.setCell ⟨w.heap.size,0,none⟩ u0).setCell ⟨w.heap.size,1,none⟩ u1).setCell ⟨w.heap.size,2,none⟩ u2).setCell ⟨w.heap.size,3,none⟩ u3).setCell ⟨w.heap.size,4,none⟩ u4)∧V.Step (fun k=>k=b) (fun k=>k=b) w (((((w3.setCell ⟨w.heap.size,0,none⟩ u0).setCell ⟨w.heap.size,1,none⟩ u1).setCell ⟨w.heap.size,2,none⟩ u2).setCell ⟨w.heap.size,3,none⟩ u3).setCell ⟨w.heap.size,4,none⟩ u4):=by
 have h5:=@Lt w3 w.heap.size u0 u1 u2 u3 u4;refine ⟨h.keep h5 (fun k hk e=>by have:=hF k hk;omega),⟨h5.os.trans hs.os,h5.tape.trans hs.tape,h5.output.trans hs.output,ar hs.size h5.size,fun q hq hn=>(h5.block q (aq hq hs.size) (by omega)).trans (hs.block q hq hn),fun q hq=>hs.sub q hq⟩,⟨h5.os.trans D2.os,h5.tape.trans D2.tape,h5.output.trans D2.output,ar D2.size h5.size,fun q hq hn=>(h5.block q (aq hq D2.size) (by omega)).trans (D2.block q hq hn),fun q hq=>D2.sub q hq⟩⟩
theorem KH(base:Nat)(A:Nat→Addr)(db:Nat)(F:Nat→Prop)(d:V.bq)(id:Int)(w:World)(hd:V.cJ w db F d)(hE:Env base A w)(hF:∀ k,F k→base≤k):Calls prog 113 #[.pointer (some ⟨db,0,none⟩),.int .i64 id] w fun e w'=>e = .returned (.tuple #[.agg (fN d id).2.1.cells.toArray,V.ig A (fN d id).2.2])∧V.cJ w' db F (fN d id).1∧V.Step F F w w'∧V.Step (fun k=>k=db) (fun k=>k=db) w w':=by
 have HE:=ab hE;have HD:=ab hd;have HFB:=ab hF;have HB:=ab (ai w sw);have HFl:=ab hd.lt;have HZ0:Hid (∀ w3,V.Step F F w w3→w3.heap[w.heap.size]?=some (.cells #[.int .i64 0,.int .i64 0,.int .u64 0,.int .i64 0,.string ⟨#[]⟩] 87 (0,0))→True):=fun _ _ _=>trivial
 have Ht:Hid ((w.alloc sw).heap[w.heap.size]?=some (.cells #[.int .i64 0,.int .i64 0,.int .u64 0,.int .i64 0,.string ⟨#[]⟩] 87 (0,0))):=heap_alloc_new w _;have TY:=ab (rE id);clear hE hd hF HZ0;by_cases hid:2≤id∧id<1048576
 ·obtain ⟨B8,uS⟩:=hid;have yy:0≤id:=by omega
  have HIT:Hid (∀ w,Calls prog 150 #[.int .i64 id] w fun e w'=>e = .returned (.bool true)∧w=w'):=fun w=>by
   have h:=TY.out w;rw [decide_eq_true ⟨B8,uS⟩] at h;exact h
  clear TY;by_cases eC:(id+1)*8≤d.size
  ·have HDF:=ab (decide_eq_true eC);have UL:=Ke (d:=d) (s:=id*8) (n:=8) (by omega) (by omega) (by omega) (by omega)
   have WR:Hid (fN d id=if (d.read (id*8) 8).2.2=0 then ((d.read (id*8) 8).1,if gx (d.read (id*8) 8).2.1 id then (parse (d.read (id*8) 8).2.1,0) else (MX,2)) else ((d.read (id*8) 8).1,MX,(d.read (id*8) 8).2.2)):=by
    show fN d id=_
    unfold fN;rw [if_pos ⟨B8,uS,eC⟩]
   have Vf:=ab (HD.out.below HB.out);have HEV:=ab (HE.out.up HB.out);have Mo:=ab (V.lY base A db F d (w.alloc sw) Vf.out HEV.out.errs (id*8) 8 (by decide))
   have E1:=ab (mN db F d id (w.alloc sw) Vf.out yy uS);rw [HDF.out] at E1;have MF:(d.read (id*8) 8).2.2=8∨(d.read (id*8) 8).2.2=0:=by rw [UL];cases d.dead <;> simp
   clear UL HDF eC;generalize d.read (id*8) 8=R at *;obtain ⟨Rd,Rl,Rc⟩:=R;simp only at MF WR;obtain ⟨ev,By⟩ : ∃ ev,ev=V.ig A Rc:=⟨_,rfl⟩;have HRX:Hid (Calls prog 151 #[.pointer (some ⟨db,0,none⟩),.int .i64 (id*8),.int .i64 8] (w.alloc sw) fun e w'=>∃ va vc,e = .returned (.tuple #[.slice va Rl.length vc,ev])∧w'.ownsRow (w.alloc sw).heap.size 5 1 (.slice va Rl.length vc) Rl.length (dS Rl)∧V.cJ w' db F Rd∧V.Step F F (w.alloc sw) w'∧V.Step (fun k=>k=db) (fun k=>k=db) (w.alloc sw) w'):=by
    refine Mo.out.mono ?_
    rintro e w2 ⟨v,P⟩;obtain ⟨va,vc,rfl,-⟩:=V.gX P.row;exact ⟨va,vc,by rw [By];exact P.ret,P.row,P.dev,P.step,P.one⟩
   have aaZ:=ab By;clear Mo By;go_enter func113,ntmps113;go_wp2_with fail;refine (HIT.out _).mono ?_
   rintro e W0' ⟨rfl,rfl⟩;go_wp2_with fail;refine E1.out.mono ?_
   rintro e W0' ⟨rfl,rfl⟩;go_wp2_with fail;refine (te id _ yy (by omega)).mono ?_
   rintro e W0' ⟨rfl,rfl⟩;go_wp2_with fail;refine HRX.out.mono ?_
   rintro e w2 ⟨va,vc,rfl,bE,Pv,hstp,D3⟩;have jP:Hid (V.Step (fun k=>k=db) (fun k=>k=db) w w2):=(V.Step.bw HB.out).trans D3
   clear D3;have oL:Hid (w2.heap[w.heap.size]?=some (.cells #[.int .i64 0,.int .i64 0,.int .u64 0,.int .i64 0,.string ⟨#[]⟩] 87 (0,0))):=JC hstp HFl.out;have Cg:=ab (CU bE);have XO:=ab Pv;have ll:Hid (V.Step F F w w2):=(V.Step.bw HB.out).trans hstp;have Ve:=ab (HEV.out.step hstp HFB.out);clear bE Pv hstp HRX E1;rcases MF with rfl | rfl
   ·have pO:=oL.out;obtain ⟨⟨z0,z1,z2,z3,z4⟩,y⟩:=T7 pO;have U7:Hid (fN d id=(Rd,MX,8)):=by show fN d id=_;rw [WR.out];rfl
    obtain rfl:ev = .iface 360 (.pointer (some (A 7))):=aaZ.out;clear WR pO;go_wp2_with fail
    (try simp only [Exit.inBlock,Exit.then])
    rw [U7.out];refine bodyPost_ret (aK rfl _ _ w.heap.size 87 #[.int .i64 0,.int .i64 0,.int .u64 0,.int .i64 0,.string ⟨#[]⟩] (0,0) _ rfl (oa oL.out) underlying87 rfl (by kernel_rfl)) rfl ⟨rfl,?_⟩
    exact xP XO.out ll.out HFl.out jP.out
   ·obtain rfl:ev = .nilIface:=aaZ.out;have U7:Hid (fN d id=(Rd,if gx Rl id then (parse Rl,0) else (MX,2))):=by show fN d id=_;rw [WR.out];rfl
    have vG:=ab (lY (A 1) _ Rl id _ Cg.out Ve.out.lay Ve.out.tab Ve.out.text);rw [CT] at vG;clear WR;obtain ⟨sh,Fe⟩ : ∃ sh,sh=if gx Rl id then parse Rl else MX:=⟨_,rfl⟩
    obtain ⟨er,her⟩ : ∃ er:Value,er=if gx Rl id then .nilIface else .iface 360 (.pointer (some (A 1))):=⟨_,rfl⟩
    rw [← Fe,← her] at vG;have HLW:Hid ((fN d id).2.1=sh∧V.ig A (fN d id).2.2=er∧(fN d id).1=Rd):=by
     show _∧_∧_
     rw [U7.out,Fe,her];split <;> exact ⟨rfl,rfl,rfl⟩
    clear Fe her U7;obtain ⟨k5,i5,t5,c5,b5⟩:=sh;go_wp2_with fail;refine vG.out.mono ?_
    rintro e w3 ⟨rfl,bT⟩;have pO:w3.heap[w.heap.size]?=some (.cells #[.int .i64 0,.int .i64 0,.int .u64 0,.int .i64 0,.string ⟨#[]⟩] 87 (0,0)):=(bT.block _ ((Array.getElem?_eq_some_iff.1 oL.out).1)).trans oL.out;have Rw:=ab pO;have HP3:=ab (XO.out.below bT);have MO:Hid (V.Step F F w w3):=ll.out.trans (V.Step.bw bT);have BY:Hid (V.Step (fun k=>k=db) (fun k=>k=db) w w3):=jP.out.trans (V.Step.bw bT)
    obtain ⟨⟨z0,z1,z2,z3,z4⟩,y⟩:=T7 pO;have QN:Hid ((⟨k5,i5,t5,c5,b5⟩ : Sh).cells.toArray=#[.int .i64 k5,.int .i64 i5,.int .u64 (t5:Int),.int .i64 c5,.string b5]):=rfl;rw [QN.out];clear pO bT;go_wp2_with fail
    (try simp only [Exit.inBlock,Exit.then])
    rw [HLW.out.1,HLW.out.2.1,HLW.out.2.2];refine bodyPost_ret (aK rfl _ _ w.heap.size 87 #[.int .i64 k5,.int .i64 i5,.int .u64 (t5:Int),.int .i64 c5,.string b5] (0,0) _ rfl (oa Rw.out) underlying87 rfl (by kernel_rfl)) rfl ⟨rfl,?_⟩
    exact xP HP3.out MO.out HFl.out BY.out
  ·have E1:=ab (mN db F d id (w.alloc sw) (HD.out.below HB.out) yy uS);rw [decide_eq_false eC] at E1;have U7:Hid (fN d id=(d,MX,1)):=by show fN d id=_;unfold fN;rw [if_neg (fun h=>eC h.2.2)]
   have cE:(w.alloc (.cells #[.int .i64 0,.int .i64 0,.int .u64 0,.int .i64 0,.string ⟨#[]⟩] 87)).cell? ⟨0,0,none⟩=some (.iface 360 (.pointer (some (A 0)))):=(HE.out.up HB.out).errs.arg;have pO:=Ht.out;unfold sw at pO;obtain ⟨⟨z0,z1,z2,z3,z4⟩,y⟩:=T7 pO;clear pO;clear eC;go_enter func113,ntmps113;go_wp2_with fail;refine (HIT.out _).mono ?_
   rintro e W0' ⟨rfl,rfl⟩;go_wp2_with fail;refine E1.out.mono ?_
   rintro e W0' ⟨rfl,rfl⟩;unfold sw;go_wp2_with fail;go_region
   all_goals
    go_wp2_with fail
    (try simp only [Exit.inBlock,Exit.then])
    rw [U7.out];refine bodyPost_ret (aK rfl _ _ w.heap.size 87 #[.int .i64 0,.int .i64 0,.int .u64 0,.int .i64 0,.string ⟨#[]⟩] (0,0) _ rfl Ht.out underlying87 rfl (by kernel_rfl)) rfl ⟨rfl,?_⟩
    exact ⟨HD.out.below (V.below_drewN HB.out 1),V.Step.bw (V.below_drewN HB.out 1),V.Step.bw (V.below_drewN HB.out 1)⟩
 ·have HIT:Hid (∀ w,Calls prog 150 #[.int .i64 id] w fun e w'=>e = .returned (.bool false)∧w=w'):=fun w=>by
   have h:=TY.out w;rw [decide_eq_false hid] at h;exact h
  have U7:Hid (fN d id=(d,MX,1)):=by show fN d id=_;unfold fN;rw [if_neg (fun h=>hid ⟨h.1,h.2.1⟩)]
  have cE:(w.alloc (.cells #[.int .i64 0,.int .i64 0,.int .u64 0,.int .i64 0,.string ⟨#[]⟩] 87)).cell? ⟨0,0,none⟩=some (.iface 360 (.pointer (some (A 0)))):=(HE.out.up HB.out).errs.arg;have pO:=Ht.out;unfold sw at pO;obtain ⟨⟨z0,z1,z2,z3,z4⟩,y⟩:=T7 pO;clear pO;clear hid TY;go_enter func113,ntmps113;go_wp2_with fail;refine (HIT.out _).mono ?_
  rintro e W0' ⟨rfl,rfl⟩;go_wp2_with fail;go_region
  all_goals
   go_wp2_with fail
   (try simp only [Exit.inBlock,Exit.then])
   rw [U7.out];refine bodyPost_ret (aK rfl _ _ w.heap.size 87 #[.int .i64 0,.int .i64 0,.int .u64 0,.int .i64 0,.string ⟨#[]⟩] (0,0) _ rfl Ht.out underlying87 rfl (by kernel_rfl)) rfl ⟨rfl,?_⟩
   exact ⟨HD.out.below (V.below_drewN HB.out 1),V.Step.bw (V.below_drewN HB.out 1),V.Step.bw (V.below_drewN HB.out 1)⟩
end S
namespace T
open Go.RowKit
def Nr(d d':S.V.bq):Prop:=∃ n,d'={ d with nr:=n }
theorem Nr.refl(d:S.V.bq):Nr d d:=⟨d.nr,rfl⟩
theorem Nr.trans{a b c:S.V.bq}(h:Nr a b)(k:Nr b c):Nr a c:=by
 obtain ⟨n,rfl⟩:=h;obtain ⟨m,rfl⟩:=k;exact ⟨m,rfl⟩
structure Mv(db:Nat)(F:Nat→Prop)(w w':World):Prop where
 step:S.V.Step F F w w'
 one:One db w w'
theorem Mv.refl(db:Nat)(F:Nat→Prop)(w:World):Mv db F w w:=⟨S.V.Step.refl _ _,S.V.Step.refl _ _⟩
theorem Mv.trans{db:Nat}{F:Nat→Prop}{a b c:World}(h:Mv db F a b)(k:Mv db F b c):Mv db F a c:=⟨h.step.trans k.step,h.one.trans k.one⟩
theorem Mv.of{db:Nat}{F:Nat→Prop}{a b:World}(h:Below a.heap.size a b):Mv db F a b:=⟨S.V.Step.bw h,S.V.Step.bw h⟩
theorem Mv.size{db:Nat}{F:Nat→Prop}{a b:World}(h:Mv db F a b):a.heap.size≤b.heap.size:=h.step.size
structure Dv(base:Nat)(A:Nat→Addr)(db:Nat)(F:Nat→Prop)(d:S.V.bq)(w:World):Prop where
 dev:∃ d',Nr d d'∧S.V.cJ w db F d'
 env:S.Env base A w
 errs:dA 13 eR A w
 up:∀ k,F k→base≤k
 alive:d.dead=false
 lo:∀ i,i<13→eR i<base∧(A i).block<base
theorem Dv.below{base:Nat}{A:Nat→Addr}{db:Nat}{F:Nat→Prop}{d:S.V.bq}{w w':World}(h:Dv base A db F d w)(hb:Below w.heap.size w w'):Dv base A db F d w':=by
 obtain ⟨d',h1,h2⟩:=h.dev;exact ⟨⟨d',h1,h2.below hb⟩,h.env.up hb,h.errs.keep hb,h.up,h.alive,h.lo⟩
theorem Dv.zf{base:Nat}{A:Nat→Addr}{db:Nat}{F:Nat→Prop}{d:S.V.bq}{w:World}(h:Dv base A db F d w):jL A w:=⟨h.errs.JJ (by decide),(h.errs.1 11 (by decide)).1⟩
theorem Dv.aaj{base:Nat}{A:Nat→Addr}{db:Nat}{F:Nat→Prop}{d:S.V.bq}{w:World}(h:Dv base A db F d w):B.pJ A w:=B.Er h.errs
theorem Dv.g{base:Nat}{A:Nat→Addr}{db:Nat}{F:Nat→Prop}{d:S.V.bq}{w:World}(h:Dv base A db F d w)(i:Nat)(hi:i<13):w.cell? ⟨eR i,0,none⟩=some (.iface 360 (.pointer (some (A i)))):=(h.errs.1 i hi).1
theorem Vp{db:Nat}{F:Nat→Prop}{w w':World}(h:Mv db F w w'){b:Nat}{cs:Array Value}{t:TypeId}(hs:B.au w b cs t)(ht:b≠db):B.au w' b cs t:=(h.one.block b hs.lt ht).trans hs
theorem R6(d:S.V.bq)(id:Int)(Au:d.dead=false)(h0:0≤id)(eC:(id+1)*8≤d.size):d.read (id*8) 8=(S.Sr d,S.V.iM d (id*8) 8,0):=by
 have hf:d.fits (id*8) 8=true:=by
  unfold S.V.bq.fits;exact decide_eq_true ⟨by omega,by omega,by omega⟩
 obtain ⟨sz,eD,aV,eO,dead,nr,nw,ns⟩:=d;simp only at Au;subst Au;unfold S.V.bq.read;rw [hf];simp only [kq,if_false,oM];rw [if_neg (by decide)]
 rfl
theorem sI{d:S.V.bq}{id:Int}{s s':S.Sh}(h:fy d id s)(k:fy d id s'):s=s':=by
 have e1:=S.kU s h.1 h.2.1;have e2:=S.kU s' k.1 k.2.1;have e3:S.gW s=S.gW s':=by rw [← h.2.2.2.2,← k.2.2.2.2,h.2.2.1,k.2.2.1]
 rw [← e1,← e2,e3]
theorem holds_one{s:S.Sh}{p p':PD}(h:gB s p)(k:gB s p'):p=p':=by
 rcases h with ⟨h1,_,h3⟩ | ⟨h1,_,h3⟩ <;> rcases k with ⟨k1,_,k3⟩ | ⟨k1,_,k3⟩
 ·rw [h3,k3]
 ·omega
 ·omega
 ·rw [h3,k3]
theorem IC{d:S.V.bq}{id:Int}{s:S.Sh}{p:PD}(h:fy d id s)(k:gB s p):cM d id=some p:=by
 have he:∃ p s,fy d id s∧gB s p:=⟨p,s,h,k⟩;cases hp:cM d id with
 | none =>
  unfold cM at hp;rw [dif_pos he] at hp;cases hp
 | some q =>
  obtain ⟨s',h',k'⟩:=zS hp;rw [sI h' h] at k';rw [holds_one k k']
theorem Bb{d:S.V.bq}{id:Int}(h:∀ s p,fy d id s→¬ gB s p):cM d id=none:=by
 cases hp:cM d id with
 | none=>rfl
 | some q =>
  obtain ⟨s',h',k'⟩:=zS hp;exact absurd k' (h s' q h')
theorem Dy(d:S.V.bq)(id:Int)(Au:d.dead=false):Nr d (S.fN d id).1∧(((S.fN d id).2.2=0∧fy d id (S.fN d id).2.1)∨(((S.fN d id).2.2=1∨(S.fN d id).2.2=2)∧∀ s,¬ fy d id s)):=by
 unfold S.fN;split
 ·rename_i h
  rw [R6 d id Au (by omega) h.2.2]
  simp only [if_true];refine ⟨⟨_,rfl⟩,?_⟩;split
  ·rename_i cN
   refine .inl ⟨rfl,cN.2.2.1,S.Ue _,cN.2.1,?_,?_⟩
   ·have:=cN.2.1;show ((S.parse _).id+1)*8≤d.size
    rw [this];exact h.2.2
   ·have:=cN.2.1;show S.V.iM d ((S.parse _).id*8) 8=S.gW (S.parse _)
    rw [this,cN.2.2.2]
  ·rename_i fJ
   refine .inr ⟨.inr rfl,fun s hs=>fJ ?_⟩
   have e:=hs.2.2.2.2;rw [hs.2.2.1] at e;rw [e];exact (S.De s hs.1 hs.2.1 id).2 hs.2.2.1.symm
 ·rename_i h
  refine ⟨Nr.refl d,.inr ⟨.inl rfl,fun s hs=>h ?_⟩⟩
  have h1:=hs.1.2.2.1;have h2:=hs.2.2.2.1;rw [hs.2.2.1] at h1 h2;exact ⟨h1.1,h1.2,h2⟩
def _root_.Go.Proofs.YtihmgigfkmofnaaGreatDoor.T.PD.sn:PD→SN
 | .leaf l=>⟨l,0,[],[]⟩
 | .br f lk=>⟨[],f,lk,Ba f lk⟩
theorem KF(A:Nat→Addr)(kd id tx c:Value)(cn:Int)(body:ByteArray)(hc:c = .int .i64 cn)(w:World)(fJ:¬ (0≤cn∧mD cn.toNat body.data.toList))(hE:dA 13 eR A w):Calls prog 174 #[.agg #[kd,id,tx,c,.string body]] w fun e w'=>e = .returned (.tuple #[.pointer none,.iface 360 (.pointer (some (A 8)))])∧Below w.heap.size w w':=by
 subst hc;have q0:=ai w (.cells #[kd,id,tx,.int .i64 cn,.string body] 87);have x0:=B.au.new w #[kd,id,tx,.int .i64 cn,.string body] 87;have k3:(w.alloc (.cells #[kd,id,tx,.int .i64 cn,.string body] 87)).cell? ⟨w.heap.size,3,none⟩=some (.int .i64 cn):=x0.cell 3 (by simp)
 have k4:(w.alloc (.cells #[kd,id,tx,.int .i64 cn,.string body] 87)).cell? ⟨w.heap.size,4,none⟩=some (.string body):=x0.cell 4 (by simp)
 have tH:Hid (Calls prog 114 #[.int .i64 cn,.string body] (w.alloc (.cells #[kd,id,tx,.int .i64 cn,.string body] 87)) fun e w'=>e = .returned (.tuple #[.slice none 0 0,.iface 360 (.pointer (some (A 1)))])∧Below w.heap.size w w'∧w'.cell? ⟨8,0,none⟩=some (.iface 360 (.pointer (some (A 8))))):=by
  refine (DE A cn body _ ⟨(hE.keep q0).JJ (by decide),((hE.keep q0).1 11 (by decide)).1⟩).mono fun e w' ⟨hv,hb⟩=>?_
  rcases hv with ⟨h1,h2,_⟩ | ⟨_,he⟩
  ·exact absurd ⟨h1,h2⟩ fJ
  ·exact ⟨he,Below.next q0 hb,(((hE.keep q0).keep hb).1 8 (by decide)).1⟩
 clear q0 x0 fJ hE;go_enter func174,ntmps174;go_wp2_with fail;refine tH.out.mono ?_
 rintro e w1 ⟨rfl,aL,fG⟩;have HB:=ab aL;clear aL tH k3 k4;go_wp2_with fail;go_quiet (fail)
 go_wp2;go_ret2;exact ⟨rfl,aA HB.out _⟩
theorem KG(A:Nat→Addr)(kd id tx c:Value)(cn:Int)(body:ByteArray)(hc:c = .int .i64 cn)(w:World)(fJ:¬ (0≤cn∧B.uZ cn.toNat body.data.toList))(hE:dA 13 eR A w):Calls prog 175 #[.agg #[kd,id,tx,c,.string body]] w fun e w'=>e = .returned (.tuple #[.pointer none,.iface 360 (.pointer (some (A 8)))])∧Below w.heap.size w w':=by
 subst hc;have q0:=ai w (.cells #[kd,id,tx,.int .i64 cn,.string body] 87);have x0:=B.au.new w #[kd,id,tx,.int .i64 cn,.string body] 87;have k3:(w.alloc (.cells #[kd,id,tx,.int .i64 cn,.string body] 87)).cell? ⟨w.heap.size,3,none⟩=some (.int .i64 cn):=x0.cell 3 (by simp)
 have k4:(w.alloc (.cells #[kd,id,tx,.int .i64 cn,.string body] 87)).cell? ⟨w.heap.size,4,none⟩=some (.string body):=x0.cell 4 (by simp)
 have tH:Hid (Calls prog 116 #[.int .i64 cn,.string body] (w.alloc (.cells #[kd,id,tx,.int .i64 cn,.string body] 87)) fun e w'=>e = .returned (.tuple #[.agg #[.int .i64 0,.slice none 0 0],.iface 360 (.pointer (some (A 1)))])∧Below w.heap.size w w'∧w'.cell? ⟨8,0,none⟩=some (.iface 360 (.pointer (some (A 8))))):=by
  refine (B.ER A cn body _ (B.Er (hE.keep q0))).mono fun e w' ⟨hv,hb⟩=>?_
  rcases hv with ⟨h1,h2,_⟩ | ⟨_,he⟩
  ·exact absurd ⟨h1,h2⟩ fJ
  ·exact ⟨he,Below.next q0 hb,(((hE.keep q0).keep hb).1 8 (by decide)).1⟩
 clear q0 x0 fJ hE;go_enter func175,ntmps175;go_wp2_with fail;refine tH.out.mono ?_
 rintro e w1 ⟨rfl,aL,fG⟩;have q2:=ai w1 (.cells #[.int .i64 0,.slice none 0 0] 150);have g2:(w1.alloc (.cells #[.int .i64 0,.slice none 0 0] 150)).cell? ⟨8,0,none⟩=some (.iface 360 (.pointer (some (A 8)))):=(q2.cell (p:=⟨8,0,none⟩) (World.block_lt_of_cell? w1 _ fG)).trans fG;have HB:=ab (Below.next aL q2);clear aL tH k3 k4 q2;go_wp2_with fail;go_quiet (fail)
 go_wp2;go_ret2;exact ⟨rfl,aA HB.out _⟩
def uJ(A:Nat→Addr)(P:Option PD)(e:Ending)(w':World):Prop :=
 (P=none∧e = .returned (.tuple #[.pointer none,.iface 360 (.pointer (some (A 8)))])) ∨
 (∃ p b pv lv cv,P=some p∧e = .returned (.tuple #[.pointer (some ⟨b,0,none⟩),.nilIface])∧dH w' b p.sn pv lv cv)
theorem uJ.form{A:Nat→Addr}{P:Option PD}{e:Ending}{w':World}(h:uJ A P e w'):∃ p v,e = .returned (.tuple #[.pointer p,v])∧uJ A P (.returned (.tuple #[.pointer p,v])) w'∧(v = .nilIface∨v = .iface 360 (.pointer (some (A 8)))):=by
 rcases h with ⟨h1,rfl⟩ | ⟨p,b,pv,lv,cv,h1,rfl,h2⟩
 ·exact ⟨_,_,rfl,.inl ⟨h1,rfl⟩,.inr rfl⟩
 ·exact ⟨_,_,rfl,.inr ⟨p,b,pv,lv,cv,h1,rfl,h2⟩,.inl rfl⟩
theorem Kw(base:Nat)(A:Nat→Addr)(db:Nat)(F:Nat→Prop)(d:S.V.bq)(id:Int)(w:World)(hv:Dv base A db F d w):Calls prog 135 #[.pointer (some ⟨db,0,none⟩),.int .i64 id] w fun e w'=>uJ A (cM d id) e w'∧Dv base A db F d w'∧Mv db F w w':=by
 obtain ⟨d0,Rg,hd⟩:=hv.dev;have V9:d0.dead=false:=by obtain ⟨n,rfl⟩:=Rg;exact hv.alive
 have An:cM d0=cM d:=by obtain ⟨n,rfl⟩:=Rg;rfl
 rw [← An];obtain ⟨hnr,fH⟩:=Dy d0 id V9;have U8:=ab (S.KH base A db F d0 id w hd hv.env hv.up);generalize S.fN d0 id=R at *;obtain ⟨Rd,s,c⟩:=R;simp only at hnr fH U8;have Jw:Hid (∀ w1,S.V.cJ w1 db F Rd→S.V.Step F F w w1→One db w w1→Dv base A db F d w1∧Mv db F w w1):=fun w1 h1 h2 h3 =>
  ⟨⟨⟨Rd,Rg.trans hnr,h1⟩,hv.env.step h2 hv.up,Ep h3 hd h1 hv.errs,hv.up,hv.alive,hv.lo⟩,⟨h2,h3⟩⟩
 obtain ⟨kd,Q1,tx,cn,bd⟩:=s;simp only [S.Sh.cells] at U8;rcases fH with ⟨rfl,Fe⟩ | ⟨ZS,fJ⟩
 ·have pQ:kd=66∨kd=76:=Fe.1.1;have xL:(0:Int)≤cn:=Fe.1.2.1.1;have D6:=fun W=>Et (some (A 7)) W
  have E1:=ab Fe;have HC0:=ab xL;have e0:S.V.ig A 0 = .nilIface:=rfl;rw [e0] at U8;clear hv hd V9 Rg An hnr Fe xL e0;rcases pQ with pQ | pQ
  focus
   have lU:Hid (∀ W,Dv base A db F d W→Calls prog 175 #[.agg #[.int .i64 kd,.int .i64 Q1,.int .u64 (tx:Int),.int .i64 cn,.string bd]] W fun e w'=>uJ A (cM d0 id) e w'∧Below W.heap.size W w'):=fun W hW=>by
    by_cases hdec:B.uZ cn.toNat bd.data.toList
    ·refine (Ov A _ _ _ _ cn bd rfl W HC0.out hdec hW.aaj).mono ?_
     rintro e w3 ⟨b,pv,lv,cv,rfl,SJ,bT⟩;exact ⟨.inr ⟨_,b,pv,lv,cv,IC E1.out (.inr ⟨pQ,hdec,rfl⟩),rfl,SJ⟩,bT⟩
    ·refine (KG A _ _ _ _ cn bd rfl W (fun h=>hdec h.2) hW.errs).mono ?_
     rintro e w3 ⟨rfl,bT⟩;refine ⟨.inl ⟨Bb fun s p h1 h2=>?_,rfl⟩,bT⟩
     rw [sI h1 E1.out] at h2;rcases h2 with ⟨h,_⟩ | ⟨_,h,_⟩
     ·exact absurd (pQ.symm.trans h) (by decide)
     ·exact hdec h
  rotate_left;focus
   have lU:Hid (∀ W,Dv base A db F d W→Calls prog 174 #[.agg #[.int .i64 kd,.int .i64 Q1,.int .u64 (tx:Int),.int .i64 cn,.string bd]] W fun e w'=>uJ A (cM d0 id) e w'∧Below W.heap.size W w'):=fun W hW=>by
    by_cases hdec:mD cn.toNat bd.data.toList
    ·refine (Ou A _ _ _ _ cn bd rfl W HC0.out hdec hW.zf).mono ?_
     rintro e w3 ⟨b,pv,lv,cv,rfl,SJ,bT⟩;exact ⟨.inr ⟨_,b,pv,lv,cv,IC E1.out (.inl ⟨pQ,hdec,rfl⟩),rfl,SJ⟩,bT⟩
    ·refine (KF A _ _ _ _ cn bd rfl W (fun h=>hdec h.2) hW.errs).mono ?_
     rintro e w3 ⟨rfl,bT⟩;refine ⟨.inl ⟨Bb fun s p h1 h2=>?_,rfl⟩,bT⟩
     rw [sI h1 E1.out] at h2;rcases h2 with ⟨_,h,_⟩ | ⟨h,_⟩
     ·exact hdec h
     ·exact absurd (pQ.symm.trans h) (by decide)
  all_goals
   clear E1 HC0;go_enter func135,ntmps135;go_wp2_with fail;refine U8.out.mono ?_
   rintro e w1 ⟨rfl,Bz,kn,lp⟩;obtain ⟨fI,fK⟩:=Jw.out w1 Bz kn lp;have q2:=ai w1 (.cells #[.int .i64 kd,.int .i64 Q1,.int .u64 (tx:Int),.int .i64 cn,.string bd] 87);have x2:=B.au.new w1 #[.int .i64 kd,.int .i64 Q1,.int .u64 (tx:Int),.int .i64 cn,.string bd] 87;have km:=fI.below q2;have g7':World.cell? _ ⟨7,0,none⟩=_:=km.g 7 (by decide)
   have k0:=x2.cell 0 (by simp)
   have k1:=x2.cell 1 (by simp)
   have k2:=x2.cell 2 (by simp)
   have k3:=x2.cell 3 (by simp)
   have k4:=x2.cell 4 (by simp)
   simp only [bQ,List.getElem_cons_zero,List.getElem_cons_succ] at k0 k1 k2 k3 k4;have RC:=ab (lU.out _ km);have AN:=ab q2;have tE:=ab fI;have QR:=ab fK;clear U8 Bz kn lp q2 x2 fI km fK Jw lU;subst pQ;go_wp2_with fail;refine RC.out.mono ?_
   rintro e w3 ⟨hr,bT⟩;have ud:=Below.next AN.out bT;obtain ⟨p,v,rfl,hr,_⟩:=hr.form;have b8:Hid (uJ A (cM d0 id) (.returned (.tuple #[.pointer p,v])) w3∧Dv base A db F d w3∧Mv db F w w3):=⟨hr,tE.out.below ud,QR.out.trans (Mv.of ud)⟩;clear hr bT ud k0 k1 k2 k3 k4 g7' RC;go_wp2;go_ret2;exact b8.out
 ·have TU:Hid (cM d0 id=none):=Bb fun s p h1 _=>fJ s h1
  obtain ⟨j,hj,hec⟩ : ∃ j,j<2∧S.V.ig A c = .iface 360 (.pointer (some (A j))):=by
   rcases ZS with rfl | rfl
   ·exact ⟨0,by decide,rfl⟩
   ·exact ⟨1,by decide,rfl⟩
  rw [hec] at U8;clear hv hd V9 Rg An hnr fJ ZS hec;go_enter func135,ntmps135;go_wp2_with fail;refine U8.out.mono ?_
  rintro e w1 ⟨rfl,Bz,kn,lp⟩;obtain ⟨fI,fK⟩:=Jw.out w1 Bz kn lp;have q2:=ai w1 (.cells #[.int .i64 kd,.int .i64 Q1,.int .u64 (tx:Int),.int .i64 cn,.string bd] 87);have g7':(w1.alloc (.cells #[.int .i64 kd,.int .i64 Q1,.int .u64 (tx:Int),.int .i64 cn,.string bd] 87)).cell? ⟨7,0,none⟩=some (.iface 360 (.pointer (some (A 7)))):=(fI.below q2).g 7 (by decide)
  have g8':(w1.alloc (.cells #[.int .i64 kd,.int .i64 Q1,.int .u64 (tx:Int),.int .i64 cn,.string bd] 87)).cell? ⟨8,0,none⟩=some (.iface 360 (.pointer (some (A 8)))):=(fI.below q2).g 8 (by decide)
  have dE:=PV A j 7 _ (fI.below q2).errs (by omega) (by decide) (by omega)
  have AN:=ab q2;have b8:Hid (uJ A (cM d0 id) (.returned (.tuple #[.pointer none,.iface 360 (.pointer (some (A 8)))])) (w1.alloc (.cells #[.int .i64 kd,.int .i64 Q1,.int .u64 (tx:Int),.int .i64 cn,.string bd] 87))∧Dv base A db F d (w1.alloc (.cells #[.int .i64 kd,.int .i64 Q1,.int .u64 (tx:Int),.int .i64 cn,.string bd] 87))∧Mv db F w (w1.alloc (.cells #[.int .i64 kd,.int .i64 Q1,.int .u64 (tx:Int),.int .i64 cn,.string bd] 87))):=⟨.inl ⟨TU.out,rfl⟩,fI.below q2,fK.trans (Mv.of q2)⟩;clear U8 Bz kn lp q2 fI fK Jw;go_wp2_with fail;go_quiet (fail)
  go_wp2;go_ret2;exact ⟨.inl ⟨TU.out,rfl⟩,b8.out.2.1.below (aA (Below.refl _ _) _),b8.out.2.2.trans (Mv.of (aA (Below.refl _ _) _))⟩
end T
namespace W
open Go.RowKit
abbrev Lk:=Nat × Int
def a8(l:List Lk):List Value:=l.flatMap fun p=>[Value.pointer (some ⟨p.1,0,none⟩),.int .i64 p.2]
theorem eu(p:Lk)(l:List Lk):a8 (p::l) = .pointer (some ⟨p.1,0,none⟩)::.int .i64 p.2::a8 l:=by simp [a8]
theorem cZ(a b:List Lk):a8 (a++b)=a8 a++a8 b:=by simp [a8]
theorem aS(l:List Lk):(a8 l).length=l.length*2:=by
 induction l with
 | nil=>rfl
 | cons p l ih=>rw [eu];simp [ih];omega
theorem fw(l:List Lk):∀ j (h:j<l.length),(a8 l)[j*2]?=some (.pointer (some ⟨l[j].1,0,none⟩))∧(a8 l)[j*2+1]?=some (.int .i64 l[j].2):=by
 induction l with
 | nil=>intro j h;simp at h
 | cons p l ih =>
  intro j h;rw [eu];cases j with
  | zero=>exact ⟨rfl,rfl⟩
  | succ j =>
   have:=ih j (by simpa using h)
   rw [show (j+1)*2=j*2+1+1 by omega]
   simpa using this
theorem fU(l:List Lk):∀ u ∈ a8 l,u.oneCell'=true:=by
 intro u hu;simp only [a8,lQ] at hu;obtain ⟨p,_,h⟩:=hu;simp at h
 rcases h with rfl | rfl <;> rfl
theorem lB:(prog.info? 159).map (fun i=>(i.zero,i.size,i.bytes))=some (some (.agg #[.pointer none,.int .i64 0]),2,16):=by kernel_rfl
def di(w:World)(v:Value)(l:List Lk):Prop:=∃ a cap,v = .slice a l.length cap∧l.length≤cap∧(a=none→cap=0) ∧
 ∀ j (h:j<l.length),∃ g o,a=some ⟨g,o,none⟩∧w.cell? ⟨g,o+j*2,none⟩=some (.pointer (some ⟨l[j].1,0,none⟩))∧w.cell? ⟨g,o+j*2+1,none⟩=some (.int .i64 l[j].2)
theorem di.below{w w':World}{v:Value}{l:List Lk}(h:di w v l)(hb:Below w.heap.size w w'):di w' v l:=by
 obtain ⟨a,cap,rfl,hle,hn,hc⟩:=h;refine ⟨a,cap,rfl,hle,hn,fun j hj=>?_⟩
 obtain ⟨g,o,ha,h1,h2⟩:=hc j hj;exact ⟨g,o,ha,(hb.cell (p:=⟨g,o+j*2,none⟩) (World.block_lt_of_cell? w _ h1)).trans h1,(hb.cell (p:=⟨g,o+j*2+1,none⟩) (World.block_lt_of_cell? w _ h2)).trans h2⟩
theorem di.form{w:World}{v:Value}{l:List Lk}(h:di w v l):∃ a c,v = .slice a l.length c:=by
 obtain ⟨a,c,rfl,_⟩:=h;exact ⟨a,c,rfl⟩
theorem di.rn{w:World}{base n:Nat}{v:Value}{l:List Lk}(h:w.ownsRow base 159 2 v n (a8 l)):di w v l:=by
 have hl:=h.1;rw [aS] at hl;have hl:l.length=n:=by omega
 rcases h.2 with ⟨rfl,hn⟩ | ⟨g,cap,cur,rfl,hb,hg,B4,sf,fH,mH⟩
 ·have h0:l.length=0:=by omega
  exact ⟨none,0,by rw [h0],by omega,fun _=>rfl,fun j hj=>by omega⟩
 ·refine ⟨some ⟨g,0,none⟩,cap,by rw [hl],by omega,fun h=>(by cases h),fun j hj=>⟨g,0,rfl,?_,?_⟩⟩
  ·rw [Nat.zero_add,h.cellAt (j*2) (by omega)];exact (fw l j hj).1
  ·rw [Nat.zero_add,h.cellAt (j*2+1) (by omega)];exact (fw l j hj).2
def b6(w:World)(base:Nat)(v:Value)(l:List Lk):Prop:=w.ownsRow base 159 2 v l.length (a8 l)
theorem b6.at{w:World}{base:Nat}{v:Value}{l:List Lk}(h:b6 w base v l):di w v l:=di.rn h
theorem b6.form{w:World}{base:Nat}{v:Value}{l:List Lk}(h:b6 w base v l):∃ a c,v = .slice a l.length c:=h.at.form
theorem b6.below{w w':World}{base:Nat}{v:Value}{l:List Lk}(h:b6 w base v l)(hb:Below w.heap.size w w'):b6 w' base v l:=by
 refine ⟨h.1,?_⟩;rcases h.2 with h' | ⟨g,cap,cur,h',h1,h2,hr⟩
 ·exact .inl h'
 ·refine .inr ⟨g,cap,cur,h',h1,?_,hr⟩;have hg:g<w.heap.size:=by
   rcases bg g w.heap.size with h' | h'
   ·exact h'
   ·rw [aX h'] at h2;cases h2
  rw [hb.block g hg];exact h2
theorem b6.nil(w:World)(base:Nat):b6 w base (.slice none 0 0) []:=World.ownsRow_nil _ _ _ _
theorem fi(base:Nat)(v s:Value)(xs us:List Lk)(w:World)(aE:b6 w base v xs)(hs:di w s us)(hb:(xs.length+us.length)*16≤140737488355328)(du:base≤w.heap.size):∃ a' eS w',(Builtin.append_ #[101,101] 101 #[v,s]).run prog w = .ok (.slice a' (xs.length+us.length) eS) w'∧b6 w' base (.slice a' (xs.length+us.length) eS) (xs++us)∧w.grownBy w' v.ownBlock:=by
 obtain ⟨i0,hi,hz,b7,kF⟩:=info_parts lB;obtain ⟨a,cap,rfl,hle,qu,hc⟩:=hs;have Ee:∃ a' c',v = .slice a' xs.length c':=aE.form;unfold b6 at aE ⊢;rw [ae,cZ];cases a with
 | none =>
  have h0:us=[]:=by
   cases us with
   | nil=>rfl
   | cons u r=>obtain ⟨g,o,he,_⟩:=hc 0 (by simp);cases he
  subst h0;rw [qu rfl];have hr:=run_append_owned_none (P:=prog) w base 101 101 159 i0 2 underlying101 hi v xs.length (a8 xs) aE;obtain ⟨a',c',rfl⟩:=Ee;exact ⟨a',c',w,hr,by simpa [a8] using aE,⟨rfl,rfl,rfl,aj _,fun _ _ _=>rfl⟩⟩
 | some ad =>
  obtain ⟨v',w',hr,gi,As,_⟩:=run_append_own (P:=prog) w base 101 101 159 i0 _ 2 16 underlying101 hi hz b7 kF rfl (by decide) v xs.length (a8 xs) aE ad us.length cap (a8 us) (aS us) (fun j u hj=>by
   have lL:=(List.getElem?_eq_some_iff.1 hj).1;rw [aS] at lL;obtain ⟨g,o,he,c1,c2⟩:=hc (j / 2) (by omega)
   cases he;have hg:=fw us (j / 2) (by omega)
   rw [bz];rcases bU j with hm | hm
   ·have e:j / 2*2=j:=by omega
    rw [e] at hg c1;rw [hg.1] at hj;cases hj;exact c1
   ·have e:j / 2*2+1=j:=by omega
    rw [dJ,e] at c2;rw [e] at hg;rw [hg.2] at hj;cases hj;exact c2) (fU us) (by unfold maxLen;omega) hb du
  have hf:∃ a' c',v' = .slice a' (xs.length+us.length) c':=by
   rcases gi.2 with ⟨rfl,h0⟩ | ⟨g,cap,cur,rfl,_⟩
   ·exact ⟨none,0,by rw [h0]⟩
   ·exact ⟨_,_,rfl⟩
  obtain ⟨a',c',rfl⟩:=hf;exact ⟨a',c',w',hr,gi,As⟩
theorem b6.dr{w:World}{base:Nat}{v:Value}{l:List Lk}(h:b6 w base v l):∀ k,v.ownBlock=some k→base≤k∧k<w.heap.size:=World.ownsRow.lt h
theorem vp(w:World)(p:Lk)(t:TypeId):di (w.alloc (.cells #[Value.pointer (some ⟨p.1,0,none⟩),.int .i64 p.2] t)) (.slice (some ⟨w.heap.size,0,none⟩) 1 1) [p]:=by
 have hb:=bL w #[Value.pointer (some ⟨p.1,0,none⟩),.int .i64 p.2] t;refine ⟨_,_,rfl,aj _,fun h=>(by cases h),fun j hj=>⟨_,_,rfl,?_,?_⟩⟩
 ·have:j=0:=by simpa using hj
  subst this;exact hb.2 0 (by simp)
 ·have:j=0:=by simpa using hj
  subst this;exact hb.2 1 (by simp)
theorem di.spot{w:World}{a:Option Addr}{n c:Nat}{l:List Lk}(h:di w (.slice a n c) l)(j:Nat)(hj:j<l.length):∃ g o,a = .some ⟨g,o,none⟩∧w.cell? ⟨g,o+j*2,none⟩ = .some (.pointer (some ⟨l[j].1,0,none⟩))∧w.cell? ⟨g,o+j*2+1,none⟩ = .some (.int .i64 l[j].2):=by
 obtain ⟨a',c',he,_,_,hc⟩:=h;cases he;exact hc j hj
end W
end Go.Proofs.YtihmgigfkmofnaaGreatDoor
