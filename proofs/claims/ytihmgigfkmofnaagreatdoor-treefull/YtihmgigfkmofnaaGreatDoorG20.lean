import Derived.Test.YtihmgigfkmofnaaGreatDoorG19
set_option maxHeartbeats 2000000
set_option maxRecDepth 100000
open Go.Proofs.Tryz
namespace Go.Proofs.YtihmgigfkmofnaaGreatDoor
namespace S
open Go.RowKit
def Nq:Sh:=⟨0,0,0,0,⟨#[]⟩⟩
def fS(d:V.bw)(id:Int):V.bw × Sh × Nat :=
 if 2≤id∧id<1048576∧(id+1)*8≤d.size then
  if (d.read (id*8) 8).2.2=0 then ((d.read (id*8) 8).1,if gA (d.read (id*8) 8).2.1 id then (parse (d.read (id*8) 8).2.1,0) else (Nq,2))
  else ((d.read (id*8) 8).1,Nq,(d.read (id*8) 8).2.2)
 else (d,Nq,1)
def sK:Obj:=.cells #[.int .i64 0,.int .i64 0,.int .u64 0,.int .i64 0,.string ⟨#[]⟩] 87
theorem Ky{d:V.bw}{s n:Int}(h0:0≤s)(h1:0≤n)(h2:s≤d.size - n)(h3:n≤1024):(d.read s n).2.2=if d.dead then 8 else 0:=by
 unfold V.bw.read;have hf:d.fits s n=true:=by unfold V.bw.fits;exact decide_eq_true ⟨h0,h1,h2⟩
 cases d.dead with
 | true=>rfl
 | false =>
  rw [hf];simp only [kF,if_false,oU];rw [if_neg (by omega)]
theorem Dk(a:Addr)(l:List UInt8)(id:Int):rp a l id=#[.agg (if gA l id then parse l else Nq).cells.toArray,if gA l id then .nilIface else .iface 360 (.pointer (some a))]:=by
 unfold rp;split <;> rfl
theorem JV{w w2:World}{F F':Nat→Prop}(hs:V.Step F F' (w.alloc sK) w2)(hF:∀ k,F k→k<w.heap.size):w2.heap[w.heap.size]?=some (.cells #[.int .i64 0,.int .i64 0,.int .u64 0,.int .i64 0,.string ⟨#[]⟩] 87 (0,0)):=by
 rw [hs.block w.heap.size (by simp) (fun hf=>by have:=hF _ hf;omega)]
 exact heap_alloc_new w _
theorem yr{w w3:World}{b:Nat}{F:Nat→Prop}{d:V.bw}{u0 u1 u2 u3 u4:Value}(h:V.cL w3 b F d)(hs:V.Step F F w w3)(hF:∀ k,F k→k<w.heap.size)(Eo:V.Step (fun k=>k=b) (fun k=>k=b) w w3):V.cL (((((w3.setCell ⟨w.heap.size,0,none⟩ u0).setCell ⟨w.heap.size,1,none⟩ u1).setCell ⟨w.heap.size,2,none⟩ u2).setCell ⟨w.heap.size,3,none⟩ u3).setCell ⟨w.heap.size,4,none⟩ u4) b F d∧V.Step F F w (((((w3.setCell ⟨w.heap.size,0,none⟩ u0).setCell ⟨w.heap.size,1,none⟩ u1).setCell ⟨w.heap.size,2,none⟩ u2).setCell ⟨w.heap.size,3,none⟩ u3).setCell ⟨w.heap.size,4,none⟩ u4)∧V.Step (fun k=>k=b) (fun k=>k=b) w (((((w3.setCell ⟨w.heap.size,0,none⟩ u0).setCell ⟨w.heap.size,1,none⟩ u1).setCell ⟨w.heap.size,2,none⟩ u2).setCell ⟨w.heap.size,3,none⟩ u3).setCell ⟨w.heap.size,4,none⟩ u4):=by
 have h5:=@LJ w3 w.heap.size u0 u1 u2 u3 u4;refine ⟨h.keep h5 (fun k hk e=>by have:=hF k hk;omega),⟨h5.os.trans hs.os,h5.tape.trans hs.tape,h5.output.trans hs.output,ar hs.size h5.size,fun q hq hn=>(h5.block q (aq hq hs.size) (by omega)).trans (hs.block q hq hn),fun q hq=>hs.sub q hq⟩,⟨h5.os.trans Eo.os,h5.tape.trans Eo.tape,h5.output.trans Eo.output,ar Eo.size h5.size,fun q hq hn=>(h5.block q (aq hq Eo.size) (by omega)).trans (Eo.block q hq hn),fun q hq=>Eo.sub q hq⟩⟩
theorem K0(base:Nat)(A:Nat→Addr)(db:Nat)(F:Nat→Prop)(d:V.bw)(id:Int)(w:World)(hd:V.cL w db F d)(hE:Env base A w)(hF:∀ k,F k→base≤k):Calls prog 113 #[.pointer (some ⟨db,0,none⟩),.int .i64 id] w fun e w'=>e = .returned (.tuple #[.agg (fS d id).2.1.cells.toArray,V.gC A (fS d id).2.2])∧V.cL w' db F (fS d id).1∧V.Step F F w w'∧V.Step (fun k=>k=db) (fun k=>k=db) w w':=by
 have HE:=ab hE;have HD:=ab hd;have HFB:=ab hF;have HB:=ab (ai w sK);have HFl:=ab hd.lt;have HZ0:Hid (∀ w3,V.Step F F w w3→w3.heap[w.heap.size]?=some (.cells #[.int .i64 0,.int .i64 0,.int .u64 0,.int .i64 0,.string ⟨#[]⟩] 87 (0,0))→True):=fun _ _ _=>trivial
 have Ih:Hid ((w.alloc sK).heap[w.heap.size]?=some (.cells #[.int .i64 0,.int .i64 0,.int .u64 0,.int .i64 0,.string ⟨#[]⟩] 87 (0,0))):=heap_alloc_new w _;have UA:=ab (rO id);clear hE hd hF HZ0;by_cases hid:2≤id∧id<1048576
 ·obtain ⟨Cs,vm⟩:=hid;have yW:0≤id:=by omega
  have HIT:Hid (∀ w,Calls prog 150 #[.int .i64 id] w fun e w'=>e = .returned (.bool true)∧w=w'):=fun w=>by
   have h:=UA.out w;rw [decide_eq_true ⟨Cs,vm⟩] at h;exact h
  clear UA;by_cases eM:(id+1)*8≤d.size
  ·have HDF:=ab (decide_eq_true eM);have Vh:=Ky (d:=d) (s:=id*8) (n:=8) (by omega) (by omega) (by omega) (by omega)
   have XC:Hid (fS d id=if (d.read (id*8) 8).2.2=0 then ((d.read (id*8) 8).1,if gA (d.read (id*8) 8).2.1 id then (parse (d.read (id*8) 8).2.1,0) else (Nq,2)) else ((d.read (id*8) 8).1,Nq,(d.read (id*8) 8).2.2)):=by
    show fS d id=_
    unfold fS;rw [if_pos ⟨Cs,vm,eM⟩]
   have VL:=ab (HD.out.below HB.out);have HEV:=ab (HE.out.up HB.out);have MI:=ab (V.mm base A db F d (w.alloc sK) VL.out HEV.out.errs (id*8) 8 (by decide))
   have Fv:=ab (ng db F d id (w.alloc sK) VL.out yW vm);rw [HDF.out] at Fv;have M1:(d.read (id*8) 8).2.2=8∨(d.read (id*8) 8).2.2=0:=by rw [Vh];cases d.dead <;> simp
   clear Vh HDF eM;generalize d.read (id*8) 8=R at *;obtain ⟨Rd,Rl,Rc⟩:=R;simp only at M1 XC;obtain ⟨ev,BU⟩ : ∃ ev,ev=V.gC A Rc:=⟨_,rfl⟩;have HRX:Hid (Calls prog 151 #[.pointer (some ⟨db,0,none⟩),.int .i64 (id*8),.int .i64 8] (w.alloc sK) fun e w'=>∃ va vc,e = .returned (.tuple #[.slice va Rl.length vc,ev])∧w'.ownsRow (w.alloc sK).heap.size 5 1 (.slice va Rl.length vc) Rl.length (eb Rl)∧V.cL w' db F Rd∧V.Step F F (w.alloc sK) w'∧V.Step (fun k=>k=db) (fun k=>k=db) (w.alloc sK) w'):=by
    refine MI.out.mono ?_
    rintro e w2 ⟨v,P⟩;obtain ⟨va,vc,rfl,-⟩:=V.ib P.row;exact ⟨va,vc,by rw [BU];exact P.ret,P.row,P.dev,P.step,P.one⟩
   have abw:=ab BU;clear MI BU;go_enter func113,ntmps113;go_wp2_with fail;refine (HIT.out _).mono ?_
   rintro e W0' ⟨rfl,rfl⟩;go_wp2_with fail;refine Fv.out.mono ?_
   rintro e W0' ⟨rfl,rfl⟩;go_wp2_with fail;refine (tC id _ yW (by omega)).mono ?_
   rintro e W0' ⟨rfl,rfl⟩;go_wp2_with fail;refine HRX.out.mono ?_
   rintro e w2 ⟨va,vc,rfl,bE,P4,hstp,Ep⟩;have jE:Hid (V.Step (fun k=>k=db) (fun k=>k=db) w w2):=(V.Step.bo HB.out).trans Ep
   clear Ep;have oT:Hid (w2.heap[w.heap.size]?=some (.cells #[.int .i64 0,.int .i64 0,.int .u64 0,.int .i64 0,.string ⟨#[]⟩] 87 (0,0))):=JV hstp HFl.out;have CA:=ab (Dl bE);have Yq:=ab P4;have lD:Hid (V.Step F F w w2):=(V.Step.bo HB.out).trans hstp;have VK:=ab (HEV.out.step hstp HFB.out);clear bE P4 hstp HRX Fv;rcases M1 with rfl | rfl
   ·have pM:=oT.out;obtain ⟨⟨z0,z1,z2,z3,z4⟩,y⟩:=UH pM;have VE:Hid (fS d id=(Rd,Nq,8)):=by show fS d id=_;rw [XC.out];rfl
    obtain rfl:ev = .iface 360 (.pointer (some (A 7))):=abw.out;clear XC pM;go_wp2_with fail
    (try simp only [Exit.inBlock,Exit.then])
    rw [VE.out];refine bodyPost_ret (aN rfl _ _ w.heap.size 87 #[.int .i64 0,.int .i64 0,.int .u64 0,.int .i64 0,.string ⟨#[]⟩] (0,0) _ rfl (oj oT.out) underlying87 rfl (by kernel_rfl)) rfl ⟨rfl,?_⟩
    exact yr Yq.out lD.out HFl.out jE.out
   ·obtain rfl:ev = .nilIface:=abw.out;have VE:Hid (fS d id=(Rd,if gA Rl id then (parse Rl,0) else (Nq,2))):=by show fS d id=_;rw [XC.out];rfl
    have wg:=ab (mm (A 1) _ Rl id _ CA.out VK.out.lay VK.out.tab VK.out.text);rw [Dk] at wg;clear XC;obtain ⟨sh,AM⟩ : ∃ sh,sh=if gA Rl id then parse Rl else Nq:=⟨_,rfl⟩
    obtain ⟨er,her⟩ : ∃ er:Value,er=if gA Rl id then .nilIface else .iface 360 (.pointer (some (A 1))):=⟨_,rfl⟩
    rw [← AM,← her] at wg;have HLW:Hid ((fS d id).2.1=sh∧V.gC A (fS d id).2.2=er∧(fS d id).1=Rd):=by
     show _∧_∧_
     rw [VE.out,AM,her];split <;> exact ⟨rfl,rfl,rfl⟩
    clear AM her VE;obtain ⟨k5,i5,t5,c5,b5⟩:=sh;go_wp2_with fail;refine wg.out.mono ?_
    rintro e w3 ⟨rfl,bQ⟩;have pM:w3.heap[w.heap.size]?=some (.cells #[.int .i64 0,.int .i64 0,.int .u64 0,.int .i64 0,.string ⟨#[]⟩] 87 (0,0)):=(bQ.block _ ((Array.getElem?_eq_some_iff.1 oT.out).1)).trans oT.out;have RY:=ab pM;have HP3:=ab (Yq.out.below bQ);have Nf:Hid (V.Step F F w w3):=lD.out.trans (V.Step.bo bQ);have zN:Hid (V.Step (fun k=>k=db) (fun k=>k=db) w w3):=jE.out.trans (V.Step.bo bQ)
    obtain ⟨⟨z0,z1,z2,z3,z4⟩,y⟩:=UH pM;have Rm:Hid ((⟨k5,i5,t5,c5,b5⟩ : Sh).cells.toArray=#[.int .i64 k5,.int .i64 i5,.int .u64 (t5:Int),.int .i64 c5,.string b5]):=rfl;rw [Rm.out];clear pM bQ;go_wp2_with fail
    (try simp only [Exit.inBlock,Exit.then])
    rw [HLW.out.1,HLW.out.2.1,HLW.out.2.2];refine bodyPost_ret (aN rfl _ _ w.heap.size 87 #[.int .i64 k5,.int .i64 i5,.int .u64 (t5:Int),.int .i64 c5,.string b5] (0,0) _ rfl (oj RY.out) underlying87 rfl (by kernel_rfl)) rfl ⟨rfl,?_⟩
    exact yr HP3.out Nf.out HFl.out zN.out
  ·have Fv:=ab (ng db F d id (w.alloc sK) (HD.out.below HB.out) yW vm);rw [decide_eq_false eM] at Fv;have VE:Hid (fS d id=(d,Nq,1)):=by show fS d id=_;unfold fS;rw [if_neg (fun h=>eM h.2.2)]
   have cE:(w.alloc (.cells #[.int .i64 0,.int .i64 0,.int .u64 0,.int .i64 0,.string ⟨#[]⟩] 87)).cell? ⟨0,0,none⟩=some (.iface 360 (.pointer (some (A 0)))):=(HE.out.up HB.out).errs.arg;have pM:=Ih.out;unfold sK at pM;obtain ⟨⟨z0,z1,z2,z3,z4⟩,y⟩:=UH pM;clear pM;clear eM;go_enter func113,ntmps113;go_wp2_with fail;refine (HIT.out _).mono ?_
   rintro e W0' ⟨rfl,rfl⟩;go_wp2_with fail;refine Fv.out.mono ?_
   rintro e W0' ⟨rfl,rfl⟩;unfold sK;go_wp2_with fail;go_region
   all_goals
    go_wp2_with fail
    (try simp only [Exit.inBlock,Exit.then])
    rw [VE.out];refine bodyPost_ret (aN rfl _ _ w.heap.size 87 #[.int .i64 0,.int .i64 0,.int .u64 0,.int .i64 0,.string ⟨#[]⟩] (0,0) _ rfl Ih.out underlying87 rfl (by kernel_rfl)) rfl ⟨rfl,?_⟩
    exact ⟨HD.out.below (V.below_drewN HB.out 1),V.Step.bo (V.below_drewN HB.out 1),V.Step.bo (V.below_drewN HB.out 1)⟩
 ·have HIT:Hid (∀ w,Calls prog 150 #[.int .i64 id] w fun e w'=>e = .returned (.bool false)∧w=w'):=fun w=>by
   have h:=UA.out w;rw [decide_eq_false hid] at h;exact h
  have VE:Hid (fS d id=(d,Nq,1)):=by show fS d id=_;unfold fS;rw [if_neg (fun h=>hid ⟨h.1,h.2.1⟩)]
  have cE:(w.alloc (.cells #[.int .i64 0,.int .i64 0,.int .u64 0,.int .i64 0,.string ⟨#[]⟩] 87)).cell? ⟨0,0,none⟩=some (.iface 360 (.pointer (some (A 0)))):=(HE.out.up HB.out).errs.arg;have pM:=Ih.out;unfold sK at pM;obtain ⟨⟨z0,z1,z2,z3,z4⟩,y⟩:=UH pM;clear pM;clear hid UA;go_enter func113,ntmps113;go_wp2_with fail;refine (HIT.out _).mono ?_
  rintro e W0' ⟨rfl,rfl⟩;go_wp2_with fail;go_region
  all_goals
   go_wp2_with fail
   (try simp only [Exit.inBlock,Exit.then])
   rw [VE.out];refine bodyPost_ret (aN rfl _ _ w.heap.size 87 #[.int .i64 0,.int .i64 0,.int .u64 0,.int .i64 0,.string ⟨#[]⟩] (0,0) _ rfl Ih.out underlying87 rfl (by kernel_rfl)) rfl ⟨rfl,?_⟩
   exact ⟨HD.out.below (V.below_drewN HB.out 1),V.Step.bo (V.below_drewN HB.out 1),V.Step.bo (V.below_drewN HB.out 1)⟩
end S
namespace T
open Go.RowKit
def Nr(d d':S.V.bw):Prop:=∃ n,d'={ d with nr:=n }
theorem Nr.refl(d:S.V.bw):Nr d d:=⟨d.nr,rfl⟩
theorem Nr.trans{a b c:S.V.bw}(h:Nr a b)(k:Nr b c):Nr a c:=by
 obtain ⟨n,rfl⟩:=h;obtain ⟨m,rfl⟩:=k;exact ⟨m,rfl⟩
structure Mv(db:Nat)(F:Nat→Prop)(w w':World):Prop where
 step:S.V.Step F F w w'
 one:One db w w'
theorem Mv.refl(db:Nat)(F:Nat→Prop)(w:World):Mv db F w w:=⟨S.V.Step.refl _ _,S.V.Step.refl _ _⟩
theorem Mv.trans{db:Nat}{F:Nat→Prop}{a b c:World}(h:Mv db F a b)(k:Mv db F b c):Mv db F a c:=⟨h.step.trans k.step,h.one.trans k.one⟩
theorem Mv.of{db:Nat}{F:Nat→Prop}{a b:World}(h:Below a.heap.size a b):Mv db F a b:=⟨S.V.Step.bo h,S.V.Step.bo h⟩
theorem Mv.size{db:Nat}{F:Nat→Prop}{a b:World}(h:Mv db F a b):a.heap.size≤b.heap.size:=h.step.size
structure Dv(base:Nat)(A:Nat→Addr)(db:Nat)(F:Nat→Prop)(d:S.V.bw)(w:World):Prop where
 dev:∃ d',Nr d d'∧S.V.cL w db F d'
 env:S.Env base A w
 errs:dy 13 eV A w
 up:∀ k,F k→base≤k
 alive:d.dead=false
 lo:∀ i,i<13→eV i<base∧(A i).block<base
theorem Dv.below{base:Nat}{A:Nat→Addr}{db:Nat}{F:Nat→Prop}{d:S.V.bw}{w w':World}(h:Dv base A db F d w)(hb:Below w.heap.size w w'):Dv base A db F d w':=by
 obtain ⟨d',h1,h2⟩:=h.dev;exact ⟨⟨d',h1,h2.below hb⟩,h.env.up hb,h.errs.keep hb,h.up,h.alive,h.lo⟩
theorem Dv.zG{base:Nat}{A:Nat→Addr}{db:Nat}{F:Nat→Prop}{d:S.V.bw}{w:World}(h:Dv base A db F d w):jS A w:=⟨h.errs.J2 (by decide),(h.errs.1 11 (by decide)).1⟩
theorem Dv.aaR{base:Nat}{A:Nat→Addr}{db:Nat}{F:Nat→Prop}{d:S.V.bw}{w:World}(h:Dv base A db F d w):B.pU A w:=B.EN h.errs
theorem Dv.g{base:Nat}{A:Nat→Addr}{db:Nat}{F:Nat→Prop}{d:S.V.bw}{w:World}(h:Dv base A db F d w)(i:Nat)(hi:i<13):w.cell? ⟨eV i,0,none⟩=some (.iface 360 (.pointer (some (A i)))):=(h.errs.1 i hi).1
theorem VW{db:Nat}{F:Nat→Prop}{w w':World}(h:Mv db F w w'){b:Nat}{cs:Array Value}{t:TypeId}(hs:B.au w b cs t)(ht:b≠db):B.au w' b cs t:=(h.one.block b hs.lt ht).trans hs
theorem SA(d:S.V.bw)(id:Int)(AU:d.dead=false)(h0:0≤id)(eM:(id+1)*8≤d.size):d.read (id*8) 8=(S.SZ d,S.V.iQ d (id*8) 8,0):=by
 have hf:d.fits (id*8) 8=true:=by
  unfold S.V.bw.fits;exact decide_eq_true ⟨by omega,by omega,by omega⟩
 obtain ⟨sz,eN,aX,eX,dead,nr,nw,ns⟩:=d;simp only at AU;subst AU;unfold S.V.bw.read;rw [hf];simp only [kF,if_false,oU];rw [if_neg (by decide)]
 rfl
theorem sS{d:S.V.bw}{id:Int}{s s':S.Sh}(h:fC d id s)(k:fC d id s'):s=s':=by
 have e1:=S.lf s h.1 h.2.1;have e2:=S.lf s' k.1 k.2.1;have e3:S.ia s=S.ia s':=by rw [← h.2.2.2.2,← k.2.2.2.2,h.2.2.1,k.2.2.1]
 rw [← e1,← e2,e3]
theorem holds_one{s:S.Sh}{p p':PD}(h:gF s p)(k:gF s p'):p=p':=by
 rcases h with ⟨h1,_,h3⟩ | ⟨h1,_,h3⟩ <;> rcases k with ⟨k1,_,k3⟩ | ⟨k1,_,k3⟩
 ·rw [h3,k3]
 ·omega
 ·omega
 ·rw [h3,k3]
theorem IT{d:S.V.bw}{id:Int}{s:S.Sh}{p:PD}(h:fC d id s)(k:gF s p):cM d id=some p:=by
 have he:∃ p s,fC d id s∧gF s p:=⟨p,s,h,k⟩;cases hp:cM d id with
 | none =>
  unfold cM at hp;rw [dif_pos he] at hp;cases hp
 | some q =>
  obtain ⟨s',h',k'⟩:=Ao hp;rw [sS h' h] at k';rw [holds_one k k']
theorem BC{d:S.V.bw}{id:Int}(h:∀ s p,fC d id s→¬ gF s p):cM d id=none:=by
 cases hp:cM d id with
 | none=>rfl
 | some q =>
  obtain ⟨s',h',k'⟩:=Ao hp;exact absurd k' (h s' q h')
theorem DS(d:S.V.bw)(id:Int)(AU:d.dead=false):Nr d (S.fS d id).1∧(((S.fS d id).2.2=0∧fC d id (S.fS d id).2.1)∨(((S.fS d id).2.2=1∨(S.fS d id).2.2=2)∧∀ s,¬ fC d id s)):=by
 unfold S.fS;split
 ·rename_i h
  rw [SA d id AU (by omega) h.2.2]
  simp only [if_true];refine ⟨⟨_,rfl⟩,?_⟩;split
  ·rename_i cO
   refine .inl ⟨rfl,cO.2.2.1,S.UO _,cO.2.1,?_,?_⟩
   ·have:=cO.2.1;show ((S.parse _).id+1)*8≤d.size
    rw [this];exact h.2.2
   ·have:=cO.2.1;show S.V.iQ d ((S.parse _).id*8) 8=S.ia (S.parse _)
    rw [this,cO.2.2.2]
  ·rename_i fQ
   refine .inr ⟨.inr rfl,fun s hs=>fQ ?_⟩
   have e:=hs.2.2.2.2;rw [hs.2.2.1] at e;rw [e];exact (S.DE s hs.1 hs.2.1 id).2 hs.2.2.1.symm
 ·rename_i h
  refine ⟨Nr.refl d,.inr ⟨.inl rfl,fun s hs=>h ?_⟩⟩
  have h1:=hs.1.2.2.1;have h2:=hs.2.2.2.1;rw [hs.2.2.1] at h1 h2;exact ⟨h1.1,h1.2,h2⟩
def _root_.Go.Proofs.YtihmgigfkmofnaaGreatDoor.T.PD.sn:PD→SN
 | .leaf l=>⟨l,0,[],[]⟩
 | .br f lk=>⟨[],f,lk,BB f lk⟩
theorem KY(A:Nat→Addr)(kd id tx c:Value)(cn:Int)(body:ByteArray)(hc:c = .int .i64 cn)(w:World)(fQ:¬ (0≤cn∧mR cn.toNat body.data.toList))(hE:dy 13 eV A w):Calls prog 174 #[.agg #[kd,id,tx,c,.string body]] w fun e w'=>e = .returned (.tuple #[.pointer none,.iface 360 (.pointer (some (A 8)))])∧Below w.heap.size w w':=by
 subst hc;have q0:=ai w (.cells #[kd,id,tx,.int .i64 cn,.string body] 87);have x0:=B.au.new w #[kd,id,tx,.int .i64 cn,.string body] 87;have k3:(w.alloc (.cells #[kd,id,tx,.int .i64 cn,.string body] 87)).cell? ⟨w.heap.size,3,none⟩=some (.int .i64 cn):=x0.cell 3 (by simp)
 have k4:(w.alloc (.cells #[kd,id,tx,.int .i64 cn,.string body] 87)).cell? ⟨w.heap.size,4,none⟩=some (.string body):=x0.cell 4 (by simp)
 have tW:Hid (Calls prog 114 #[.int .i64 cn,.string body] (w.alloc (.cells #[kd,id,tx,.int .i64 cn,.string body] 87)) fun e w'=>e = .returned (.tuple #[.slice none 0 0,.iface 360 (.pointer (some (A 1)))])∧Below w.heap.size w w'∧w'.cell? ⟨8,0,none⟩=some (.iface 360 (.pointer (some (A 8))))):=by
  refine (DY A cn body _ ⟨(hE.keep q0).J2 (by decide),((hE.keep q0).1 11 (by decide)).1⟩).mono fun e w' ⟨hv,hb⟩=>?_
  rcases hv with ⟨h1,h2,_⟩ | ⟨_,he⟩
  ·exact absurd ⟨h1,h2⟩ fQ
  ·exact ⟨he,Below.next q0 hb,(((hE.keep q0).keep hb).1 8 (by decide)).1⟩
 clear q0 x0 fQ hE;go_enter func174,ntmps174;go_wp2_with fail;refine tW.out.mono ?_
 rintro e w1 ⟨rfl,aM,fO⟩;have HB:=ab aM;clear aM tW k3 k4;go_wp2_with fail;go_quiet (fail)
 go_wp2;go_ret2;exact ⟨rfl,aA HB.out _⟩
theorem KZ(A:Nat→Addr)(kd id tx c:Value)(cn:Int)(body:ByteArray)(hc:c = .int .i64 cn)(w:World)(fQ:¬ (0≤cn∧B.vB cn.toNat body.data.toList))(hE:dy 13 eV A w):Calls prog 175 #[.agg #[kd,id,tx,c,.string body]] w fun e w'=>e = .returned (.tuple #[.pointer none,.iface 360 (.pointer (some (A 8)))])∧Below w.heap.size w w':=by
 subst hc;have q0:=ai w (.cells #[kd,id,tx,.int .i64 cn,.string body] 87);have x0:=B.au.new w #[kd,id,tx,.int .i64 cn,.string body] 87;have k3:(w.alloc (.cells #[kd,id,tx,.int .i64 cn,.string body] 87)).cell? ⟨w.heap.size,3,none⟩=some (.int .i64 cn):=x0.cell 3 (by simp)
 have k4:(w.alloc (.cells #[kd,id,tx,.int .i64 cn,.string body] 87)).cell? ⟨w.heap.size,4,none⟩=some (.string body):=x0.cell 4 (by simp)
 have tW:Hid (Calls prog 116 #[.int .i64 cn,.string body] (w.alloc (.cells #[kd,id,tx,.int .i64 cn,.string body] 87)) fun e w'=>e = .returned (.tuple #[.agg #[.int .i64 0,.slice none 0 0],.iface 360 (.pointer (some (A 1)))])∧Below w.heap.size w w'∧w'.cell? ⟨8,0,none⟩=some (.iface 360 (.pointer (some (A 8))))):=by
  refine (B.Fc A cn body _ (B.EN (hE.keep q0))).mono fun e w' ⟨hv,hb⟩=>?_
  rcases hv with ⟨h1,h2,_⟩ | ⟨_,he⟩
  ·exact absurd ⟨h1,h2⟩ fQ
  ·exact ⟨he,Below.next q0 hb,(((hE.keep q0).keep hb).1 8 (by decide)).1⟩
 clear q0 x0 fQ hE;go_enter func175,ntmps175;go_wp2_with fail;refine tW.out.mono ?_
 rintro e w1 ⟨rfl,aM,fO⟩;have q2:=ai w1 (.cells #[.int .i64 0,.slice none 0 0] 150);have g2:(w1.alloc (.cells #[.int .i64 0,.slice none 0 0] 150)).cell? ⟨8,0,none⟩=some (.iface 360 (.pointer (some (A 8)))):=(q2.cell (p:=⟨8,0,none⟩) (World.block_lt_of_cell? w1 _ fO)).trans fO;have HB:=ab (Below.next aM q2);clear aM tW k3 k4 q2;go_wp2_with fail;go_quiet (fail)
 go_wp2;go_ret2;exact ⟨rfl,aA HB.out _⟩
def uW(A:Nat→Addr)(P:Option PD)(e:Ending)(w':World):Prop :=
 (P=none∧e = .returned (.tuple #[.pointer none,.iface 360 (.pointer (some (A 8)))])) ∨
 (∃ p b pv lv cv,P=some p∧e = .returned (.tuple #[.pointer (some ⟨b,0,none⟩),.nilIface])∧dQ w' b p.sn pv lv cv)
theorem uW.form{A:Nat→Addr}{P:Option PD}{e:Ending}{w':World}(h:uW A P e w'):∃ p v,e = .returned (.tuple #[.pointer p,v])∧uW A P (.returned (.tuple #[.pointer p,v])) w'∧(v = .nilIface∨v = .iface 360 (.pointer (some (A 8)))):=by
 rcases h with ⟨h1,rfl⟩ | ⟨p,b,pv,lv,cv,h1,rfl,h2⟩
 ·exact ⟨_,_,rfl,.inl ⟨h1,rfl⟩,.inr rfl⟩
 ·exact ⟨_,_,rfl,.inr ⟨p,b,pv,lv,cv,h1,rfl,h2⟩,.inl rfl⟩
theorem KR(base:Nat)(A:Nat→Addr)(db:Nat)(F:Nat→Prop)(d:S.V.bw)(id:Int)(w:World)(hv:Dv base A db F d w):Calls prog 135 #[.pointer (some ⟨db,0,none⟩),.int .i64 id] w fun e w'=>uW A (cM d id) e w'∧Dv base A db F d w'∧Mv db F w w':=by
 obtain ⟨d0,PO,hd⟩:=hv.dev;have WN:d0.dead=false:=by obtain ⟨n,rfl⟩:=PO;exact hv.alive
 have AP:cM d0=cM d:=by obtain ⟨n,rfl⟩:=PO;rfl
 rw [← AP];obtain ⟨hnr,fI⟩:=DS d0 id WN;have VF:=ab (S.K0 base A db F d0 id w hd hv.env hv.up);generalize S.fS d0 id=R at *;obtain ⟨Rd,s,c⟩:=R;simp only at hnr fI VF;have JP:Hid (∀ w1,S.V.cL w1 db F Rd→S.V.Step F F w w1→One db w w1→Dv base A db F d w1∧Mv db F w w1):=fun w1 h1 h2 h3 =>
  ⟨⟨⟨Rd,PO.trans hnr,h1⟩,hv.env.step h2 hv.up,EM h3 hd h1 hv.errs,hv.up,hv.alive,hv.lo⟩,⟨h2,h3⟩⟩
 obtain ⟨kd,Ry,tx,cn,bd⟩:=s;simp only [S.Sh.cells] at VF;rcases fI with ⟨rfl,AM⟩ | ⟨aau,fQ⟩
 ·have p8:kd=66∨kd=76:=AM.1.1;have yn:(0:Int)≤cn:=AM.1.2.1.1;have Et:=fun W=>EP (some (A 7)) W
  have Fv:=ab AM;have HC0:=ab yn;have e0:S.V.gC A 0 = .nilIface:=rfl;rw [e0] at VF;clear hv hd WN PO AP hnr AM yn e0;rcases p8 with p8 | p8
  focus
   have lW:Hid (∀ W,Dv base A db F d W→Calls prog 175 #[.agg #[.int .i64 kd,.int .i64 Ry,.int .u64 (tx:Int),.int .i64 cn,.string bd]] W fun e w'=>uW A (cM d0 id) e w'∧Below W.heap.size W w'):=fun W hW=>by
    by_cases hdec:B.vB cn.toNat bd.data.toList
    ·refine (OY A _ _ _ _ cn bd rfl W HC0.out hdec hW.aaR).mono ?_
     rintro e w3 ⟨b,pv,lv,cv,rfl,Tn,bQ⟩;exact ⟨.inr ⟨_,b,pv,lv,cv,IT Fv.out (.inr ⟨p8,hdec,rfl⟩),rfl,Tn⟩,bQ⟩
    ·refine (KZ A _ _ _ _ cn bd rfl W (fun h=>hdec h.2) hW.errs).mono ?_
     rintro e w3 ⟨rfl,bQ⟩;refine ⟨.inl ⟨BC fun s p h1 h2=>?_,rfl⟩,bQ⟩
     rw [sS h1 Fv.out] at h2;rcases h2 with ⟨h,_⟩ | ⟨_,h,_⟩
     ·exact absurd (p8.symm.trans h) (by decide)
     ·exact hdec h
  rotate_left;focus
   have lW:Hid (∀ W,Dv base A db F d W→Calls prog 174 #[.agg #[.int .i64 kd,.int .i64 Ry,.int .u64 (tx:Int),.int .i64 cn,.string bd]] W fun e w'=>uW A (cM d0 id) e w'∧Below W.heap.size W w'):=fun W hW=>by
    by_cases hdec:mR cn.toNat bd.data.toList
    ·refine (OX A _ _ _ _ cn bd rfl W HC0.out hdec hW.zG).mono ?_
     rintro e w3 ⟨b,pv,lv,cv,rfl,Tn,bQ⟩;exact ⟨.inr ⟨_,b,pv,lv,cv,IT Fv.out (.inl ⟨p8,hdec,rfl⟩),rfl,Tn⟩,bQ⟩
    ·refine (KY A _ _ _ _ cn bd rfl W (fun h=>hdec h.2) hW.errs).mono ?_
     rintro e w3 ⟨rfl,bQ⟩;refine ⟨.inl ⟨BC fun s p h1 h2=>?_,rfl⟩,bQ⟩
     rw [sS h1 Fv.out] at h2;rcases h2 with ⟨_,h,_⟩ | ⟨h,_⟩
     ·exact hdec h
     ·exact absurd (p8.symm.trans h) (by decide)
  all_goals
   clear Fv HC0;go_enter func135,ntmps135;go_wp2_with fail;refine VF.out.mono ?_
   rintro e w1 ⟨rfl,AV,ke,kI⟩;obtain ⟨fP,fs⟩:=JP.out w1 AV ke kI;have q2:=ai w1 (.cells #[.int .i64 kd,.int .i64 Ry,.int .u64 (tx:Int),.int .i64 cn,.string bd] 87);have x2:=B.au.new w1 #[.int .i64 kd,.int .i64 Ry,.int .u64 (tx:Int),.int .i64 cn,.string bd] 87;have kD:=fP.below q2;have g7':World.cell? _ ⟨7,0,none⟩=_:=kD.g 7 (by decide)
   have k0:=x2.cell 0 (by simp)
   have k1:=x2.cell 1 (by simp)
   have k2:=x2.cell 2 (by simp)
   have k3:=x2.cell 3 (by simp)
   have k4:=x2.cell 4 (by simp)
   simp only [dm,List.getElem_cons_zero,List.getElem_cons_succ] at k0 k1 k2 k3 k4;have Ni:=ab (lW.out _ kD);have Bb:=ab q2;have tU:=ab fP;have Rq:=ab fs;clear VF AV ke kI q2 x2 fP kD fs JP lW;subst p8;go_wp2_with fail;refine Ni.out.mono ?_
   rintro e w3 ⟨hr,bQ⟩;have uD:=Below.next Bb.out bQ;obtain ⟨p,v,rfl,hr,_⟩:=hr.form;have ch:Hid (uW A (cM d0 id) (.returned (.tuple #[.pointer p,v])) w3∧Dv base A db F d w3∧Mv db F w w3):=⟨hr,tU.out.below uD,Rq.out.trans (Mv.of uD)⟩;clear hr bQ uD k0 k1 k2 k3 k4 g7' Ni;go_wp2;go_ret2;exact ch.out
 ·have Uw:Hid (cM d0 id=none):=BC fun s p h1 _=>fQ s h1
  obtain ⟨j,hj,hec⟩ : ∃ j,j<2∧S.V.gC A c = .iface 360 (.pointer (some (A j))):=by
   rcases aau with rfl | rfl
   ·exact ⟨0,by decide,rfl⟩
   ·exact ⟨1,by decide,rfl⟩
  rw [hec] at VF;clear hv hd WN PO AP hnr fQ aau hec;go_enter func135,ntmps135;go_wp2_with fail;refine VF.out.mono ?_
  rintro e w1 ⟨rfl,AV,ke,kI⟩;obtain ⟨fP,fs⟩:=JP.out w1 AV ke kI;have q2:=ai w1 (.cells #[.int .i64 kd,.int .i64 Ry,.int .u64 (tx:Int),.int .i64 cn,.string bd] 87);have g7':(w1.alloc (.cells #[.int .i64 kd,.int .i64 Ry,.int .u64 (tx:Int),.int .i64 cn,.string bd] 87)).cell? ⟨7,0,none⟩=some (.iface 360 (.pointer (some (A 7)))):=(fP.below q2).g 7 (by decide)
  have g8':(w1.alloc (.cells #[.int .i64 kd,.int .i64 Ry,.int .u64 (tx:Int),.int .i64 cn,.string bd] 87)).cell? ⟨8,0,none⟩=some (.iface 360 (.pointer (some (A 8)))):=(fP.below q2).g 8 (by decide)
  have dH:=lq A j 7 _ (fP.below q2).errs (by omega) (by decide) (by omega)
  have Bb:=ab q2;have ch:Hid (uW A (cM d0 id) (.returned (.tuple #[.pointer none,.iface 360 (.pointer (some (A 8)))])) (w1.alloc (.cells #[.int .i64 kd,.int .i64 Ry,.int .u64 (tx:Int),.int .i64 cn,.string bd] 87))∧Dv base A db F d (w1.alloc (.cells #[.int .i64 kd,.int .i64 Ry,.int .u64 (tx:Int),.int .i64 cn,.string bd] 87))∧Mv db F w (w1.alloc (.cells #[.int .i64 kd,.int .i64 Ry,.int .u64 (tx:Int),.int .i64 cn,.string bd] 87))):=⟨.inl ⟨Uw.out,rfl⟩,fP.below q2,fs.trans (Mv.of q2)⟩;clear VF AV ke kI q2 fP fs JP;go_wp2_with fail;go_quiet (fail)
  go_wp2;go_ret2;exact ⟨.inl ⟨Uw.out,rfl⟩,ch.out.2.1.below (aA (Below.refl _ _) _),ch.out.2.2.trans (Mv.of (aA (Below.refl _ _) _))⟩
end T
namespace W
open Go.RowKit
abbrev Lk:=Nat × Int
def bh(l:List Lk):List Value:=l.flatMap fun p=>[Value.pointer (some ⟨p.1,0,none⟩),.int .i64 p.2]
theorem eE(p:Lk)(l:List Lk):bh (p::l) = .pointer (some ⟨p.1,0,none⟩)::.int .i64 p.2::bh l:=by simp [bh]
theorem cZ(a b:List Lk):bh (a++b)=bh a++bh b:=by simp [bh]
theorem aT(l:List Lk):(bh l).length=l.length*2:=by
 induction l with
 | nil=>rfl
 | cons p l ih=>rw [eE];simp [ih];omega
theorem gJ(l:List Lk):∀ j (h:j<l.length),(bh l)[j*2]?=some (.pointer (some ⟨l[j].1,0,none⟩))∧(bh l)[j*2+1]?=some (.int .i64 l[j].2):=by
 induction l with
 | nil=>intro j h;simp at h
 | cons p l ih =>
  intro j h;rw [eE];cases j with
  | zero=>exact ⟨rfl,rfl⟩
  | succ j =>
   have:=ih j (by simpa using h)
   rw [show (j+1)*2=j*2+1+1 by omega]
   simpa using this
theorem gh(l:List Lk):∀ u ∈ bh l,u.oneCell'=true:=by
 intro u hu;simp only [bh,l9] at hu;obtain ⟨p,_,h⟩:=hu;simp at h
 rcases h with rfl | rfl <;> rfl
theorem lO:(prog.info? 159).map (fun i=>(i.zero,i.size,i.bytes))=some (some (.agg #[.pointer none,.int .i64 0]),2,16):=by kernel_rfl
def di(w:World)(v:Value)(l:List Lk):Prop:=∃ a cap,v = .slice a l.length cap∧l.length≤cap∧(a=none→cap=0) ∧
 ∀ j (h:j<l.length),∃ g o,a=some ⟨g,o,none⟩∧w.cell? ⟨g,o+j*2,none⟩=some (.pointer (some ⟨l[j].1,0,none⟩))∧w.cell? ⟨g,o+j*2+1,none⟩=some (.int .i64 l[j].2)
theorem di.below{w w':World}{v:Value}{l:List Lk}(h:di w v l)(hb:Below w.heap.size w w'):di w' v l:=by
 obtain ⟨a,cap,rfl,hle,hn,hc⟩:=h;refine ⟨a,cap,rfl,hle,hn,fun j hj=>?_⟩
 obtain ⟨g,o,ha,h1,h2⟩:=hc j hj;exact ⟨g,o,ha,(hb.cell (p:=⟨g,o+j*2,none⟩) (World.block_lt_of_cell? w _ h1)).trans h1,(hb.cell (p:=⟨g,o+j*2+1,none⟩) (World.block_lt_of_cell? w _ h2)).trans h2⟩
theorem di.form{w:World}{v:Value}{l:List Lk}(h:di w v l):∃ a c,v = .slice a l.length c:=by
 obtain ⟨a,c,rfl,_⟩:=h;exact ⟨a,c,rfl⟩
theorem di.rB{w:World}{base n:Nat}{v:Value}{l:List Lk}(h:w.ownsRow base 159 2 v n (bh l)):di w v l:=by
 have hl:=h.1;rw [aT] at hl;have hl:l.length=n:=by omega
 rcases h.2 with ⟨rfl,hn⟩ | ⟨g,cap,cur,rfl,hb,hg,BQ,sB,fI,mf⟩
 ·have h0:l.length=0:=by omega
  exact ⟨none,0,by rw [h0],by omega,fun _=>rfl,fun j hj=>by omega⟩
 ·refine ⟨some ⟨g,0,none⟩,cap,by rw [hl],by omega,fun h=>(by cases h),fun j hj=>⟨g,0,rfl,?_,?_⟩⟩
  ·rw [Nat.zero_add,h.cellAt (j*2) (by omega)];exact (gJ l j hj).1
  ·rw [Nat.zero_add,h.cellAt (j*2+1) (by omega)];exact (gJ l j hj).2
def b7(w:World)(base:Nat)(v:Value)(l:List Lk):Prop:=w.ownsRow base 159 2 v l.length (bh l)
theorem b7.at{w:World}{base:Nat}{v:Value}{l:List Lk}(h:b7 w base v l):di w v l:=di.rB h
theorem b7.form{w:World}{base:Nat}{v:Value}{l:List Lk}(h:b7 w base v l):∃ a c,v = .slice a l.length c:=h.at.form
theorem b7.below{w w':World}{base:Nat}{v:Value}{l:List Lk}(h:b7 w base v l)(hb:Below w.heap.size w w'):b7 w' base v l:=by
 refine ⟨h.1,?_⟩;rcases h.2 with h' | ⟨g,cap,cur,h',h1,h2,hr⟩
 ·exact .inl h'
 ·refine .inr ⟨g,cap,cur,h',h1,?_,hr⟩;have hg:g<w.heap.size:=by
   rcases a8 g w.heap.size with h' | h'
   ·exact h'
   ·rw [aY h'] at h2;cases h2
  rw [hb.block g hg];exact h2
theorem b7.nil(w:World)(base:Nat):b7 w base (.slice none 0 0) []:=World.ownsRow_nil _ _ _ _
theorem fo(base:Nat)(v s:Value)(xs us:List Lk)(w:World)(aF:b7 w base v xs)(hs:di w s us)(hb:(xs.length+us.length)*16≤140737488355328)(dx:base≤w.heap.size):∃ a' eY w',(Builtin.append_ #[101,101] 101 #[v,s]).run prog w = .ok (.slice a' (xs.length+us.length) eY) w'∧b7 w' base (.slice a' (xs.length+us.length) eY) (xs++us)∧w.grownBy w' v.ownBlock:=by
 obtain ⟨i0,hi,hz,b8,kP⟩:=info_parts lO;obtain ⟨a,cap,rfl,hle,qD,hc⟩:=hs;have M0:∃ a' c',v = .slice a' xs.length c':=aF.form;unfold b7 at aF ⊢;rw [ae,cZ];cases a with
 | none =>
  have h0:us=[]:=by
   cases us with
   | nil=>rfl
   | cons u r=>obtain ⟨g,o,he,_⟩:=hc 0 (by simp);cases he
  subst h0;rw [qD rfl];have hr:=run_append_owned_none (P:=prog) w base 101 101 159 i0 2 underlying101 hi v xs.length (bh xs) aF;obtain ⟨a',c',rfl⟩:=M0;exact ⟨a',c',w,hr,by simpa [bh] using aF,⟨rfl,rfl,rfl,aj _,fun _ _ _=>rfl⟩⟩
 | some ad =>
  obtain ⟨v',w',hr,gu,AT,_⟩:=run_append_own (P:=prog) w base 101 101 159 i0 _ 2 16 underlying101 hi hz b8 kP rfl (by decide) v xs.length (bh xs) aF ad us.length cap (bh us) (aT us) (fun j u hj=>by
   have lY:=(List.getElem?_eq_some_iff.1 hj).1;rw [aT] at lY;obtain ⟨g,o,he,c1,c2⟩:=hc (j / 2) (by omega)
   cases he;have hg:=gJ us (j / 2) (by omega)
   rw [bt];rcases bV j with hm | hm
   ·have e:j / 2*2=j:=by omega
    rw [e] at hg c1;rw [hg.1] at hj;cases hj;exact c1
   ·have e:j / 2*2+1=j:=by omega
    rw [dt,e] at c2;rw [e] at hg;rw [hg.2] at hj;cases hj;exact c2) (gh us) (by unfold maxLen;omega) hb dx
  have hf:∃ a' c',v' = .slice a' (xs.length+us.length) c':=by
   rcases gu.2 with ⟨rfl,h0⟩ | ⟨g,cap,cur,rfl,_⟩
   ·exact ⟨none,0,by rw [h0]⟩
   ·exact ⟨_,_,rfl⟩
  obtain ⟨a',c',rfl⟩:=hf;exact ⟨a',c',w',hr,gu,AT⟩
theorem b7.dF{w:World}{base:Nat}{v:Value}{l:List Lk}(h:b7 w base v l):∀ k,v.ownBlock=some k→base≤k∧k<w.heap.size:=World.ownsRow.lt h
theorem vM(w:World)(p:Lk)(t:TypeId):di (w.alloc (.cells #[Value.pointer (some ⟨p.1,0,none⟩),.int .i64 p.2] t)) (.slice (some ⟨w.heap.size,0,none⟩) 1 1) [p]:=by
 have hb:=bM w #[Value.pointer (some ⟨p.1,0,none⟩),.int .i64 p.2] t;refine ⟨_,_,rfl,aj _,fun h=>(by cases h),fun j hj=>⟨_,_,rfl,?_,?_⟩⟩
 ·have:j=0:=by simpa using hj
  subst this;exact hb.2 0 (by simp)
 ·have:j=0:=by simpa using hj
  subst this;exact hb.2 1 (by simp)
theorem di.spot{w:World}{a:Option Addr}{n c:Nat}{l:List Lk}(h:di w (.slice a n c) l)(j:Nat)(hj:j<l.length):∃ g o,a = .some ⟨g,o,none⟩∧w.cell? ⟨g,o+j*2,none⟩ = .some (.pointer (some ⟨l[j].1,0,none⟩))∧w.cell? ⟨g,o+j*2+1,none⟩ = .some (.int .i64 l[j].2):=by
 obtain ⟨a',c',he,_,_,hc⟩:=h;cases he;exact hc j hj
end W
end Go.Proofs.YtihmgigfkmofnaaGreatDoor
