import Derived.Test.YtihmgigfkmofnaaGreatDoorG06
set_option maxHeartbeats 4000000
set_option maxRecDepth 20000
open Go.Proofs.Tryz
namespace Go.Proofs.YtihmgigfkmofnaaGreatDoor
open Go.RowKit
theorem J6(w:World)(a:Option Addr)(n cap m:Nat)(hm:m≤cap):(Instr.sliceAt 63 (.slice a n cap) none (some (.int .i64 (m:Int))) none).run prog w = .ok (.slice a m cap) w:=by
 rw [run_sliceAt_slice (h:=underlying63),run_slice_h (ht:=underlying63) (h0:=by omega) (h2:=by omega)]
 have hz:(sizeOf (prog.elem 63)).run prog w = .ok 2 w:=by kernel_rfl
 rw [hz];simp [Result.andThen,sliced,Addr.add]
theorem gG.drop{w:World}{a:Option Addr}{n m cap:Nat}{l:List Pr}(h:gG w (.slice a n cap) l)(hm:m≤n):∃ a',gG w (.slice a' (n - m) (cap - m)) (l.drop m)∧∀ w',(Instr.sliceAt 63 (.slice a n cap) (some (.int .i64 (m:Int))) none none).run prog w' = .ok (.slice a' (n - m) (cap - m)) w':=by
 obtain ⟨a',eS,he,hle,hn,hc⟩:=h;cases he;refine ⟨if cap=m then a else a.map (·.add (m*2)),⟨_,_,by rw [ao],by rw [ao];omega,fun ha=>?_,fun j hj=>?_⟩,fun w'=>?_⟩
 ·split at ha
  ·omega
  ·cases a with
   | none=>have:=hn rfl;omega
   | some x=>cases ha
 ·rw [ao] at hj;obtain ⟨g,o,ha,h1,h2⟩:=hc (m+j) (by omega)
  subst ha;refine ⟨g,o+m*2,?_,?_,?_⟩
  ·rw [if_neg (by omega)];simp [bz]
  ·rw [cW,show o+m*2+j*2=o+(m+j)*2 by omega];exact h1
  ·rw [cW,show o+m*2+j*2+1=o+(m+j)*2+1 by omega];exact h2
 ·rw [run_sliceAt_slice (h:=underlying63),run_slice_l (ht:=underlying63) (h0:=by omega) (h1:=by omega)]
  have hz:(sizeOf (prog.elem 63)).run prog w' = .ok 2 w':=by kernel_rfl
  rw [hz];simp [Result.andThen,sliced]
theorem Dw(v:Value)(l:List Pr)(key value:ByteArray)(w:World)(hm:l.length≤4398046511000)(hr:gG w v l):Calls prog 48 #[v,.string key,.string value] w fun e w'=>∃ u,e = .returned u∧ij w' w.heap.size u (fl l key value)∧Below w.heap.size w w':=by
 have HF:=ab (iQ v l key w (by omega) hr)
 have HR:=ab hr;obtain ⟨a,cap,hv⟩:=hr.form;subst hv;have iH:=cD l key;have jt:=jJ l key;have SP:=eN l key;have dd:l.length≤cap:=by obtain ⟨_,_,he,h,_⟩:=hr;cases he;exact h
 obtain ⟨q,hq⟩ : ∃ q,q=aN l key:=⟨_,rfl⟩;obtain ⟨r,uQ⟩ : ∃ r,r=de l key:=⟨_,rfl⟩;obtain ⟨fb,Ec⟩ : ∃ fb,fb=bf l key:=⟨_,rfl⟩;have vA:(if fb then q+1 else q:Nat)=r:=by rw [uQ,hq,Ec];rfl
 have Fw:=ab (fun W=>yd q fb W (by omega))
 rw [vA] at Fw;rw [← hq,← Ec] at HF;rw [← hq] at iH;rw [← uQ] at jt;rw [← hq,← uQ] at SP;obtain ⟨a2,iG,qp⟩:=hr.drop jt;have uP:=fun W=>J6 W a l.length cap q (by omega)
 have nH:=ab (hr.take iH);have oL:=ab iG;have HL:Hid (fl l key value=[l.take q,[(key,value)],l.drop r].flatten):=by show _=_;unfold fl;rw [← hq,← uQ];simp
 clear hr iG hq uQ Ec vA;go_enter func48,ntmps48;go_wp2_with fail;refine HF.out.mono ?_
 rintro e w1 ⟨rfl,aL⟩;have bP:=ab aL;clear aL HF;have yC:Hid (∀ W,Below ((w1.alloc (.cells #[.string key,.string value] 52)).alloc (.cells #[.slice a q cap,.slice (some ⟨w1.heap.size,0,none⟩) 1 1,.slice a2 (l.length - r) (cap - r)] 63)).heap.size ((w1.alloc (.cells #[.string key,.string value] 52)).alloc (.cells #[.slice a q cap,.slice (some ⟨w1.heap.size,0,none⟩) 1 1,.slice a2 (l.length - r) (cap - r)] 63)) W→Calls prog 84 #[.slice (some ⟨w1.heap.size+1,0,none⟩) 3 3] W fun e w'=>∃ u,e = .returned u∧ij w' w.heap.size u (fl l key value)∧Below w.heap.size w w'):=fun W hW=>by
  have hbA:=ai w1 (.cells #[.string key,.string value] 52);have hsA:(w1.alloc (.cells #[.string key,.string value] 52)).heap.size=w1.heap.size+1:=by simp
  have acU:=A9 w1 (key,value) 52;generalize w1.alloc (.cells #[.string key,.string value] 52)=WA at *;have hbB:=ai WA (.cells #[.slice a q cap,.slice (some ⟨w1.heap.size,0,none⟩) 1 1,.slice a2 (l.length - r) (cap - r)] 63);have hBx:=(bL WA #[.slice a q cap,.slice (some ⟨w1.heap.size,0,none⟩) 1 1,.slice a2 (l.length - r) (cap - r)] 63).below hW;rw [hsA] at hBx;have S8:=Below.next (Below.next bP.out hbA) (Below.next hbB hW);rw [HL.out];refine (qB (w1.heap.size+1) 3 3 [.slice a q cap,.slice (some ⟨w1.heap.size,0,none⟩) 1 1,.slice a2 (l.length - r) (cap - r)] [l.take q,[(key,value)],l.drop r] W rfl (by decide) rfl ?_ (fun j h=>hBx.2 j h) ?_).mono ?_
  ·simp;omega
  ·intro j h h';have hj:j<3:=h;match j,hj with
   | 0,_=>exact nH.out.below S8
   | 1,_=>exact acU.below (Below.next hbB hW)
   | 2,_=>exact oL.out.below S8
  ·rintro e w' ⟨u,rfl,ho,hb⟩;exact ⟨u,rfl,ho.mono S8.size,Below.next S8 hb⟩
 clear HR nH oL HL bP;go_wp2_with fail;go_region_held3 (fun w'=>True) (go_keep)
  (first
   | (go_at_call 85;refine (Fw.out _).mono ?_;rintro e w2 ⟨rfl,rfl⟩)
   | (go_at_call 84;refine (yC.out _ ?_).mono ?_;(exact (Below.refl _ _).drew);rintro e w3 ⟨u,rfl,ho,hb⟩;have HO:=ab ho;have HB:=ab hb;clear ho hb))
 all_goals
  clear yC Fw uP qp;go_wp2;go_ret;exact ⟨_,rfl,HO.out,HB.out⟩
theorem Ab(v:Value)(l:List Pr)(key:ByteArray)(w:World)(hm:l.length≤4398046511000)(hr:gG w v l):Calls prog 51 #[v,.string key] w fun e w'=>∃ u,e = .returned (.tuple #[u,.bool (bf l key)])∧ij w' w.heap.size u (fQ l key)∧Below w.heap.size w w':=by
 have HF:=ab (iQ v l key w (by omega) hr)
 have HR:=ab hr;obtain ⟨a,cap,hv⟩:=hr.form;subst hv;have iH:=cD l key;have jt:=jJ l key;have SP:=eN l key;have dd:l.length≤cap:=by obtain ⟨_,_,he,h,_⟩:=hr;cases he;exact h
 obtain ⟨q,hq⟩ : ∃ q,q=aN l key:=⟨_,rfl⟩;obtain ⟨r,uQ⟩ : ∃ r,r=de l key:=⟨_,rfl⟩;obtain ⟨fb,Ec⟩ : ∃ fb,fb=bf l key:=⟨_,rfl⟩;have vA:(if fb then q+1 else q:Nat)=r:=by rw [uQ,hq,Ec];rfl
 have Fw:=ab (fun W=>yd q fb W (by omega))
 rw [vA] at Fw;rw [← hq,← Ec] at HF;rw [← Ec];rw [← hq] at iH;rw [← uQ] at jt;rw [← hq,← uQ] at SP;obtain ⟨a2,iG,qp⟩:=hr.drop jt;have uP:=fun W=>J6 W a l.length cap q (by omega)
 have nH:=ab (hr.take iH);have oL:=ab iG;have HL:Hid (fQ l key=[l.take q,l.drop r].flatten):=by show _=_;unfold fQ;rw [← hq,← uQ];simp
 clear hr iG hq uQ Ec vA;go_enter func51,ntmps51;go_wp2_with fail;refine HF.out.mono ?_
 rintro e w1 ⟨rfl,aL⟩;have bP:=ab aL;clear aL HF;have yC:Hid (∀ W,Below (w1.alloc (.cells #[.slice a q cap,.slice a2 (l.length - r) (cap - r)] 63)).heap.size (w1.alloc (.cells #[.slice a q cap,.slice a2 (l.length - r) (cap - r)] 63)) W→Calls prog 84 #[.slice (some ⟨w1.heap.size,0,none⟩) 2 2] W fun e w'=>∃ u,e = .returned u∧ij w' w.heap.size u (fQ l key)∧Below w.heap.size w w'):=fun W hW=>by
  have hbB:=ai w1 (.cells #[.slice a q cap,.slice a2 (l.length - r) (cap - r)] 63);have hBx:=(bL w1 #[.slice a q cap,.slice a2 (l.length - r) (cap - r)] 63).below hW;have S8:=Below.next bP.out (Below.next hbB hW);rw [HL.out];refine (qB w1.heap.size 2 2 [.slice a q cap,.slice a2 (l.length - r) (cap - r)] [l.take q,l.drop r] W rfl (by decide) rfl ?_ (fun j h=>hBx.2 j h) ?_).mono ?_
  ·simp;omega
  ·intro j h h';have hj:j<2:=h;match j,hj with
   | 0,_=>exact nH.out.below S8
   | 1,_=>exact oL.out.below S8
  ·rintro e w' ⟨u,rfl,ho,hb⟩;exact ⟨u,rfl,ho.mono S8.size,Below.next S8 hb⟩
 clear HR nH oL HL bP;go_wp2_with fail;go_region_held3 (fun w'=>True) (go_keep)
  (first
   | (go_at_call 85;refine (Fw.out _).mono ?_;rintro e w2 ⟨rfl,rfl⟩)
   | (go_at_call 84;refine (yC.out _ ?_).mono ?_;(exact (Below.refl _ _).drew);rintro e w3 ⟨u,rfl,ho,hb⟩;have HO:=ab ho;have HB:=ab hb;clear ho hb))
 all_goals
  clear yC Fw uP qp;go_wp2;go_ret2;exact ⟨_,rfl,HO.out,HB.out⟩
def B2(l:List Pr):List Int:=l.map fun p=>(zD p:Int)
theorem u9(l:List Pr):(B2 l).length=l.length:=by simp [B2]
theorem yH(l:List Pr)(k:Nat)(h:k<l.length):B2 (l.take (k+1))=B2 (l.take k)++[(zD l[k] : Int)]:=by
 unfold B2;rw [ay h,bt];rfl
def vW(l:List Pr)(k:Nat):List Value:=ints (B2 (l.take k))++List.replicate (l.length - k) (.int .i64 0)
theorem Nq(l:List Pr)(k:Nat)(h:k<l.length):(vW l k).set k (.int .i64 (zD l[k] : Int))=vW l (k+1):=by
 have hl:(ints (B2 (l.take k))).length=k:=by rw [jW,u9,ag];omega
 unfold vW;rw [bV _ _ (by omega),hl,dL,yH l k h,ox,show l.length - k=l.length - (k+1)+1 by omega,List.replicate_succ,List.set_cons_zero,ax]
 rfl
theorem Ns(l:List Pr)(k:Nat)(h:k≤l.length):(vW l k).length=l.length:=by
 unfold vW;rw [ae,jW,u9,ag,bu];omega
theorem JY(l:List Pr):vW l 0=List.replicate l.length (.int .i64 0):=by simp [vW,ints,B2]
theorem Nt(l:List Pr):vW l l.length=ints (B2 l):=by simp [vW]
theorem iN{w w':World}{base e n:Nat}{v:Value}{xs:List Value}(h:w.ownsRow base e 1 v n xs)(hb:Below w.heap.size w w'):w'.ownsRow base e 1 v n xs:=by
 refine ⟨h.1,?_⟩;rcases h.2 with h' | ⟨g,cap,cur,h',h1,h2,hr⟩
 ·exact .inl h'
 ·refine .inr ⟨g,cap,cur,h',h1,?_,hr⟩;have hg:g<w.heap.size:=by
   rcases bg g w.heap.size with h' | h'
   ·exact h'
   ·rw [aX h'] at h2;cases h2
  rw [hb.block g hg];exact h2
theorem CJ(v:Value)(l:List Pr)(w:World)(cN:TL l)(hm:l.length≤4398046511104)(hr:gG w v l):Calls prog 211 #[v] w fun e w'=>∃ u,e = .returned u∧EX w' u (B2 l)∧Below w.heap.size w w':=by
 obtain ⟨i0,hi,hz,b7,kF⟩:=info_parts info3;obtain ⟨a,cap,rfl,dd,_,hc⟩:=hr;have HC:=ab hc;have pw:=ab cN;obtain ⟨wm,pC,fP,pR⟩:=run_make_full (P:=prog) w w.heap.size 69 3 i0 _ 1 underlying69 hi hz b7 .i64 .i64 l.length (by rw [kF];omega) (by unfold maxLen;omega) (aj _)
 have nK:(madeCells (Value.int .i64 0).cells (l.length*1)).toList=vW l 0:=by
  rw [JY,Nat.mul_one];exact toList_madeCells_one _ _
 rw [nK] at fP;have Ca:Below w.heap.size w wm:=(Below.refl _ _).grown pR (aj _) (fun j hj=>by cases hj)
 obtain ⟨n,hn⟩ : ∃ n,n=l.length:=⟨_,rfl⟩;obtain ⟨b,hb⟩ : ∃ b,b=w.heap.size:=⟨_,rfl⟩;rw [← hn] at hm pC fP ⊢;rw [← hb] at pC fP;have HN:=ab hn;have HB:=ab hb;have HO:=ab fP;have JA:=ab Ca;clear hc hn dd cN hb fP Ca pR hi hz b7 kF nK;go_enter func211,ntmps211;go_wp2;clear pC;go_loopw [11] (fun i wr=>∃ k:Nat,k≤n∧i = .int .i64 k∧wr.ownsRow b 3 1 (.slice (some ⟨b,0,none⟩) n n) n (vW l k)∧Below w.heap.size w wr) (fun i _=>n - (intOf i).toNat)
 case atStart=>exact ⟨0,aD _,rfl,HO.out,JA.out⟩
 case round =>
  obtain ⟨k,hk,rfl,aE,bO⟩:=hrel;clear HO JA;by_cases bN:k<n
  ·have cL:k<l.length:=by have:=HN.out;omega
   obtain ⟨g,o,rfl,f1,f2⟩:=HC.out k cL;have c1:wr.cell? ⟨g,o+k*2,none⟩=some (.string l[k].1):=(bO.cell (p:=⟨g,o+k*2,none⟩) (World.block_lt_of_cell? w _ f1)).trans f1;have c2:wr.cell? ⟨g,o+k*2+1,none⟩=some (.string l[k].2):=(bO.cell (p:=⟨g,o+k*2+1,none⟩) (World.block_lt_of_cell? w _ f2)).trans f2;have Ao:=pw.out l[k] (aG _);have ir:=ab (Nq l k cL);have eU:=ai wr (.cells #[.string l[k].1,.string l[k].2] 52);have qP:=ab (iN aE eU);have bP:=ab (Below.next bO eU);have HZ:=ab (fun W=>tS l[k] W Ao.1 Ao.2)
   obtain ⟨p,hp⟩ : ∃ p,p=l[k]:=⟨_,rfl⟩;rw [← hp] at c1 c2 ir qP bP HZ;have kH:=ab (Ns l k (by omega))
   have dP:(k:Int)<(n:Int):=by omega
   have j0:(0:Int)≤(k:Int):=by omega
   clear hp HC f1 f2 bO aE Ao eU;go_wp2_with fail;refine (HZ.out _).mono ?_
   rintro e w1 ⟨rfl,aL⟩;have lp:=iN qP.out aL;have q1:∃ u,w1.cell? ⟨b,k,none⟩=some u:=by
    rw [World.ownsRow.cellAt lp k (by omega)]
    exact ⟨_,af (by rw [kH.out];exact cL)⟩
   obtain ⟨u,q1⟩:=q1;have z1:w1.frozen? ⟨b,k,none⟩=false:=World.ownsRow.frozenAt lp k;obtain ⟨z,hz⟩ : ∃ z,z=zD p:=⟨_,rfl⟩;rw [← hz] at ir ⊢;have fj:=(World.ownsRow.stored lp k (.int .i64 (z:Int))).1;rw [ir.out] at fj;have jP:=ab fj;have bH:Hid (Below w.heap.size w (w1.setCell ⟨b,k,none⟩ (.int .i64 (z:Int)))):=(Below.next bP.out aL).setCell (by rw [HB.out];exact aj _) _
   clear aL bP HZ c1 c2 lp fj hz ir qP;go_wp2;go_roundw
   case rel=>exact ⟨k+1,by omega,by go_num,jP.out,bH.out⟩
   case measure=>simp [intOf];omega
  ·have nM:k=l.length:=by have:=HN.out;omega
   rw [nM,Nt] at aE;have HI:=ab (fT aE).ints;have jQ:=ab bO;have dP:¬ (k:Int)<(n:Int):=by have:=HN.out;omega
   have U9:=ab nM;clear HC bO aE nM;go_wp2;go_ret;exact ⟨_,rfl,HI.out,jQ.out⟩
theorem xV(ad:Addr)(n cap:Nat)(l:List Pr)(w:World)(hm:l.length≤4398046511104)(hn:l.length=n)(hr:gG w (.slice (some ad) n cap) l):Calls prog 212 #[.slice (some ad) n cap] w fun e w'=>∃ u,e = .returned u∧ij w' w.heap.size u l∧Below w.heap.size w w':=by
 have qu:∀ w,(binOp .eql 63 (.slice (some ad) n cap) (.slice none 0 0)).run prog w = .ok (.bool false) w:=fun w=>by
  have h2:∀ d:Nat,(Op.equalIn (d+1) 63 (.slice (some ad) n cap) (.slice none 0 0)).run prog w = .ok false w:=fun d=>by
   simp [Op.equalIn,run_underlying underlying63]
  simp only [binOp];simp [Op.equal,Op.maxDepth,h2 9999]
 have eU:=ai w (.cells #[] 52);have ho:ij (w.alloc (.cells #[] 52)) w.heap.size (.slice (some ⟨w.heap.size,0,none⟩) 0 0) []:=World.ownsRow_lit w #[] 0 (aj _) (aD _) rfl;obtain ⟨a1,c1,w1,bn,aE,hg⟩:=gO w.heap.size _ _ [] l _ ho (hr.below eU) (by simp;omega) (by simp)
 rw [List.length_nil,Nat.zero_add,hn] at bn aE;rw [List.nil_append] at aE;have aL:Below w.heap.size w w1:=eU.grown hg (by simp) (fun k hk=>by simp [Value.ownBlock] at hk;omega)
 have HO:=ab aE;have HB:=ab aL;clear hr eU ho aE hg aL;go_enter func212,ntmps212;go_wp2_with (first | (at_builtin;refine wpList_append_run 63 rfl (.tmp 5) (.tmp 6) rfl rfl _ _ rfl rfl _ _ bn ?_))
 clear bn;go_ret;exact ⟨_,rfl,HO.out,HB.out⟩
def aaq(A:Nat→Addr)(base:Nat)(l:List Pr)(e:Ending)(w:World):Prop :=
 ∃ (i c:Nat) (u1 u2 ev:Value),e = .returned (.tuple #[u1,u2,ev])∧Ib 2 (ji (B2 l)) (B2 l) i c∧yl A ev c ∧
  ((c=0∧ij w base u1 (l.take i)∧ij w base u2 (l.drop i)∧∀ k,u1.ownBlock=some k→u2.ownBlock≠some k)∨(c≠0∧u1 = .slice none 0 0∧u2 = .slice none 0 0))
theorem Ib.bound{l:List Int}{i:Nat}(h:Ib 2 (ji l) l i 0):1≤i∧i+1≤l.length:=by
 rcases h with ⟨_,_,h⟩ | ⟨_,_,_,h⟩ | ⟨h1,_,h2,_⟩
 ·omega
 ·omega
 ·have:=h2.1;omega
theorem Ij{a b:World}(h:Below a.drew.heap.size a.drew b):Below a.heap.size a b:=⟨h.os,h.tape,h.output,h.size,h.block⟩
theorem l9{A:Nat→Addr}{ev:Value}(h:yl A ev 0):ev = .nilIface:=by
 rcases h with ⟨h,_⟩ | ⟨_,h⟩ | ⟨_,h⟩ | ⟨_,h⟩ | ⟨_,h⟩
 ·exact h
 all_goals omega
theorem sM{A:Nat→Addr}{ev:Value}{c:Nat}(h:yl A ev c)(hc:c≠0):∃ k,ev = .iface 360 (.pointer (some (A k))):=by
 rcases h with ⟨_,h⟩ | ⟨h,_⟩ | ⟨h,_⟩ | ⟨h,_⟩ | ⟨h,_⟩
 ·omega
 all_goals exact ⟨_,h⟩
theorem OF(A:Nat→Addr)(v:Value)(l:List Pr)(w:World)(cN:TL l)(hm:l.length≤4398046511104)(hr:gG w v l)(hE:jL A w):Calls prog 169 #[v] w fun e w'=>aaq A w.heap.size l e w'∧Below w.heap.size w w':=by
 have HS:=ab (CJ v l w cN hm hr);have HE:=ab hE;have HR:=ab hr;obtain ⟨a,cap,hv⟩:=hr.form;subst hv;have dd:l.length≤cap:=by obtain ⟨_,_,he,h,_⟩:=hr;cases he;exact h
 have HM:=ab hm;clear hr hE hm cN;go_enter func169,ntmps169;go_wp2_with fail;refine HS.out.mono ?_
 rintro e w1 ⟨u,rfl,hint,aL⟩;have HC:=ab (To A u (B2 l) w1 (by rw [u9];have:=HM.out;omega) hint (HE.out.below aL).1)
 have bP:=ab aL;clear hint aL HS;go_wp2_with fail;refine HC.out.mono ?_
 rintro e w2 ⟨hv,aU⟩;obtain ⟨i,c,ev,rfl,uU,fJ⟩:=hv.num;have bH:=ab (Below.next bP.out aU);have HCN:=ab uU;have kB:=ab fJ;clear hv aU HC bP;by_cases hc:c=0
 ·subst hc;have By:=l9 fJ;subst By;obtain ⟨B8,uS⟩:=uU.bound;rw [u9] at uS;have iG:=HR.out.below bH.out;have D6:∃ ad,a=some ad:=by
   obtain ⟨a',c',he,_,_,s7⟩:=iG;cases he;obtain ⟨g,o,ha,_⟩:=s7 0 (by omega)
   exact ⟨_,ha⟩
  obtain ⟨ad,rfl⟩:=D6;have uP:=fun W=>J6 W (some ad) l.length cap i (by omega)
  obtain ⟨a2,SO,qp⟩:=iG.drop (m:=i) (by omega)
  have ME:=iG.take (m:=i) (by omega)
  have jo:∃ ad2,a2=some ad2:=by
   obtain ⟨a',c',he,_,_,s7⟩:=SO;simp only [Value.slice.injEq] at he;obtain ⟨rfl,_⟩:=he;obtain ⟨g,o,ha,_⟩:=s7 0 (by rw [ao];omega)
   exact ⟨_,ha⟩
  obtain ⟨ad2,rfl⟩:=jo;have RG:Hid (∀ W,Below w2.heap.size w2 W→Calls prog 212 #[.slice (some ad) i cap] W fun e w'=>∃ u,e = .returned u∧ij w' W.heap.size u (l.take i)∧Below W.heap.size W w'):=fun W h=>xV ad i cap (l.take i) W (by rw [ag];have:=HM.out;omega) (by rw [ag];omega) (ME.below h)
  have MU:Hid (∀ W,Below w2.heap.size w2 W→Calls prog 212 #[.slice (some ad2) (l.length - i) (cap - i)] W fun e w'=>∃ u,e = .returned u∧ij w' W.heap.size u (l.drop i)∧Below W.heap.size W w'):=fun W h=>xV ad2 (l.length - i) (cap - i) (l.drop i) W (by rw [ao];have:=HM.out;omega) (by rw [ao]) (SO.below h)
  clear iG SO ME uU fJ;go_wp2_with fail;go_region_held3 (fun w'=>True) (go_keep)
   (first
    | (go_at_call 212;refine (RG.out _ ?_).mono ?_;(first | exact Xc.out | exact (Below.refl _ _).drew);rintro e W1 ⟨u1,rfl,lp,aL⟩;have qP:=ab lp;have ajN:=ab aL;have zq:Hid (Below w2.heap.size w2 W1):=(by first | exact Below.next Xc.out aL | exact Ij aL);clear lp aL)
    | (go_at_call 212;refine (MU.out _ ?_).mono ?_;(first | exact zq.out | exact (Below.refl _ _).drew);rintro e W2 ⟨u2,rfl,jE,aU⟩;have jP:=ab jE;have ae0:=ab aU;have Xc:Hid (Below w2.heap.size w2 W2):=(by first | exact Below.next zq.out aU | exact Ij aU);clear jE aU))
  all_goals
   clear RG MU uP qp;go_wp2;go_ret3
  ·refine ⟨⟨i,0,u1,u2,.nilIface,rfl,HCN.out,.inl ⟨rfl,rfl⟩,.inl ⟨rfl,(qP.out.below ae0.out).mono bH.out.size,jP.out.mono zq.out.size |>.mono bH.out.size,fun k h1 h2=>?_⟩⟩,Below.next bH.out Xc.out⟩
   have a1:=qP.out.dr k h1;have a2:=jP.out.dr k h2;omega
 ·obtain ⟨k,rfl⟩:=sM fJ hc;have D6:=fun W=>eZ (some (A k)) W
  have HCZ:=ab hc;clear uU fJ hc;go_wp2;go_ret3;exact ⟨⟨i,c,_,_,_,rfl,HCN.out,kB.out,.inr ⟨HCZ.out,rfl,rfl⟩⟩,bH.out⟩
namespace T
def ym(w:World)(a:SN)(key:ByteArray)(b:SN)(e:Ending)(w':World):Prop:=∃ ba bb pa la ca pb lb cb,e = .returned (.tuple #[.pointer (some ⟨ba,0,none⟩),.string key,.pointer (some ⟨bb,0,none⟩)])∧dH w' ba a pa la ca∧dH w' bb b pb lb cb∧Below w.heap.size w w'
theorem ym.drew{w:World}{a b:SN}{key:ByteArray}{e:Ending}{w':World}(h:ym w a key b e w'):ym w a key b e w'.drew:=by
 obtain ⟨ba,bb,pa,la,ca,pb,lb,cb,h1,h2,h3,h4⟩:=h;exact ⟨ba,bb,pa,la,ca,pb,lb,cb,h1,⟨h2.row,h2.iy,h2.a8,h2.kids,h2.fine⟩,⟨h3.row,h3.iy,h3.a8,h3.kids,h3.fine⟩,B.aO h4⟩
theorem Ky(A:Nat→Addr)(b:Nat)(n:SN)(pv lv cv:Value)(w:World)(h:dH w b n pv lv cv)(h0:n.us.length=0)(h2:2≤n.ps.length)(hE:jL A w):Calls prog 129 #[.pointer (some ⟨b,0,none⟩)] w fun e w'=>∃ (i:Nat) (k v:ByteArray),dm (ji (nE n.ps)) ((nE n.ps).length - 1) i∧n.ps[i]?=some (k,v)∧ym w ⟨n.ps.take i,0,[],[]⟩ k ⟨n.ps.drop i,0,[],[]⟩ e w':=by
 have HL:=ab (cB b n pv lv cv w h);rw [show decide (n.us.length=0)=true by simp [h0]] at HL
 have yr:Hid (Calls prog 169 #[pv] w fun e w'=>∃ (i:Nat) (mF r9:Option Addr) (mE lV:Nat),e = .returned (.tuple #[.slice mF (n.ps.take i).length mE,.slice r9 (n.ps.drop i).length lV,.nilIface])∧dm (ji (nE n.ps)) ((nE n.ps).length - 1) i∧gG w' (.slice mF (n.ps.take i).length mE) (n.ps.take i)∧gG w' (.slice r9 (n.ps.drop i).length lV) (n.ps.drop i)∧Below w.heap.size w w'):=by
  refine (OF A pv n.ps w h.okL (by have:=h.fine.2.1;omega) h.iy hE).mono fun e w' hh=>?_
  obtain ⟨⟨i,cc,u1,u2,ev,h1,uU,fJ,h3⟩,hb⟩:=hh;have Pq:ie (B2 n.ps):=fun j hj=>by
   have lL:j<n.ps.length:=by simpa [B2] using hj
   have:=eL (h.fine.1 n.ps[j] (aG lL));simp only [B2,bZ];unfold zD;omega
  have hlen:(B2 n.ps).length=n.ps.length:=by simp [B2]
  rcases uU with ⟨g1,_,_⟩ | ⟨_,g1,_⟩ | ⟨_,_,oB,xL⟩
  ·rw [hlen] at g1;omega
  ·exact absurd Pq g1
  ·subst xL;rcases h3 with ⟨_,o1,o2,_⟩ | ⟨dE,_⟩
   ·have By:=l9 fJ;subst By;obtain ⟨a1,c1,e1⟩:=o1.form;obtain ⟨a2,c2,e2⟩:=o2.form;subst e1 e2;exact ⟨i,a1,a2,c1,c2,h1,oB,o1.at,o2.at,hb⟩
   ·exact absurd rfl dE
 have p0:=h.c0;have HF:=ab h.fine;clear h h0 hE;go_enter func129,ntmps129;go_wp2_with fail;refine HL.out.mono ?_
 rintro e w1 ⟨rfl,rfl⟩;clear HL;go_wp2_with fail;refine yr.out.mono ?_
 rintro e w2 ⟨i,mF,r9,mE,lV,rfl,oB,fV,iG,aU⟩;have K8:=oB.1;have qq:(nE n.ps).length=n.ps.length:=by simp [nE]
 rw [qq] at K8;have jw:0<(n.ps.drop i).length:=by rw [ao];omega
 have TR:=iG;obtain ⟨a2',Ww,he2,_,_,bh⟩:=iG;obtain ⟨g,o,hg,c1,_⟩:=bh 0 jw;cases he2;subst hg;obtain ⟨k,v,hkv⟩ : ∃ k v,n.ps[i]?=some (k,v):=⟨_,_,af (show i<n.ps.length by omega)⟩
 have Rk:((n.ps.drop i)[0]'jw).1=k:=by
  have e1:(n.ps.drop i)[0]?=some (k,v):=by rw [dk,Nat.add_zero];exact hkv
  rw [af jw] at e1;rw [Option.some.inj e1]
 rw [Rk,Nat.zero_mul,Nat.add_zero] at c1;obtain ⟨N1,Jd⟩ : ∃ N,N=(n.ps.take i).length:=⟨_,rfl⟩;obtain ⟨N2,Jc⟩ : ∃ N,N=(n.ps.drop i).length:=⟨_,rfl⟩;have iG:gG w2 (.slice (some ⟨g,o,none⟩) (n.ps.drop i).length lV) (n.ps.drop i):=TR;rw [← Jd] at fV ⊢;rw [← Jc] at iG jw ⊢;have nH:=ab fV;have oL:=ab iG;have bH:=ab aU;have AP:=ab oB;have HKV:=ab hkv;have Pd:(0:Int)<(N2:Int):=by omega
 have rX:Hid (((∀ p ∈ n.ps.take i,cO p=true)∧(n.ps.take i).length≤4000∧(∀ p ∈ n.ps.drop i,cO p=true)∧(n.ps.drop i).length≤4000)):=⟨fun p hp=>HF.out.1 p (bF hp),by rw [ag];have:=HF.out.2.1;omega,fun p hp=>HF.out.1 p (bG hp),by rw [ao];have:=HF.out.2.1;omega⟩
 have Pm:=World.block_lt_of_cell? w2 _ c1;have t1:=((ai w2 (.cells #[.slice mF N1 mE,.int .i64 0,.slice none 0 0,.slice none 0 0] 155)).cell (p:=⟨g,o,none⟩) Pm).trans c1;have t2:=((ai w2 (.cells #[.slice (some ⟨g,o,none⟩) N2 lV,.int .i64 0,.slice none 0 0,.slice none 0 0] 155)).cell (p:=⟨g,o,none⟩) Pm).trans c1;have t3:=((ai (w2.alloc (.cells #[.slice mF N1 mE,.int .i64 0,.slice none 0 0,.slice none 0 0] 155)) (.cells #[.slice (some ⟨g,o,none⟩) N2 lV,.int .i64 0,.slice none 0 0,.slice none 0 0] 155)).cell (p:=⟨g,o,none⟩) (World.block_lt_of_cell? _ _ t1)).trans t1;have t4:=((ai (w2.alloc (.cells #[.slice (some ⟨g,o,none⟩) N2 lV,.int .i64 0,.slice none 0 0,.slice none 0 0] 155)) (.cells #[.slice mF N1 mE,.int .i64 0,.slice none 0 0,.slice none 0 0] 155)).cell (p:=⟨g,o,none⟩) (World.block_lt_of_cell? _ _ t2)).trans t2;clear yr fV iG aU oB hkv K8 qq bh Rk Jd Jc p0;go_wp2_with fail;go_region
 all_goals first
  | (have qa:=ai w2 (.cells #[.slice mF N1 mE,.int .i64 0,.slice none 0 0,.slice none 0 0] 155)
     have qb:=ai (w2.alloc (.cells #[.slice mF N1 mE,.int .i64 0,.slice none 0 0,.slice none 0 0] 155)) (.cells #[.slice (some ⟨g,o,none⟩) N2 lV,.int .i64 0,.slice none 0 0,.slice none 0 0] 155);have xa:=(B.au.new w2 #[.slice mF N1 mE,.int .i64 0,.slice none 0 0,.slice none 0 0] 155).below qb;have xb:=B.au.new (w2.alloc (.cells #[.slice mF N1 mE,.int .i64 0,.slice none 0 0,.slice none 0 0] 155)) #[.slice (some ⟨g,o,none⟩) N2 lV,.int .i64 0,.slice none 0 0,.slice none 0 0] 155;have sa:(w2.alloc (.cells #[.slice mF N1 mE,.int .i64 0,.slice none 0 0,.slice none 0 0] 155)).heap.size=w2.heap.size+1:=by simp
     rw [sa] at xb;have E3:Hid (ym w ⟨n.ps.take i,0,[],[]⟩ k ⟨n.ps.drop i,0,[],[]⟩ (.returned (.tuple #[.pointer (some ⟨w2.heap.size,0,none⟩),.string k,.pointer (some ⟨w2.heap.size+1,0,none⟩)])) ((w2.alloc (.cells #[.slice mF N1 mE,.int .i64 0,.slice none 0 0,.slice none 0 0] 155)).alloc (.cells #[.slice (some ⟨g,o,none⟩) N2 lV,.int .i64 0,.slice none 0 0,.slice none 0 0] 155))):=⟨_,_,_,_,_,_,_,_,rfl,⟨xa,(nH.out.below qa).below qb,B.di.nil _,(C.b6.nil _ 0).at,rX.out.1,rX.out.2.1,(fun p hp=>by simp at hp),by simp,by simp⟩,⟨xb,(oL.out.below qa).below qb,B.di.nil _,(C.b6.nil _ 0).at,rX.out.2.2.1,rX.out.2.2.2,(fun p hp=>by simp at hp),by simp,by simp⟩,Below.next (Below.next bH.out qa) qb⟩
     clear qa qb xa xb sa;go_wp2;go_ret3;exact ⟨i,k,v,AP.out,HKV.out,E3.out.drew⟩)
  | (have qa:=ai w2 (.cells #[.slice (some ⟨g,o,none⟩) N2 lV,.int .i64 0,.slice none 0 0,.slice none 0 0] 155)
     have qb:=ai (w2.alloc (.cells #[.slice (some ⟨g,o,none⟩) N2 lV,.int .i64 0,.slice none 0 0,.slice none 0 0] 155)) (.cells #[.slice mF N1 mE,.int .i64 0,.slice none 0 0,.slice none 0 0] 155);have xa:=(B.au.new w2 #[.slice (some ⟨g,o,none⟩) N2 lV,.int .i64 0,.slice none 0 0,.slice none 0 0] 155).below qb;have xb:=B.au.new (w2.alloc (.cells #[.slice (some ⟨g,o,none⟩) N2 lV,.int .i64 0,.slice none 0 0,.slice none 0 0] 155)) #[.slice mF N1 mE,.int .i64 0,.slice none 0 0,.slice none 0 0] 155;have sa:(w2.alloc (.cells #[.slice (some ⟨g,o,none⟩) N2 lV,.int .i64 0,.slice none 0 0,.slice none 0 0] 155)).heap.size=w2.heap.size+1:=by simp
     rw [sa] at xb;have E3:Hid (ym w ⟨n.ps.take i,0,[],[]⟩ k ⟨n.ps.drop i,0,[],[]⟩ (.returned (.tuple #[.pointer (some ⟨w2.heap.size+1,0,none⟩),.string k,.pointer (some ⟨w2.heap.size,0,none⟩)])) ((w2.alloc (.cells #[.slice (some ⟨g,o,none⟩) N2 lV,.int .i64 0,.slice none 0 0,.slice none 0 0] 155)).alloc (.cells #[.slice mF N1 mE,.int .i64 0,.slice none 0 0,.slice none 0 0] 155))):=⟨_,_,_,_,_,_,_,_,rfl,⟨xb,(nH.out.below qa).below qb,B.di.nil _,(C.b6.nil _ 0).at,rX.out.1,rX.out.2.1,(fun p hp=>by simp at hp),by simp,by simp⟩,⟨xa,(oL.out.below qa).below qb,B.di.nil _,(C.b6.nil _ 0).at,rX.out.2.2.1,rX.out.2.2.2,(fun p hp=>by simp at hp),by simp,by simp⟩,Below.next (Below.next bH.out qa) qb⟩
     clear qa qb xa xb sa;go_wp2;go_ret3;exact ⟨i,k,v,AP.out,HKV.out,E3.out.drew⟩)
end T
namespace C
theorem di.take{w:World}{a:Option Addr}{n m cap:Nat}{l:List Lk}(h:di w (.slice a n cap) l)(hm:m≤n):di w (.slice a m cap) (l.take m):=by
 unfold di at *;rw [Bg];exact ni.take h hm
theorem Ya(w:World)(a:Option Addr)(n cap m:Nat)(hm:m≤cap):(Instr.sliceAt 153 (.slice a n cap) none (some (.int .i64 (m:Int))) none).run prog w = .ok (.slice a m cap) w:=by
 rw [run_sliceAt_slice (h:=underlying153),run_slice_h (ht:=underlying153) (h0:=by omega) (h2:=by omega)]
 have hz:(sizeOf (prog.elem 153)).run prog w = .ok 1 w:=by kernel_rfl
 rw [hz];simp [Result.andThen,sliced,Addr.add]
theorem di.drop{w:World}{a:Option Addr}{n m cap:Nat}{l:List Lk}(h:di w (.slice a n cap) l)(hm:m≤n):∃ a',di w (.slice a' (n - m) (cap - m)) (l.drop m)∧∀ w',(Instr.sliceAt 153 (.slice a n cap) (some (.int .i64 (m:Int))) none none).run prog w' = .ok (.slice a' (n - m) (cap - m)) w':=by
 obtain ⟨a',eS,he,hle,hn,hc⟩:=h;cases he;have I8:(a8 l).length=l.length:=eb l;refine ⟨if cap=m then a else a.map (·.add m),⟨_,_,by rw [show (a8 (l.drop m)).length=l.length - m by rw [eb,ao],I8],by rw [eb,ao];omega,fun ha=>?_,fun j u hj=>?_⟩,fun w'=>?_⟩
 ·split at ha
  ·omega
  ·cases a with
   | none=>have:=hn rfl;omega
   | some x=>cases ha
 ·rw [Oy,dk] at hj;have bN:=(List.getElem?_eq_some_iff.1 hj).1;obtain ⟨g,o,ha,h1⟩:=hc (m+j) u hj;subst ha;refine ⟨g,o+m,?_,?_⟩
  ·rw [if_neg (show ¬ cap=m by omega)];simp [bz]
  ·rw [show o+m+j=o+(m+j) by omega];exact h1
 ·rw [run_sliceAt_slice (h:=underlying153),run_slice_l (ht:=underlying153) (h0:=by omega) (h1:=by omega)]
  have hz:(sizeOf (prog.elem 153)).run prog w' = .ok 1 w':=by kernel_rfl
  rw [hz];simp [Result.andThen,sliced]
end C
namespace B
theorem F4(B g o n cap p:Nat)(a b x:Int)(w:World)(hB:w.cell? ⟨B,0,none⟩=some (.slice (some ⟨g,o,none⟩) n cap))(hp:p<n)(hx:w.cell? ⟨g,o+p,none⟩=some (.int .i64 x))(ha:0≤a∧a≤1152921504606846976)(hb:0≤b - x∧b - x≤1152921504606846976):Calls prog 238 #[.int .i64 (p:Int),.int .i64 a,.int .i64 b,.pointer (some ⟨B,0,none⟩)] w fun e w'=>e = .returned (.int .i64 ((a - (b - x)).natAbs:Int))∧w=w':=by
 have HD:=ab (Ew a (b - x) w ha hb);have hw:IntKind.i64.wrap (b - x)=b - x:=oN _ (by omega) (by omega)
 have hpi:(p:Int)<(n:Int):=by omega
 clear ha hb;go_enter func238,ntmps238;go_wp2_with (go_at_call 237;refine HD.out.mono ?_;rintro e w' ⟨rfl,rfl⟩)
 go_ret;exact ⟨rfl,rfl⟩
theorem Ly(A:Nat→Addr)(B g o cap m n:Nat)(l:List Int)(w:World)(Zk:n≤17592186044416)(fK:1≤m)(hn:n=m+2)(e1:l.length=n)(dd:n≤cap)(hE:dA 4 eR A w)(h1:∀ j (h:j<l.length),w.cell? ⟨g,o+j,none⟩=some (.int .i64 l[j]))(hB:w.cell? ⟨B,0,none⟩=some (.slice (some ⟨g,o,none⟩) n cap)):Calls prog 235 #[.slice (some ⟨g,o,none⟩) n cap,.int .i64 3,.func (.func 238) #[] #[.pointer (some ⟨B,0,none⟩)]] w fun e w'=>((ie l∧∃ i:Nat,e = .returned (.tuple #[.int .i64 (i:Int),.nilIface])∧dm (jh l) m i)∨(¬ ie l∧e = .returned (.tuple #[.int .i64 0,.iface 360 (.pointer (some (A 0)))])))∧Below w.heap.size w w':=by
 have c0:w.cell? ⟨0,0,none⟩=some (.iface 360 (.pointer (some (A 0)))):=(hE.1 0 (by decide)).1
 have HS:=ab (Iq (some ⟨g,o,none⟩) cap n l w (by omega) e1 (fun j h=>⟨g,o,rfl,h1 j h⟩))
 have hm:m≤17592186044416:=by omega
 have HE:Hid (l.length=n):=e1;have HN:Hid (n=m+2):=hn;have H1:=ab h1;have QO:=ab (gL l);have HB:=ab hB;have hnI:(n:Int)=(m:Int)+2:=by omega
 have uP:IntKind.i64.wrap ((n:Int) - 3)=(m:Int) - 1:=by rw [IntKind.wrap_i64];omega
 have qp:IntKind.i64.wrap ((m:Int) - 1+1)=(m:Int):=by rw [IntKind.wrap_i64];omega
 have bN:¬ (n:Int)<3:=by omega
 have hmc:(m:Int)≤(cap:Int):=by omega
 have Zn:(0:Int)≤(m:Int):=by omega
 clear e1 hn h1 hE hnI Zk hB;by_cases hF:ie l
 ·have HT:=ab (gU hF n (by have:=HE.out;omega))
  have HF:=ab hF;have mI:Hid (Calls prog 254 #[.slice (some ⟨g,o,none⟩) n cap] w fun e w'=>e = .returned (.tuple #[.int .i64 (pre l n),.bool true])∧w=w'):=by
   refine HS.out.mono ?_
   rintro e w' ⟨h | h,rfl⟩
   ·exact ⟨h.2,rfl⟩
   ·exact absurd hF h.1
  obtain ⟨T,hT⟩ : ∃ T,T=pre l n:=⟨_,rfl⟩;rw [← hT] at mI HT;have UZ:=ab hT;clear hT HS c0 hF;go_enter func235,ntmps235;go_wp2_with (go_at_call 254;refine mI.out.mono ?_;rintro e w' ⟨rfl,rfl⟩)
  go_loop [8,10,11,12,38] (fun re be le ah i=>∃ (k lO:Nat) (least:Int),k≤m∧i = .int .i64 k∧re = .int .i64 (T - pre l k)∧be = .int .i64 (lO:Int)∧le = .int .i64 least∧ah = .int .i64 (pre l k)∧((k=0∧lO=0∧least=T)∨(1≤k∧dm (jh l) k lO∧least=jh l lO))) (fun _ _ _ _ i=>m - (intOf i).toNat)
  case atStart=>exact ⟨0,0,T,aD _,rfl,by rw [QO.out,Int.sub_zero],rfl,rfl,by rw [QO.out],.inl ⟨rfl,rfl,rfl⟩⟩
  case round =>
   obtain ⟨k,lO,least,hk,rfl,rfl,rfl,rfl,rfl,fj⟩:=hrel;have gS:=ab fj;clear fj;by_cases hltk:k<m
   ·have jv:k<l.length:=by have:=HE.out;have:=HN.out;omega
    have f1:=H1.out k jv;have sr:=ab (iZ l k jv);have HPB:=ab (gU HF.out k (by omega))
    have BW:=ab (gU HF.out (k+1) (by omega))
    have WM:=ab (gh HF.out (k+1) n (by have:=HE.out;have:=HN.out;omega) (by have:=HE.out;omega))
    obtain ⟨x,hx⟩ : ∃ x,x=l[k]:=⟨_,rfl⟩;rw [← hx] at f1 sr;obtain ⟨p,hp⟩ : ∃ p,p=pre l k:=⟨_,rfl⟩;rw [← hp] at HPB sr ⊢;obtain ⟨q,hq⟩ : ∃ q,q=pre l (k+1):=⟨_,rfl⟩;rw [← hq] at BW sr WM;rw [← UZ.out] at WM;have HQ:=ab hq;have Va:Hid ((k:Int)≤17592186044416∧4072*((k:Int)+1)≤72057594037927936):=⟨by omega,by omega⟩
    have TS:Hid (0≤q∧q≤1152921504606846976):=⟨BW.out.1,by have:=BW.out.2;have:=Va.out;omega⟩
    have Cg:Hid (0≤T - q∧T - q≤1152921504606846976):=⟨by have:=WM.out;omega,by have:=HT.out.2;have:=BW.out.1;have:=HN.out;omega⟩
    have vw:IntKind.i64.wrap (p+x)=q:=by rw [← sr.out];exact oN _ TS.out.1 (by have:=TS.out;omega)
    have Q6:IntKind.i64.wrap (T - p - x)=T - q:=by rw [show T - p - x=T - q by have:=sr.out;omega];exact oN _ Cg.out.1 (by have:=Cg.out;omega)
    have MC:IntKind.i64.wrap ((k:Int)+1)=((k+1:Nat):Int):=by rw [IntKind.wrap_i64];omega
    have qM:k+1<l.length:=by have:=HE.out;have:=HN.out;omega
    have aaK:=ab (gh HF.out (k+1+1) n (by have:=HE.out;have:=HN.out;omega) (by have:=HE.out;omega))
    have WG:=ab (iZ l (k+1) qM);have HY:=ab (HF.out (k+1) qM);rw [← UZ.out] at aaK;rw [← HQ.out] at WG;have Xa:Hid (Calls prog 238 #[.int .i64 ((k+1:Nat):Int),.int .i64 q,.int .i64 (T - q),.pointer (some ⟨B,0,none⟩)] w fun e w'=>e = .returned (.int .i64 ((jh l (k+1):Nat):Int))∧w=w'):=by
     have h:=F4 B g o n cap (k+1) q (T - q) l[k+1] w HB.out (by have:=HE.out;omega) (H1.out (k+1) qM) TS.out ⟨by have:=aaK.out;have:=WG.out;omega,by have:=Cg.out;have:=HY.out;omega⟩
     have e:jh l (k+1)=(q - (T - q - l[k+1])).natAbs:=by unfold jh;rw [HE.out,← UZ.out,WG.out,← HQ.out];congr 1;omega
     rw [e];exact h
    have WW:=ab (S9 HF.out (k+1) (by omega) (by have:=HE.out;have:=HN.out;omega))
    rw [HE.out,← UZ.out] at WW;obtain ⟨gp,V7⟩ : ∃ gp:Nat,gp=jh l (k+1):=⟨_,rfl⟩;rw [← V7] at Xa WW;have WV:=ab V7;have dP:(k:Int)<(m:Int):=by omega
    clear hx hp hq V7 H1 QO mI;by_cases hless:(gp:Int)<least
    ·have WK:Hid (dm (jh l) (k+1) (k+1)):=by
      rcases gS.out with ⟨rfl,_,_⟩ | ⟨_,hb,he⟩
      ·exact dm.one _
      ·exact hb.Iu (by rw [← WV.out];omega)
     clear gS;go_wp2_with (go_at_call 238;refine (Xa.out).mono ?_;rintro e w' ⟨rfl,rfl⟩)
     go_round
     case rel=>exact ⟨k+1,k+1,gp,by omega,rfl,by rw [← HQ.out],rfl,rfl,by rw [← HQ.out],.inr ⟨by omega,WK.out,by rw [WV.out]⟩⟩
     case measure=>simp [intOf];omega
    ·have BX:Hid (1≤k+1∧dm (jh l) (k+1) lO∧least=jh l lO):=by
      rcases gS.out with ⟨_,_,rfl⟩ | ⟨_,hb,he⟩
      ·exact absurd WW.out hless
      ·exact ⟨by omega,hb.It (by rw [← WV.out];omega),he⟩
     clear gS;go_wp2_with (go_at_call 238;refine (Xa.out).mono ?_;rintro e w' ⟨rfl,rfl⟩)
     go_round
     case rel=>exact ⟨k+1,lO,least,by omega,rfl,by rw [← HQ.out],rfl,rfl,by rw [← HQ.out],.inr BX.out⟩
     case measure=>simp [intOf];omega
   ·have K5:k=m:=by omega
    have nI:Hid (dm (jh l) m lO):=by
     rcases gS.out with ⟨h0,_,_⟩ | ⟨_,hb,_⟩
     ·omega
     ·rw [← K5];exact hb
    subst K5;obtain ⟨p,hp⟩ : ∃ p,p=pre l k:=⟨_,rfl⟩;rw [← hp];clear hp gS H1 mI QO;go_wp2;go_ret2;exact ⟨.inl ⟨HF.out,lO,rfl,nI.out⟩,Below.refl _ _⟩
 ·have mI:Hid (Calls prog 254 #[.slice (some ⟨g,o,none⟩) n cap] w fun e w'=>e = .returned (.tuple #[.int .i64 0,.bool false])∧w=w'):=by
   refine HS.out.mono ?_
   rintro e w' ⟨h | h,rfl⟩
   ·exact absurd h.1 hF
   ·exact ⟨h.2,rfl⟩
  have HF:=ab hF;clear HS hF H1 QO;go_enter func235,ntmps235;go_wp2_with (go_at_call 254;refine mI.out.mono ?_;rintro e w' ⟨rfl,rfl⟩)
  go_quiet (fail)
  go_wp2;go_ret2;exact ⟨.inr ⟨HF.out,rfl⟩,aA (Below.refl _ _) _⟩
theorem G5{n:Nat}{G:Nat→Nat}{A:Nat→Addr}{w w':World}(h:dA n G A w)(hb:Below w.heap.size w w'):dA n G A w':=dA.keep h hb
theorem Kj(A:Nat→Addr)(v:Value)(l:List Int)(w:World)(hm:l.length≤17592186044416)(hr:EX w v l)(hE:dA 4 eR A w):Calls prog 213 #[v] w fun e w'=>Mx A 3 (jh l) l e∧Below w.heap.size w w':=by
 have K3:∀ (fn:Fn) (first cap:Array Value) (w:World),(Instr.makeFunc fn first cap).run prog w = .ok (.func fn first cap) w:=fun _ _ _ _=>rfl
 have eU:=ai w (.cells #[v] 69);have iG:=hr.below eU;obtain ⟨a,cap,rfl,dd,_⟩:=hr;obtain ⟨a',eS,SE,_,hc⟩:=iG;cases SE;have hE2:=G5 hE eU;have hB:(w.alloc (.cells #[.slice a l.length cap] 69)).cell? ⟨w.heap.size,0,none⟩=some (.slice a l.length cap):=(bL w #[.slice a l.length cap] 69).2 0 (by simp)
 have B0:=ab eU;have H:Hid (Calls prog 235 #[.slice a l.length cap,.int .i64 3,.func (.func 238) #[] #[.pointer (some ⟨w.heap.size,0,none⟩)]] (w.alloc (.cells #[.slice a l.length cap] 69)) fun e w'=>∃ x y,e = .returned (.tuple #[x,y])∧Mx A 3 (jh l) l (.returned (.tuple #[x,y]))∧Below (w.alloc (.cells #[.slice a l.length cap] 69)).heap.size (w.alloc (.cells #[.slice a l.length cap] 69)) w'):=by
  by_cases hs:l.length<3
  ·refine (Az A a l.length cap 3 _ _ (by omega) hm hE2).mono ?_
   rintro e w' ⟨rfl,hb⟩;exact ⟨_,_,rfl,.inl ⟨hs,rfl⟩,hb⟩
  ·obtain ⟨g,o,rfl,_⟩:=hc 0 (by omega)
   refine (Ly A w.heap.size g o cap (l.length - 2) l.length l _ hm (by omega) (by omega) rfl dd hE2 (fun j h=>by obtain ⟨g',o',he,bh⟩:=hc j h;cases he;exact bh) hB).mono ?_
   rintro e w' ⟨⟨hf,i,rfl,hi⟩ | ⟨hf,rfl⟩,hb⟩
   ·exact ⟨_,_,rfl,.inr (.inr ⟨by omega,hf,i,rfl,hi⟩),hb⟩
   ·exact ⟨_,_,rfl,.inr (.inl ⟨by omega,hf,rfl⟩),hb⟩
 clear hc hE dd hE2 eU;go_enter func213,ntmps213;go_wp2_with (go_at_call 235;refine H.out.mono ?_;rintro e w' ⟨x,y,rfl,hv,hb⟩;have HV:=ab hv;have mJ:=ab (Below.next B0.out hb);clear hv hb)
 go_ret2;exact ⟨HV.out,mJ.out⟩
end B
end Go.Proofs.YtihmgigfkmofnaaGreatDoor
