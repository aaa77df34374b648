import Derived.Test.YtihmgigfkmofnaaGreatDoorG06
set_option maxHeartbeats 4000000
set_option maxRecDepth 20000
open Go.Proofs.Tryz
namespace Go.Proofs.YtihmgigfkmofnaaGreatDoor
open Go.RowKit
theorem Kq(w:World)(a:Option Addr)(n cap m:Nat)(hm:m≤cap):(Instr.sliceAt 63 (.slice a n cap) none (some (.int .i64 (m:Int))) none).run prog w = .ok (.slice a m cap) w:=by
 rw [run_sliceAt_slice (h:=underlying63),run_slice_h (ht:=underlying63) (h0:=by omega) (h2:=by omega)]
 have hz:(sizeOf (prog.elem 63)).run prog w = .ok 2 w:=by kernel_rfl
 rw [hz];simp [Result.andThen,sliced,Addr.add]
theorem gM.drop{w:World}{a:Option Addr}{n m cap:Nat}{l:List Pr}(h:gM w (.slice a n cap) l)(hm:m≤n):∃ a',gM w (.slice a' (n - m) (cap - m)) (l.drop m)∧∀ w',(Instr.sliceAt 63 (.slice a n cap) (some (.int .i64 (m:Int))) none none).run prog w' = .ok (.slice a' (n - m) (cap - m)) w':=by
 obtain ⟨a',eY,he,hle,hn,hc⟩:=h;cases he;refine ⟨if cap=m then a else a.map (·.add (m*2)),⟨_,_,by rw [ao],by rw [ao];omega,fun ha=>?_,fun j hj=>?_⟩,fun w'=>?_⟩
 ·split at ha
  ·omega
  ·cases a with
   | none=>have:=hn rfl;omega
   | some x=>cases ha
 ·rw [ao] at hj;obtain ⟨g,o,ha,h1,h2⟩:=hc (m+j) (by omega)
  subst ha;refine ⟨g,o+m*2,?_,?_,?_⟩
  ·rw [if_neg (by omega)];simp [bt]
  ·rw [cV,show o+m*2+j*2=o+(m+j)*2 by omega];exact h1
  ·rw [cV,show o+m*2+j*2+1=o+(m+j)*2+1 by omega];exact h2
 ·rw [run_sliceAt_slice (h:=underlying63),run_slice_l (ht:=underlying63) (h0:=by omega) (h1:=by omega)]
  have hz:(sizeOf (prog.elem 63)).run prog w' = .ok 2 w':=by kernel_rfl
  rw [hz];simp [Result.andThen,sliced]
theorem DR(v:Value)(l:List Pr)(key value:ByteArray)(w:World)(hm:l.length≤4398046511000)(hr:gM w v l):Calls prog 48 #[v,.string key,.string value] w fun e w'=>∃ u,e = .returned u∧ir w' w.heap.size u (fu l key value)∧Below w.heap.size w w':=by
 have HF:=ab (iT v l key w (by omega) hr)
 have HR:=ab hr;obtain ⟨a,cap,hv⟩:=hr.form;subst hv;have gU:=cD l key;have jz:=jQ l key;have Tr:=eW l key;have cT:l.length≤cap:=by obtain ⟨_,_,he,h,_⟩:=hr;cases he;exact h
 obtain ⟨q,hq⟩ : ∃ q,q=aP l key:=⟨_,rfl⟩;obtain ⟨r,vh⟩ : ∃ r,r=dd l key:=⟨_,rfl⟩;obtain ⟨fb,EA⟩ : ∃ fb,fb=bg l key:=⟨_,rfl⟩;have tu:(if fb then q+1 else q:Nat)=r:=by rw [vh,hq,EA];rfl
 have JT:=ab (fun W=>yE q fb W (by omega))
 rw [tu] at JT;rw [← hq,← EA] at HF;rw [← hq] at gU;rw [← vh] at jz;rw [← hq,← vh] at Tr;obtain ⟨a2,iF,qC⟩:=hr.drop jz;have vg:=fun W=>Kq W a l.length cap q (by omega)
 have nT:=ab (hr.take gU);have oT:=ab iF;have HL:Hid (fu l key value=[l.take q,[(key,value)],l.drop r].flatten):=by show _=_;unfold fu;rw [← hq,← vh];simp
 clear hr iF hq vh EA tu;go_enter func48,ntmps48;go_wp2_with fail;refine HF.out.mono ?_
 rintro e w1 ⟨rfl,aM⟩;have bN:=ab aM;clear aM HF;have yZ:Hid (∀ W,Below ((w1.alloc (.cells #[.string key,.string value] 52)).alloc (.cells #[.slice a q cap,.slice (some ⟨w1.heap.size,0,none⟩) 1 1,.slice a2 (l.length - r) (cap - r)] 63)).heap.size ((w1.alloc (.cells #[.string key,.string value] 52)).alloc (.cells #[.slice a q cap,.slice (some ⟨w1.heap.size,0,none⟩) 1 1,.slice a2 (l.length - r) (cap - r)] 63)) W→Calls prog 84 #[.slice (some ⟨w1.heap.size+1,0,none⟩) 3 3] W fun e w'=>∃ u,e = .returned u∧ir w' w.heap.size u (fu l key value)∧Below w.heap.size w w'):=fun W hW=>by
  have hbA:=ai w1 (.cells #[.string key,.string value] 52);have hsA:(w1.alloc (.cells #[.string key,.string value] 52)).heap.size=w1.heap.size+1:=by simp
  have adr:=BA w1 (key,value) 52;generalize w1.alloc (.cells #[.string key,.string value] 52)=WA at *;have hbB:=ai WA (.cells #[.slice a q cap,.slice (some ⟨w1.heap.size,0,none⟩) 1 1,.slice a2 (l.length - r) (cap - r)] 63);have hBx:=(bM WA #[.slice a q cap,.slice (some ⟨w1.heap.size,0,none⟩) 1 1,.slice a2 (l.length - r) (cap - r)] 63).below hW;rw [hsA] at hBx;have TN:=Below.next (Below.next bN.out hbA) (Below.next hbB hW);rw [HL.out];refine (qK (w1.heap.size+1) 3 3 [.slice a q cap,.slice (some ⟨w1.heap.size,0,none⟩) 1 1,.slice a2 (l.length - r) (cap - r)] [l.take q,[(key,value)],l.drop r] W rfl (by decide) rfl ?_ (fun j h=>hBx.2 j h) ?_).mono ?_
  ·simp;omega
  ·intro j h h';have hj:j<3:=h;match j,hj with
   | 0,_=>exact nT.out.below TN
   | 1,_=>exact adr.below (Below.next hbB hW)
   | 2,_=>exact oT.out.below TN
  ·rintro e w' ⟨u,rfl,ho,hb⟩;exact ⟨u,rfl,ho.mono TN.size,Below.next TN hb⟩
 clear HR nT oT HL bN;go_wp2_with fail;go_region_held3 (fun w'=>True) (go_keep)
  (first
   | (go_at_call 85;refine (JT.out _).mono ?_;rintro e w2 ⟨rfl,rfl⟩)
   | (go_at_call 84;refine (yZ.out _ ?_).mono ?_;(exact (Below.refl _ _).drew);rintro e w3 ⟨u,rfl,ho,hb⟩;have HO:=ab ho;have HB:=ab hb;clear ho hb))
 all_goals
  clear yZ JT vg qC;go_wp2;go_ret;exact ⟨_,rfl,HO.out,HB.out⟩
theorem AB(v:Value)(l:List Pr)(key:ByteArray)(w:World)(hm:l.length≤4398046511000)(hr:gM w v l):Calls prog 51 #[v,.string key] w fun e w'=>∃ u,e = .returned (.tuple #[u,.bool (bg l key)])∧ir w' w.heap.size u (fX l key)∧Below w.heap.size w w':=by
 have HF:=ab (iT v l key w (by omega) hr)
 have HR:=ab hr;obtain ⟨a,cap,hv⟩:=hr.form;subst hv;have gU:=cD l key;have jz:=jQ l key;have Tr:=eW l key;have cT:l.length≤cap:=by obtain ⟨_,_,he,h,_⟩:=hr;cases he;exact h
 obtain ⟨q,hq⟩ : ∃ q,q=aP l key:=⟨_,rfl⟩;obtain ⟨r,vh⟩ : ∃ r,r=dd l key:=⟨_,rfl⟩;obtain ⟨fb,EA⟩ : ∃ fb,fb=bg l key:=⟨_,rfl⟩;have tu:(if fb then q+1 else q:Nat)=r:=by rw [vh,hq,EA];rfl
 have JT:=ab (fun W=>yE q fb W (by omega))
 rw [tu] at JT;rw [← hq,← EA] at HF;rw [← EA];rw [← hq] at gU;rw [← vh] at jz;rw [← hq,← vh] at Tr;obtain ⟨a2,iF,qC⟩:=hr.drop jz;have vg:=fun W=>Kq W a l.length cap q (by omega)
 have nT:=ab (hr.take gU);have oT:=ab iF;have HL:Hid (fX l key=[l.take q,l.drop r].flatten):=by show _=_;unfold fX;rw [← hq,← vh];simp
 clear hr iF hq vh EA tu;go_enter func51,ntmps51;go_wp2_with fail;refine HF.out.mono ?_
 rintro e w1 ⟨rfl,aM⟩;have bN:=ab aM;clear aM HF;have yZ:Hid (∀ W,Below (w1.alloc (.cells #[.slice a q cap,.slice a2 (l.length - r) (cap - r)] 63)).heap.size (w1.alloc (.cells #[.slice a q cap,.slice a2 (l.length - r) (cap - r)] 63)) W→Calls prog 84 #[.slice (some ⟨w1.heap.size,0,none⟩) 2 2] W fun e w'=>∃ u,e = .returned u∧ir w' w.heap.size u (fX l key)∧Below w.heap.size w w'):=fun W hW=>by
  have hbB:=ai w1 (.cells #[.slice a q cap,.slice a2 (l.length - r) (cap - r)] 63);have hBx:=(bM w1 #[.slice a q cap,.slice a2 (l.length - r) (cap - r)] 63).below hW;have TN:=Below.next bN.out (Below.next hbB hW);rw [HL.out];refine (qK w1.heap.size 2 2 [.slice a q cap,.slice a2 (l.length - r) (cap - r)] [l.take q,l.drop r] W rfl (by decide) rfl ?_ (fun j h=>hBx.2 j h) ?_).mono ?_
  ·simp;omega
  ·intro j h h';have hj:j<2:=h;match j,hj with
   | 0,_=>exact nT.out.below TN
   | 1,_=>exact oT.out.below TN
  ·rintro e w' ⟨u,rfl,ho,hb⟩;exact ⟨u,rfl,ho.mono TN.size,Below.next TN hb⟩
 clear HR nT oT HL bN;go_wp2_with fail;go_region_held3 (fun w'=>True) (go_keep)
  (first
   | (go_at_call 85;refine (JT.out _).mono ?_;rintro e w2 ⟨rfl,rfl⟩)
   | (go_at_call 84;refine (yZ.out _ ?_).mono ?_;(exact (Below.refl _ _).drew);rintro e w3 ⟨u,rfl,ho,hb⟩;have HO:=ab ho;have HB:=ab hb;clear ho hb))
 all_goals
  clear yZ JT vg qC;go_wp2;go_ret2;exact ⟨_,rfl,HO.out,HB.out⟩
def Cn(l:List Pr):List Int:=l.map fun p=>(z6 p:Int)
theorem vC(l:List Pr):(Cn l).length=l.length:=by simp [Cn]
theorem zg(l:List Pr)(k:Nat)(h:k<l.length):Cn (l.take (k+1))=Cn (l.take k)++[(z6 l[k] : Int)]:=by
 unfold Cn;rw [ax h,bz];rfl
def wM(l:List Pr)(k:Nat):List Value:=ints (Cn (l.take k))++List.replicate (l.length - k) (.int .i64 0)
theorem NN(l:List Pr)(k:Nat)(h:k<l.length):(wM l k).set k (.int .i64 (z6 l[k] : Int))=wM l (k+1):=by
 have hl:(ints (Cn (l.take k))).length=k:=by rw [j9,vC,ag];omega
 unfold wM;rw [bW _ _ (by omega),hl,dR,zg l k h,oC,show l.length - k=l.length - (k+1)+1 by omega,List.replicate_succ,List.set_cons_zero,ay]
 rfl
theorem NO(l:List Pr)(k:Nat)(h:k≤l.length):(wM l k).length=l.length:=by
 unfold wM;rw [ae,j9,vC,ag,bA];omega
theorem Ki(l:List Pr):wM l 0=List.replicate l.length (.int .i64 0):=by simp [wM,ints,Cn]
theorem NP(l:List Pr):wM l l.length=ints (Cn l):=by simp [wM]
theorem iR{w w':World}{base e n:Nat}{v:Value}{xs:List Value}(h:w.ownsRow base e 1 v n xs)(hb:Below w.heap.size w w'):w'.ownsRow base e 1 v n xs:=by
 refine ⟨h.1,?_⟩;rcases h.2 with h' | ⟨g,cap,cur,h',h1,h2,hr⟩
 ·exact .inl h'
 ·refine .inr ⟨g,cap,cur,h',h1,?_,hr⟩;have hg:g<w.heap.size:=by
   rcases a8 g w.heap.size with h' | h'
   ·exact h'
   ·rw [aY h'] at h2;cases h2
  rw [hb.block g hg];exact h2
theorem Da(v:Value)(l:List Pr)(w:World)(cO:Un l)(hm:l.length≤4398046511104)(hr:gM w v l):Calls prog 211 #[v] w fun e w'=>∃ u,e = .returned u∧Fo w' u (Cn l)∧Below w.heap.size w w':=by
 obtain ⟨i0,hi,hz,b8,kP⟩:=info_parts info3;obtain ⟨a,cap,rfl,cT,_,hc⟩:=hr;have HC:=ab hc;have pF:=ab cO;obtain ⟨wm,oG,fV,oH⟩:=run_make_full (P:=prog) w w.heap.size 69 3 i0 _ 1 underlying69 hi hz b8 .i64 .i64 l.length (by rw [kP];omega) (by unfold maxLen;omega) (aj _)
 have mV:(madeCells (Value.int .i64 0).cells (l.length*1)).toList=wM l 0:=by
  rw [Ki,Nat.mul_one];exact toList_madeCells_one _ _
 rw [mV] at fV;have Cu:Below w.heap.size w wm:=(Below.refl _ _).grown oH (aj _) (fun j hj=>by cases hj)
 obtain ⟨n,hn⟩ : ∃ n,n=l.length:=⟨_,rfl⟩;obtain ⟨b,hb⟩ : ∃ b,b=w.heap.size:=⟨_,rfl⟩;rw [← hn] at hm oG fV ⊢;rw [← hb] at oG fV;have HN:=ab hn;have HB:=ab hb;have HO:=ab fV;have JS:=ab Cu;clear hc hn cT cO hb fV Cu oH hi hz b8 kP mV;go_enter func211,ntmps211;go_wp2;clear oG;go_loopw [11] (fun i wr=>∃ k:Nat,k≤n∧i = .int .i64 k∧wr.ownsRow b 3 1 (.slice (some ⟨b,0,none⟩) n n) n (wM l k)∧Below w.heap.size w wr) (fun i _=>n - (intOf i).toNat)
 case atStart=>exact ⟨0,aB _,rfl,HO.out,JS.out⟩
 case round =>
  obtain ⟨k,hk,rfl,aF,bO⟩:=hrel;clear HO JS;by_cases bK:k<n
  ·have de:k<l.length:=by have:=HN.out;omega
   obtain ⟨g,o,rfl,f1,f2⟩:=HC.out k de;have c1:wr.cell? ⟨g,o+k*2,none⟩=some (.string l[k].1):=(bO.cell (p:=⟨g,o+k*2,none⟩) (World.block_lt_of_cell? w _ f1)).trans f1;have c2:wr.cell? ⟨g,o+k*2+1,none⟩=some (.string l[k].2):=(bO.cell (p:=⟨g,o+k*2+1,none⟩) (World.block_lt_of_cell? w _ f2)).trans f2;have AQ:=pF.out l[k] (aI _);have iC:=ab (NN l k de);have fi:=ai wr (.cells #[.string l[k].1,.string l[k].2] 52);have qV:=ab (iR aF fi);have bN:=ab (Below.next bO fi);have HZ:=ab (fun W=>uk l[k] W AQ.1 AQ.2)
   obtain ⟨p,hp⟩ : ∃ p,p=l[k]:=⟨_,rfl⟩;rw [← hp] at c1 c2 iC qV bN HZ;have kQ:=ab (NO l k (by omega))
   have dK:(k:Int)<(n:Int):=by omega
   have j0:(0:Int)≤(k:Int):=by omega
   clear hp HC f1 f2 bO aF AQ fi;go_wp2_with fail;refine (HZ.out _).mono ?_
   rintro e w1 ⟨rfl,aM⟩;have kI:=iR qV.out aM;have q1:∃ u,w1.cell? ⟨b,k,none⟩=some u:=by
    rw [World.ownsRow.cellAt kI k (by omega)]
    exact ⟨_,af (by rw [kQ.out];exact de)⟩
   obtain ⟨u,q1⟩:=q1;have z1:w1.frozen? ⟨b,k,none⟩=false:=World.ownsRow.frozenAt kI k;obtain ⟨z,hz⟩ : ∃ z,z=z6 p:=⟨_,rfl⟩;rw [← hz] at iC ⊢;have eK:=(World.ownsRow.stored kI k (.int .i64 (z:Int))).1;rw [iC.out] at eK;have jE:=ab eK;have bG:Hid (Below w.heap.size w (w1.setCell ⟨b,k,none⟩ (.int .i64 (z:Int)))):=(Below.next bN.out aM).setCell (by rw [HB.out];exact aj _) _
   clear aM bN HZ c1 c2 kI eK hz iC qV;go_wp2;go_roundw
   case rel=>exact ⟨k+1,by omega,by go_num,jE.out,bG.out⟩
   case measure=>simp [intOf];omega
  ·have nU:k=l.length:=by have:=HN.out;omega
   rw [nU,NP] at aF;have HI:=ab (gd aF).ints;have jW:=ab bO;have dK:¬ (k:Int)<(n:Int):=by have:=HN.out;omega
   have VG:=ab nU;clear HC bO aF nU;go_wp2;go_ret;exact ⟨_,rfl,HI.out,jW.out⟩
theorem yy(ad:Addr)(n cap:Nat)(l:List Pr)(w:World)(hm:l.length≤4398046511104)(hn:l.length=n)(hr:gM w (.slice (some ad) n cap) l):Calls prog 212 #[.slice (some ad) n cap] w fun e w'=>∃ u,e = .returned u∧ir w' w.heap.size u l∧Below w.heap.size w w':=by
 have qD:∀ w,(binOp .eql 63 (.slice (some ad) n cap) (.slice none 0 0)).run prog w = .ok (.bool false) w:=fun w=>by
  have h2:∀ d:Nat,(Op.equalIn (d+1) 63 (.slice (some ad) n cap) (.slice none 0 0)).run prog w = .ok false w:=fun d=>by
   simp [Op.equalIn,run_underlying underlying63]
  simp only [binOp];simp [Op.equal,Op.maxDepth,h2 9999]
 have fi:=ai w (.cells #[] 52);have ho:ir (w.alloc (.cells #[] 52)) w.heap.size (.slice (some ⟨w.heap.size,0,none⟩) 0 0) []:=World.ownsRow_lit w #[] 0 (aj _) (aB _) rfl;obtain ⟨a1,c1,w1,bq,aF,hg⟩:=gW w.heap.size _ _ [] l _ ho (hr.below fi) (by simp;omega) (by simp)
 rw [List.length_nil,Nat.zero_add,hn] at bq aF;rw [List.nil_append] at aF;have aM:Below w.heap.size w w1:=fi.grown hg (by simp) (fun k hk=>by simp [Value.ownBlock] at hk;omega)
 have HO:=ab aF;have HB:=ab aM;clear hr fi ho aF hg aM;go_enter func212,ntmps212;go_wp2_with (first | (at_builtin;refine wpList_append_run 63 rfl (.tmp 5) (.tmp 6) rfl rfl _ _ rfl rfl _ _ bq ?_))
 clear bq;go_ret;exact ⟨_,rfl,HO.out,HB.out⟩
def aaY(A:Nat→Addr)(base:Nat)(l:List Pr)(e:Ending)(w:World):Prop :=
 ∃ (i c:Nat) (u1 u2 ev:Value),e = .returned (.tuple #[u1,u2,ev])∧It 2 (jr (Cn l)) (Cn l) i c∧yM A ev c ∧
  ((c=0∧ir w base u1 (l.take i)∧ir w base u2 (l.drop i)∧∀ k,u1.ownBlock=some k→u2.ownBlock≠some k)∨(c≠0∧u1 = .slice none 0 0∧u2 = .slice none 0 0))
theorem It.bound{l:List Int}{i:Nat}(h:It 2 (jr l) l i 0):1≤i∧i+1≤l.length:=by
 rcases h with ⟨_,_,h⟩ | ⟨_,_,_,h⟩ | ⟨h1,_,h2,_⟩
 ·omega
 ·omega
 ·have:=h2.1;omega
theorem Iy{a b:World}(h:Below a.drew.heap.size a.drew b):Below a.heap.size a b:=⟨h.os,h.tape,h.output,h.size,h.block⟩
theorem mr{A:Nat→Addr}{ev:Value}(h:yM A ev 0):ev = .nilIface:=by
 rcases h with ⟨h,_⟩ | ⟨_,h⟩ | ⟨_,h⟩ | ⟨_,h⟩ | ⟨_,h⟩
 ·exact h
 all_goals omega
theorem sX{A:Nat→Addr}{ev:Value}{c:Nat}(h:yM A ev c)(hc:c≠0):∃ k,ev = .iface 360 (.pointer (some (A k))):=by
 rcases h with ⟨_,h⟩ | ⟨h,_⟩ | ⟨h,_⟩ | ⟨h,_⟩ | ⟨h,_⟩
 ·omega
 all_goals exact ⟨_,h⟩
theorem Pb(A:Nat→Addr)(v:Value)(l:List Pr)(w:World)(cO:Un l)(hm:l.length≤4398046511104)(hr:gM w v l)(hE:jS A w):Calls prog 169 #[v] w fun e w'=>aaY A w.heap.size l e w'∧Below w.heap.size w w':=by
 have HS:=ab (Da v l w cO hm hr);have HE:=ab hE;have HR:=ab hr;obtain ⟨a,cap,hv⟩:=hr.form;subst hv;have cT:l.length≤cap:=by obtain ⟨_,_,he,h,_⟩:=hr;cases he;exact h
 have HM:=ab hm;clear hr hE hm cO;go_enter func169,ntmps169;go_wp2_with fail;refine HS.out.mono ?_
 rintro e w1 ⟨u,rfl,hint,aM⟩;have HC:=ab (T2 A u (Cn l) w1 (by rw [vC];have:=HM.out;omega) hint (HE.out.below aM).1)
 have bN:=ab aM;clear hint aM HS;go_wp2_with fail;refine HC.out.mono ?_
 rintro e w2 ⟨hv,aS⟩;obtain ⟨i,c,ev,rfl,tp,fQ⟩:=hv.num;have bG:=ab (Below.next bN.out aS);have HCN:=ab tp;have kL:=ab fQ;clear hv aS HC bN;by_cases hc:c=0
 ·subst hc;have BU:=mr fQ;subst BU;obtain ⟨Cs,vm⟩:=tp.bound;rw [vC] at vm;have iF:=HR.out.below bG.out;have Et:∃ ad,a=some ad:=by
   obtain ⟨a',c',he,_,_,tq⟩:=iF;cases he;obtain ⟨g,o,ha,_⟩:=tq 0 (by omega)
   exact ⟨_,ha⟩
  obtain ⟨ad,rfl⟩:=Et;have vg:=fun W=>Kq W (some ad) l.length cap i (by omega)
  obtain ⟨a2,Tq,qC⟩:=iF.drop (m:=i) (by omega)
  have MX:=iF.take (m:=i) (by omega)
  have jw:∃ ad2,a2=some ad2:=by
   obtain ⟨a',c',he,_,_,tq⟩:=Tq;simp only [Value.slice.injEq] at he;obtain ⟨rfl,_⟩:=he;obtain ⟨g,o,ha,_⟩:=tq 0 (by rw [ao];omega)
   exact ⟨_,ha⟩
  obtain ⟨ad2,rfl⟩:=jw;have R8:Hid (∀ W,Below w2.heap.size w2 W→Calls prog 212 #[.slice (some ad) i cap] W fun e w'=>∃ u,e = .returned u∧ir w' W.heap.size u (l.take i)∧Below W.heap.size W w'):=fun W h=>yy ad i cap (l.take i) W (by rw [ag];have:=HM.out;omega) (by rw [ag];omega) (MX.below h)
  have Nn:Hid (∀ W,Below w2.heap.size w2 W→Calls prog 212 #[.slice (some ad2) (l.length - i) (cap - i)] W fun e w'=>∃ u,e = .returned u∧ir w' W.heap.size u (l.drop i)∧Below W.heap.size W w'):=fun W h=>yy ad2 (l.length - i) (cap - i) (l.drop i) W (by rw [ao];have:=HM.out;omega) (by rw [ao]) (Tq.below h)
  clear iF Tq MX tp fQ;go_wp2_with fail;go_region_held3 (fun w'=>True) (go_keep)
   (first
    | (go_at_call 212;refine (R8.out _ ?_).mono ?_;(first | exact XN.out | exact (Below.refl _ _).drew);rintro e W1 ⟨u1,rfl,kI,aM⟩;have qV:=ab kI;have ake:=ab aM;have zS:Hid (Below w2.heap.size w2 W1):=(by first | exact Below.next XN.out aM | exact Iy aM);clear kI aM)
    | (go_at_call 212;refine (Nn.out _ ?_).mono ?_;(first | exact zS.out | exact (Below.refl _ _).drew);rintro e W2 ⟨u2,rfl,ja,aS⟩;have jE:=ab ja;have afm:=ab aS;have XN:Hid (Below w2.heap.size w2 W2):=(by first | exact Below.next zS.out aS | exact Iy aS);clear ja aS))
  all_goals
   clear R8 Nn vg qC;go_wp2;go_ret3
  ·refine ⟨⟨i,0,u1,u2,.nilIface,rfl,HCN.out,.inl ⟨rfl,rfl⟩,.inl ⟨rfl,(qV.out.below afm.out).mono bG.out.size,jE.out.mono zS.out.size |>.mono bG.out.size,fun k h1 h2=>?_⟩⟩,Below.next bG.out XN.out⟩
   have a1:=qV.out.dF k h1;have a2:=jE.out.dF k h2;omega
 ·obtain ⟨k,rfl⟩:=sX fQ hc;have Et:=fun W=>fh (some (A k)) W
  have HCZ:=ab hc;clear tp fQ hc;go_wp2;go_ret3;exact ⟨⟨i,c,_,_,_,rfl,HCN.out,kL.out,.inr ⟨HCZ.out,rfl,rfl⟩⟩,bG.out⟩
namespace T
def yN(w:World)(a:SN)(key:ByteArray)(b:SN)(e:Ending)(w':World):Prop:=∃ ba bb pa la ca pb lb cb,e = .returned (.tuple #[.pointer (some ⟨ba,0,none⟩),.string key,.pointer (some ⟨bb,0,none⟩)])∧dQ w' ba a pa la ca∧dQ w' bb b pb lb cb∧Below w.heap.size w w'
theorem yN.drew{w:World}{a b:SN}{key:ByteArray}{e:Ending}{w':World}(h:yN w a key b e w'):yN w a key b e w'.drew:=by
 obtain ⟨ba,bb,pa,la,ca,pb,lb,cb,h1,h2,h3,h4⟩:=h;exact ⟨ba,bb,pa,la,ca,pb,lb,cb,h1,⟨h2.row,h2.iI,h2.bh,h2.kids,h2.fine⟩,⟨h3.row,h3.iI,h3.bh,h3.kids,h3.fine⟩,B.aK h4⟩
theorem KT(A:Nat→Addr)(b:Nat)(n:SN)(pv lv cv:Value)(w:World)(h:dQ w b n pv lv cv)(h0:n.us.length=0)(h2:2≤n.ps.length)(hE:jS A w):Calls prog 129 #[.pointer (some ⟨b,0,none⟩)] w fun e w'=>∃ (i:Nat) (k v:ByteArray),dq (jr (nQ n.ps)) ((nQ n.ps).length - 1) i∧n.ps[i]?=some (k,v)∧yN w ⟨n.ps.take i,0,[],[]⟩ k ⟨n.ps.drop i,0,[],[]⟩ e w':=by
 have HL:=ab (cB b n pv lv cv w h);rw [show decide (n.us.length=0)=true by simp [h0]] at HL
 have yQ:Hid (Calls prog 169 #[pv] w fun e w'=>∃ (i:Nat) (mT su:Option Addr) (mS mi:Nat),e = .returned (.tuple #[.slice mT (n.ps.take i).length mS,.slice su (n.ps.drop i).length mi,.nilIface])∧dq (jr (nQ n.ps)) ((nQ n.ps).length - 1) i∧gM w' (.slice mT (n.ps.take i).length mS) (n.ps.take i)∧gM w' (.slice su (n.ps.drop i).length mi) (n.ps.drop i)∧Below w.heap.size w w'):=by
  refine (Pb A pv n.ps w h.okL (by have:=h.fine.2.1;omega) h.iI hE).mono fun e w' hh=>?_
  obtain ⟨⟨i,cc,u1,u2,ev,h1,tp,fQ,h3⟩,hb⟩:=hh;have P1:iq (Cn n.ps):=fun j hj=>by
   have lY:j<n.ps.length:=by simpa [Cn] using hj
   have:=eS (h.fine.1 n.ps[j] (aI lY));simp only [Cn,bT];unfold z6;omega
  have hlen:(Cn n.ps).length=n.ps.length:=by simp [Cn]
  rcases tp with ⟨g1,_,_⟩ | ⟨_,g1,_⟩ | ⟨_,_,oJ,yn⟩
  ·rw [hlen] at g1;omega
  ·exact absurd P1 g1
  ·subst yn;rcases h3 with ⟨_,o1,o2,_⟩ | ⟨dH,_⟩
   ·have BU:=mr fQ;subst BU;obtain ⟨a1,c1,e1⟩:=o1.form;obtain ⟨a2,c2,e2⟩:=o2.form;subst e1 e2;exact ⟨i,a1,a2,c1,c2,h1,oJ,o1.at,o2.at,hb⟩
   ·exact absurd rfl dH
 have p0:=h.c0;have HF:=ab h.fine;clear h h0 hE;go_enter func129,ntmps129;go_wp2_with fail;refine HL.out.mono ?_
 rintro e w1 ⟨rfl,rfl⟩;clear HL;go_wp2_with fail;refine yQ.out.mono ?_
 rintro e w2 ⟨i,mT,su,mS,mi,rfl,oJ,fU,iF,aS⟩;have Lq:=oJ.1;have pZ:(nQ n.ps).length=n.ps.length:=by simp [nQ]
 rw [pZ] at Lq;have jB:0<(n.ps.drop i).length:=by rw [ao];omega
 have Uu:=iF;obtain ⟨a2',Xk,he2,_,_,bm⟩:=iF;obtain ⟨g,o,hg,c1,_⟩:=bm 0 jB;cases he2;subst hg;obtain ⟨k,v,hkv⟩ : ∃ k v,n.ps[i]?=some (k,v):=⟨_,_,af (show i<n.ps.length by omega)⟩
 have RO:((n.ps.drop i)[0]'jB).1=k:=by
  have e1:(n.ps.drop i)[0]?=some (k,v):=by rw [dn,Nat.add_zero];exact hkv
  rw [af jB] at e1;rw [Option.some.inj e1]
 rw [RO,Nat.zero_mul,Nat.add_zero] at c1;obtain ⟨N1,Ju⟩ : ∃ N,N=(n.ps.take i).length:=⟨_,rfl⟩;obtain ⟨N2,Jt⟩ : ∃ N,N=(n.ps.drop i).length:=⟨_,rfl⟩;have iF:gM w2 (.slice (some ⟨g,o,none⟩) (n.ps.drop i).length mi) (n.ps.drop i):=Uu;rw [← Ju] at fU ⊢;rw [← Jt] at iF jB ⊢;have nT:=ab fU;have oT:=ab iF;have bG:=ab aS;have Bd:=ab oJ;have HKV:=ab hkv;have G7:(0:Int)<(N2:Int):=by omega
 have sm:Hid (((∀ p ∈ n.ps.take i,cN p=true)∧(n.ps.take i).length≤4000∧(∀ p ∈ n.ps.drop i,cN p=true)∧(n.ps.drop i).length≤4000)):=⟨fun p hp=>HF.out.1 p (bn hp),by rw [ag];have:=HF.out.2.1;omega,fun p hp=>HF.out.1 p (bH hp),by rw [ao];have:=HF.out.2.1;omega⟩
 have PX:=World.block_lt_of_cell? w2 _ c1;have t1:=((ai w2 (.cells #[.slice mT N1 mS,.int .i64 0,.slice none 0 0,.slice none 0 0] 155)).cell (p:=⟨g,o,none⟩) PX).trans c1;have t2:=((ai w2 (.cells #[.slice (some ⟨g,o,none⟩) N2 mi,.int .i64 0,.slice none 0 0,.slice none 0 0] 155)).cell (p:=⟨g,o,none⟩) PX).trans c1;have t3:=((ai (w2.alloc (.cells #[.slice mT N1 mS,.int .i64 0,.slice none 0 0,.slice none 0 0] 155)) (.cells #[.slice (some ⟨g,o,none⟩) N2 mi,.int .i64 0,.slice none 0 0,.slice none 0 0] 155)).cell (p:=⟨g,o,none⟩) (World.block_lt_of_cell? _ _ t1)).trans t1;have t4:=((ai (w2.alloc (.cells #[.slice (some ⟨g,o,none⟩) N2 mi,.int .i64 0,.slice none 0 0,.slice none 0 0] 155)) (.cells #[.slice mT N1 mS,.int .i64 0,.slice none 0 0,.slice none 0 0] 155)).cell (p:=⟨g,o,none⟩) (World.block_lt_of_cell? _ _ t2)).trans t2;clear yQ fU iF aS oJ hkv Lq pZ bm RO Ju Jt p0;go_wp2_with fail;go_region
 all_goals first
  | (have qa:=ai w2 (.cells #[.slice mT N1 mS,.int .i64 0,.slice none 0 0,.slice none 0 0] 155)
     have qb:=ai (w2.alloc (.cells #[.slice mT N1 mS,.int .i64 0,.slice none 0 0,.slice none 0 0] 155)) (.cells #[.slice (some ⟨g,o,none⟩) N2 mi,.int .i64 0,.slice none 0 0,.slice none 0 0] 155);have xa:=(B.au.new w2 #[.slice mT N1 mS,.int .i64 0,.slice none 0 0,.slice none 0 0] 155).below qb;have xb:=B.au.new (w2.alloc (.cells #[.slice mT N1 mS,.int .i64 0,.slice none 0 0,.slice none 0 0] 155)) #[.slice (some ⟨g,o,none⟩) N2 mi,.int .i64 0,.slice none 0 0,.slice none 0 0] 155;have sa:(w2.alloc (.cells #[.slice mT N1 mS,.int .i64 0,.slice none 0 0,.slice none 0 0] 155)).heap.size=w2.heap.size+1:=by simp
     rw [sa] at xb;have Fx:Hid (yN w ⟨n.ps.take i,0,[],[]⟩ k ⟨n.ps.drop i,0,[],[]⟩ (.returned (.tuple #[.pointer (some ⟨w2.heap.size,0,none⟩),.string k,.pointer (some ⟨w2.heap.size+1,0,none⟩)])) ((w2.alloc (.cells #[.slice mT N1 mS,.int .i64 0,.slice none 0 0,.slice none 0 0] 155)).alloc (.cells #[.slice (some ⟨g,o,none⟩) N2 mi,.int .i64 0,.slice none 0 0,.slice none 0 0] 155))):=⟨_,_,_,_,_,_,_,_,rfl,⟨xa,(nT.out.below qa).below qb,B.di.nil _,(C.b7.nil _ 0).at,sm.out.1,sm.out.2.1,(fun p hp=>by simp at hp),by simp,by simp⟩,⟨xb,(oT.out.below qa).below qb,B.di.nil _,(C.b7.nil _ 0).at,sm.out.2.2.1,sm.out.2.2.2,(fun p hp=>by simp at hp),by simp,by simp⟩,Below.next (Below.next bG.out qa) qb⟩
     clear qa qb xa xb sa;go_wp2;go_ret3;exact ⟨i,k,v,Bd.out,HKV.out,Fx.out.drew⟩)
  | (have qa:=ai w2 (.cells #[.slice (some ⟨g,o,none⟩) N2 mi,.int .i64 0,.slice none 0 0,.slice none 0 0] 155)
     have qb:=ai (w2.alloc (.cells #[.slice (some ⟨g,o,none⟩) N2 mi,.int .i64 0,.slice none 0 0,.slice none 0 0] 155)) (.cells #[.slice mT N1 mS,.int .i64 0,.slice none 0 0,.slice none 0 0] 155);have xa:=(B.au.new w2 #[.slice (some ⟨g,o,none⟩) N2 mi,.int .i64 0,.slice none 0 0,.slice none 0 0] 155).below qb;have xb:=B.au.new (w2.alloc (.cells #[.slice (some ⟨g,o,none⟩) N2 mi,.int .i64 0,.slice none 0 0,.slice none 0 0] 155)) #[.slice mT N1 mS,.int .i64 0,.slice none 0 0,.slice none 0 0] 155;have sa:(w2.alloc (.cells #[.slice (some ⟨g,o,none⟩) N2 mi,.int .i64 0,.slice none 0 0,.slice none 0 0] 155)).heap.size=w2.heap.size+1:=by simp
     rw [sa] at xb;have Fx:Hid (yN w ⟨n.ps.take i,0,[],[]⟩ k ⟨n.ps.drop i,0,[],[]⟩ (.returned (.tuple #[.pointer (some ⟨w2.heap.size+1,0,none⟩),.string k,.pointer (some ⟨w2.heap.size,0,none⟩)])) ((w2.alloc (.cells #[.slice (some ⟨g,o,none⟩) N2 mi,.int .i64 0,.slice none 0 0,.slice none 0 0] 155)).alloc (.cells #[.slice mT N1 mS,.int .i64 0,.slice none 0 0,.slice none 0 0] 155))):=⟨_,_,_,_,_,_,_,_,rfl,⟨xb,(nT.out.below qa).below qb,B.di.nil _,(C.b7.nil _ 0).at,sm.out.1,sm.out.2.1,(fun p hp=>by simp at hp),by simp,by simp⟩,⟨xa,(oT.out.below qa).below qb,B.di.nil _,(C.b7.nil _ 0).at,sm.out.2.2.1,sm.out.2.2.2,(fun p hp=>by simp at hp),by simp,by simp⟩,Below.next (Below.next bG.out qa) qb⟩
     clear qa qb xa xb sa;go_wp2;go_ret3;exact ⟨i,k,v,Bd.out,HKV.out,Fx.out.drew⟩)
end T
namespace C
theorem di.take{w:World}{a:Option Addr}{n m cap:Nat}{l:List Lk}(h:di w (.slice a n cap) l)(hm:m≤n):di w (.slice a m cap) (l.take m):=by
 unfold di at *;rw [BG];exact nG.take h hm
theorem YM(w:World)(a:Option Addr)(n cap m:Nat)(hm:m≤cap):(Instr.sliceAt 153 (.slice a n cap) none (some (.int .i64 (m:Int))) none).run prog w = .ok (.slice a m cap) w:=by
 rw [run_sliceAt_slice (h:=underlying153),run_slice_h (ht:=underlying153) (h0:=by omega) (h2:=by omega)]
 have hz:(sizeOf (prog.elem 153)).run prog w = .ok 1 w:=by kernel_rfl
 rw [hz];simp [Result.andThen,sliced,Addr.add]
theorem di.drop{w:World}{a:Option Addr}{n m cap:Nat}{l:List Lk}(h:di w (.slice a n cap) l)(hm:m≤n):∃ a',di w (.slice a' (n - m) (cap - m)) (l.drop m)∧∀ w',(Instr.sliceAt 153 (.slice a n cap) (some (.int .i64 (m:Int))) none none).run prog w' = .ok (.slice a' (n - m) (cap - m)) w':=by
 obtain ⟨a',eY,he,hle,hn,hc⟩:=h;cases he;have Ev:(bh l).length=l.length:=et l;refine ⟨if cap=m then a else a.map (·.add m),⟨_,_,by rw [show (bh (l.drop m)).length=l.length - m by rw [et,ao],Ev],by rw [et,ao];omega,fun ha=>?_,fun j u hj=>?_⟩,fun w'=>?_⟩
 ·split at ha
  ·omega
  ·cases a with
   | none=>have:=hn rfl;omega
   | some x=>cases ha
 ·rw [O3,dn] at hj;have bK:=(List.getElem?_eq_some_iff.1 hj).1;obtain ⟨g,o,ha,h1⟩:=hc (m+j) u hj;subst ha;refine ⟨g,o+m,?_,?_⟩
  ·rw [if_neg (show ¬ cap=m by omega)];simp [bt]
  ·rw [show o+m+j=o+(m+j) by omega];exact h1
 ·rw [run_sliceAt_slice (h:=underlying153),run_slice_l (ht:=underlying153) (h0:=by omega) (h1:=by omega)]
  have hz:(sizeOf (prog.elem 153)).run prog w' = .ok 1 w':=by kernel_rfl
  rw [hz];simp [Result.andThen,sliced]
end C
namespace B
theorem Gr(B g o n cap p:Nat)(a b x:Int)(w:World)(hB:w.cell? ⟨B,0,none⟩=some (.slice (some ⟨g,o,none⟩) n cap))(hp:p<n)(hx:w.cell? ⟨g,o+p,none⟩=some (.int .i64 x))(ha:0≤a∧a≤1152921504606846976)(hb:0≤b - x∧b - x≤1152921504606846976):Calls prog 238 #[.int .i64 (p:Int),.int .i64 a,.int .i64 b,.pointer (some ⟨B,0,none⟩)] w fun e w'=>e = .returned (.int .i64 ((a - (b - x)).natAbs:Int))∧w=w':=by
 have HD:=ab (ES a (b - x) w ha hb);have hw:IntKind.i64.wrap (b - x)=b - x:=oV _ (by omega) (by omega)
 have hpi:(p:Int)<(n:Int):=by omega
 clear ha hb;go_enter func238,ntmps238;go_wp2_with (go_at_call 237;refine HD.out.mono ?_;rintro e w' ⟨rfl,rfl⟩)
 go_ret;exact ⟨rfl,rfl⟩
theorem LP(A:Nat→Addr)(B g o cap m n:Nat)(l:List Int)(w:World)(ZW:n≤17592186044416)(fs:1≤m)(hn:n=m+2)(e1:l.length=n)(cT:n≤cap)(hE:dy 4 eV A w)(h1:∀ j (h:j<l.length),w.cell? ⟨g,o+j,none⟩=some (.int .i64 l[j]))(hB:w.cell? ⟨B,0,none⟩=some (.slice (some ⟨g,o,none⟩) n cap)):Calls prog 235 #[.slice (some ⟨g,o,none⟩) n cap,.int .i64 3,.func (.func 238) #[] #[.pointer (some ⟨B,0,none⟩)]] w fun e w'=>((iq l∧∃ i:Nat,e = .returned (.tuple #[.int .i64 (i:Int),.nilIface])∧dq (jq l) m i)∨(¬ iq l∧e = .returned (.tuple #[.int .i64 0,.iface 360 (.pointer (some (A 0)))])))∧Below w.heap.size w w':=by
 have c0:w.cell? ⟨0,0,none⟩=some (.iface 360 (.pointer (some (A 0)))):=(hE.1 0 (by decide)).1
 have HS:=ab (IE (some ⟨g,o,none⟩) cap n l w (by omega) e1 (fun j h=>⟨g,o,rfl,h1 j h⟩))
 have hm:m≤17592186044416:=by omega
 have HE:Hid (l.length=n):=e1;have HN:Hid (n=m+2):=hn;have H1:=ab h1;have Rn:=ab (gS l);have HB:=ab hB;have hnI:(n:Int)=(m:Int)+2:=by omega
 have vg:IntKind.i64.wrap ((n:Int) - 3)=(m:Int) - 1:=by rw [IntKind.wrap_i64];omega
 have qC:IntKind.i64.wrap ((m:Int) - 1+1)=(m:Int):=by rw [IntKind.wrap_i64];omega
 have bK:¬ (n:Int)<3:=by omega
 have hmc:(m:Int)≤(cap:Int):=by omega
 have Z0:(0:Int)≤(m:Int):=by omega
 clear e1 hn h1 hE hnI ZW hB;by_cases hF:iq l
 ·have HT:=ab (hO hF n (by have:=HE.out;omega))
  have HF:=ab hF;have mW:Hid (Calls prog 254 #[.slice (some ⟨g,o,none⟩) n cap] w fun e w'=>e = .returned (.tuple #[.int .i64 (pre l n),.bool true])∧w=w'):=by
   refine HS.out.mono ?_
   rintro e w' ⟨h | h,rfl⟩
   ·exact ⟨h.2,rfl⟩
   ·exact absurd hF h.1
  obtain ⟨T,hT⟩ : ∃ T,T=pre l n:=⟨_,rfl⟩;rw [← hT] at mW HT;have Vw:=ab hT;clear hT HS c0 hF;go_enter func235,ntmps235;go_wp2_with (go_at_call 254;refine mW.out.mono ?_;rintro e w' ⟨rfl,rfl⟩)
  go_loop [8,10,11,12,38] (fun re be le ah i=>∃ (k l7:Nat) (least:Int),k≤m∧i = .int .i64 k∧re = .int .i64 (T - pre l k)∧be = .int .i64 (l7:Int)∧le = .int .i64 least∧ah = .int .i64 (pre l k)∧((k=0∧l7=0∧least=T)∨(1≤k∧dq (jq l) k l7∧least=jq l l7))) (fun _ _ _ _ i=>m - (intOf i).toNat)
  case atStart=>exact ⟨0,0,T,aB _,rfl,by rw [Rn.out,Int.sub_zero],rfl,rfl,by rw [Rn.out],.inl ⟨rfl,rfl,rfl⟩⟩
  case round =>
   obtain ⟨k,l7,least,hk,rfl,rfl,rfl,rfl,rfl,eK⟩:=hrel;have gP:=ab eK;clear eK;by_cases hltk:k<m
   ·have jx:k<l.length:=by have:=HE.out;have:=HN.out;omega
    have f1:=H1.out k jx;have sH:=ab (jf l k jx);have HPB:=ab (hO HF.out k (by omega))
    have Cg:=ab (hO HF.out (k+1) (by omega))
    have Xw:=ab (gq HF.out (k+1) n (by have:=HE.out;have:=HN.out;omega) (by have:=HE.out;omega))
    obtain ⟨x,hx⟩ : ∃ x,x=l[k]:=⟨_,rfl⟩;rw [← hx] at f1 sH;obtain ⟨p,hp⟩ : ∃ p,p=pre l k:=⟨_,rfl⟩;rw [← hp] at HPB sH ⊢;obtain ⟨q,hq⟩ : ∃ q,q=pre l (k+1):=⟨_,rfl⟩;rw [← hq] at Cg sH Xw;rw [← Vw.out] at Xw;have HQ:=ab hq;have Ys:Hid ((k:Int)≤17592186044416∧4072*((k:Int)+1)≤72057594037927936):=⟨by omega,by omega⟩
    have Nh:Hid (0≤q∧q≤1152921504606846976):=⟨Cg.out.1,by have:=Cg.out.2;have:=Ys.out;omega⟩
    have CA:Hid (0≤T - q∧T - q≤1152921504606846976):=⟨by have:=Xw.out;omega,by have:=HT.out.2;have:=Cg.out.1;have:=HN.out;omega⟩
    have vR:IntKind.i64.wrap (p+x)=q:=by rw [← sH.out];exact oV _ Nh.out.1 (by have:=Nh.out;omega)
    have GY:IntKind.i64.wrap (T - p - x)=T - q:=by rw [show T - p - x=T - q by have:=sH.out;omega];exact oV _ CA.out.1 (by have:=CA.out;omega)
    have MV:IntKind.i64.wrap ((k:Int)+1)=((k+1:Nat):Int):=by rw [IntKind.wrap_i64];omega
    have p9:k+1<l.length:=by have:=HE.out;have:=HN.out;omega
    have abh:=ab (gq HF.out (k+1+1) n (by have:=HE.out;have:=HN.out;omega) (by have:=HE.out;omega))
    have Xq:=ab (jf l (k+1) p9);have HY:=ab (HF.out (k+1) p9);rw [← Vw.out] at abh;rw [← HQ.out] at Xq;have XL:Hid (Calls prog 238 #[.int .i64 ((k+1:Nat):Int),.int .i64 q,.int .i64 (T - q),.pointer (some ⟨B,0,none⟩)] w fun e w'=>e = .returned (.int .i64 ((jq l (k+1):Nat):Int))∧w=w'):=by
     have h:=Gr B g o n cap (k+1) q (T - q) l[k+1] w HB.out (by have:=HE.out;omega) (H1.out (k+1) p9) Nh.out ⟨by have:=abh.out;have:=Xq.out;omega,by have:=CA.out;have:=HY.out;omega⟩
     have e:jq l (k+1)=(q - (T - q - l[k+1])).natAbs:=by unfold jq;rw [HE.out,← Vw.out,Xq.out,← HQ.out];congr 1;omega
     rw [e];exact h
    have XI:=ab (TO HF.out (k+1) (by omega) (by have:=HE.out;have:=HN.out;omega))
    rw [HE.out,← Vw.out] at XI;obtain ⟨gp,WL⟩ : ∃ gp:Nat,gp=jq l (k+1):=⟨_,rfl⟩;rw [← WL] at XL XI;have XH:=ab WL;have dK:(k:Int)<(m:Int):=by omega
    clear hx hp hq WL H1 Rn mW;by_cases hless:(gp:Int)<least
    ·have Xu:Hid (dq (jq l) (k+1) (k+1)):=by
      rcases gP.out with ⟨rfl,_,_⟩ | ⟨_,hb,he⟩
      ·exact dq.one _
      ·exact hb.IJ (by rw [← XH.out];omega)
     clear gP;go_wp2_with (go_at_call 238;refine (XL.out).mono ?_;rintro e w' ⟨rfl,rfl⟩)
     go_round
     case rel=>exact ⟨k+1,k+1,gp,by omega,rfl,by rw [← HQ.out],rfl,rfl,by rw [← HQ.out],.inr ⟨by omega,Xu.out,by rw [XH.out]⟩⟩
     case measure=>simp [intOf];omega
    ·have Ci:Hid (1≤k+1∧dq (jq l) (k+1) l7∧least=jq l l7):=by
      rcases gP.out with ⟨_,_,rfl⟩ | ⟨_,hb,he⟩
      ·exact absurd XI.out hless
      ·exact ⟨by omega,hb.II (by rw [← XH.out];omega),he⟩
     clear gP;go_wp2_with (go_at_call 238;refine (XL.out).mono ?_;rintro e w' ⟨rfl,rfl⟩)
     go_round
     case rel=>exact ⟨k+1,l7,least,by omega,rfl,by rw [← HQ.out],rfl,rfl,by rw [← HQ.out],.inr Ci.out⟩
     case measure=>simp [intOf];omega
   ·have Ln:k=m:=by omega
    have mP:Hid (dq (jq l) m l7):=by
     rcases gP.out with ⟨h0,_,_⟩ | ⟨_,hb,_⟩
     ·omega
     ·rw [← Ln];exact hb
    subst Ln;obtain ⟨p,hp⟩ : ∃ p,p=pre l k:=⟨_,rfl⟩;rw [← hp];clear hp gP H1 mW Rn;go_wp2;go_ret2;exact ⟨.inl ⟨HF.out,l7,rfl,mP.out⟩,Below.refl _ _⟩
 ·have mW:Hid (Calls prog 254 #[.slice (some ⟨g,o,none⟩) n cap] w fun e w'=>e = .returned (.tuple #[.int .i64 0,.bool false])∧w=w'):=by
   refine HS.out.mono ?_
   rintro e w' ⟨h | h,rfl⟩
   ·exact absurd h.1 hF
   ·exact ⟨h.2,rfl⟩
  have HF:=ab hF;clear HS hF H1 Rn;go_enter func235,ntmps235;go_wp2_with (go_at_call 254;refine mW.out.mono ?_;rintro e w' ⟨rfl,rfl⟩)
  go_quiet (fail)
  go_wp2;go_ret2;exact ⟨.inr ⟨HF.out,rfl⟩,aA (Below.refl _ _) _⟩
theorem Hl{n:Nat}{G:Nat→Nat}{A:Nat→Addr}{w w':World}(h:dy n G A w)(hb:Below w.heap.size w w'):dy n G A w':=dy.keep h hb
theorem KF(A:Nat→Addr)(v:Value)(l:List Int)(w:World)(hm:l.length≤17592186044416)(hr:Fo w v l)(hE:dy 4 eV A w):Calls prog 213 #[v] w fun e w'=>MQ A 3 (jq l) l e∧Below w.heap.size w w':=by
 have Lm:∀ (fn:Fn) (first cap:Array Value) (w:World),(Instr.makeFunc fn first cap).run prog w = .ok (.func fn first cap) w:=fun _ _ _ _=>rfl
 have fi:=ai w (.cells #[v] 69);have iF:=hr.below fi;obtain ⟨a,cap,rfl,cT,_⟩:=hr;obtain ⟨a',eY,Ti,_,hc⟩:=iF;cases Ti;have hE2:=Hl hE fi;have hB:(w.alloc (.cells #[.slice a l.length cap] 69)).cell? ⟨w.heap.size,0,none⟩=some (.slice a l.length cap):=(bM w #[.slice a l.length cap] 69).2 0 (by simp)
 have Cl:=ab fi;have H:Hid (Calls prog 235 #[.slice a l.length cap,.int .i64 3,.func (.func 238) #[] #[.pointer (some ⟨w.heap.size,0,none⟩)]] (w.alloc (.cells #[.slice a l.length cap] 69)) fun e w'=>∃ x y,e = .returned (.tuple #[x,y])∧MQ A 3 (jq l) l (.returned (.tuple #[x,y]))∧Below (w.alloc (.cells #[.slice a l.length cap] 69)).heap.size (w.alloc (.cells #[.slice a l.length cap] 69)) w'):=by
  by_cases hs:l.length<3
  ·refine (A0 A a l.length cap 3 _ _ (by omega) hm hE2).mono ?_
   rintro e w' ⟨rfl,hb⟩;exact ⟨_,_,rfl,.inl ⟨hs,rfl⟩,hb⟩
  ·obtain ⟨g,o,rfl,_⟩:=hc 0 (by omega)
   refine (LP A w.heap.size g o cap (l.length - 2) l.length l _ hm (by omega) (by omega) rfl cT hE2 (fun j h=>by obtain ⟨g',o',he,bm⟩:=hc j h;cases he;exact bm) hB).mono ?_
   rintro e w' ⟨⟨hf,i,rfl,hi⟩ | ⟨hf,rfl⟩,hb⟩
   ·exact ⟨_,_,rfl,.inr (.inr ⟨by omega,hf,i,rfl,hi⟩),hb⟩
   ·exact ⟨_,_,rfl,.inr (.inl ⟨by omega,hf,rfl⟩),hb⟩
 clear hc hE cT hE2 fi;go_enter func213,ntmps213;go_wp2_with (go_at_call 235;refine H.out.mono ?_;rintro e w' ⟨x,y,rfl,hv,hb⟩;have HV:=ab hv;have lI:=ab (Below.next Cl.out hb);clear hv hb)
 go_ret2;exact ⟨HV.out,lI.out⟩
end B
end Go.Proofs.YtihmgigfkmofnaaGreatDoor
