import Derived.Test.YtihmgigfkmofnaaGreatDoorG06
set_option maxHeartbeats 4000000
set_option maxRecDepth 20000
open Go.Proofs.Tryz
namespace Go.Proofs.YtihmgigfkmofnaaGreatDoor
open Go.RowKit
theorem oV(x y:ByteArray):(x.toList == y.toList)=decide (x=y):=by
 rw [kG,beq_iff_eq,decide_eq_true_eq,ByteArray.toList_eq,ByteArray.toList_eq];exact ⟨fun h=>ig h,fun h=>by rw [h]⟩
theorem LB(p:Pr)(key:ByteArray)(b:Nat)(w:World)(hc:w.cell? ⟨b,0,none⟩=some (.string key)):Calls prog 88 #[.agg #[.string p.1,.string p.2],.pointer (some ⟨b,0,none⟩)] w fun e w'=>e = .returned (.bool (!cX p.1 key))∧Below w.heap.size w w':=by
 have fh:=ai w (.cells #[.string p.1,.string p.2] 52);have AS:(w.alloc (.cells #[.string p.1,.string p.2] 52)).cell? ⟨b,0,none⟩=some (.string key):=(fh.cell (p:=⟨b,0,none⟩) (World.block_lt_of_cell? w _ hc)).trans hc;go_enter func88,ntmps88;go_wp2;go_ret;exact ⟨rfl,fh⟩
theorem O6(v:Value)(l:List Pr)(key:ByteArray)(b:Nat)(w:World)(hm:l.length≤140737488355328)(hr:gK w v l)(hk:w.cell? ⟨b,0,none⟩=some (.string key)):Calls prog 87 #[v,.func (.func 88) #[] #[.pointer (some ⟨b,0,none⟩)]] w fun e w'=>((aJ l key<l.length∧e = .returned (.int .i64 (aJ l key:Int)))∨(¬ aJ l key<l.length∧e = .returned (.int .i64 (-1))))∧Below w.heap.size w w':=by
 obtain ⟨a,cap,rfl,di,_,hc⟩:=hr;have HC:=ab hc;obtain ⟨n,hn⟩ : ∃ n,n=l.length:=⟨_,rfl⟩;rw [← hn] at hm ⊢;have HN:=ab hn;have HK:=ab hk;have XQ:=ab (World.block_lt_of_cell? w _ hk);obtain ⟨Q,hQ⟩ : ∃ Q:Ending→World→Prop,Q=fun e w'=>((aJ l key<n∧e = .returned (.int .i64 (aJ l key:Int)))∨(¬ aJ l key<n∧e = .returned (.int .i64 (-1))))∧Below w.heap.size w w':=⟨_,rfl⟩
 rw [← hQ];have HQ:=ab hQ;clear hc hn di hk hQ;go_enter func87,ntmps87;go_wp2;go_loopw [8] (fun i wr=>∃ k:Nat,k≤n∧i = .int .i64 k∧(∀ j (h:j<l.length),j<k→cX l[j].1 key=true)∧Below w.heap.size w wr) (fun i _=>n - (intOf i).toNat)
 case atStart=>exact ⟨0,aD _,rfl,fun j _ h=>absurd h (eX _),Below.refl _ _⟩
 case round =>
  obtain ⟨k,hk,rfl,gB,bO⟩:=hrel;have HP:=ab gB;clear gB;by_cases bP:k<n
  ·have dm:k<l.length:=by have:=HN.out;omega
   obtain ⟨g,o,rfl,f1,f2⟩:=HC.out k dm;have c1:wr.cell? ⟨g,o+k*2,none⟩=some (.string l[k].1):=(bO.cell (p:=⟨g,o+k*2,none⟩) (World.block_lt_of_cell? w _ f1)).trans f1;have c2:wr.cell? ⟨g,o+k*2+1,none⟩=some (.string l[k].2):=(bO.cell (p:=⟨g,o+k*2+1,none⟩) (World.block_lt_of_cell? w _ f2)).trans f2;have HF:=ab (LB l[k] key b wr ((bO.cell (p:=⟨b,0,none⟩) XQ.out).trans HK.out));have p7:Hid (cX l[k].1 key=true→∀ j (h:j<l.length),j<k+1→cX l[j].1 key=true):=fun hl j h hj=>by
    by_cases he:j=k
    ·subst he;exact hl
    ·exact HP.out j h (by omega)
   have yY:Hid (cX l[k].1 key=false→aJ l key=k):=fun hl=>mE dm (fun j hj=>HP.out j (by omega) hj) hl
   obtain ⟨p,hp⟩ : ∃ p,p=l[k]:=⟨_,rfl⟩;rw [← hp] at c1 c2 HF p7 yY;have dS:(k:Int)<(n:Int):=by omega
   have HB:=ab bO;clear hp HC f1 f2 bO;cases hb:cX p.1 key with
   | true =>
    rw [hb] at HF;have uh:=ab (p7.out hb);clear hb p7 yY;go_wp2_with fail;refine HF.out.mono ?_
    rintro e w1 ⟨rfl,aP⟩;have bQ:=ab (Below.next HB.out aP);clear aP HB HF c1 c2;go_wp2;go_roundw
    case rel=>exact ⟨k+1,by omega,by go_num,uh.out,bQ.out⟩
    case measure=>simp [intOf];omega
   | false =>
    rw [hb] at HF;have Ig:=ab (yY.out hb);clear hb p7 yY;go_wp2_with fail;refine HF.out.mono ?_
    rintro e w1 ⟨rfl,aP⟩;have bQ:=ab (Below.next HB.out aP);clear aP HB HF c1 c2;go_wp2;rw [HQ.out];exact ⟨.inl ⟨by rw [Ig.out];exact bP,by rw [Ig.out];rfl⟩,bQ.out⟩
  ·have HB:=ab bO;have dS:¬ (k:Int)<(n:Int):=by omega
   have kO:Hid (¬ aJ l key<n):=by
    have h:=qR (l:=l) (key:=key) (fun j hj=>HP.out j hj (by have:=HN.out;omega))
    have:=HN.out;intro h';omega
   clear HC bO HP;go_wp2;rw [HQ.out];exact ⟨.inr ⟨kO.out,rfl⟩,HB.out⟩
theorem jb(v:Value)(l:List Pr)(key:ByteArray)(w:World)(hm:l.length≤140737488355328)(hr:gK w v l):Calls prog 52 #[v,.string key] w fun e w'=>e = .returned (.tuple #[.int .i64 (aJ l key:Int),.bool (bh l key)])∧Below w.heap.size w w':=by
 have G3:∀ (fn:Fn) (first cap:Array Value) (w:World),(Instr.makeFunc fn first cap).run prog w = .ok (.func fn first cap) w:=fun _ _ _ _=>rfl
 have fh:=ai w (.cells #[.string key] 9);have hx:=bN w #[.string key] 9;have fV:=hr.below fh;have HI:=ab (O6 v l key w.heap.size _ hm fV (hx.2 0 (by simp)))
 have HR:=ab fV;have HX:=ab hx;have Cj:=ab fh;obtain ⟨a,c,rfl⟩:=hr.form;have M0:=ab (cp l key);obtain ⟨q,hq⟩ : ∃ q,q=aJ l key:=⟨_,rfl⟩;have yY:Hid (∀ (h:q<l.length),bh l key=decide (l[q].1=key)):=by subst hq;exact fun h=>mD h
 have kO:Hid (¬ q<l.length→bh l key=false):=by subst hq;exact fun h=>oQ h
 rw [← hq] at HI M0 ⊢;clear hq hr fV fh hx;go_enter func52,ntmps52;go_wp2_with fail;refine HI.out.mono ?_
 rintro e w1 ⟨⟨bP,rfl⟩ | ⟨bP,rfl⟩,aP⟩
 ·have fV:=HR.out.below aP;have k0:w1.cell? ⟨w.heap.size,0,none⟩=some (.string key):=(HX.out.below aP).2 0 (by simp)
  obtain ⟨a',c',he,_,_,hc⟩:=fV;cases he;obtain ⟨g,o,rfl,f1,f2⟩:=hc q bP;have JJ:=ab (yY.out bP);have HB:=ab (Below.next Cj.out aP);have Hb:decide ((q:Int)<0)=false:=decide_eq_false (by omega)
  have j0:(0:Int)≤(q:Int):=by omega
  have j1:(q:Int)<(l.length:Int):=by omega
  generalize l[q].1=x at *;clear hc aP HI HR HX Cj yY kO f2;go_wp2;go_quiet (fail)
  go_wp2;go_ret2;refine ⟨?_,aB HB.out _⟩;rw [JJ.out,← oV];rfl
 ·have HB:=ab (Below.next Cj.out aP);have JJ:=ab (kO.out bP);have U2:Hid (q=l.length):=by have:=M0.out;show q=l.length;omega
  clear aP HI HR HX Cj yY kO bP;go_wp2;go_ret2;exact ⟨by rw [JJ.out,U2.out];rfl,HB.out⟩
theorem Kj(w:World)(a:Option Addr)(n cap m:Nat)(hm:m≤cap):(Instr.sliceAt 63 (.slice a n cap) none (some (.int .i64 (m:Int))) none).run prog w = .ok (.slice a m cap) w:=by
 rw [run_sliceAt_slice (h:=underlying63),run_slice_h (ht:=underlying63) (h0:=by omega) (h2:=by omega)]
 have hz:(sizeOf (prog.elem 63)).run prog w = .ok 2 w:=by kernel_rfl
 rw [hz];simp [Result.andThen,sliced,Addr.add]
theorem gK.drop{w:World}{a:Option Addr}{n m cap:Nat}{l:List Pr}(h:gK w (.slice a n cap) l)(hm:m≤n):∃ a',gK w (.slice a' (n - m) (cap - m)) (l.drop m)∧∀ w',(Instr.sliceAt 63 (.slice a n cap) (some (.int .i64 (m:Int))) none none).run prog w' = .ok (.slice a' (n - m) (cap - m)) w':=by
 obtain ⟨a',eP,he,hle,hn,hc⟩:=h;cases he;refine ⟨if cap=m then a else a.map (·.add (m*2)),⟨_,_,by rw [ao],by rw [ao];omega,fun ha=>?_,fun j hj=>?_⟩,fun w'=>?_⟩
 ·split at ha
  ·omega
  ·cases a with
   | none=>have:=hn rfl;omega
   | some x=>cases ha
 ·rw [ao] at hj;obtain ⟨g,o,ha,h1,h2⟩:=hc (m+j) (by omega)
  subst ha;refine ⟨g,o+m*2,?_,?_,?_⟩
  ·rw [if_neg (by omega)];simp [bB]
  ·rw [dd,show o+m*2+j*2=o+(m+j)*2 by omega];exact h1
  ·rw [dd,show o+m*2+j*2+1=o+(m+j)*2+1 by omega];exact h2
 ·rw [run_sliceAt_slice (h:=underlying63),run_slice_l (ht:=underlying63) (h0:=by omega) (h1:=by omega)]
  have hz:(sizeOf (prog.elem 63)).run prog w' = .ok 2 w':=by kernel_rfl
  rw [hz];simp [Result.andThen,sliced]
theorem DQ(v:Value)(l:List Pr)(key value:ByteArray)(w:World)(hm:l.length≤4398046511000)(hr:gK w v l):Calls prog 48 #[v,.string key,.string value] w fun e w'=>∃ u,e = .returned u∧iC w' w.heap.size u (fc l key value)∧Below w.heap.size w w':=by
 have HF:=ab (jb v l key w (by omega) hr)
 have HR:=ab hr;obtain ⟨a,cap,hv⟩:=hr.form;subst hv;have iB:=cp l key;have jD:=jZ l key;have S1:=eQ l key;have di:l.length≤cap:=by obtain ⟨_,_,he,h,_⟩:=hr;cases he;exact h
 obtain ⟨q,hq⟩ : ∃ q,q=aJ l key:=⟨_,rfl⟩;obtain ⟨r,vr⟩ : ∃ r,r=bZ l key:=⟨_,rfl⟩;obtain ⟨fb,Ey⟩ : ∃ fb,fb=bh l key:=⟨_,rfl⟩;have vW:(if fb then q+1 else q:Nat)=r:=by rw [vr,hq,Ey];rfl
 have T9:=ab (fun W=>yx q fb W (by omega))
 rw [vW] at T9;rw [← hq,← Ey] at HF;rw [← hq] at iB;rw [← vr] at jD;rw [← hq,← vr] at S1;obtain ⟨a2,iT,qL⟩:=hr.drop jD;have vq:=fun W=>Kj W a l.length cap q (by omega)
 have nV:=ab (hr.take iB);have o7:=ab iT;have HL:Hid (fc l key value=[l.take q,[(key,value)],l.drop r].flatten):=by show _=_;unfold fc;rw [← hq,← vr];simp
 clear hr iT hq vr Ey vW;go_enter func48,ntmps48;go_wp2_with fail;refine HF.out.mono ?_
 rintro e w1 ⟨rfl,aP⟩;have bQ:=ab aP;clear aP HF;have yX:Hid (∀ W,Below ((w1.alloc (.cells #[.string key,.string value] 52)).alloc (.cells #[.slice a q cap,.slice (some ⟨w1.heap.size,0,none⟩) 1 1,.slice a2 (l.length - r) (cap - r)] 63)).heap.size ((w1.alloc (.cells #[.string key,.string value] 52)).alloc (.cells #[.slice a q cap,.slice (some ⟨w1.heap.size,0,none⟩) 1 1,.slice a2 (l.length - r) (cap - r)] 63)) W→Calls prog 84 #[.slice (some ⟨w1.heap.size+1,0,none⟩) 3 3] W fun e w'=>∃ u,e = .returned u∧iC w' w.heap.size u (fc l key value)∧Below w.heap.size w w'):=fun W hW=>by
  have hbA:=ai w1 (.cells #[.string key,.string value] 52);have hsA:(w1.alloc (.cells #[.string key,.string value] 52)).heap.size=w1.heap.size+1:=by simp
  have acz:=Bu w1 (key,value) 52;generalize w1.alloc (.cells #[.string key,.string value] 52)=WA at *;have hbB:=ai WA (.cells #[.slice a q cap,.slice (some ⟨w1.heap.size,0,none⟩) 1 1,.slice a2 (l.length - r) (cap - r)] 63);have ZX:=(bN WA #[.slice a q cap,.slice (some ⟨w1.heap.size,0,none⟩) 1 1,.slice a2 (l.length - r) (cap - r)] 63).below hW;rw [hsA] at ZX;have Tl:=Below.next (Below.next bQ.out hbA) (Below.next hbB hW);rw [HL.out];refine (qU (w1.heap.size+1) 3 3 [.slice a q cap,.slice (some ⟨w1.heap.size,0,none⟩) 1 1,.slice a2 (l.length - r) (cap - r)] [l.take q,[(key,value)],l.drop r] W rfl (by decide) rfl ?_ (fun j h=>ZX.2 j h) ?_).mono ?_
  ·simp;omega
  ·intro j h h';have hj:j<3:=h;match j,hj with
   | 0,_=>exact nV.out.below Tl
   | 1,_=>exact acz.below (Below.next hbB hW)
   | 2,_=>exact o7.out.below Tl
  ·rintro e w' ⟨u,rfl,ho,hb⟩;exact ⟨u,rfl,ho.mono Tl.size,Below.next Tl hb⟩
 clear HR nV o7 HL bQ;go_wp2_with fail;go_region_held3 (fun w'=>True) (go_keep)
  (first
   | (go_at_call 85;refine (T9.out _).mono ?_;rintro e w2 ⟨rfl,rfl⟩)
   | (go_at_call 84;refine (yX.out _ ?_).mono ?_;(exact (Below.refl _ _).drew);rintro e w3 ⟨u,rfl,ho,hb⟩;have HO:=ab ho;have HB:=ab hb;clear ho hb))
 all_goals
  clear yX T9 vq qL;go_wp2;go_ret;exact ⟨_,rfl,HO.out,HB.out⟩
theorem Az(v:Value)(l:List Pr)(key:ByteArray)(w:World)(hm:l.length≤4398046511000)(hr:gK w v l):Calls prog 51 #[v,.string key] w fun e w'=>∃ u,e = .returned (.tuple #[u,.bool (bh l key)])∧iC w' w.heap.size u (cU l key)∧Below w.heap.size w w':=by
 have HF:=ab (jb v l key w (by omega) hr)
 have HR:=ab hr;obtain ⟨a,cap,hv⟩:=hr.form;subst hv;have iB:=cp l key;have jD:=jZ l key;have S1:=eQ l key;have di:l.length≤cap:=by obtain ⟨_,_,he,h,_⟩:=hr;cases he;exact h
 obtain ⟨q,hq⟩ : ∃ q,q=aJ l key:=⟨_,rfl⟩;obtain ⟨r,vr⟩ : ∃ r,r=bZ l key:=⟨_,rfl⟩;obtain ⟨fb,Ey⟩ : ∃ fb,fb=bh l key:=⟨_,rfl⟩;have vW:(if fb then q+1 else q:Nat)=r:=by rw [vr,hq,Ey];rfl
 have T9:=ab (fun W=>yx q fb W (by omega))
 rw [vW] at T9;rw [← hq,← Ey] at HF;rw [← Ey];rw [← hq] at iB;rw [← vr] at jD;rw [← hq,← vr] at S1;obtain ⟨a2,iT,qL⟩:=hr.drop jD;have vq:=fun W=>Kj W a l.length cap q (by omega)
 have nV:=ab (hr.take iB);have o7:=ab iT;have HL:Hid (cU l key=[l.take q,l.drop r].flatten):=by show _=_;unfold cU;rw [← hq,← vr];simp
 clear hr iT hq vr Ey vW;go_enter func51,ntmps51;go_wp2_with fail;refine HF.out.mono ?_
 rintro e w1 ⟨rfl,aP⟩;have bQ:=ab aP;clear aP HF;have yX:Hid (∀ W,Below (w1.alloc (.cells #[.slice a q cap,.slice a2 (l.length - r) (cap - r)] 63)).heap.size (w1.alloc (.cells #[.slice a q cap,.slice a2 (l.length - r) (cap - r)] 63)) W→Calls prog 84 #[.slice (some ⟨w1.heap.size,0,none⟩) 2 2] W fun e w'=>∃ u,e = .returned u∧iC w' w.heap.size u (cU l key)∧Below w.heap.size w w'):=fun W hW=>by
  have hbB:=ai w1 (.cells #[.slice a q cap,.slice a2 (l.length - r) (cap - r)] 63);have ZX:=(bN w1 #[.slice a q cap,.slice a2 (l.length - r) (cap - r)] 63).below hW;have Tl:=Below.next bQ.out (Below.next hbB hW);rw [HL.out];refine (qU w1.heap.size 2 2 [.slice a q cap,.slice a2 (l.length - r) (cap - r)] [l.take q,l.drop r] W rfl (by decide) rfl ?_ (fun j h=>ZX.2 j h) ?_).mono ?_
  ·simp;omega
  ·intro j h h';have hj:j<2:=h;match j,hj with
   | 0,_=>exact nV.out.below Tl
   | 1,_=>exact o7.out.below Tl
  ·rintro e w' ⟨u,rfl,ho,hb⟩;exact ⟨u,rfl,ho.mono Tl.size,Below.next Tl hb⟩
 clear HR nV o7 HL bQ;go_wp2_with fail;go_region_held3 (fun w'=>True) (go_keep)
  (first
   | (go_at_call 85;refine (T9.out _).mono ?_;rintro e w2 ⟨rfl,rfl⟩)
   | (go_at_call 84;refine (yX.out _ ?_).mono ?_;(exact (Below.refl _ _).drew);rintro e w3 ⟨u,rfl,ho,hb⟩;have HO:=ab ho;have HB:=ab hb;clear ho hb))
 all_goals
  clear yX T9 vq qL;go_wp2;go_ret2;exact ⟨_,rfl,HO.out,HB.out⟩
def Cl(l:List Pr):List Int:=l.map fun p=>(z7 p:Int)
theorem vF(l:List Pr):(Cl l).length=l.length:=by simp [Cl]
theorem ze(l:List Pr)(k:Nat)(h:k<l.length):Cl (l.take (k+1))=Cl (l.take k)++[(z7 l[k] : Int)]:=by
 unfold Cl;rw [az h,bn];rfl
def wI(l:List Pr)(k:Nat):List Value:=ints (Cl (l.take k))++List.replicate (l.length - k) (.int .i64 0)
theorem NA(l:List Pr)(k:Nat)(h:k<l.length):(wI l k).set k (.int .i64 (z7 l[k] : Int))=wI l (k+1):=by
 have hl:(ints (Cl (l.take k))).length=k:=by rw [ko,vF,ag];omega
 unfold wI;rw [bX _ _ (by omega),hl,dO,ze l k h,oK,show l.length - k=l.length - (k+1)+1 by omega,List.replicate_succ,List.set_cons_zero,ay]
 rfl
theorem NB(l:List Pr)(k:Nat)(h:k≤l.length):(wI l k).length=l.length:=by
 unfold wI;rw [ae,ko,vF,ag,bw];omega
theorem Ka(l:List Pr):wI l 0=List.replicate l.length (.int .i64 0):=by simp [wI,ints,Cl]
theorem NC(l:List Pr):wI l l.length=ints (Cl l):=by simp [wI]
theorem iZ{w w':World}{base e n:Nat}{v:Value}{xs:List Value}(h:w.ownsRow base e 1 v n xs)(hb:Below w.heap.size w w'):w'.ownsRow base e 1 v n xs:=by
 refine ⟨h.1,?_⟩;rcases h.2 with h' | ⟨g,cap,cur,h',h1,h2,hr⟩
 ·exact .inl h'
 ·refine .inr ⟨g,cap,cur,h',h1,?_,hr⟩;have hg:g<w.heap.size:=by
   rcases a7 g w.heap.size with h' | h'
   ·exact h'
   ·rw [aY h'] at h2;cases h2
  rw [hb.block g hg];exact h2
theorem C6(v:Value)(l:List Pr)(w:World)(cT:TU l)(hm:l.length≤4398046511104)(hr:gK w v l):Calls prog 211 #[v] w fun e w'=>∃ u,e = .returned u∧Fj w' u (Cl l)∧Below w.heap.size w w':=by
 obtain ⟨i0,hi,hz,cx,kU⟩:=info_parts info3;obtain ⟨a,cap,rfl,di,_,hc⟩:=hr;have HC:=ab hc;have pN:=ab cT;obtain ⟨wm,pV,fR,qh⟩:=run_make_full (P:=prog) w w.heap.size 69 3 i0 _ 1 underlying69 hi hz cx .i64 .i64 l.length (by rw [kU];omega) (by unfold maxLen;omega) (aj _)
 have n7:(madeCells (Value.int .i64 0).cells (l.length*1)).toList=wI l 0:=by
  rw [Ka,Nat.mul_one];exact toList_madeCells_one _ _
 rw [n7] at fR;have Cs:Below w.heap.size w wm:=(Below.refl _ _).grown qh (aj _) (fun j hj=>by cases hj)
 obtain ⟨n,hn⟩ : ∃ n,n=l.length:=⟨_,rfl⟩;obtain ⟨b,hb⟩ : ∃ b,b=w.heap.size:=⟨_,rfl⟩;rw [← hn] at hm pV fR ⊢;rw [← hb] at pV fR;have HN:=ab hn;have HB:=ab hb;have HO:=ab fR;have JL:=ab Cs;clear hc hn di cT hb fR Cs qh hi hz cx kU n7;go_enter func211,ntmps211;go_wp2;clear pV;go_loopw [11] (fun i wr=>∃ k:Nat,k≤n∧i = .int .i64 k∧wr.ownsRow b 3 1 (.slice (some ⟨b,0,none⟩) n n) n (wI l k)∧Below w.heap.size w wr) (fun i _=>n - (intOf i).toNat)
 case atStart=>exact ⟨0,aD _,rfl,HO.out,JL.out⟩
 case round =>
  obtain ⟨k,hk,rfl,aE,bO⟩:=hrel;clear HO JL;by_cases bP:k<n
  ·have dm:k<l.length:=by have:=HN.out;omega
   obtain ⟨g,o,rfl,f1,f2⟩:=HC.out k dm;have c1:wr.cell? ⟨g,o+k*2,none⟩=some (.string l[k].1):=(bO.cell (p:=⟨g,o+k*2,none⟩) (World.block_lt_of_cell? w _ f1)).trans f1;have c2:wr.cell? ⟨g,o+k*2+1,none⟩=some (.string l[k].2):=(bO.cell (p:=⟨g,o+k*2+1,none⟩) (World.block_lt_of_cell? w _ f2)).trans f2;have AM:=pN.out l[k] (aH _);have iJ:=ab (NA l k dm);have fh:=ai wr (.cells #[.string l[k].1,.string l[k].2] 52);have nR:=ab (iZ aE fh);have bQ:=ab (Below.next bO fh);have HZ:=ab (fun W=>uE l[k] W AM.1 AM.2)
   obtain ⟨p,hp⟩ : ∃ p,p=l[k]:=⟨_,rfl⟩;rw [← hp] at c1 c2 iJ nR bQ HZ;have kV:=ab (NB l k (by omega))
   have dS:(k:Int)<(n:Int):=by omega
   have j0:(0:Int)≤(k:Int):=by omega
   clear hp HC f1 f2 bO aE AM fh;go_wp2_with fail;refine (HZ.out _).mono ?_
   rintro e w1 ⟨rfl,aP⟩;have jT:=iZ nR.out aP;have q1:∃ u,w1.cell? ⟨b,k,none⟩=some u:=by
    rw [World.ownsRow.cellAt jT k (by omega)]
    exact ⟨_,af (by rw [kV.out];exact dm)⟩
   obtain ⟨u,q1⟩:=q1;have z1:w1.frozen? ⟨b,k,none⟩=false:=World.ownsRow.frozenAt jT k;obtain ⟨z,hz⟩ : ∃ z,z=z7 p:=⟨_,rfl⟩;rw [← hz] at iJ ⊢;have fi:=(World.ownsRow.stored jT k (.int .i64 (z:Int))).1;rw [iJ.out] at fi;have im:=ab fi;have bJ:Hid (Below w.heap.size w (w1.setCell ⟨b,k,none⟩ (.int .i64 (z:Int)))):=(Below.next bQ.out aP).setCell (by rw [HB.out];exact aj _) _
   clear aP bQ HZ c1 c2 jT fi hz iJ nR;go_wp2;go_roundw
   case rel=>exact ⟨k+1,by omega,by go_num,im.out,bJ.out⟩
   case measure=>simp [intOf];omega
  ·have n9:k=l.length:=by have:=HN.out;omega
   rw [n9,NC] at aE;have HI:=ab (fT aE).ints;have kF:=ab bO;have dS:¬ (k:Int)<(n:Int):=by have:=HN.out;omega
   have U7:=ab n9;clear HC bO aE n9;go_wp2;go_ret;exact ⟨_,rfl,HI.out,kF.out⟩
theorem yq(ad:Addr)(n cap:Nat)(l:List Pr)(w:World)(hm:l.length≤4398046511104)(hn:l.length=n)(hr:gK w (.slice (some ad) n cap) l):Calls prog 212 #[.slice (some ad) n cap] w fun e w'=>∃ u,e = .returned u∧iC w' w.heap.size u l∧Below w.heap.size w w':=by
 have qN:∀ w,(binOp .eql 63 (.slice (some ad) n cap) (.slice none 0 0)).run prog w = .ok (.bool false) w:=fun w=>by
  have h2:∀ d:Nat,(Op.equalIn (d+1) 63 (.slice (some ad) n cap) (.slice none 0 0)).run prog w = .ok false w:=fun d=>by
   simp [Op.equalIn,run_underlying underlying63]
  simp only [binOp];simp [Op.equal,Op.maxDepth,h2 9999]
 have fh:=ai w (.cells #[] 52);have ho:iC (w.alloc (.cells #[] 52)) w.heap.size (.slice (some ⟨w.heap.size,0,none⟩) 0 0) []:=World.ownsRow_lit w #[] 0 (aj _) (aD _) rfl;obtain ⟨a1,c1,w1,bg,aE,hg⟩:=gV w.heap.size _ _ [] l _ ho (hr.below fh) (by simp;omega) (by simp)
 rw [List.length_nil,Nat.zero_add,hn] at bg aE;rw [List.nil_append] at aE;have aP:Below w.heap.size w w1:=fh.grown hg (by simp) (fun k hk=>by simp [Value.ownBlock] at hk;omega)
 have HO:=ab aE;have HB:=ab aP;clear hr fh ho aE hg aP;go_enter func212,ntmps212;go_wp2_with (first | (at_builtin;refine wpList_append_run 63 rfl (.tmp 5) (.tmp 6) rfl rfl _ _ rfl rfl _ _ bg ?_))
 clear bg;go_ret;exact ⟨_,rfl,HO.out,HB.out⟩
def aae(A:Nat→Addr)(base:Nat)(l:List Pr)(e:Ending)(w:World):Prop :=
 ∃ (i c:Nat) (u1 u2 ev:Value),e = .returned (.tuple #[u1,u2,ev])∧Il 2 (jv (Cl l)) (Cl l) i c∧yF A ev c ∧
  ((c=0∧iC w base u1 (l.take i)∧iC w base u2 (l.drop i)∧∀ k,u1.ownBlock=some k→u2.ownBlock≠some k)∨(c≠0∧u1 = .slice none 0 0∧u2 = .slice none 0 0))
theorem Il.bound{l:List Int}{i:Nat}(h:Il 2 (jv l) l i 0):1≤i∧i+1≤l.length:=by
 rcases h with ⟨_,_,h⟩ | ⟨_,_,_,h⟩ | ⟨h1,_,h2,_⟩
 ·omega
 ·omega
 ·have:=h2.1;omega
theorem It{a b:World}(h:Below a.drew.heap.size a.drew b):Below a.heap.size a b:=⟨h.os,h.tape,h.output,h.size,h.block⟩
theorem mr{A:Nat→Addr}{ev:Value}(h:yF A ev 0):ev = .nilIface:=by
 rcases h with ⟨h,_⟩ | ⟨_,h⟩ | ⟨_,h⟩ | ⟨_,h⟩ | ⟨_,h⟩
 ·exact h
 all_goals omega
theorem tu{A:Nat→Addr}{ev:Value}{c:Nat}(h:yF A ev c)(hc:c≠0):∃ k,ev = .iface 360 (.pointer (some (A k))):=by
 rcases h with ⟨_,h⟩ | ⟨h,_⟩ | ⟨h,_⟩ | ⟨h,_⟩ | ⟨h,_⟩
 ·omega
 all_goals exact ⟨_,h⟩
theorem OQ(A:Nat→Addr)(v:Value)(l:List Pr)(w:World)(cT:TU l)(hm:l.length≤4398046511104)(hr:gK w v l)(hE:j7 A w):Calls prog 169 #[v] w fun e w'=>aae A w.heap.size l e w'∧Below w.heap.size w w':=by
 have HS:=ab (C6 v l w cT hm hr);have HE:=ab hE;have HR:=ab hr;obtain ⟨a,cap,hv⟩:=hr.form;subst hv;have di:l.length≤cap:=by obtain ⟨_,_,he,h,_⟩:=hr;cases he;exact h
 have HM:=ab hm;clear hr hE hm cT;go_enter func169,ntmps169;go_wp2_with fail;refine HS.out.mono ?_
 rintro e w1 ⟨u,rfl,hint,aP⟩;have HC:=ab (Tz A u (Cl l) w1 (by rw [vF];have:=HM.out;omega) hint (HE.out.below aP).1)
 have bQ:=ab aP;clear hint aP HS;go_wp2_with fail;refine HC.out.mono ?_
 rintro e w2 ⟨hv,aO⟩;obtain ⟨i,c,ev,rfl,uL,fM⟩:=hv.num;have bJ:=ab (Below.next bQ.out aO);have HCN:=ab uL;have kO:=ab fM;clear hv aO HC bQ;by_cases hc:c=0
 ·subst hc;have BP:=mr fM;subst BP;obtain ⟨Cr,vz⟩:=uL.bound;rw [vF] at vz;have iT:=HR.out.below bJ.out;have Er:∃ ad,a=some ad:=by
   obtain ⟨a',c',he,_,_,tO⟩:=iT;cases he;obtain ⟨g,o,ha,_⟩:=tO 0 (by omega)
   exact ⟨_,ha⟩
  obtain ⟨ad,rfl⟩:=Er;have vq:=fun W=>Kj W (some ad) l.length cap i (by omega)
  obtain ⟨a2,S0,qL⟩:=iT.drop (m:=i) (by omega)
  have MM:=iT.take (m:=i) (by omega)
  have jz:∃ ad2,a2=some ad2:=by
   obtain ⟨a',c',he,_,_,tO⟩:=S0;simp only [Value.slice.injEq] at he;obtain ⟨rfl,_⟩:=he;obtain ⟨g,o,ha,_⟩:=tO 0 (by rw [ao];omega)
   exact ⟨_,ha⟩
  obtain ⟨ad2,rfl⟩:=jz;have RO:Hid (∀ W,Below w2.heap.size w2 W→Calls prog 212 #[.slice (some ad) i cap] W fun e w'=>∃ u,e = .returned u∧iC w' W.heap.size u (l.take i)∧Below W.heap.size W w'):=fun W h=>yq ad i cap (l.take i) W (by rw [ag];have:=HM.out;omega) (by rw [ag];omega) (MM.below h)
  have M1:Hid (∀ W,Below w2.heap.size w2 W→Calls prog 212 #[.slice (some ad2) (l.length - i) (cap - i)] W fun e w'=>∃ u,e = .returned u∧iC w' W.heap.size u (l.drop i)∧Below W.heap.size W w'):=fun W h=>yq ad2 (l.length - i) (cap - i) (l.drop i) W (by rw [ao];have:=HM.out;omega) (by rw [ao]) (S0.below h)
  clear iT S0 MM uL fM;go_wp2_with fail;go_region_held3 (fun w'=>True) (go_keep)
   (first
    | (go_at_call 212;refine (RO.out _ ?_).mono ?_;(first | exact Xd.out | exact (Below.refl _ _).drew);rintro e W1 ⟨u1,rfl,jT,aP⟩;have nR:=ab jT;have ajf:=ab aP;have zS:Hid (Below w2.heap.size w2 W1):=(by first | exact Below.next Xd.out aP | exact It aP);clear jT aP)
    | (go_at_call 212;refine (M1.out _ ?_).mono ?_;(first | exact zS.out | exact (Below.refl _ _).drew);rintro e W2 ⟨u2,rfl,gC,aO⟩;have im:=ab gC;have aew:=ab aO;have Xd:Hid (Below w2.heap.size w2 W2):=(by first | exact Below.next zS.out aO | exact It aO);clear gC aO))
  all_goals
   clear RO M1 vq qL;go_wp2;go_ret3
  ·refine ⟨⟨i,0,u1,u2,.nilIface,rfl,HCN.out,.inl ⟨rfl,rfl⟩,.inl ⟨rfl,(nR.out.below aew.out).mono bJ.out.size,im.out.mono zS.out.size |>.mono bJ.out.size,fun k h1 h2=>?_⟩⟩,Below.next bJ.out Xd.out⟩
   have a1:=nR.out.dn k h1;have a2:=im.out.dn k h2;omega
 ·obtain ⟨k,rfl⟩:=tu fM hc;have Er:=fun W=>ff (some (A k)) W
  have HCZ:=ab hc;clear uL fM hc;go_wp2;go_ret3;exact ⟨⟨i,c,_,_,_,rfl,HCN.out,kO.out,.inr ⟨HCZ.out,rfl,rfl⟩⟩,bJ.out⟩
namespace T
def yG(w:World)(a:SN)(key:ByteArray)(b:SN)(e:Ending)(w':World):Prop:=∃ ba bb pa la ca pb lb cb,e = .returned (.tuple #[.pointer (some ⟨ba,0,none⟩),.string key,.pointer (some ⟨bb,0,none⟩)])∧dG w' ba a pa la ca∧dG w' bb b pb lb cb∧Below w.heap.size w w'
theorem yG.drew{w:World}{a b:SN}{key:ByteArray}{e:Ending}{w':World}(h:yG w a key b e w'):yG w a key b e w'.drew:=by
 obtain ⟨ba,bb,pa,la,ca,pb,lb,cb,h1,h2,h3,h4⟩:=h;exact ⟨ba,bb,pa,la,ca,pb,lb,cb,h1,⟨h2.row,h2.iD,h2.bm,h2.kids,h2.fine⟩,⟨h3.row,h3.iD,h3.bm,h3.kids,h3.fine⟩,B.aN h4⟩
theorem KL(A:Nat→Addr)(b:Nat)(n:SN)(pv lv cv:Value)(w:World)(h:dG w b n pv lv cv)(h0:n.us.length=0)(h2:2≤n.ps.length)(hE:j7 A w):Calls prog 129 #[.pointer (some ⟨b,0,none⟩)] w fun e w'=>∃ (i:Nat) (k v:ByteArray),dr (jv (nS n.ps)) ((nS n.ps).length - 1) i∧n.ps[i]?=some (k,v)∧yG w ⟨n.ps.take i,0,[],[]⟩ k ⟨n.ps.drop i,0,[],[]⟩ e w':=by
 have HL:=ab (ch b n pv lv cv w h);rw [show decide (n.us.length=0)=true by simp [h0]] at HL
 have yO:Hid (Calls prog 169 #[pv] w fun e w'=>∃ (i:Nat) (mV sM:Option Addr) (mU mi:Nat),e = .returned (.tuple #[.slice mV (n.ps.take i).length mU,.slice sM (n.ps.drop i).length mi,.nilIface])∧dr (jv (nS n.ps)) ((nS n.ps).length - 1) i∧gK w' (.slice mV (n.ps.take i).length mU) (n.ps.take i)∧gK w' (.slice sM (n.ps.drop i).length mi) (n.ps.drop i)∧Below w.heap.size w w'):=by
  refine (OQ A pv n.ps w h.okL (by have:=h.fine.2.1;omega) h.iD hE).mono fun e w' hh=>?_
  obtain ⟨⟨i,cc,u1,u2,ev,h1,uL,fM,h3⟩,hb⟩:=hh;have PH:ir (Cl n.ps):=fun j hj=>by
   have l6:j<n.ps.length:=by simpa [Cl] using hj
   have:=eM (h.fine.1 n.ps[j] (aH l6));simp only [Cl,cd];unfold z7;omega
  have hlen:(Cl n.ps).length=n.ps.length:=by simp [Cl]
  rcases uL with ⟨g1,_,_⟩ | ⟨_,g1,_⟩ | ⟨_,_,oO,yh⟩
  ·rw [hlen] at g1;omega
  ·exact absurd PH g1
  ·subst yh;rcases h3 with ⟨_,o1,o2,_⟩ | ⟨dK,_⟩
   ·have BP:=mr fM;subst BP;obtain ⟨a1,c1,e1⟩:=o1.form;obtain ⟨a2,c2,e2⟩:=o2.form;subst e1 e2;exact ⟨i,a1,a2,c1,c2,h1,oO,o1.at,o2.at,hb⟩
   ·exact absurd rfl dK
 have p0:=h.c0;have HF:=ab h.fine;clear h h0 hE;go_enter func129,ntmps129;go_wp2_with fail;refine HL.out.mono ?_
 rintro e w1 ⟨rfl,rfl⟩;clear HL;go_wp2_with fail;refine yO.out.mono ?_
 rintro e w2 ⟨i,mV,sM,mU,mi,rfl,oO,fV,iT,aO⟩;have Lh:=oO.1;have qM:(nS n.ps).length=n.ps.length:=by simp [nS]
 rw [qM] at Lh;have jF:0<(n.ps.drop i).length:=by rw [ao];omega
 have T2:=iT;obtain ⟨a2',Ww,he2,_,_,aX⟩:=iT;obtain ⟨g,o,hg,c1,_⟩:=aX 0 jF;cases he2;subst hg;obtain ⟨k,v,hkv⟩ : ∃ k v,n.ps[i]?=some (k,v):=⟨_,_,af (show i<n.ps.length by omega)⟩
 have Rs:((n.ps.drop i)[0]'jF).1=k:=by
  have e1:(n.ps.drop i)[0]?=some (k,v):=by rw [cN,Nat.add_zero];exact hkv
  rw [af jF] at e1;rw [Option.some.inj e1]
 rw [Rs,Nat.zero_mul,Nat.add_zero] at c1;obtain ⟨N1,Jl⟩ : ∃ N,N=(n.ps.take i).length:=⟨_,rfl⟩;obtain ⟨N2,Jk⟩ : ∃ N,N=(n.ps.drop i).length:=⟨_,rfl⟩;have iT:gK w2 (.slice (some ⟨g,o,none⟩) (n.ps.drop i).length mi) (n.ps.drop i):=T2;rw [← Jl] at fV ⊢;rw [← Jk] at iT jF ⊢;have nV:=ab fV;have o7:=ab iT;have bJ:=ab aO;have Ba:=ab oO;have HKV:=ab hkv;have Pt:(0:Int)<(N2:Int):=by omega
 have sK:Hid (((∀ p ∈ n.ps.take i,cP p=true)∧(n.ps.take i).length≤4000∧(∀ p ∈ n.ps.drop i,cP p=true)∧(n.ps.drop i).length≤4000)):=⟨fun p hp=>HF.out.1 p (bH hp),by rw [ag];have:=HF.out.2.1;omega,fun p hp=>HF.out.1 p (bI hp),by rw [ao];have:=HF.out.2.1;omega⟩
 have PA:=World.block_lt_of_cell? w2 _ c1;have t1:=((ai w2 (.cells #[.slice mV N1 mU,.int .i64 0,.slice none 0 0,.slice none 0 0] 155)).cell (p:=⟨g,o,none⟩) PA).trans c1;have t2:=((ai w2 (.cells #[.slice (some ⟨g,o,none⟩) N2 mi,.int .i64 0,.slice none 0 0,.slice none 0 0] 155)).cell (p:=⟨g,o,none⟩) PA).trans c1;have t3:=((ai (w2.alloc (.cells #[.slice mV N1 mU,.int .i64 0,.slice none 0 0,.slice none 0 0] 155)) (.cells #[.slice (some ⟨g,o,none⟩) N2 mi,.int .i64 0,.slice none 0 0,.slice none 0 0] 155)).cell (p:=⟨g,o,none⟩) (World.block_lt_of_cell? _ _ t1)).trans t1;have t4:=((ai (w2.alloc (.cells #[.slice (some ⟨g,o,none⟩) N2 mi,.int .i64 0,.slice none 0 0,.slice none 0 0] 155)) (.cells #[.slice mV N1 mU,.int .i64 0,.slice none 0 0,.slice none 0 0] 155)).cell (p:=⟨g,o,none⟩) (World.block_lt_of_cell? _ _ t2)).trans t2;clear yO fV iT aO oO hkv Lh qM aX Rs Jl Jk p0;go_wp2_with fail;go_region
 all_goals first
  | (have qa:=ai w2 (.cells #[.slice mV N1 mU,.int .i64 0,.slice none 0 0,.slice none 0 0] 155)
     have qb:=ai (w2.alloc (.cells #[.slice mV N1 mU,.int .i64 0,.slice none 0 0,.slice none 0 0] 155)) (.cells #[.slice (some ⟨g,o,none⟩) N2 mi,.int .i64 0,.slice none 0 0,.slice none 0 0] 155);have xa:=(B.ax.new w2 #[.slice mV N1 mU,.int .i64 0,.slice none 0 0,.slice none 0 0] 155).below qb;have xb:=B.ax.new (w2.alloc (.cells #[.slice mV N1 mU,.int .i64 0,.slice none 0 0,.slice none 0 0] 155)) #[.slice (some ⟨g,o,none⟩) N2 mi,.int .i64 0,.slice none 0 0,.slice none 0 0] 155;have sa:(w2.alloc (.cells #[.slice mV N1 mU,.int .i64 0,.slice none 0 0,.slice none 0 0] 155)).heap.size=w2.heap.size+1:=by simp
     rw [sa] at xb;have Ft:Hid (yG w ⟨n.ps.take i,0,[],[]⟩ k ⟨n.ps.drop i,0,[],[]⟩ (.returned (.tuple #[.pointer (some ⟨w2.heap.size,0,none⟩),.string k,.pointer (some ⟨w2.heap.size+1,0,none⟩)])) ((w2.alloc (.cells #[.slice mV N1 mU,.int .i64 0,.slice none 0 0,.slice none 0 0] 155)).alloc (.cells #[.slice (some ⟨g,o,none⟩) N2 mi,.int .i64 0,.slice none 0 0,.slice none 0 0] 155))):=⟨_,_,_,_,_,_,_,_,rfl,⟨xa,(nV.out.below qa).below qb,B.cV.nil _,(C.b7.nil _ 0).at,sK.out.1,sK.out.2.1,(fun p hp=>by simp at hp),by simp,by simp⟩,⟨xb,(o7.out.below qa).below qb,B.cV.nil _,(C.b7.nil _ 0).at,sK.out.2.2.1,sK.out.2.2.2,(fun p hp=>by simp at hp),by simp,by simp⟩,Below.next (Below.next bJ.out qa) qb⟩
     clear qa qb xa xb sa;go_wp2;go_ret3;exact ⟨i,k,v,Ba.out,HKV.out,Ft.out.drew⟩)
  | (have qa:=ai w2 (.cells #[.slice (some ⟨g,o,none⟩) N2 mi,.int .i64 0,.slice none 0 0,.slice none 0 0] 155)
     have qb:=ai (w2.alloc (.cells #[.slice (some ⟨g,o,none⟩) N2 mi,.int .i64 0,.slice none 0 0,.slice none 0 0] 155)) (.cells #[.slice mV N1 mU,.int .i64 0,.slice none 0 0,.slice none 0 0] 155);have xa:=(B.ax.new w2 #[.slice (some ⟨g,o,none⟩) N2 mi,.int .i64 0,.slice none 0 0,.slice none 0 0] 155).below qb;have xb:=B.ax.new (w2.alloc (.cells #[.slice (some ⟨g,o,none⟩) N2 mi,.int .i64 0,.slice none 0 0,.slice none 0 0] 155)) #[.slice mV N1 mU,.int .i64 0,.slice none 0 0,.slice none 0 0] 155;have sa:(w2.alloc (.cells #[.slice (some ⟨g,o,none⟩) N2 mi,.int .i64 0,.slice none 0 0,.slice none 0 0] 155)).heap.size=w2.heap.size+1:=by simp
     rw [sa] at xb;have Ft:Hid (yG w ⟨n.ps.take i,0,[],[]⟩ k ⟨n.ps.drop i,0,[],[]⟩ (.returned (.tuple #[.pointer (some ⟨w2.heap.size+1,0,none⟩),.string k,.pointer (some ⟨w2.heap.size,0,none⟩)])) ((w2.alloc (.cells #[.slice (some ⟨g,o,none⟩) N2 mi,.int .i64 0,.slice none 0 0,.slice none 0 0] 155)).alloc (.cells #[.slice mV N1 mU,.int .i64 0,.slice none 0 0,.slice none 0 0] 155))):=⟨_,_,_,_,_,_,_,_,rfl,⟨xb,(nV.out.below qa).below qb,B.cV.nil _,(C.b7.nil _ 0).at,sK.out.1,sK.out.2.1,(fun p hp=>by simp at hp),by simp,by simp⟩,⟨xa,(o7.out.below qa).below qb,B.cV.nil _,(C.b7.nil _ 0).at,sK.out.2.2.1,sK.out.2.2.2,(fun p hp=>by simp at hp),by simp,by simp⟩,Below.next (Below.next bJ.out qa) qb⟩
     clear qa qb xa xb sa;go_wp2;go_ret3;exact ⟨i,k,v,Ba.out,HKV.out,Ft.out.drew⟩)
end T
namespace C
theorem cV.take{w:World}{a:Option Addr}{n m cap:Nat}{l:List Lk}(h:cV w (.slice a n cap) l)(hm:m≤n):cV w (.slice a m cap) (l.take m):=by
 unfold cV at *;rw [BD];exact nI.take h hm
theorem X8(w:World)(a:Option Addr)(n cap m:Nat)(hm:m≤cap):(Instr.sliceAt 153 (.slice a n cap) none (some (.int .i64 (m:Int))) none).run prog w = .ok (.slice a m cap) w:=by
 rw [run_sliceAt_slice (h:=underlying153),run_slice_h (ht:=underlying153) (h0:=by omega) (h2:=by omega)]
 have hz:(sizeOf (prog.elem 153)).run prog w = .ok 1 w:=by kernel_rfl
 rw [hz];simp [Result.andThen,sliced,Addr.add]
theorem cV.drop{w:World}{a:Option Addr}{n m cap:Nat}{l:List Lk}(h:cV w (.slice a n cap) l)(hm:m≤n):∃ a',cV w (.slice a' (n - m) (cap - m)) (l.drop m)∧∀ w',(Instr.sliceAt 153 (.slice a n cap) (some (.int .i64 (m:Int))) none none).run prog w' = .ok (.slice a' (n - m) (cap - m)) w':=by
 obtain ⟨a',eP,he,hle,hn,hc⟩:=h;cases he;have Jh:(bm l).length=l.length:=ej l;refine ⟨if cap=m then a else a.map (·.add m),⟨_,_,by rw [show (bm (l.drop m)).length=l.length - m by rw [ej,ao],Jh],by rw [ej,ao];omega,fun ha=>?_,fun j u hj=>?_⟩,fun w'=>?_⟩
 ·split at ha
  ·omega
  ·cases a with
   | none=>have:=hn rfl;omega
   | some x=>cases ha
 ·rw [OJ,cN] at hj;have bP:=(List.getElem?_eq_some_iff.1 hj).1;obtain ⟨g,o,ha,h1⟩:=hc (m+j) u hj;subst ha;refine ⟨g,o+m,?_,?_⟩
  ·rw [if_neg (show ¬ cap=m by omega)];simp [bB]
  ·rw [show o+m+j=o+(m+j) by omega];exact h1
 ·rw [run_sliceAt_slice (h:=underlying153),run_slice_l (ht:=underlying153) (h0:=by omega) (h1:=by omega)]
  have hz:(sizeOf (prog.elem 153)).run prog w' = .ok 1 w':=by kernel_rfl
  rw [hz];simp [Result.andThen,sliced]
end C
namespace B
theorem Gp(B g o n cap p:Nat)(a b x:Int)(w:World)(hB:w.cell? ⟨B,0,none⟩=some (.slice (some ⟨g,o,none⟩) n cap))(hp:p<n)(hx:w.cell? ⟨g,o+p,none⟩=some (.int .i64 x))(ha:0≤a∧a≤1152921504606846976)(hb:0≤b - x∧b - x≤1152921504606846976):Calls prog 238 #[.int .i64 (p:Int),.int .i64 a,.int .i64 b,.pointer (some ⟨B,0,none⟩)] w fun e w'=>e = .returned (.int .i64 ((a - (b - x)).natAbs:Int))∧w=w':=by
 have HD:=ab (EP a (b - x) w ha hb);have hw:IntKind.i64.wrap (b - x)=b - x:=pe _ (by omega) (by omega)
 have hpi:(p:Int)<(n:Int):=by omega
 clear ha hb;go_enter func238,ntmps238;go_wp2_with (go_at_call 237;refine HD.out.mono ?_;rintro e w' ⟨rfl,rfl⟩)
 go_ret;exact ⟨rfl,rfl⟩
theorem LF(A:Nat→Addr)(B g o cap m n:Nat)(l:List Int)(w:World)(Y8:n≤17592186044416)(eo:1≤m)(hn:n=m+2)(e1:l.length=n)(di:n≤cap)(hE:du 4 fl A w)(h1:∀ j (h:j<l.length),w.cell? ⟨g,o+j,none⟩=some (.int .i64 l[j]))(hB:w.cell? ⟨B,0,none⟩=some (.slice (some ⟨g,o,none⟩) n cap)):Calls prog 235 #[.slice (some ⟨g,o,none⟩) n cap,.int .i64 3,.func (.func 238) #[] #[.pointer (some ⟨B,0,none⟩)]] w fun e w'=>((ir l∧∃ i:Nat,e = .returned (.tuple #[.int .i64 (i:Int),.nilIface])∧dr (ju l) m i)∨(¬ ir l∧e = .returned (.tuple #[.int .i64 0,.iface 360 (.pointer (some (A 0)))])))∧Below w.heap.size w w':=by
 have c0:w.cell? ⟨0,0,none⟩=some (.iface 360 (.pointer (some (A 0)))):=(hE.1 0 (by decide)).1
 have HS:=ab (Iy (some ⟨g,o,none⟩) cap n l w (by omega) e1 (fun j h=>⟨g,o,rfl,h1 j h⟩))
 have hm:m≤17592186044416:=by omega
 have HE:Hid (l.length=n):=e1;have HN:Hid (n=m+2):=hn;have H1:=ab h1;have Q2:=ab (gP l);have HB:=ab hB;have hnI:(n:Int)=(m:Int)+2:=by omega
 have vq:IntKind.i64.wrap ((n:Int) - 3)=(m:Int) - 1:=by rw [IntKind.wrap_i64];omega
 have qL:IntKind.i64.wrap ((m:Int) - 1+1)=(m:Int):=by rw [IntKind.wrap_i64];omega
 have bP:¬ (n:Int)<3:=by omega
 have hmc:(m:Int)≤(cap:Int):=by omega
 have Ld:(0:Int)≤(m:Int):=by omega
 clear e1 hn h1 hE hnI Y8 hB;by_cases hF:ir l
 ·have HT:=ab (hO hF n (by have:=HE.out;omega))
  have HF:=ab hF;have lf:Hid (Calls prog 254 #[.slice (some ⟨g,o,none⟩) n cap] w fun e w'=>e = .returned (.tuple #[.int .i64 (pre l n),.bool true])∧w=w'):=by
   refine HS.out.mono ?_
   rintro e w' ⟨h | h,rfl⟩
   ·exact ⟨h.2,rfl⟩
   ·exact absurd hF h.1
  obtain ⟨T,hT⟩ : ∃ T,T=pre l n:=⟨_,rfl⟩;rw [← hT] at lf HT;have UZ:=ab hT;clear hT HS c0 hF;go_enter func235,ntmps235;go_wp2_with (go_at_call 254;refine lf.out.mono ?_;rintro e w' ⟨rfl,rfl⟩)
  go_loop [8,10,11,12,38] (fun re be le ah i=>∃ (k l8:Nat) (least:Int),k≤m∧i = .int .i64 k∧re = .int .i64 (T - pre l k)∧be = .int .i64 (l8:Int)∧le = .int .i64 least∧ah = .int .i64 (pre l k)∧((k=0∧l8=0∧least=T)∨(1≤k∧dr (ju l) k l8∧least=ju l l8))) (fun _ _ _ _ i=>m - (intOf i).toNat)
  case atStart=>exact ⟨0,0,T,aD _,rfl,by rw [Q2.out,Int.sub_zero],rfl,rfl,by rw [Q2.out],.inl ⟨rfl,rfl,rfl⟩⟩
  case round =>
   obtain ⟨k,l8,least,hk,rfl,rfl,rfl,rfl,rfl,fi⟩:=hrel;have gY:=ab fi;clear fi;by_cases hltk:k<m
   ·have jA:k<l.length:=by have:=HE.out;have:=HN.out;omega
    have f1:=H1.out k jA;have sX:=ab (jo l k jA);have HPB:=ab (hO HF.out k (by omega))
    have Cf:=ab (hO HF.out (k+1) (by omega))
    have WN:=ab (gh HF.out (k+1) n (by have:=HE.out;have:=HN.out;omega) (by have:=HE.out;omega))
    obtain ⟨x,hx⟩ : ∃ x,x=l[k]:=⟨_,rfl⟩;rw [← hx] at f1 sX;obtain ⟨p,hp⟩ : ∃ p,p=pre l k:=⟨_,rfl⟩;rw [← hp] at HPB sX ⊢;obtain ⟨q,hq⟩ : ∃ q,q=pre l (k+1):=⟨_,rfl⟩;rw [← hq] at Cf sX WN;rw [← UZ.out] at WN;have HQ:=ab hq;have XQ:Hid ((k:Int)≤17592186044416∧4072*((k:Int)+1)≤72057594037927936):=⟨by omega,by omega⟩
    have WG:Hid (0≤q∧q≤1152921504606846976):=⟨Cf.out.1,by have:=Cf.out.2;have:=XQ.out;omega⟩
    have Cz:Hid (0≤T - q∧T - q≤1152921504606846976):=⟨by have:=WN.out;omega,by have:=HT.out.2;have:=Cf.out.1;have:=HN.out;omega⟩
    have vS:IntKind.i64.wrap (p+x)=q:=by rw [← sX.out];exact pe _ WG.out.1 (by have:=WG.out;omega)
    have Ri:IntKind.i64.wrap (T - p - x)=T - q:=by rw [show T - p - x=T - q by have:=sX.out;omega];exact pe _ Cz.out.1 (by have:=Cz.out;omega)
    have MK:IntKind.i64.wrap ((k:Int)+1)=((k+1:Nat):Int):=by rw [IntKind.wrap_i64];omega
    have qg:k+1<l.length:=by have:=HE.out;have:=HN.out;omega
    have aaz:=ab (gh HF.out (k+1+1) n (by have:=HE.out;have:=HN.out;omega) (by have:=HE.out;omega))
    have WH:=ab (jo l (k+1) qg);have HY:=ab (HF.out (k+1) qg);rw [← UZ.out] at aaz;rw [← HQ.out] at WH;have Xb:Hid (Calls prog 238 #[.int .i64 ((k+1:Nat):Int),.int .i64 q,.int .i64 (T - q),.pointer (some ⟨B,0,none⟩)] w fun e w'=>e = .returned (.int .i64 ((ju l (k+1):Nat):Int))∧w=w'):=by
     have h:=Gp B g o n cap (k+1) q (T - q) l[k+1] w HB.out (by have:=HE.out;omega) (H1.out (k+1) qg) WG.out ⟨by have:=aaz.out;have:=WH.out;omega,by have:=Cz.out;have:=HY.out;omega⟩
     have e:ju l (k+1)=(q - (T - q - l[k+1])).natAbs:=by unfold ju;rw [HE.out,← UZ.out,WH.out,← HQ.out];congr 1;omega
     rw [e];exact h
    have WY:=ab (Tm HF.out (k+1) (by omega) (by have:=HE.out;have:=HN.out;omega))
    rw [HE.out,← UZ.out] at WY;obtain ⟨gp,V5⟩ : ∃ gp:Nat,gp=ju l (k+1):=⟨_,rfl⟩;rw [← V5] at Xb WY;have WX:=ab V5;have dS:(k:Int)<(m:Int):=by omega
    clear hx hp hq V5 H1 Q2 lf;by_cases hless:(gp:Int)<least
    ·have WL:Hid (dr (ju l) (k+1) (k+1)):=by
      rcases gY.out with ⟨rfl,_,_⟩ | ⟨_,hb,he⟩
      ·exact dr.one _
      ·exact hb.IC (by rw [← WX.out];omega)
     clear gY;go_wp2_with (go_at_call 238;refine (Xb.out).mono ?_;rintro e w' ⟨rfl,rfl⟩)
     go_round
     case rel=>exact ⟨k+1,k+1,gp,by omega,rfl,by rw [← HQ.out],rfl,rfl,by rw [← HQ.out],.inr ⟨by omega,WL.out,by rw [WX.out]⟩⟩
     case measure=>simp [intOf];omega
    ·have Cg:Hid (1≤k+1∧dr (ju l) (k+1) l8∧least=ju l l8):=by
      rcases gY.out with ⟨_,_,rfl⟩ | ⟨_,hb,he⟩
      ·exact absurd WY.out hless
      ·exact ⟨by omega,hb.IB (by rw [← WX.out];omega),he⟩
     clear gY;go_wp2_with (go_at_call 238;refine (Xb.out).mono ?_;rintro e w' ⟨rfl,rfl⟩)
     go_round
     case rel=>exact ⟨k+1,l8,least,by omega,rfl,by rw [← HQ.out],rfl,rfl,by rw [← HQ.out],.inr Cg.out⟩
     case measure=>simp [intOf];omega
   ·have Le:k=m:=by omega
    have nX:Hid (dr (ju l) m l8):=by
     rcases gY.out with ⟨h0,_,_⟩ | ⟨_,hb,_⟩
     ·omega
     ·rw [← Le];exact hb
    subst Le;obtain ⟨p,hp⟩ : ∃ p,p=pre l k:=⟨_,rfl⟩;rw [← hp];clear hp gY H1 lf Q2;go_wp2;go_ret2;exact ⟨.inl ⟨HF.out,l8,rfl,nX.out⟩,Below.refl _ _⟩
 ·have lf:Hid (Calls prog 254 #[.slice (some ⟨g,o,none⟩) n cap] w fun e w'=>e = .returned (.tuple #[.int .i64 0,.bool false])∧w=w'):=by
   refine HS.out.mono ?_
   rintro e w' ⟨h | h,rfl⟩
   ·exact absurd h.1 hF
   ·exact ⟨h.2,rfl⟩
  have HF:=ab hF;clear HS hF H1 Q2;go_enter func235,ntmps235;go_wp2_with (go_at_call 254;refine lf.out.mono ?_;rintro e w' ⟨rfl,rfl⟩)
  go_quiet (fail)
  go_wp2;go_ret2;exact ⟨.inr ⟨HF.out,rfl⟩,aB (Below.refl _ _) _⟩
theorem yl{n:Nat}{G:Nat→Nat}{A:Nat→Addr}{w w':World}(h:du n G A w)(hb:Below w.heap.size w w'):du n G A w':=du.keep h hb
theorem Kz(A:Nat→Addr)(v:Value)(l:List Int)(w:World)(hm:l.length≤17592186044416)(hr:Fj w v l)(hE:du 4 fl A w):Calls prog 213 #[v] w fun e w'=>ME A 3 (ju l) l e∧Below w.heap.size w w':=by
 have G3:∀ (fn:Fn) (first cap:Array Value) (w:World),(Instr.makeFunc fn first cap).run prog w = .ok (.func fn first cap) w:=fun _ _ _ _=>rfl
 have fh:=ai w (.cells #[v] 69);have iT:=hr.below fh;obtain ⟨a,cap,rfl,di,_⟩:=hr;obtain ⟨a',eP,SS,_,hc⟩:=iT;cases SS;have hE2:=yl hE fh;have hB:(w.alloc (.cells #[.slice a l.length cap] 69)).cell? ⟨w.heap.size,0,none⟩=some (.slice a l.length cap):=(bN w #[.slice a l.length cap] 69).2 0 (by simp)
 have Cj:=ab fh;have H:Hid (Calls prog 235 #[.slice a l.length cap,.int .i64 3,.func (.func 238) #[] #[.pointer (some ⟨w.heap.size,0,none⟩)]] (w.alloc (.cells #[.slice a l.length cap] 69)) fun e w'=>∃ x y,e = .returned (.tuple #[x,y])∧ME A 3 (ju l) l (.returned (.tuple #[x,y]))∧Below (w.alloc (.cells #[.slice a l.length cap] 69)).heap.size (w.alloc (.cells #[.slice a l.length cap] 69)) w'):=by
  by_cases hs:l.length<3
  ·refine (AW A a l.length cap 3 _ _ (by omega) hm hE2).mono ?_
   rintro e w' ⟨rfl,hb⟩;exact ⟨_,_,rfl,.inl ⟨hs,rfl⟩,hb⟩
  ·obtain ⟨g,o,rfl,_⟩:=hc 0 (by omega)
   refine (LF A w.heap.size g o cap (l.length - 2) l.length l _ hm (by omega) (by omega) rfl di hE2 (fun j h=>by obtain ⟨g',o',he,aX⟩:=hc j h;cases he;exact aX) hB).mono ?_
   rintro e w' ⟨⟨hf,i,rfl,hi⟩ | ⟨hf,rfl⟩,hb⟩
   ·exact ⟨_,_,rfl,.inr (.inr ⟨by omega,hf,i,rfl,hi⟩),hb⟩
   ·exact ⟨_,_,rfl,.inr (.inl ⟨by omega,hf,rfl⟩),hb⟩
 clear hc hE di hE2 fh;go_enter func213,ntmps213;go_wp2_with (go_at_call 235;refine H.out.mono ?_;rintro e w' ⟨x,y,rfl,hv,hb⟩;have HV:=ab hv;have nc:=ab (Below.next Cj.out hb);clear hv hb)
 go_ret2;exact ⟨HV.out,nc.out⟩
end B
end Go.Proofs.YtihmgigfkmofnaaGreatDoor
