import Derived.Test.YtihmgigfkmofnaaGreatDoorG06
set_option maxHeartbeats 4000000
set_option maxRecDepth 20000
open Go.Proofs.Tryz
namespace Go.Proofs.YtihmgigfkmofnaaGreatDoor
open Go.RowKit
theorem oN(x y:ByteArray):(x.toList == y.toList)=decide (x=y):=by
 rw [jZ,beq_iff_eq,decide_eq_true_eq,ByteArray.toList_eq,ByteArray.toList_eq];exact ⟨fun h=>jf h,fun h=>by rw [h]⟩
theorem Lg(p:Pr)(key:ByteArray)(b:Nat)(w:World)(hc:w.cell? ⟨b,0,none⟩=some (.string key)):Calls prog 88 #[.agg #[.string p.1,.string p.2],.pointer (some ⟨b,0,none⟩)] w fun e w'=>e = .returned (.bool (!df p.1 key))∧Below w.heap.size w w':=by
 have fh:=ai w (.cells #[.string p.1,.string p.2] 52);have AP:(w.alloc (.cells #[.string p.1,.string p.2] 52)).cell? ⟨b,0,none⟩=some (.string key):=(fh.cell (p:=⟨b,0,none⟩) (World.block_lt_of_cell? w _ hc)).trans hc;go_enter func88,ntmps88;go_wp2;go_ret;exact ⟨rfl,fh⟩
theorem OH(v:Value)(l:List Pr)(key:ByteArray)(b:Nat)(w:World)(hm:l.length≤140737488355328)(hr:gZ w v l)(hk:w.cell? ⟨b,0,none⟩=some (.string key)):Calls prog 87 #[v,.func (.func 88) #[] #[.pointer (some ⟨b,0,none⟩)]] w fun e w'=>((aQ l key<l.length∧e = .returned (.int .i64 (aQ l key:Int)))∨(¬ aQ l key<l.length∧e = .returned (.int .i64 (-1))))∧Below w.heap.size w w':=by
 obtain ⟨a,cap,rfl,du,_,hc⟩:=hr;have HC:=ab hc;obtain ⟨n,hn⟩ : ∃ n,n=l.length:=⟨_,rfl⟩;rw [← hn] at hm ⊢;have HN:=ab hn;have HK:=ab hk;have Xr:=ab (World.block_lt_of_cell? w _ hk);obtain ⟨Q,hQ⟩ : ∃ Q:Ending→World→Prop,Q=fun e w'=>((aQ l key<n∧e = .returned (.int .i64 (aQ l key:Int)))∨(¬ aQ l key<n∧e = .returned (.int .i64 (-1))))∧Below w.heap.size w w':=⟨_,rfl⟩
 rw [← hQ];have HQ:=ab hQ;clear hc hn du hk hQ;go_enter func87,ntmps87;go_wp2;go_loopw [8] (fun i wr=>∃ k:Nat,k≤n∧i = .int .i64 k∧(∀ j (h:j<l.length),j<k→df l[j].1 key=true)∧Below w.heap.size w wr) (fun i _=>n - (intOf i).toNat)
 case atStart=>exact ⟨0,aC _,rfl,fun j _ h=>absurd h (fZ _),Below.refl _ _⟩
 case round =>
  obtain ⟨k,hk,rfl,iW,bL⟩:=hrel;have HP:=ab iW;clear iW;by_cases bX:k<n
  ·have ep:k<l.length:=by have:=HN.out;omega
   obtain ⟨g,o,rfl,f1,f2⟩:=HC.out k ep;have c1:wr.cell? ⟨g,o+k*2,none⟩=some (.string l[k].1):=(bL.cell (p:=⟨g,o+k*2,none⟩) (World.block_lt_of_cell? w _ f1)).trans f1;have c2:wr.cell? ⟨g,o+k*2+1,none⟩=some (.string l[k].2):=(bL.cell (p:=⟨g,o+k*2+1,none⟩) (World.block_lt_of_cell? w _ f2)).trans f2;have HF:=ab (Lg l[k] key b wr ((bL.cell (p:=⟨b,0,none⟩) Xr.out).trans HK.out));have oS:Hid (df l[k].1 key=true→∀ j (h:j<l.length),j<k+1→df l[j].1 key=true):=fun hl j h hj=>by
    by_cases he:j=k
    ·subst he;exact hl
    ·exact HP.out j h (by omega)
   have CI:Hid (df l[k].1 key=false→aQ l key=k):=fun hl=>sw ep (fun j hj=>HP.out j (by omega) hj) hl
   obtain ⟨p,hp⟩ : ∃ p,p=l[k]:=⟨_,rfl⟩;rw [← hp] at c1 c2 HF oS CI;have dO:(k:Int)<(n:Int):=by omega
   have HB:=ab bL;clear hp HC f1 f2 bL;cases hb:df p.1 key with
   | true =>
    rw [hb] at HF;have tY:=ab (oS.out hb);clear hb oS CI;go_wp2_with fail;refine HF.out.mono ?_
    rintro e w1 ⟨rfl,aN⟩;have bN:=ab (Below.next HB.out aN);clear aN HB HF c1 c2;go_wp2;go_roundw
    case rel=>exact ⟨k+1,by omega,by go_num,tY.out,bN.out⟩
    case measure=>simp [intOf];omega
   | false =>
    rw [hb] at HF;have Ic:=ab (CI.out hb);clear hb oS CI;go_wp2_with fail;refine HF.out.mono ?_
    rintro e w1 ⟨rfl,aN⟩;have bN:=ab (Below.next HB.out aN);clear aN HB HF c1 c2;go_wp2;rw [HQ.out];exact ⟨.inl ⟨by rw [Ic.out];exact bX,by rw [Ic.out];rfl⟩,bN.out⟩
  ·have HB:=ab bL;have dO:¬ (k:Int)<(n:Int):=by omega
   have kh:Hid (¬ aQ l key<n):=by
    have h:=qO (l:=l) (key:=key) (fun j hj=>HP.out j hj (by have:=HN.out;omega))
    have:=HN.out;intro h';omega
   clear HC bL HP;go_wp2;rw [HQ.out];exact ⟨.inr ⟨kh.out,rfl⟩,HB.out⟩
theorem py(v:Value)(l:List Pr)(key:ByteArray)(w:World)(hm:l.length≤140737488355328)(hr:gZ w v l):Calls prog 52 #[v,.string key] w fun e w'=>e = .returned (.tuple #[.int .i64 (aQ l key:Int),.bool (bq l key)])∧Below w.heap.size w w':=by
 have O6:∀ (fn:Fn) (first cap:Array Value) (w:World),(Instr.makeFunc fn first cap).run prog w = .ok (.func fn first cap) w:=fun _ _ _ _=>rfl
 have fh:=ai w (.cells #[.string key] 9);have hx:=bM w #[.string key] 9;have eN:=hr.below fh;have HI:=ab (OH v l key w.heap.size _ hm eN (hx.2 0 (by simp)))
 have HR:=ab eN;have HX:=ab hx;have Co:=ab fh;obtain ⟨a,c,rfl⟩:=hr.form;have MI:=ab (cW l key);obtain ⟨q,hq⟩ : ∃ q,q=aQ l key:=⟨_,rfl⟩;have CI:Hid (∀ (h:q<l.length),bq l key=decide (l[q].1=key)):=by subst hq;exact fun h=>l8 h
 have kh:Hid (¬ q<l.length→bq l key=false):=by subst hq;exact fun h=>oI h
 rw [← hq] at HI MI ⊢;clear hq hr eN fh hx;go_enter func52,ntmps52;go_wp2_with fail;refine HI.out.mono ?_
 rintro e w1 ⟨⟨bX,rfl⟩ | ⟨bX,rfl⟩,aN⟩
 ·have eN:=HR.out.below aN;have k0:w1.cell? ⟨w.heap.size,0,none⟩=some (.string key):=(HX.out.below aN).2 0 (by simp)
  obtain ⟨a',c',he,_,_,hc⟩:=eN;cases he;obtain ⟨g,o,rfl,f1,f2⟩:=hc q bX;have QN:=ab (CI.out bX);have HB:=ab (Below.next Co.out aN);have G3:decide ((q:Int)<0)=false:=decide_eq_false (by omega)
  have j0:(0:Int)≤(q:Int):=by omega
  have j1:(q:Int)<(l.length:Int):=by omega
  generalize l[q].1=x at *;clear hc aN HI HR HX Co CI kh f2;go_wp2;go_quiet (fail)
  go_wp2;go_ret2;refine ⟨?_,aB HB.out _⟩;rw [QN.out,← oN];rfl
 ·have HB:=ab (Below.next Co.out aN);have QN:=ab (kh.out bX);have UC:Hid (q=l.length):=by have:=MI.out;show q=l.length;omega
  clear aN HI HR HX Co CI kh bX;go_wp2;go_ret2;exact ⟨by rw [QN.out,UC.out];rfl,HB.out⟩
theorem Ka(w:World)(a:Option Addr)(n cap m:Nat)(hm:m≤cap):(Instr.sliceAt 63 (.slice a n cap) none (some (.int .i64 (m:Int))) none).run prog w = .ok (.slice a m cap) w:=by
 rw [run_sliceAt_slice (h:=underlying63),run_slice_h (ht:=underlying63) (h0:=by omega) (h2:=by omega)]
 have hz:(sizeOf (prog.elem 63)).run prog w = .ok 2 w:=by kernel_rfl
 rw [hz];simp [Result.andThen,sliced,Addr.add]
theorem gZ.drop{w:World}{a:Option Addr}{n m cap:Nat}{l:List Pr}(h:gZ w (.slice a n cap) l)(hm:m≤n):∃ a',gZ w (.slice a' (n - m) (cap - m)) (l.drop m)∧∀ w',(Instr.sliceAt 63 (.slice a n cap) (some (.int .i64 (m:Int))) none none).run prog w' = .ok (.slice a' (n - m) (cap - m)) w':=by
 obtain ⟨a',eO,he,hle,hn,hc⟩:=h;cases he;refine ⟨if cap=m then a else a.map (·.add (m*2)),⟨_,_,by rw [ao],by rw [ao];omega,fun ha=>?_,fun j hj=>?_⟩,fun w'=>?_⟩
 ·split at ha
  ·omega
  ·cases a with
   | none=>have:=hn rfl;omega
   | some x=>cases ha
 ·rw [ao] at hj;obtain ⟨g,o,ha,h1,h2⟩:=hc (m+j) (by omega)
  subst ha;refine ⟨g,o+m*2,?_,?_,?_⟩
  ·rw [if_neg (by omega)];simp [bA]
  ·rw [cY,show o+m*2+j*2=o+(m+j)*2 by omega];exact h1
  ·rw [cY,show o+m*2+j*2+1=o+(m+j)*2+1 by omega];exact h2
 ·rw [run_sliceAt_slice (h:=underlying63),run_slice_l (ht:=underlying63) (h0:=by omega) (h1:=by omega)]
  have hz:(sizeOf (prog.elem 63)).run prog w' = .ok 2 w':=by kernel_rfl
  rw [hz];simp [Result.andThen,sliced]
theorem DL(v:Value)(l:List Pr)(key value:ByteArray)(w:World)(hm:l.length≤4398046511000)(hr:gZ w v l):Calls prog 48 #[v,.string key,.string value] w fun e w'=>∃ u,e = .returned u∧iU w' w.heap.size u (eT l key value)∧Below w.heap.size w w':=by
 have HF:=ab (py v l key w (by omega) hr)
 have HR:=ab hr;obtain ⟨a,cap,hv⟩:=hr.form;subst hv;have kU:=cW l key;have jJ:=jF l key;have St:=eP l key;have du:l.length≤cap:=by obtain ⟨_,_,he,h,_⟩:=hr;cases he;exact h
 obtain ⟨q,hq⟩ : ∃ q,q=aQ l key:=⟨_,rfl⟩;obtain ⟨r,zd⟩ : ∃ r,r=bW l key:=⟨_,rfl⟩;obtain ⟨fb,Pj⟩ : ∃ fb,fb=bq l key:=⟨_,rfl⟩;have vY:(if fb then q+1 else q:Nat)=r:=by rw [zd,hq,Pj];rfl
 have TF:=ab (fun W=>yB q fb W (by omega))
 rw [vY] at TF;rw [← hq,← Pj] at HF;rw [← hq] at kU;rw [← zd] at jJ;rw [← hq,← zd] at St;obtain ⟨a2,iK,qD⟩:=hr.drop jJ;have vj:=fun W=>Ka W a l.length cap q (by omega)
 have nK:=ab (hr.take kU);have oR:=ab iK;have HL:Hid (eT l key value=[l.take q,[(key,value)],l.drop r].flatten):=by show _=_;unfold eT;rw [← hq,← zd];simp
 clear hr iK hq zd Pj vY;go_enter func48,ntmps48;go_wp2_with fail;refine HF.out.mono ?_
 rintro e w1 ⟨rfl,aN⟩;have bN:=ab aN;clear aN HF;have zm:Hid (∀ W,Below ((w1.alloc (.cells #[.string key,.string value] 52)).alloc (.cells #[.slice a q cap,.slice (some ⟨w1.heap.size,0,none⟩) 1 1,.slice a2 (l.length - r) (cap - r)] 63)).heap.size ((w1.alloc (.cells #[.string key,.string value] 52)).alloc (.cells #[.slice a q cap,.slice (some ⟨w1.heap.size,0,none⟩) 1 1,.slice a2 (l.length - r) (cap - r)] 63)) W→Calls prog 84 #[.slice (some ⟨w1.heap.size+1,0,none⟩) 3 3] W fun e w'=>∃ u,e = .returned u∧iU w' w.heap.size u (eT l key value)∧Below w.heap.size w w'):=fun W hW=>by
  have hbA:=ai w1 (.cells #[.string key,.string value] 52);have hsA:(w1.alloc (.cells #[.string key,.string value] 52)).heap.size=w1.heap.size+1:=by simp
  have ab2:=By w1 (key,value) 52;generalize w1.alloc (.cells #[.string key,.string value] 52)=WA at *;have hbB:=ai WA (.cells #[.slice a q cap,.slice (some ⟨w1.heap.size,0,none⟩) 1 1,.slice a2 (l.length - r) (cap - r)] 63);have Zu:=(bM WA #[.slice a q cap,.slice (some ⟨w1.heap.size,0,none⟩) 1 1,.slice a2 (l.length - r) (cap - r)] 63).below hW;rw [hsA] at Zu;have SQ:=Below.next (Below.next bN.out hbA) (Below.next hbB hW);rw [HL.out];refine (qR (w1.heap.size+1) 3 3 [.slice a q cap,.slice (some ⟨w1.heap.size,0,none⟩) 1 1,.slice a2 (l.length - r) (cap - r)] [l.take q,[(key,value)],l.drop r] W rfl (by decide) rfl ?_ (fun j h=>Zu.2 j h) ?_).mono ?_
  ·simp;omega
  ·intro j h h';have hj:j<3:=h;match j,hj with
   | 0,_=>exact nK.out.below SQ
   | 1,_=>exact ab2.below (Below.next hbB hW)
   | 2,_=>exact oR.out.below SQ
  ·rintro e w' ⟨u,rfl,ho,hb⟩;exact ⟨u,rfl,ho.mono SQ.size,Below.next SQ hb⟩
 clear HR nK oR HL bN;go_wp2_with fail;go_region_held3 (fun w'=>True) (go_keep)
  (first
   | (go_at_call 85;refine (TF.out _).mono ?_;rintro e w2 ⟨rfl,rfl⟩)
   | (go_at_call 84;refine (zm.out _ ?_).mono ?_;(exact (Below.refl _ _).drew);rintro e w3 ⟨u,rfl,ho,hb⟩;have HO:=ab ho;have HB:=ab hb;clear ho hb))
 all_goals
  clear zm TF vj qD;go_wp2;go_ret;exact ⟨_,rfl,HO.out,HB.out⟩
theorem Aw(v:Value)(l:List Pr)(key:ByteArray)(w:World)(hm:l.length≤4398046511000)(hr:gZ w v l):Calls prog 51 #[v,.string key] w fun e w'=>∃ u,e = .returned (.tuple #[u,.bool (bq l key)])∧iU w' w.heap.size u (cX l key)∧Below w.heap.size w w':=by
 have HF:=ab (py v l key w (by omega) hr)
 have HR:=ab hr;obtain ⟨a,cap,hv⟩:=hr.form;subst hv;have kU:=cW l key;have jJ:=jF l key;have St:=eP l key;have du:l.length≤cap:=by obtain ⟨_,_,he,h,_⟩:=hr;cases he;exact h
 obtain ⟨q,hq⟩ : ∃ q,q=aQ l key:=⟨_,rfl⟩;obtain ⟨r,zd⟩ : ∃ r,r=bW l key:=⟨_,rfl⟩;obtain ⟨fb,Pj⟩ : ∃ fb,fb=bq l key:=⟨_,rfl⟩;have vY:(if fb then q+1 else q:Nat)=r:=by rw [zd,hq,Pj];rfl
 have TF:=ab (fun W=>yB q fb W (by omega))
 rw [vY] at TF;rw [← hq,← Pj] at HF;rw [← Pj];rw [← hq] at kU;rw [← zd] at jJ;rw [← hq,← zd] at St;obtain ⟨a2,iK,qD⟩:=hr.drop jJ;have vj:=fun W=>Ka W a l.length cap q (by omega)
 have nK:=ab (hr.take kU);have oR:=ab iK;have HL:Hid (cX l key=[l.take q,l.drop r].flatten):=by show _=_;unfold cX;rw [← hq,← zd];simp
 clear hr iK hq zd Pj vY;go_enter func51,ntmps51;go_wp2_with fail;refine HF.out.mono ?_
 rintro e w1 ⟨rfl,aN⟩;have bN:=ab aN;clear aN HF;have zm:Hid (∀ W,Below (w1.alloc (.cells #[.slice a q cap,.slice a2 (l.length - r) (cap - r)] 63)).heap.size (w1.alloc (.cells #[.slice a q cap,.slice a2 (l.length - r) (cap - r)] 63)) W→Calls prog 84 #[.slice (some ⟨w1.heap.size,0,none⟩) 2 2] W fun e w'=>∃ u,e = .returned u∧iU w' w.heap.size u (cX l key)∧Below w.heap.size w w'):=fun W hW=>by
  have hbB:=ai w1 (.cells #[.slice a q cap,.slice a2 (l.length - r) (cap - r)] 63);have Zu:=(bM w1 #[.slice a q cap,.slice a2 (l.length - r) (cap - r)] 63).below hW;have SQ:=Below.next bN.out (Below.next hbB hW);rw [HL.out];refine (qR w1.heap.size 2 2 [.slice a q cap,.slice a2 (l.length - r) (cap - r)] [l.take q,l.drop r] W rfl (by decide) rfl ?_ (fun j h=>Zu.2 j h) ?_).mono ?_
  ·simp;omega
  ·intro j h h';have hj:j<2:=h;match j,hj with
   | 0,_=>exact nK.out.below SQ
   | 1,_=>exact oR.out.below SQ
  ·rintro e w' ⟨u,rfl,ho,hb⟩;exact ⟨u,rfl,ho.mono SQ.size,Below.next SQ hb⟩
 clear HR nK oR HL bN;go_wp2_with fail;go_region_held3 (fun w'=>True) (go_keep)
  (first
   | (go_at_call 85;refine (TF.out _).mono ?_;rintro e w2 ⟨rfl,rfl⟩)
   | (go_at_call 84;refine (zm.out _ ?_).mono ?_;(exact (Below.refl _ _).drew);rintro e w3 ⟨u,rfl,ho,hb⟩;have HO:=ab ho;have HB:=ab hb;clear ho hb))
 all_goals
  clear zm TF vj qD;go_wp2;go_ret2;exact ⟨_,rfl,HO.out,HB.out⟩
def Cr(l:List Pr):List Int:=l.map fun p=>(zZ p:Int)
theorem vB(l:List Pr):(Cr l).length=l.length:=by simp [Cr]
theorem zo(l:List Pr)(k:Nat)(h:k<l.length):Cr (l.take (k+1))=Cr (l.take k)++[(zZ l[k] : Int)]:=by
 unfold Cr;rw [ay h,aW];rfl
def wI(l:List Pr)(k:Nat):List Value:=ints (Cr (l.take k))++List.replicate (l.length - k) (.int .i64 0)
theorem Nf(l:List Pr)(k:Nat)(h:k<l.length):(wI l k).set k (.int .i64 (zZ l[k] : Int))=wI l (k+1):=by
 have hl:(ints (Cr (l.take k))).length=k:=by rw [jP,vB,ag];omega
 unfold wI;rw [bO _ _ (by omega),hl,dI,zo l k h,ox,show l.length - k=l.length - (k+1)+1 by omega,List.replicate_succ,List.set_cons_zero,ax]
 rfl
theorem Ng(l:List Pr)(k:Nat)(h:k≤l.length):(wI l k).length=l.length:=by
 unfold wI;rw [ae,jP,vB,ag,bw];omega
theorem J3(l:List Pr):wI l 0=List.replicate l.length (.int .i64 0):=by simp [wI,ints,Cr]
theorem Nh(l:List Pr):wI l l.length=ints (Cr l):=by simp [wI]
theorem iP{w w':World}{base e n:Nat}{v:Value}{xs:List Value}(h:w.ownsRow base e 1 v n xs)(hb:Below w.heap.size w w'):w'.ownsRow base e 1 v n xs:=by
 refine ⟨h.1,?_⟩;rcases h.2 with h' | ⟨g,cap,cur,h',h1,h2,hr⟩
 ·exact .inl h'
 ·refine .inr ⟨g,cap,cur,h',h1,?_,hr⟩;have hg:g<w.heap.size:=by
   rcases aZ g w.heap.size with h' | h'
   ·exact h'
   ·rw [aV h'] at h2;cases h2
  rw [hb.block g hg];exact h2
theorem C7(v:Value)(l:List Pr)(w:World)(cC:To l)(hm:l.length≤4398046511104)(hr:gZ w v l):Calls prog 211 #[v] w fun e w'=>∃ u,e = .returned u∧E9 w' u (Cr l)∧Below w.heap.size w w':=by
 obtain ⟨i0,hi,hz,cp,kL⟩:=info_parts info3;obtain ⟨a,cap,rfl,du,_,hc⟩:=hr;have HC:=ab hc;have qZ:=ab cC;obtain ⟨wm,pM,fP,pZ⟩:=run_make_full (P:=prog) w w.heap.size 69 3 i0 _ 1 underlying69 hi hz cp .i64 .i64 l.length (by rw [kL];omega) (by unfold maxLen;omega) (aj _)
 have nP:(madeCells (Value.int .i64 0).cells (l.length*1)).toList=wI l 0:=by
  rw [J3,Nat.mul_one];exact toList_madeCells_one _ _
 rw [nP] at fP;have Cw:Below w.heap.size w wm:=(Below.refl _ _).grown pZ (aj _) (fun j hj=>by cases hj)
 obtain ⟨n,hn⟩ : ∃ n,n=l.length:=⟨_,rfl⟩;obtain ⟨b,hb⟩ : ∃ b,b=w.heap.size:=⟨_,rfl⟩;rw [← hn] at hm pM fP ⊢;rw [← hb] at pM fP;have HN:=ab hn;have HB:=ab hb;have HO:=ab fP;have JH:=ab Cw;clear hc hn du cC hb fP Cw pZ hi hz cp kL nP;go_enter func211,ntmps211;go_wp2;clear pM;go_loopw [11] (fun i wr=>∃ k:Nat,k≤n∧i = .int .i64 k∧wr.ownsRow b 3 1 (.slice (some ⟨b,0,none⟩) n n) n (wI l k)∧Below w.heap.size w wr) (fun i _=>n - (intOf i).toNat)
 case atStart=>exact ⟨0,aC _,rfl,HO.out,JH.out⟩
 case round =>
  obtain ⟨k,hk,rfl,aD,bL⟩:=hrel;clear HO JH;by_cases bX:k<n
  ·have ep:k<l.length:=by have:=HN.out;omega
   obtain ⟨g,o,rfl,f1,f2⟩:=HC.out k ep;have c1:wr.cell? ⟨g,o+k*2,none⟩=some (.string l[k].1):=(bL.cell (p:=⟨g,o+k*2,none⟩) (World.block_lt_of_cell? w _ f1)).trans f1;have c2:wr.cell? ⟨g,o+k*2+1,none⟩=some (.string l[k].2):=(bL.cell (p:=⟨g,o+k*2+1,none⟩) (World.block_lt_of_cell? w _ f2)).trans f2;have AI:=qZ.out l[k] (aH _);have iw:=ab (Nf l k ep);have fh:=ai wr (.cells #[.string l[k].1,.string l[k].2] 52);have pH:=ab (iP aD fh);have bN:=ab (Below.next bL fh);have HZ:=ab (fun W=>uB l[k] W AI.1 AI.2)
   obtain ⟨p,hp⟩ : ∃ p,p=l[k]:=⟨_,rfl⟩;rw [← hp] at c1 c2 iw pH bN HZ;have fL:=ab (Ng l k (by omega))
   have dO:(k:Int)<(n:Int):=by omega
   have j0:(0:Int)≤(k:Int):=by omega
   clear hp HC f1 f2 bL aD AI fh;go_wp2_with fail;refine (HZ.out _).mono ?_
   rintro e w1 ⟨rfl,aN⟩;have jB:=iP pH.out aN;have q1:∃ u,w1.cell? ⟨b,k,none⟩=some u:=by
    rw [World.ownsRow.cellAt jB k (by omega)]
    exact ⟨_,af (by rw [fL.out];exact ep)⟩
   obtain ⟨u,q1⟩:=q1;have z1:w1.frozen? ⟨b,k,none⟩=false:=World.ownsRow.frozenAt jB k;obtain ⟨z,hz⟩ : ∃ z,z=zZ p:=⟨_,rfl⟩;rw [← hz] at iw ⊢;have eS:=(World.ownsRow.stored jB k (.int .i64 (z:Int))).1;rw [iw.out] at eS;have gX:=ab eS;have bH:Hid (Below w.heap.size w (w1.setCell ⟨b,k,none⟩ (.int .i64 (z:Int)))):=(Below.next bN.out aN).setCell (by rw [HB.out];exact aj _) _
   clear aN bN HZ c1 c2 jB eS hz iw pH;go_wp2;go_roundw
   case rel=>exact ⟨k+1,by omega,by go_num,gX.out,bH.out⟩
   case measure=>simp [intOf];omega
  ·have oD:k=l.length:=by have:=HN.out;omega
   rw [oD,Nh] at aD;have HI:=ab (fS aD).ints;have jY:=ab bL;have dO:¬ (k:Int)<(n:Int):=by have:=HN.out;omega
   have UH:=ab oD;clear HC bL aD oD;go_wp2;go_ret;exact ⟨_,rfl,HI.out,jY.out⟩
theorem yv(ad:Addr)(n cap:Nat)(l:List Pr)(w:World)(hm:l.length≤4398046511104)(hn:l.length=n)(hr:gZ w (.slice (some ad) n cap) l):Calls prog 212 #[.slice (some ad) n cap] w fun e w'=>∃ u,e = .returned u∧iU w' w.heap.size u l∧Below w.heap.size w w':=by
 have qH:∀ w,(binOp .eql 63 (.slice (some ad) n cap) (.slice none 0 0)).run prog w = .ok (.bool false) w:=fun w=>by
  have h2:∀ d:Nat,(Op.equalIn (d+1) 63 (.slice (some ad) n cap) (.slice none 0 0)).run prog w = .ok false w:=fun d=>by
   simp [Op.equalIn,run_underlying underlying63]
  simp only [binOp];simp [Op.equal,Op.maxDepth,h2 9999]
 have fh:=ai w (.cells #[] 52);have ho:iU (w.alloc (.cells #[] 52)) w.heap.size (.slice (some ⟨w.heap.size,0,none⟩) 0 0) []:=World.ownsRow_lit w #[] 0 (aj _) (aC _) rfl;obtain ⟨a1,c1,w1,bo,aD,hg⟩:=gT w.heap.size _ _ [] l _ ho (hr.below fh) (by simp;omega) (by simp)
 rw [List.length_nil,Nat.zero_add,hn] at bo aD;rw [List.nil_append] at aD;have aN:Below w.heap.size w w1:=fh.grown hg (by simp) (fun k hk=>by simp [Value.ownBlock] at hk;omega)
 have HO:=ab aD;have HB:=ab aN;clear hr fh ho aD hg aN;go_enter func212,ntmps212;go_wp2_with (first | (at_builtin;refine wpList_append_run 63 rfl (.tmp 5) (.tmp 6) rfl rfl _ _ rfl rfl _ _ bo ?_))
 clear bo;go_ret;exact ⟨_,rfl,HO.out,HB.out⟩
def ZH(A:Nat→Addr)(base:Nat)(l:List Pr)(e:Ending)(w:World):Prop :=
 ∃ (i c:Nat) (u1 u2 ev:Value),e = .returned (.tuple #[u1,u2,ev])∧Ij 2 (jd (Cr l)) (Cr l) i c∧yK A ev c ∧
  ((c=0∧iU w base u1 (l.take i)∧iU w base u2 (l.drop i)∧∀ k,u1.ownBlock=some k→u2.ownBlock≠some k)∨(c≠0∧u1 = .slice none 0 0∧u2 = .slice none 0 0))
theorem Ij.bound{l:List Int}{i:Nat}(h:Ij 2 (jd l) l i 0):1≤i∧i+1≤l.length:=by
 rcases h with ⟨_,_,h⟩ | ⟨_,_,_,h⟩ | ⟨h1,_,h2,_⟩
 ·omega
 ·omega
 ·have:=h2.1;omega
theorem Iq{a b:World}(h:Below a.drew.heap.size a.drew b):Below a.heap.size a b:=⟨h.os,h.tape,h.output,h.size,h.block⟩
theorem lS{A:Nat→Addr}{ev:Value}(h:yK A ev 0):ev = .nilIface:=by
 rcases h with ⟨h,_⟩ | ⟨_,h⟩ | ⟨_,h⟩ | ⟨_,h⟩ | ⟨_,h⟩
 ·exact h
 all_goals omega
theorem tl{A:Nat→Addr}{ev:Value}{c:Nat}(h:yK A ev c)(hc:c≠0):∃ k,ev = .iface 360 (.pointer (some (A k))):=by
 rcases h with ⟨_,h⟩ | ⟨h,_⟩ | ⟨h,_⟩ | ⟨h,_⟩ | ⟨h,_⟩
 ·omega
 all_goals exact ⟨_,h⟩
theorem Ou(A:Nat→Addr)(v:Value)(l:List Pr)(w:World)(cC:To l)(hm:l.length≤4398046511104)(hr:gZ w v l)(hE:jG A w):Calls prog 169 #[v] w fun e w'=>ZH A w.heap.size l e w'∧Below w.heap.size w w':=by
 have HS:=ab (C7 v l w cC hm hr);have HE:=ab hE;have HR:=ab hr;obtain ⟨a,cap,hv⟩:=hr.form;subst hv;have du:l.length≤cap:=by obtain ⟨_,_,he,h,_⟩:=hr;cases he;exact h
 have HM:=ab hm;clear hr hE hm cC;go_enter func169,ntmps169;go_wp2_with fail;refine HS.out.mono ?_
 rintro e w1 ⟨u,rfl,hint,aN⟩;have HC:=ab (S6 A u (Cr l) w1 (by rw [vB];have:=HM.out;omega) hint (HE.out.below aN).1)
 have bN:=ab aN;clear hint aN HS;go_wp2_with fail;refine HC.out.mono ?_
 rintro e w2 ⟨hv,aY⟩;obtain ⟨i,c,ev,rfl,zK,fy⟩:=hv.num;have bH:=ab (Below.next bN.out aY);have Mg:=ab zK;have kh:=ab fy;clear hv aY HC bN;by_cases hc:c=0
 ·subst hc;have Es:=lS fy;subst Es;obtain ⟨Cu,sj⟩:=zK.bound;rw [vB] at sj;have iK:=HR.out.below bH.out;have GW:∃ ad,a=some ad:=by
   obtain ⟨a',c',he,_,_,vX⟩:=iK;cases he;obtain ⟨g,o,ha,_⟩:=vX 0 (by omega)
   exact ⟨_,ha⟩
  obtain ⟨ad,rfl⟩:=GW;have vj:=fun W=>Ka W (some ad) l.length cap i (by omega)
  obtain ⟨a2,Ss,qD⟩:=iK.drop (m:=i) (by omega)
  have T5:=iK.take (m:=i) (by omega)
  have ji:∃ ad2,a2=some ad2:=by
   obtain ⟨a',c',he,_,_,vX⟩:=Ss;simp only [Value.slice.injEq] at he;obtain ⟨rfl,_⟩:=he;obtain ⟨g,o,ha,_⟩:=vX 0 (by rw [ao];omega)
   exact ⟨_,ha⟩
  obtain ⟨ad2,rfl⟩:=ji;have Ri:Hid (∀ W,Below w2.heap.size w2 W→Calls prog 212 #[.slice (some ad) i cap] W fun e w'=>∃ u,e = .returned u∧iU w' W.heap.size u (l.take i)∧Below W.heap.size W w'):=fun W h=>yv ad i cap (l.take i) W (by rw [ag];have:=HM.out;omega) (by rw [ag];omega) (T5.below h)
  have MJ:Hid (∀ W,Below w2.heap.size w2 W→Calls prog 212 #[.slice (some ad2) (l.length - i) (cap - i)] W fun e w'=>∃ u,e = .returned u∧iU w' W.heap.size u (l.drop i)∧Below W.heap.size W w'):=fun W h=>yv ad2 (l.length - i) (cap - i) (l.drop i) W (by rw [ao];have:=HM.out;omega) (by rw [ao]) (Ss.below h)
  clear iK Ss T5 zK fy;go_wp2_with fail;go_region_held3 (fun w'=>True) (go_keep)
   (first
    | (go_at_call 212;refine (Ri.out _ ?_).mono ?_;(first | exact WH.out | exact (Below.refl _ _).drew);rintro e W1 ⟨u1,rfl,jB,aN⟩;have pH:=ab jB;have aif:=ab aN;have zT:Hid (Below w2.heap.size w2 W1):=(by first | exact Below.next WH.out aN | exact Iq aN);clear jB aN)
    | (go_at_call 212;refine (MJ.out _ ?_).mono ?_;(first | exact zT.out | exact (Below.refl _ _).drew);rintro e W2 ⟨u2,rfl,dW,aY⟩;have gX:=ab dW;have adU:=ab aY;have WH:Hid (Below w2.heap.size w2 W2):=(by first | exact Below.next zT.out aY | exact Iq aY);clear dW aY))
  all_goals
   clear Ri MJ vj qD;go_wp2;go_ret3
  ·refine ⟨⟨i,0,u1,u2,.nilIface,rfl,Mg.out,.inl ⟨rfl,rfl⟩,.inl ⟨rfl,(pH.out.below adU.out).mono bH.out.size,gX.out.mono zT.out.size |>.mono bH.out.size,fun k h1 h2=>?_⟩⟩,Below.next bH.out WH.out⟩
   have a1:=pH.out.dy k h1;have a2:=gX.out.dy k h2;omega
 ·obtain ⟨k,rfl⟩:=tl fy hc;have GW:=fun W=>fe (some (A k)) W
  have HCZ:=ab hc;clear zK fy hc;go_wp2;go_ret3;exact ⟨⟨i,c,_,_,_,rfl,Mg.out,kh.out,.inr ⟨HCZ.out,rfl,rfl⟩⟩,bH.out⟩
namespace T
def yL(w:World)(a:SN)(key:ByteArray)(b:SN)(e:Ending)(w':World):Prop:=∃ ba bb pa la ca pb lb cb,e = .returned (.tuple #[.pointer (some ⟨ba,0,none⟩),.string key,.pointer (some ⟨bb,0,none⟩)])∧dM w' ba a pa la ca∧dM w' bb b pb lb cb∧Below w.heap.size w w'
theorem yL.drew{w:World}{a b:SN}{key:ByteArray}{e:Ending}{w':World}(h:yL w a key b e w'):yL w a key b e w'.drew:=by
 obtain ⟨ba,bb,pa,la,ca,pb,lb,cb,h1,h2,h3,h4⟩:=h;exact ⟨ba,bb,pa,la,ca,pb,lb,cb,h1,⟨h2.row,h2.jj,h2.bg,h2.kids,h2.fine⟩,⟨h3.row,h3.jj,h3.bg,h3.kids,h3.fine⟩,B.aR h4⟩
theorem Ky(A:Nat→Addr)(b:Nat)(n:SN)(pv lv cv:Value)(w:World)(h:dM w b n pv lv cv)(h0:n.us.length=0)(h2:2≤n.ps.length)(hE:jG A w):Calls prog 129 #[.pointer (some ⟨b,0,none⟩)] w fun e w'=>∃ (i:Nat) (k v:ByteArray),di (jd (nC n.ps)) ((nC n.ps).length - 1) i∧n.ps[i]?=some (k,v)∧yL w ⟨n.ps.take i,0,[],[]⟩ k ⟨n.ps.drop i,0,[],[]⟩ e w':=by
 have HL:=ab (cd b n pv lv cv w h);rw [show decide (n.us.length=0)=true by simp [h0]] at HL
 have yX:Hid (Calls prog 169 #[pv] w fun e w'=>∃ (i:Nat) (mA sL:Option Addr) (mz lH:Nat),e = .returned (.tuple #[.slice mA (n.ps.take i).length mz,.slice sL (n.ps.drop i).length lH,.nilIface])∧di (jd (nC n.ps)) ((nC n.ps).length - 1) i∧gZ w' (.slice mA (n.ps.take i).length mz) (n.ps.take i)∧gZ w' (.slice sL (n.ps.drop i).length lH) (n.ps.drop i)∧Below w.heap.size w w'):=by
  refine (Ou A pv n.ps w h.okL (by have:=h.fine.2.1;omega) h.jj hE).mono fun e w' hh=>?_
  obtain ⟨⟨i,cc,u1,u2,ev,h1,zK,fy,h3⟩,hb⟩:=hh;have Ph:ik (Cr n.ps):=fun j hj=>by
   have lW:j<n.ps.length:=by simpa [Cr] using hj
   have:=eu (h.fine.1 n.ps[j] (aH lW));simp only [Cr,cO];unfold zZ;omega
  have hlen:(Cr n.ps).length=n.ps.length:=by simp [Cr]
  rcases zK with ⟨g1,_,_⟩ | ⟨_,g1,_⟩ | ⟨_,_,oF,yi⟩
  ·rw [hlen] at g1;omega
  ·exact absurd Ph g1
  ·subst yi;rcases h3 with ⟨_,o1,o2,_⟩ | ⟨ey,_⟩
   ·have Es:=lS fy;subst Es;obtain ⟨a1,c1,e1⟩:=o1.form;obtain ⟨a2,c2,e2⟩:=o2.form;subst e1 e2;exact ⟨i,a1,a2,c1,c2,h1,oF,o1.at,o2.at,hb⟩
   ·exact absurd rfl ey
 have p0:=h.c0;have HF:=ab h.fine;clear h h0 hE;go_enter func129,ntmps129;go_wp2_with fail;refine HL.out.mono ?_
 rintro e w1 ⟨rfl,rfl⟩;clear HL;go_wp2_with fail;refine yX.out.mono ?_
 rintro e w2 ⟨i,mA,sL,mz,lH,rfl,oF,eN,iK,aY⟩;have KU:=oF.1;have qE:(nC n.ps).length=n.ps.length:=by simp [nC]
 rw [qE] at KU;have jq:0<(n.ps.drop i).length:=by rw [ao];omega
 have Tv:=iK;obtain ⟨a2',c2',he2,_,_,bE⟩:=iK;obtain ⟨g,o,hg,c1,_⟩:=bE 0 jq;cases he2;subst hg;obtain ⟨k,v,hkv⟩ : ∃ k v,n.ps[i]?=some (k,v):=⟨_,_,af (show i<n.ps.length by omega)⟩
 have SD:((n.ps.drop i)[0]'jq).1=k:=by
  have e1:(n.ps.drop i)[0]?=some (k,v):=by rw [cL,Nat.add_zero];exact hkv
  rw [af jq] at e1;rw [Option.some.inj e1]
 rw [SD,Nat.zero_mul,Nat.add_zero] at c1;obtain ⟨N1,Jk⟩ : ∃ N,N=(n.ps.take i).length:=⟨_,rfl⟩;obtain ⟨N2,Jj⟩ : ∃ N,N=(n.ps.drop i).length:=⟨_,rfl⟩;have iK:gZ w2 (.slice (some ⟨g,o,none⟩) (n.ps.drop i).length lH) (n.ps.drop i):=Tv;rw [← Jk] at eN ⊢;rw [← Jj] at iK jq ⊢;have nK:=ab eN;have oR:=ab iK;have bH:=ab aY;have Bc:=ab oF;have HKV:=ab hkv;have O4:(0:Int)<(N2:Int):=by omega
 have sJ:Hid (((∀ p ∈ n.ps.take i,cF p=true)∧(n.ps.take i).length≤4000∧(∀ p ∈ n.ps.drop i,cF p=true)∧(n.ps.drop i).length≤4000)):=⟨fun p hp=>HF.out.1 p (bF hp),by rw [ag];have:=HF.out.2.1;omega,fun p hp=>HF.out.1 p (bG hp),by rw [ao];have:=HF.out.2.1;omega⟩
 have Pe:=World.block_lt_of_cell? w2 _ c1;have t1:=((ai w2 (.cells #[.slice mA N1 mz,.int .i64 0,.slice none 0 0,.slice none 0 0] 155)).cell (p:=⟨g,o,none⟩) Pe).trans c1;have t2:=((ai w2 (.cells #[.slice (some ⟨g,o,none⟩) N2 lH,.int .i64 0,.slice none 0 0,.slice none 0 0] 155)).cell (p:=⟨g,o,none⟩) Pe).trans c1;have t3:=((ai (w2.alloc (.cells #[.slice mA N1 mz,.int .i64 0,.slice none 0 0,.slice none 0 0] 155)) (.cells #[.slice (some ⟨g,o,none⟩) N2 lH,.int .i64 0,.slice none 0 0,.slice none 0 0] 155)).cell (p:=⟨g,o,none⟩) (World.block_lt_of_cell? _ _ t1)).trans t1;have t4:=((ai (w2.alloc (.cells #[.slice (some ⟨g,o,none⟩) N2 lH,.int .i64 0,.slice none 0 0,.slice none 0 0] 155)) (.cells #[.slice mA N1 mz,.int .i64 0,.slice none 0 0,.slice none 0 0] 155)).cell (p:=⟨g,o,none⟩) (World.block_lt_of_cell? _ _ t2)).trans t2;clear yX eN iK aY oF hkv KU qE bE SD Jk Jj p0;go_wp2_with fail;go_region
 all_goals first
  | (have qa:=ai w2 (.cells #[.slice mA N1 mz,.int .i64 0,.slice none 0 0,.slice none 0 0] 155)
     have qb:=ai (w2.alloc (.cells #[.slice mA N1 mz,.int .i64 0,.slice none 0 0,.slice none 0 0] 155)) (.cells #[.slice (some ⟨g,o,none⟩) N2 lH,.int .i64 0,.slice none 0 0,.slice none 0 0] 155);have xa:=(B.au.new w2 #[.slice mA N1 mz,.int .i64 0,.slice none 0 0,.slice none 0 0] 155).below qb;have xb:=B.au.new (w2.alloc (.cells #[.slice mA N1 mz,.int .i64 0,.slice none 0 0,.slice none 0 0] 155)) #[.slice (some ⟨g,o,none⟩) N2 lH,.int .i64 0,.slice none 0 0,.slice none 0 0] 155;have sa:(w2.alloc (.cells #[.slice mA N1 mz,.int .i64 0,.slice none 0 0,.slice none 0 0] 155)).heap.size=w2.heap.size+1:=by simp
     rw [sa] at xb;have gI:Hid (yL w ⟨n.ps.take i,0,[],[]⟩ k ⟨n.ps.drop i,0,[],[]⟩ (.returned (.tuple #[.pointer (some ⟨w2.heap.size,0,none⟩),.string k,.pointer (some ⟨w2.heap.size+1,0,none⟩)])) ((w2.alloc (.cells #[.slice mA N1 mz,.int .i64 0,.slice none 0 0,.slice none 0 0] 155)).alloc (.cells #[.slice (some ⟨g,o,none⟩) N2 lH,.int .i64 0,.slice none 0 0,.slice none 0 0] 155))):=⟨_,_,_,_,_,_,_,_,rfl,⟨xa,(nK.out.below qa).below qb,B.dm.nil _,(C.bQ.nil _ 0).at,sJ.out.1,sJ.out.2.1,(fun p hp=>by simp at hp),by simp,by simp⟩,⟨xb,(oR.out.below qa).below qb,B.dm.nil _,(C.bQ.nil _ 0).at,sJ.out.2.2.1,sJ.out.2.2.2,(fun p hp=>by simp at hp),by simp,by simp⟩,Below.next (Below.next bH.out qa) qb⟩
     clear qa qb xa xb sa;go_wp2;go_ret3;exact ⟨i,k,v,Bc.out,HKV.out,gI.out.drew⟩)
  | (have qa:=ai w2 (.cells #[.slice (some ⟨g,o,none⟩) N2 lH,.int .i64 0,.slice none 0 0,.slice none 0 0] 155)
     have qb:=ai (w2.alloc (.cells #[.slice (some ⟨g,o,none⟩) N2 lH,.int .i64 0,.slice none 0 0,.slice none 0 0] 155)) (.cells #[.slice mA N1 mz,.int .i64 0,.slice none 0 0,.slice none 0 0] 155);have xa:=(B.au.new w2 #[.slice (some ⟨g,o,none⟩) N2 lH,.int .i64 0,.slice none 0 0,.slice none 0 0] 155).below qb;have xb:=B.au.new (w2.alloc (.cells #[.slice (some ⟨g,o,none⟩) N2 lH,.int .i64 0,.slice none 0 0,.slice none 0 0] 155)) #[.slice mA N1 mz,.int .i64 0,.slice none 0 0,.slice none 0 0] 155;have sa:(w2.alloc (.cells #[.slice (some ⟨g,o,none⟩) N2 lH,.int .i64 0,.slice none 0 0,.slice none 0 0] 155)).heap.size=w2.heap.size+1:=by simp
     rw [sa] at xb;have gI:Hid (yL w ⟨n.ps.take i,0,[],[]⟩ k ⟨n.ps.drop i,0,[],[]⟩ (.returned (.tuple #[.pointer (some ⟨w2.heap.size+1,0,none⟩),.string k,.pointer (some ⟨w2.heap.size,0,none⟩)])) ((w2.alloc (.cells #[.slice (some ⟨g,o,none⟩) N2 lH,.int .i64 0,.slice none 0 0,.slice none 0 0] 155)).alloc (.cells #[.slice mA N1 mz,.int .i64 0,.slice none 0 0,.slice none 0 0] 155))):=⟨_,_,_,_,_,_,_,_,rfl,⟨xb,(nK.out.below qa).below qb,B.dm.nil _,(C.bQ.nil _ 0).at,sJ.out.1,sJ.out.2.1,(fun p hp=>by simp at hp),by simp,by simp⟩,⟨xa,(oR.out.below qa).below qb,B.dm.nil _,(C.bQ.nil _ 0).at,sJ.out.2.2.1,sJ.out.2.2.2,(fun p hp=>by simp at hp),by simp,by simp⟩,Below.next (Below.next bH.out qa) qb⟩
     clear qa qb xa xb sa;go_wp2;go_ret3;exact ⟨i,k,v,Bc.out,HKV.out,gI.out.drew⟩)
end T
namespace C
theorem dm.take{w:World}{a:Option Addr}{n m cap:Nat}{l:List Lk}(h:dm w (.slice a n cap) l)(hm:m≤n):dm w (.slice a m cap) (l.take m):=by
 unfold dm at *;rw [BG];exact nh.take h hm
theorem XL(w:World)(a:Option Addr)(n cap m:Nat)(hm:m≤cap):(Instr.sliceAt 153 (.slice a n cap) none (some (.int .i64 (m:Int))) none).run prog w = .ok (.slice a m cap) w:=by
 rw [run_sliceAt_slice (h:=underlying153),run_slice_h (ht:=underlying153) (h0:=by omega) (h2:=by omega)]
 have hz:(sizeOf (prog.elem 153)).run prog w = .ok 1 w:=by kernel_rfl
 rw [hz];simp [Result.andThen,sliced,Addr.add]
theorem dm.drop{w:World}{a:Option Addr}{n m cap:Nat}{l:List Lk}(h:dm w (.slice a n cap) l)(hm:m≤n):∃ a',dm w (.slice a' (n - m) (cap - m)) (l.drop m)∧∀ w',(Instr.sliceAt 153 (.slice a n cap) (some (.int .i64 (m:Int))) none none).run prog w' = .ok (.slice a' (n - m) (cap - m)) w':=by
 obtain ⟨a',eO,he,hle,hn,hc⟩:=h;cases he;have Je:(bg l).length=l.length:=eb l;refine ⟨if cap=m then a else a.map (·.add m),⟨_,_,by rw [show (bg (l.drop m)).length=l.length - m by rw [eb,ao],Je],by rw [eb,ao];omega,fun ha=>?_,fun j u hj=>?_⟩,fun w'=>?_⟩
 ·split at ha
  ·omega
  ·cases a with
   | none=>have:=hn rfl;omega
   | some x=>cases ha
 ·rw [Om,cL] at hj;have bX:=(List.getElem?_eq_some_iff.1 hj).1;obtain ⟨g,o,ha,h1⟩:=hc (m+j) u hj;subst ha;refine ⟨g,o+m,?_,?_⟩
  ·rw [if_neg (show ¬ cap=m by omega)];simp [bA]
  ·rw [show o+m+j=o+(m+j) by omega];exact h1
 ·rw [run_sliceAt_slice (h:=underlying153),run_slice_l (ht:=underlying153) (h0:=by omega) (h1:=by omega)]
  have hz:(sizeOf (prog.elem 153)).run prog w' = .ok 1 w':=by kernel_rfl
  rw [hz];simp [Result.andThen,sliced]
end C
namespace B
theorem Gh(B g o n cap p:Nat)(a b x:Int)(w:World)(hB:w.cell? ⟨B,0,none⟩=some (.slice (some ⟨g,o,none⟩) n cap))(hp:p<n)(hx:w.cell? ⟨g,o+p,none⟩=some (.int .i64 x))(ha:0≤a∧a≤1152921504606846976)(hb:0≤b - x∧b - x≤1152921504606846976):Calls prog 238 #[.int .i64 (p:Int),.int .i64 a,.int .i64 b,.pointer (some ⟨B,0,none⟩)] w fun e w'=>e = .returned (.int .i64 ((a - (b - x)).natAbs:Int))∧w=w':=by
 have HD:=ab (EK a (b - x) w ha hb);have hw:IntKind.i64.wrap (b - x)=b - x:=oW _ (by omega) (by omega)
 have hpi:(p:Int)<(n:Int):=by omega
 clear ha hb;go_enter func238,ntmps238;go_wp2_with (go_at_call 237;refine HD.out.mono ?_;rintro e w' ⟨rfl,rfl⟩)
 go_ret;exact ⟨rfl,rfl⟩
theorem Ll(A:Nat→Addr)(B g o cap m n:Nat)(l:List Int)(w:World)(YH:n≤17592186044416)(fI:1≤m)(hn:n=m+2)(e1:l.length=n)(du:n≤cap)(hE:dk 4 fl A w)(h1:∀ j (h:j<l.length),w.cell? ⟨g,o+j,none⟩=some (.int .i64 l[j]))(hB:w.cell? ⟨B,0,none⟩=some (.slice (some ⟨g,o,none⟩) n cap)):Calls prog 235 #[.slice (some ⟨g,o,none⟩) n cap,.int .i64 3,.func (.func 238) #[] #[.pointer (some ⟨B,0,none⟩)]] w fun e w'=>((ik l∧∃ i:Nat,e = .returned (.tuple #[.int .i64 (i:Int),.nilIface])∧di (jc l) m i)∨(¬ ik l∧e = .returned (.tuple #[.int .i64 0,.iface 360 (.pointer (some (A 0)))])))∧Below w.heap.size w w':=by
 have c0:w.cell? ⟨0,0,none⟩=some (.iface 360 (.pointer (some (A 0)))):=(hE.1 0 (by decide)).1
 have HS:=ab (Iv (some ⟨g,o,none⟩) cap n l w (by omega) e1 (fun j h=>⟨g,o,rfl,h1 j h⟩))
 have hm:m≤17592186044416:=by omega
 have HE:Hid (l.length=n):=e1;have HN:Hid (n=m+2):=hn;have H1:=ab h1;have QF:=ab (gP l);have HB:=ab hB;have hnI:(n:Int)=(m:Int)+2:=by omega
 have vj:IntKind.i64.wrap ((n:Int) - 3)=(m:Int) - 1:=by rw [IntKind.wrap_i64];omega
 have qD:IntKind.i64.wrap ((m:Int) - 1+1)=(m:Int):=by rw [IntKind.wrap_i64];omega
 have bX:¬ (n:Int)<3:=by omega
 have hmc:(m:Int)≤(cap:Int):=by omega
 have Sz:(0:Int)≤(m:Int):=by omega
 clear e1 hn h1 hE hnI YH hB;by_cases hF:ik l
 ·have HT:=ab (hO hF n (by have:=HE.out;omega))
  have HF:=ab hF;have mG:Hid (Calls prog 254 #[.slice (some ⟨g,o,none⟩) n cap] w fun e w'=>e = .returned (.tuple #[.int .i64 (pre l n),.bool true])∧w=w'):=by
   refine HS.out.mono ?_
   rintro e w' ⟨h | h,rfl⟩
   ·exact ⟨h.2,rfl⟩
   ·exact absurd hF h.1
  obtain ⟨T,hT⟩ : ∃ T,T=pre l n:=⟨_,rfl⟩;rw [← hT] at mG HT;have UA:=ab hT;clear hT HS c0 hF;go_enter func235,ntmps235;go_wp2_with (go_at_call 254;refine mG.out.mono ?_;rintro e w' ⟨rfl,rfl⟩)
  go_loop [8,10,11,12,38] (fun re be le ah i=>∃ (k lA:Nat) (least:Int),k≤m∧i = .int .i64 k∧re = .int .i64 (T - pre l k)∧be = .int .i64 (lA:Int)∧le = .int .i64 least∧ah = .int .i64 (pre l k)∧((k=0∧lA=0∧least=T)∨(1≤k∧di (jc l) k lA∧least=jc l lA))) (fun _ _ _ _ i=>m - (intOf i).toNat)
  case atStart=>exact ⟨0,0,T,aC _,rfl,by rw [QF.out,Int.sub_zero],rfl,rfl,by rw [QF.out],.inl ⟨rfl,rfl,rfl⟩⟩
  case round =>
   obtain ⟨k,lA,least,hk,rfl,rfl,rfl,rfl,rfl,eS⟩:=hrel;have gN:=ab eS;clear eS;by_cases hltk:k<m
   ·have jm:k<l.length:=by have:=HE.out;have:=HN.out;omega
    have f1:=H1.out k jm;have yP:=ab (iY l k jm);have HPB:=ab (hO HF.out k (by omega))
    have Cj:=ab (hO HF.out (k+1) (by omega))
    have Wp:=ab (gi HF.out (k+1) n (by have:=HE.out;have:=HN.out;omega) (by have:=HE.out;omega))
    obtain ⟨x,hx⟩ : ∃ x,x=l[k]:=⟨_,rfl⟩;rw [← hx] at f1 yP;obtain ⟨p,hp⟩ : ∃ p,p=pre l k:=⟨_,rfl⟩;rw [← hp] at HPB yP ⊢;obtain ⟨q,hq⟩ : ∃ q,q=pre l (k+1):=⟨_,rfl⟩;rw [← hq] at Cj yP Wp;rw [← UA.out] at Wp;have HQ:=ab hq;have Xr:Hid ((k:Int)≤17592186044416∧4072*((k:Int)+1)≤72057594037927936):=⟨by omega,by omega⟩
    have Wi:Hid (0≤q∧q≤1152921504606846976):=⟨Cj.out.1,by have:=Cj.out.2;have:=Xr.out;omega⟩
    have CD:Hid (0≤T - q∧T - q≤1152921504606846976):=⟨by have:=Wp.out;omega,by have:=HT.out.2;have:=Cj.out.1;have:=HN.out;omega⟩
    have vT:IntKind.i64.wrap (p+x)=q:=by rw [← yP.out];exact oW _ Wi.out.1 (by have:=Wi.out;omega)
    have QU:IntKind.i64.wrap (T - p - x)=T - q:=by rw [show T - p - x=T - q by have:=yP.out;omega];exact oW _ CD.out.1 (by have:=CD.out;omega)
    have Mr:IntKind.i64.wrap ((k:Int)+1)=((k+1:Nat):Int):=by rw [IntKind.wrap_i64];omega
    have pC:k+1<l.length:=by have:=HE.out;have:=HN.out;omega
    have Z3:=ab (gi HF.out (k+1+1) n (by have:=HE.out;have:=HN.out;omega) (by have:=HE.out;omega))
    have Wk:=ab (iY l (k+1) pC);have HY:=ab (HF.out (k+1) pC);rw [← UA.out] at Z3;rw [← HQ.out] at Wk;have WE:Hid (Calls prog 238 #[.int .i64 ((k+1:Nat):Int),.int .i64 q,.int .i64 (T - q),.pointer (some ⟨B,0,none⟩)] w fun e w'=>e = .returned (.int .i64 ((jc l (k+1):Nat):Int))∧w=w'):=by
     have h:=Gh B g o n cap (k+1) q (T - q) l[k+1] w HB.out (by have:=HE.out;omega) (H1.out (k+1) pC) Wi.out ⟨by have:=Z3.out;have:=Wk.out;omega,by have:=CD.out;have:=HY.out;omega⟩
     have e:jc l (k+1)=(q - (T - q - l[k+1])).natAbs:=by unfold jc;rw [HE.out,← UA.out,Wk.out,← HQ.out];congr 1;omega
     rw [e];exact h
    have Wx:=ab (SR HF.out (k+1) (by omega) (by have:=HE.out;have:=HN.out;omega))
    rw [HE.out,← UA.out] at Wx;obtain ⟨gp,VC⟩ : ∃ gp:Nat,gp=jc l (k+1):=⟨_,rfl⟩;rw [← VC] at WE Wx;have Ww:=ab VC;have dO:(k:Int)<(m:Int):=by omega
    clear hx hp hq VC H1 QF mG;by_cases hless:(gp:Int)<least
    ·have iy:Hid (di (jc l) (k+1) (k+1)):=by
      rcases gN.out with ⟨rfl,_,_⟩ | ⟨_,hb,he⟩
      ·exact di.one _
      ·exact hb.Iz (by rw [← Ww.out];omega)
     clear gN;go_wp2_with (go_at_call 238;refine (WE.out).mono ?_;rintro e w' ⟨rfl,rfl⟩)
     go_round
     case rel=>exact ⟨k+1,k+1,gp,by omega,rfl,by rw [← HQ.out],rfl,rfl,by rw [← HQ.out],.inr ⟨by omega,iy.out,by rw [Ww.out]⟩⟩
     case measure=>simp [intOf];omega
    ·have Ck:Hid (1≤k+1∧di (jc l) (k+1) lA∧least=jc l lA):=by
      rcases gN.out with ⟨_,_,rfl⟩ | ⟨_,hb,he⟩
      ·exact absurd Wx.out hless
      ·exact ⟨by omega,hb.Iy (by rw [← Ww.out];omega),he⟩
     clear gN;go_wp2_with (go_at_call 238;refine (WE.out).mono ?_;rintro e w' ⟨rfl,rfl⟩)
     go_round
     case rel=>exact ⟨k+1,lA,least,by omega,rfl,by rw [← HQ.out],rfl,rfl,by rw [← HQ.out],.inr Ck.out⟩
     case measure=>simp [intOf];omega
   ·have GY:k=m:=by omega
    have vw:Hid (di (jc l) m lA):=by
     rcases gN.out with ⟨h0,_,_⟩ | ⟨_,hb,_⟩
     ·omega
     ·rw [← GY];exact hb
    subst GY;obtain ⟨p,hp⟩ : ∃ p,p=pre l k:=⟨_,rfl⟩;rw [← hp];clear hp gN H1 mG QF;go_wp2;go_ret2;exact ⟨.inl ⟨HF.out,lA,rfl,vw.out⟩,Below.refl _ _⟩
 ·have mG:Hid (Calls prog 254 #[.slice (some ⟨g,o,none⟩) n cap] w fun e w'=>e = .returned (.tuple #[.int .i64 0,.bool false])∧w=w'):=by
   refine HS.out.mono ?_
   rintro e w' ⟨h | h,rfl⟩
   ·exact absurd h.1 hF
   ·exact ⟨h.2,rfl⟩
  have HF:=ab hF;clear HS hF H1 QF;go_enter func235,ntmps235;go_wp2_with (go_at_call 254;refine mG.out.mono ?_;rintro e w' ⟨rfl,rfl⟩)
  go_quiet (fail)
  go_wp2;go_ret2;exact ⟨.inr ⟨HF.out,rfl⟩,aB (Below.refl _ _) _⟩
theorem yp{n:Nat}{G:Nat→Nat}{A:Nat→Addr}{w w':World}(h:dk n G A w)(hb:Below w.heap.size w w'):dk n G A w':=dk.keep h hb
theorem Kn(A:Nat→Addr)(v:Value)(l:List Int)(w:World)(hm:l.length≤17592186044416)(hr:E9 w v l)(hE:dk 4 fl A w):Calls prog 213 #[v] w fun e w'=>Ml A 3 (jc l) l e∧Below w.heap.size w w':=by
 have O6:∀ (fn:Fn) (first cap:Array Value) (w:World),(Instr.makeFunc fn first cap).run prog w = .ok (.func fn first cap) w:=fun _ _ _ _=>rfl
 have fh:=ai w (.cells #[v] 69);have iK:=hr.below fh;obtain ⟨a,cap,rfl,du,_⟩:=hr;obtain ⟨a',eO,X6,_,hc⟩:=iK;cases X6;have hE2:=yp hE fh;have hB:(w.alloc (.cells #[.slice a l.length cap] 69)).cell? ⟨w.heap.size,0,none⟩=some (.slice a l.length cap):=(bM w #[.slice a l.length cap] 69).2 0 (by simp)
 have Co:=ab fh;have H:Hid (Calls prog 235 #[.slice a l.length cap,.int .i64 3,.func (.func 238) #[] #[.pointer (some ⟨w.heap.size,0,none⟩)]] (w.alloc (.cells #[.slice a l.length cap] 69)) fun e w'=>∃ x y,e = .returned (.tuple #[x,y])∧Ml A 3 (jc l) l (.returned (.tuple #[x,y]))∧Below (w.alloc (.cells #[.slice a l.length cap] 69)).heap.size (w.alloc (.cells #[.slice a l.length cap] 69)) w'):=by
  by_cases hs:l.length<3
  ·refine (AW A a l.length cap 3 _ _ (by omega) hm hE2).mono ?_
   rintro e w' ⟨rfl,hb⟩;exact ⟨_,_,rfl,.inl ⟨hs,rfl⟩,hb⟩
  ·obtain ⟨g,o,rfl,_⟩:=hc 0 (by omega)
   refine (Ll A w.heap.size g o cap (l.length - 2) l.length l _ hm (by omega) (by omega) rfl du hE2 (fun j h=>by obtain ⟨g',o',he,bE⟩:=hc j h;cases he;exact bE) hB).mono ?_
   rintro e w' ⟨⟨hf,i,rfl,hi⟩ | ⟨hf,rfl⟩,hb⟩
   ·exact ⟨_,_,rfl,.inr (.inr ⟨by omega,hf,i,rfl,hi⟩),hb⟩
   ·exact ⟨_,_,rfl,.inr (.inl ⟨by omega,hf,rfl⟩),hb⟩
 clear hc hE du hE2 fh;go_enter func213,ntmps213;go_wp2_with (go_at_call 235;refine H.out.mono ?_;rintro e w' ⟨x,y,rfl,hv,hb⟩;have HV:=ab hv;have rm:=ab (Below.next Co.out hb);clear hv hb)
 go_ret2;exact ⟨HV.out,rm.out⟩
end B
end Go.Proofs.YtihmgigfkmofnaaGreatDoor
