import Derived.Test.YtihmgigfkmofnaaGreatDoorG35
set_option maxHeartbeats 4000000
set_option maxRecDepth 100000
open Go.Proofs.Tryz
namespace Go.Proofs.YtihmgigfkmofnaaGreatDoor
namespace T
open Go.RowKit
attribute [local go_sem ↓] Go.wp_at_zero Go.wp_at_succ
theorem Io{d:S.V.bD}{Pk:SN→Nat→Prop}{w:World}:∀ {ss:List (kT XT)} {x y:XT},Way (iH d) Pk w x ss y→ss.length+y.1=x.1
 | [],_,_,h=>by
  have h:_=_:=h;subst h;simp
 | s::ss,x,y,⟨_,_,_,_,_,z,h6,h7⟩=>by
  have ih:=Io h7;obtain ⟨h,t⟩:=x;cases h with
  | zero=>exact (h6:False).elim
  | succ h =>
   obtain ⟨c,_,rfl⟩:=h6;have ih:ss.length+y.1=h:=ih;show ss.length+1+y.1=h+1
   omega
def jo:cT→Nat
 | none=>0
 | some x=>x.1+1
section
variable {base:Nat} {A:Nat→Addr} {db:Nat} {F:Nat→Prop} {d:S.V.bD} {W0:World} {r:cT}
theorem wC{w w1:World}{tb:Nat}(hc:Ts base A db F d W0 w tb r)(hn:(aP r).length≤4611686018427387904)(hb:Below w.heap.size w w1):Calls prog 54 #[.pointer (some ⟨tb,0,none⟩),.func (.func 57) #[] #[]] w1 fun e w'=>(∃ a c,e = .returned (.tuple #[.slice a (jo r) c,.nilIface]))∧Dv base A db F d w'∧Mv db F w w':=by
 obtain ⟨rv,ht,hr⟩:=hc.tr;have hv:=hc.dv.below hb;have hm:Mv db F w w1:=Mv.of hb;rcases hr with ⟨rfl,rfl⟩ | ⟨p,h,t,rfl,rfl,hk⟩
 ·refine (CN _ ⟨_,_,_,rfl⟩ tb _ w1 (ht.below hb)).mono fun e w' ⟨he,hw⟩=>?_
  subst hw;exact ⟨⟨_,_,he⟩,hv,hm⟩
 ·refine (JR (iH d) (fun _ q=>q=0) (fun _=>True) (fun _ _ _ h=>h) p ⟨h,t⟩ tb w w1 ⟨hk.cx (dd.of hb),lK hc.ok⟩ (ht.below hb) hv hm hc.dv trivial (.inr (og hc.ok hn)) (fun W b n pv lv cv y _ hs hn Eh=>?_)).mono fun e w' ⟨h1,h2,h3⟩=>⟨?_,h2,h3⟩
  ·exact (FX n lv W).mono fun e w' ⟨he,hb⟩=>⟨0,he,rfl,by omega,hb⟩
  ·rcases h1 with ⟨hE,_⟩ | ⟨ss,s,a,c,he,ho,hw,⟨_,hn⟩,h0,Cx,hl⟩
   ·exact (hE:False).elim
   ·have hx:=Io hw;obtain ⟨b,n,i,⟨hh,t'⟩⟩:=s;cases hh with
    | zero =>
     have hx:ss.length+0=h:=hx;simp only [List.length_nil,Nat.zero_add] at he;exact ⟨a,c,by rw [he];show _=Ending.returned (.tuple #[.slice a (h+1) c,.nilIface]);rw [← hx]⟩
    | succ h'=>exact absurd (List.length_eq_zero_iff.1 h0) hn.1.2.1
theorem jR{w w1:World}{tb:Nat}(hc:Ts base A db F d W0 w tb r)(hn:(aP r).length≤4611686018427387904)(hb:Below w.heap.size w w1):Calls prog 19 #[.pointer (some ⟨tb,0,none⟩)] w1 fun e w'=>e = .returned (.tuple #[.int .i64 (jo r:Int),.nilIface])∧Dv base A db F d w'∧Mv db F w w':=by
 have HW:=ab (wC hc hn hb);clear hc;go_enter func19,ntmps19;go_wp2_with fail;refine HW.out.mono ?_
 rintro e w1 ⟨⟨a,c,rfl⟩,eH,fI⟩;have HE:Hid (Dv base A db F d w1∧Mv db F w w1):=⟨eH,fI⟩;clear eH fI HW;go_wp2;go_ret2;exact ⟨rfl,HE.out⟩
theorem zV{rv:Value}{w0:World}{tb:Nat}{x:Bv}{lo:Nat}(il:Dv base A db F d w0)(GQ:B.au w0 tb #[.pointer (some ⟨db,0,none⟩),rv] 100):∀ h,h≤1000→Qt base A db F d w0 tb x lo h
 | 0,_=>FR il
 | h+1,hh=>Bf (by omega) (zV il GQ h (by omega)) il GQ
theorem M5(w W:World)(a b:Value)(TA TB:TypeId)(hW:(w.alloc (.cells #[a] TA)).alloc (.cells #[b] TB)=W):Below w.heap.size w W∧W.heap.size=w.heap.size+1+1∧B.au W w.heap.size #[a] TA∧B.au W (w.heap.size+1) #[b] TB:=by
 obtain ⟨W1,h1⟩ : ∃ W1,W1=w.alloc (.cells #[a] TA):=⟨_,rfl⟩;rw [← h1] at hW;have s1:W1.heap.size=w.heap.size+1:=by rw [h1];simp
 have b1:Below w.heap.size w W1:=h1▸ai w _;have b2:Below W1.heap.size W1 W:=hW▸ai W1 _;have r1:B.au W1 w.heap.size #[a] TA:=h1▸B.au.new w _ _;have r2:B.au W W1.heap.size #[b] TB:=hW▸B.au.new W1 _ _;rw [s1] at r2;exact ⟨Below.next b1 b2,by rw [← hW,← s1];simp,r1.below b2,r2⟩
theorem Lc(w W:World)(a c e:Value)(TA TC TE:TypeId)(hW:(((w.alloc (.cells #[a] TA)).alloc (.map #[] 0)).alloc (.cells #[c] TC)).alloc (.cells #[e] TE)=W):Below w.heap.size w W∧W.heap.size=w.heap.size+1+1+1+1∧B.au W w.heap.size #[a] TA∧W.heap[w.heap.size+1]?=some (.map #[] 0)∧B.au W (w.heap.size+1+1) #[c] TC∧B.au W (w.heap.size+1+1+1) #[e] TE:=by
 obtain ⟨W1,h1⟩ : ∃ W1,W1=w.alloc (.cells #[a] TA):=⟨_,rfl⟩;obtain ⟨W2,h2⟩ : ∃ W2,W2=W1.alloc (.map #[] 0):=⟨_,rfl⟩;obtain ⟨W3,h3⟩ : ∃ W3,W3=W2.alloc (.cells #[c] TC):=⟨_,rfl⟩;rw [← h1,← h2,← h3] at hW;have s1:W1.heap.size=w.heap.size+1:=by rw [h1];simp
 have s2:W2.heap.size=w.heap.size+1+1:=by rw [h2,← s1];simp
 have s3:W3.heap.size=w.heap.size+1+1+1:=by rw [h3,← s2];simp
 have b1:Below w.heap.size w W1:=h1▸ai w _;have b2:Below W1.heap.size W1 W2:=h2▸ai W1 _;have b3:Below W2.heap.size W2 W3:=h3▸ai W2 _;have b4:Below W3.heap.size W3 W:=hW▸ai W3 _;have r1:B.au W1 w.heap.size #[a] TA:=h1▸B.au.new w _ _;have r2:W2.heap[W1.heap.size]?=some (.map #[] 0):=h2▸heap_alloc_new W1 _;have r3:B.au W3 W2.heap.size #[c] TC:=h3▸B.au.new W2 _ _;have r4:B.au W W3.heap.size #[e] TE:=hW▸B.au.new W3 _ _;have e2:W.heap[W1.heap.size]?=some (.map #[] 0):=(b4.block _ (by omega)).trans ((b3.block _ (by omega)).trans r2)
 rw [s1] at e2;rw [s2] at r3;rw [s3] at r4;exact ⟨Below.next (Below.next (Below.next b1 b2) b3) b4,by rw [← hW,← s3];simp,((r1.below b2).below b3).below b4,e2,r3.below b4,r4⟩
end
attribute [local go_sem ↓] Go.wp_at_zero Go.wp_at_succ
theorem u9.lower{w:World}{lo tn:Nat}{v:Value}{l:List Nat}(h:u9 w lo v l)(hl:tn≤lo):u9 w tn v l:=by
 refine ⟨⟨h.1.1,?_⟩,h.2⟩;rcases h.1.2 with h' | ⟨g,cap,cur,h',h1,h2⟩
 ·exact .inl h'
 ·exact .inr ⟨g,cap,cur,h',aq hl h1,h2⟩
section
variable {base:Nat} {A:Nat→Addr} {db:Nat} {F:Nat→Prop} {d:S.V.bD} {W0:World} {r:cT}
theorem BV{w0 w:World}{tb pc:Nat}(hc:Ts base A db F d W0 w0 tb r)(hn:(aP r).length≤4611686018427387904)(ji:(bz r).Nodup)(QW:(bz r).length<1099511627776)(bL:Below w0.heap.size w0 w)(FB:B.au w pc #[.slice none 0 0] 69)(FA:w0.heap.size≤pc):Calls prog 65 #[.pointer (some ⟨tb,0,none⟩),.func (.func 66) #[] #[.pointer (some ⟨pc,0,none⟩)]] w fun e w'=>e = .returned .nilIface∧(∃ v,B.au w' pc #[v] 69∧u9 w' w.heap.size v (bz r))∧Dv base A db F d w'∧Mv db F w0 w':=by
 have O5:=@run_makeMap prog;obtain ⟨H,hH⟩ : ∃ H,H=w.heap.size:=⟨_,rfl⟩;obtain ⟨W2,K3⟩ : ∃ W2,(w.alloc (.cells #[.pointer (some ⟨tb,0,none⟩)] 38)).alloc (.cells #[.func (.func 66) #[] #[.pointer (some ⟨pc,0,none⟩)]] 121)=W2:=⟨_,rfl⟩;obtain ⟨aY,s2,r0,r1⟩:=M5 w W2 _ _ _ _ K3;rw [← hH] at s2 r0 r1;have VN:Below w0.heap.size w0 W2:=Below.next bL aY;have HD:=ab (jR (hc.below VN) hn (Below.refl _ _));have q0:W2.cell? ⟨H,0,none⟩=some (.pointer (some ⟨tb,0,none⟩)):=r0.cell 0 (by simp)
 have HC:=ab hc;have HR:Hid (B.au W2 H #[.pointer (some ⟨tb,0,none⟩)] 38∧B.au W2 (H+1) #[.func (.func 66) #[] #[.pointer (some ⟨pc,0,none⟩)]] 121∧B.au W2 pc #[.slice none 0 0] 69∧W2.heap.size=H+1+1∧H=w.heap.size∧w0.heap.size≤H∧pc<H):=⟨r0,r1,FB.below aY,s2,hH,by have:=bL.size;omega,by have:=FB.lt;omega⟩
 have jY:=ab VN;have HPC:=ab FA;have Z2:=ab ji;have Wm:=ab QW;have Re:=ab hn;have hHs:=hH.symm;clear hc ji QW bL FB FA aY r0 r1 VN hH hn;cases r with
 | none =>
  rw [show ((jo none:Nat):Int)=0 from rfl] at HD
  go_enter func65,ntmps65;go_wp2_with fail;refine HD.out.mono ?_
  rintro e w1 ⟨rfl,eH,fI⟩;have b6:=ai w1 (.cells #[.nilIface] 32);have HE:Hid ((∃ v,B.au (w1.alloc (.cells #[.nilIface] 32)) pc #[v] 69∧u9 (w1.alloc (.cells #[.nilIface] 32)) w.heap.size v (bz none))∧Dv base A db F d (w1.alloc (.cells #[.nilIface] 32))∧Mv db F w0 (w1.alloc (.cells #[.nilIface] 32))):=by
   obtain ⟨h1,h2,h3,h4,h5,h6,h7⟩:=HR.out;have jq:=HC.out.dv.LC;have FA:=HPC.out;have h8:B.au w1 pc #[.slice none 0 0] 69:=(fI.one.block pc (by omega) (by omega)).trans h3
   exact ⟨⟨_,h8.below b6,u9.nil _ _⟩,eH.below b6,((Mv.of jY.out).trans fI).trans (Mv.of b6)⟩
  clear eH fI HD b6;go_wp2;go_ret;exact ⟨rfl,HE.out⟩
 | some y =>
  obtain ⟨h,t⟩:=y;have El:h+1≤64:=og HC.out.ok Re.out;have hh1:¬ ((jo (some ⟨h,t⟩):Nat):Int)=0:=by show ¬ ((h+1:Nat):Int)=0;omega
  have hhe:((jo (some ⟨h,t⟩):Nat):Int)=(h:Int)+1:=by show ((h+1:Nat):Int)=_;omega
  rw [hhe] at HD hh1;go_enter func65,ntmps65;go_wp2_with fail;refine HD.out.mono ?_
  rintro e w1 ⟨rfl,eH,fI⟩;obtain ⟨h1,h2,h3,h4,h5,h6,h7⟩:=HR.out;have jq:=HC.out.dv.LC;have FA:=HPC.out;have OQ:=fI.size;have bV:∀ {k:Nat} {cs:Array Value} {T:TypeId},w0.heap.size≤k→B.au W2 k cs T→B.au w1 k cs T:=fun {k cs T} hk hr=>(fI.one.block k hr.lt (by omega)).trans hr
  have u0:=bV h6 h1;have u1:=bV (by omega) h2
  have u2:=bV FA h3;have Vq:Mv db F w0 w1:=(Mv.of jY.out).trans fI;obtain ⟨rv,ht,hr⟩:=HC.out.tr;obtain ⟨p,zI,hk⟩ : ∃ p:C.Ch,rv=p.val∧eo (cU d) w0 h p t:=by
   rcases hr with ⟨_,he⟩ | ⟨p,h',t',rfl,he,hk⟩
   ·cases he
   ·cases he;exact ⟨p,rfl,hk⟩
  subst zI;obtain ⟨vt,vx,iB⟩:=bJ p;obtain ⟨K,hK⟩ : ∃ K,w1.heap.size=K:=⟨_,rfl⟩;obtain ⟨W9,Zm⟩ : ∃ W9,(((w1.alloc (.cells #[.nilIface] 32)).alloc (.map #[] 0)).alloc (.cells #[.map (some (K+1))] 166)).alloc (.cells #[.nilFunc] 176)=W9:=⟨_,rfl⟩;obtain ⟨Ji,s9,r4,r6,r7,r8⟩:=Lc w1 W9 _ _ _ _ _ _ Zm;rw [hK] at s9 r4 r6 r7 r8;have q8:W9.cell? ⟨K+1+1+1,0,none⟩=some .nilFunc:=r8.cell 0 (by simp)
  have f8:W9.frozen? ⟨K+1+1+1,0,none⟩=false:=by unfold B.au at r8;simp [World.frozen?,r8]
  obtain ⟨W,hW⟩ : ∃ W,W9.setCell ⟨K+1+1+1,0,none⟩ (.func (.func 103) #[] #[.pointer (some ⟨K+1+1,0,none⟩),.pointer (some ⟨K,0,none⟩),.pointer (some ⟨H+1,0,none⟩),.pointer (some ⟨H,0,none⟩),.pointer (some ⟨K+1+1+1,0,none⟩)])=W:=⟨_,rfl⟩;have dB:=bK.set (K+1+1+1) 0 W9 (.func (.func 103) #[] #[.pointer (some ⟨K+1+1,0,none⟩),.pointer (some ⟨K,0,none⟩),.pointer (some ⟨H+1,0,none⟩),.pointer (some ⟨H,0,none⟩),.pointer (some ⟨K+1+1+1,0,none⟩)]);rw [hW] at dB;have Jh:Below w1.heap.size w1 W:=⟨dB.os.trans Ji.os,dB.tape.trans Ji.tape,dB.output.trans Ji.output,aq Ji.size dB.size,fun k hk=>(dB.block k (by have:=Ji.size;omega) (by omega)).trans (Ji.block k hk)⟩
  have Sr:∀ {k:Nat} {cs:Array Value} {T:TypeId},k<K+1+1+1→B.au W9 k cs T→B.au W k cs T:=fun {k cs T} hk hr=>(dB.block k (by omega) (by omega)).trans hr
  have v0:=u0.below Jh;have v1:=u1.below Jh;have v2:=u2.below Jh;have v4:=Sr (by omega) r4
  have v6:W.heap[K+1]?=some (.map #[] 0):=(dB.block _ (by omega) (by omega)).trans r6
  have v7:=Sr (by omega) r7
  have v8:B.au W (K+1+1+1) #[.func (.func 103) #[] #[.pointer (some ⟨K+1+1,0,none⟩),.pointer (some ⟨K,0,none⟩),.pointer (some ⟨H+1,0,none⟩),.pointer (some ⟨H,0,none⟩),.pointer (some ⟨K+1+1+1,0,none⟩)]] 176:=hW▸rz r8 _;have hVS:Vs base A db F d w0 tb ⟨K+1+1,K+1,K,H+1,H,K+1+1+1,pc⟩ (K+1+1+1+1) W (.slice none 0 0) [] []:=by
   refine ⟨eH.below Jh,Vq.trans (Mv.of Jh),v7.cell 0 (by simp),v1.cell 0 (by simp),v0.cell 0 (by simp),v8.cell 0 (by simp),v4,v2,u9.nil _ _,Met.made v6,by simp,?_,?_,?_,jq,?_⟩
   ·intro b hb;simp only [dG,dx,or_false] at hb;omega
   ·intro b hb;simp only [dG,dx,or_false] at hb;show b≠K∧b≠pc
    omega
   ·show K≠pc
    omega
   ·have:=dB.size;omega
  have Wy:Hid (∀ W',Below W.heap.size W W'→Calls prog 103 #[p.val,.string ⟨#[]⟩,.int .i64 ((h:Int)+1),.pointer (some ⟨K+1+1,0,none⟩),.pointer (some ⟨K,0,none⟩),.pointer (some ⟨H+1,0,none⟩),.pointer (some ⟨H,0,none⟩),.pointer (some ⟨K+1+1+1,0,none⟩)] W' fun e w'=>e = .returned (.bool true)∧(∃ v',Vs base A db F d w0 tb ⟨K+1+1,K+1,K,H+1,H,K+1+1+1,pc⟩ (K+1+1+1+1) w' v' ([]++cD h t) ([]++cD h t))∧dd W' w'):=fun W' Xg=>zV HC.out.dv ht h (by omega) p t ⟨#[]⟩ W' _ [] [] hk (lK HC.out.ok) (hVS.below Xg) Z2.out (fun _ _ h=>by simp at h) (by have h9:(cD h t).length<1099511627776:=Wm.out;simpa using h9) (by have h9:(cD h t).length<1099511627776:=Wm.out;simpa using h9)
  have Ba:Hid (∀ W',Mv db F w0 W'→W'.cell? ⟨tb,1,none⟩=some p.val):=fun W' hm=>(dz (hm.cx HC.out.dv) ht).c1
  have m4:W.cell? ⟨tb,1,none⟩=some (.iface vt vx):=by rw [← iB];exact Ba.out W (Vq.trans (Mv.of Jh))
  rw [iB] at Wy Ba;have m0:W.cell? ⟨H,0,none⟩=some (.pointer (some ⟨tb,0,none⟩)):=v0.cell 0 (by simp)
  have m8:W.cell? ⟨K+1+1+1,0,none⟩=some (.func (.func 103) #[] #[.pointer (some ⟨K+1+1,0,none⟩),.pointer (some ⟨K,0,none⟩),.pointer (some ⟨H+1,0,none⟩),.pointer (some ⟨H,0,none⟩),.pointer (some ⟨K+1+1+1,0,none⟩)]):=v8.cell 0 (by simp)
  have CF:Hid (w.heap.size≤K+1+1+1+1):=by show _≤_;omega
  clear eH fI h1 h2 h3 h4 h5 h6 h7 jq FA OQ bV u0 u1 u2 Vq ht hr hk iB Ji s9 r4 r6 r7 r8 dB Jh Sr v0 v1 v2 v4 v6 v7 v8 hVS HD HR;go_wp2_with fail;go_region_held3 (fun w'=>w'.cell? ⟨H,0,none⟩=some (.pointer (some ⟨tb,0,none⟩))∧w'.cell? ⟨K+1+1+1,0,none⟩=some (.func (.func 103) #[] #[.pointer (some ⟨K+1+1,0,none⟩),.pointer (some ⟨K,0,none⟩),.pointer (some ⟨H+1,0,none⟩),.pointer (some ⟨H,0,none⟩),.pointer (some ⟨K+1+1+1,0,none⟩)])∧w'.cell? ⟨tb,1,none⟩=some (.iface vt vx)) (go_keep)
   (first
    | (go_at_call 103;refine (Wy.out _ (by first | exact Below.refl _ _ | exact B.aR (Below.refl _ _))).mono ?_;rintro e w2 ⟨rfl,⟨v',pN⟩,-⟩;have QM:=ab pN;have n0:w2.cell? ⟨H,0,none⟩=some (.pointer (some ⟨tb,0,none⟩)):=pN.ct;have n8:w2.cell? ⟨K+1+1+1,0,none⟩=some (.func (.func 103) #[] #[.pointer (some ⟨K+1+1,0,none⟩),.pointer (some ⟨K,0,none⟩),.pointer (some ⟨H+1,0,none⟩),.pointer (some ⟨H,0,none⟩),.pointer (some ⟨K+1+1+1,0,none⟩)]):=pN.cv;have n4:=Ba.out _ pN.mv;have kf:w2.cell? ⟨K,0,none⟩=some .nilIface:=pN.cf.cell 0 (by simp);clear pN))
  have HE:Hid ((∃ v,B.au w2 pc #[v] 69∧u9 w2 w.heap.size v (bz (some ⟨h,t⟩)))∧Dv base A db F d w2∧Mv db F w0 w2):=⟨⟨v',QM.out.row,QM.out.ps.lower CF.out⟩,QM.out.dv,QM.out.mv⟩;clear QM Wy n0 n8 n4 m0 m8 m4 Ba hW Zm q8 f8;go_wp2;go_ret;exact ⟨rfl,HE.out⟩
end
open Go.Sort
theorem OF(w:World):Calls prog 136 #[.slice none 0 0,.int .i64 0,.int .i64 0] w fun e w'=>e = .returned (.tuple #[])∧w=w':=by
 go_enter func136,ntmps136;go_wp2;refine wp_loop_rounds 1 ?_
 rw [rounds_succ];go_wp2;go_end0
 exact ⟨rfl,rfl⟩
theorem RS(n:Int)(w:World):Calls prog 105 #[.slice none 0 0,.int .i64 0,.int .i64 0,.int .i64 n] w fun e w'=>e = .returned (.tuple #[])∧w=w':=by
 have HI:=ab (OF w);go_enter func105,ntmps105;go_wp2_with fail;refine wp_loop_rounds 1 ?_
 rw [rounds_succ];go_wp2_with fail;refine HI.out.mono ?_
 rintro e w1 ⟨rfl,rfl⟩;go_wp2;refine bodyPost_ret (results_none rfl _ _ _) rfl ?_
 exact ⟨rfl,rfl⟩
theorem LQ(w:World):Calls prog 106 #[.int .u64 0] w fun e w'=>(∃ n,e = .returned (.int .i64 n))∧w=w':=by
 have HL:=ab (tp 0 w (by decide))
 rw [show ((0:Nat):Int)=0 from rfl] at HL
 go_enter func106,ntmps106;go_wp2_with fail;refine HL.out.mono ?_
 rintro e w1 ⟨rfl,rfl⟩;go_wp2;go_ret;exact ⟨⟨_,rfl⟩,rfl⟩
theorem Nn(w:World):Calls prog 68 #[.slice none 0 0] w fun e w'=>e = .returned (.tuple #[])∧w=w':=by
 have HL:=ab (LQ w);go_enter func68,ntmps68;go_wp2_with fail;refine HL.out.mono ?_
 rintro e w1 ⟨⟨n,rfl⟩,rfl⟩;go_wp2_with fail;refine (RS n w).mono ?_
 rintro e w1 ⟨rfl,rfl⟩;go_wp2;go_end0
 exact ⟨rfl,rfl⟩
def iG(l:List Nat):List Int:=(l.map fun n:Nat=>(n:Int)).mergeSort fun x y=>decide (x≤y)
theorem ez(l:List Nat):(iG l).length=l.length:=by unfold iG;rw [List.length_mergeSort,az]
theorem oY(l:List Nat):(iG l).Perm (l.map fun n:Nat=>(n:Int)):=List.mergeSort_perm _ _
theorem Rx{w:World}{lo:Nat}{v:Value}{l:List Nat}(h:u9 w lo v l)(hl:l.length<4611686018427387904):Calls prog 68 #[v] w fun e w'=>e = .returned (.tuple #[])∧w'.ownsRow lo 3 1 v l.length ((iG l).map (Value.int .i64))∧w.grownBy w' v.ownBlock:=by
 have aD:=h.1;rcases h.1.2 with ⟨rfl,h0⟩ | ⟨g,gc,cur,rfl,dr,hb,h1,h2,h3,h4⟩
 ·refine (Nn w).mono ?_
  rintro e w' ⟨rfl,rfl⟩;have QZ:l=[]:=List.length_eq_zero_iff.1 h0;subst QZ;exact ⟨rfl,by show w.ownsRow lo 3 1 (.slice none 0 0) 0 ((iG []).map (Value.int .i64));rw [show iG []=[] by simp [iG]];exact World.ownsRow_nil _ _ _ _,⟨rfl,rfl,rfl,aj _,fun _ _ _=>rfl⟩⟩
 ·obtain ⟨zs,GM⟩ : ∃ zs,zs=l.map fun n:Nat=>(n:Int):=⟨_,rfl⟩
  have hzl:zs.length=l.length:=by rw [GM,az]
  have hH:Holds (Value.int .i64) w g 0 zs.toArray:=holds_of_blockI hb (by rw [hzl,GM,eG];have h4':=h4;simp only [Nat.mul_one] at h4';exact h4')
  have ye:g<w.heap.size:=(Array.getElem?_eq_some_iff.1 hb).1;have hc:=B.z7 g gc zs w hH ye (by omega)
  rw [hzl] at hc;refine hc.mono ?_
  rintro e w' ⟨rfl,q,os,rfl⟩;have qC:iG l=zs.mergeSort fun x y=>decide (x≤y):=by rw [GM];rfl
  rw [qC];refine ⟨rfl,?_,grownBy_sortedI _⟩;have:=ownsRow_sortedI (w:=w) (base:=lo) (n:=q) (os:=os) (ss:=zs) (ts:=zs.mergeSort fun x y=>decide (x≤y)) (by rw [List.length_mergeSort]) dr hb (by omega) h2 h3
  rwa [hzl] at this
end T
end Go.Proofs.YtihmgigfkmofnaaGreatDoor
namespace Go.Proofs.YtihmgigfkmofnaaGreatDoor
namespace T
open Go.RowKit
section
variable {base:Nat} {A:Nat→Addr} {db:Nat} {F:Nat→Prop} {d:S.V.bD} {W0:World} {r:cT}
theorem eZ{w:World}{tb:Nat}(hc:Ts base A db F d W0 w tb r)(hn:(aP r).length≤4611686018427387904)(ji:(bz r).Nodup)(QW:(bz r).length<1099511627776):Calls prog 27 #[.pointer (some ⟨tb,0,none⟩)] w fun e w'=>(∃ v,e = .returned (.tuple #[v,.nilIface])∧w'.ownsRow w.heap.size 3 1 v (bz r).length ((iG (bz r)).map (Value.int .i64)))∧Dv base A db F d w'∧Mv db F w w':=by
 obtain ⟨W1,lf⟩ : ∃ W1,w.alloc (.cells #[.slice none 0 0] 69)=W1:=⟨_,rfl⟩;obtain ⟨H,hH⟩ : ∃ H,w.heap.size=H:=⟨_,rfl⟩;have aN:Below w.heap.size w W1:=lf▸ai w _;have r1:B.au W1 w.heap.size #[.slice none 0 0] 69:=lf▸B.au.new w _ _;have s1:W1.heap.size=w.heap.size+1:=by rw [← lf];simp
 have HG:=ab (BV hc hn ji QW aN r1 (aj _));rw [hH] at HG;have HC:=ab hc;have qe:Hid (W1.heap.size=H+1):=by show _=_;omega
 have Wm:=ab QW;clear hc hn ji QW r1 aN s1;go_enter func27,ntmps27;go_wp2_with fail;refine HG.out.mono ?_
 rintro e w2 ⟨rfl,⟨v,bV,nG⟩,nF,qJ⟩;have k2:w2.cell? ⟨H,0,none⟩=some v:=bV.cell 0 (by simp)
 obtain ⟨a,c,mQ⟩:=nG.form;have ZP:=ab (Rx nG (by have:=Wm.out;omega))
 have oR:=ab bV;have Xq:=ab nG;have wi:=ab nF;have JE:=ab qJ;have HF:Hid (∀ w3,w2.grownBy w3 v.ownBlock→w3.cell? ⟨H,0,none⟩=some v∧Dv base A db F d w3∧Mv db F w w3):=fun w3 hg=>by
  have h1:=qe.out;have fy:∀ k,k<W1.heap.size→some k≠v.ownBlock:=fun k hk e=>by
   have:=(nG.dy e.symm).1;omega
  have jm:B.au w3 H #[v] 69:=(hg.block H bV.lt (fy _ (by omega))).trans bV
  have cp:w.heap.size≤w2.heap.size:=qJ.size;have mD:Below w.heap.size w2 w3:=⟨hg.os,hg.tape,hg.output,hg.size,fun k hk=>hg.block k (by omega) (fy k (by omega))⟩
  exact ⟨jm.cell 0 (by simp),nF.grown mD qJ HC.out.dv⟩
 have CF:Hid (w.heap.size≤W1.heap.size):=by have h1:=qe.out;show _≤_;omega
 subst mQ;clear bV nG nF qJ HG;go_wp2_with fail;refine ZP.out.mono ?_
 rintro e w3 ⟨rfl,fX,Ui⟩;obtain ⟨k3,si,qI⟩:=HF.out w3 Ui;have HE:Hid (w3.ownsRow w.heap.size 3 1 (.slice a (bz r).length c) (bz r).length ((iG (bz r)).map (Value.int .i64))∧Dv base A db F d w3∧Mv db F w w3):=by
  refine ⟨⟨fX.1,?_⟩,si,qI⟩;rcases fX.2 with h' | ⟨g,cap,cur,h',h1,h2⟩
  ·exact .inl h'
  ·exact .inr ⟨g,cap,cur,h',aq CF.out h1,h2⟩
 clear fX Ui si qI ZP HF;go_wp2;go_ret2;exact ⟨⟨_,rfl,HE.out.1⟩,HE.out.2⟩
end
theorem l9(key value:ByteArray)(w:World)(hk:key.size≤140737488355328)(hv:value.size≤140737488355328):Calls prog 29 #[.string key,.string value] w fun e w'=>e = .returned (.bool (cF (key,value)))∧w=w':=by
 have h1:cF (key,value)=decide (1≤key.size∧key.size≤255∧value.size≤700):=rfl;rw [h1];by_cases a1:1≤key.size
 ·by_cases a2:key.size≤255
  ·by_cases a3:value.size≤700
   ·have d1:decide ((key.size:Int)≥1)=true:=decide_eq_true (by omega)
    have d2:decide ((key.size:Int)≤255)=true:=decide_eq_true (by omega)
    have d3:decide ((value.size:Int)≤700)=true:=decide_eq_true (by omega)
    rw [decide_eq_true ⟨a1,a2,a3⟩];clear a1 a2 a3 h1 hk hv;go_enter func29,ntmps29;go_wp2;go_ret;exact ⟨rfl,rfl⟩
   ·have d1:decide ((key.size:Int)≥1)=true:=decide_eq_true (by omega)
    have d2:decide ((key.size:Int)≤255)=true:=decide_eq_true (by omega)
    have d3:decide ((value.size:Int)≤700)=false:=decide_eq_false (by omega)
    rw [decide_eq_false (fun h=>a3 h.2.2)]
    clear a1 a2 a3 h1 hk hv;go_enter func29,ntmps29;go_wp2;go_ret;exact ⟨rfl,rfl⟩
  ·have d1:decide ((key.size:Int)≥1)=true:=decide_eq_true (by omega)
   have d2:decide ((key.size:Int)≤255)=false:=decide_eq_false (by omega)
   rw [decide_eq_false (fun h=>a2 h.2.1)]
   clear a1 a2 h1 hk hv;go_enter func29,ntmps29;go_wp2;go_ret;exact ⟨rfl,rfl⟩
 ·have d1:decide ((key.size:Int)≥1)=false:=decide_eq_false (by omega)
  rw [decide_eq_false (fun h=>a1 h.1)]
  clear a1 h1 hk hv;go_enter func29,ntmps29;go_wp2;go_ret;exact ⟨rfl,rfl⟩
theorem jx(v:Value)(l:List Pr)(key:ByteArray)(w:World)(hm:l.length≤140737488355328)(hr:gZ w v l):Calls prog 28 #[v,.string key] w fun e w'=>e = .returned (.tuple #[.int .i64 (aQ l key:Int),.bool (bq l key)])∧∃ k,w'=w.drewN k:=by
 obtain ⟨a,cap,rfl,du,_,hc⟩:=hr;have HC:=ab hc;obtain ⟨n,hn⟩ : ∃ n,n=l.length:=⟨_,rfl⟩;rw [← hn] at hm ⊢;have HN:=ab hn;obtain ⟨Q,hQ⟩ : ∃ Q:Ending→World→Prop,Q=fun e w'=>e = .returned (.tuple #[.int .i64 (aQ l key:Int),.bool (bq l key)])∧∃ k,w'=w.drewN k:=⟨_,rfl⟩
 rw [← hQ];have HQ:=ab hQ;clear hc hn du hQ;go_enter func28,ntmps28;go_wp2;go_loopw [6] (fun i wr=>∃ k:Nat,k≤n∧i = .int .i64 k∧(∀ j (h:j<l.length),j<k→df l[j].1 key=true)∧w=wr) (fun i _=>n - (intOf i).toNat)
 case atStart=>exact ⟨0,aC _,rfl,fun j _ h=>absurd h (fZ _),rfl⟩
 case round =>
  obtain ⟨k,hk,rfl,iW,rfl⟩:=hrel;have HP:=ab iW;clear iW;by_cases bX:k<n
  ·have ep:k<l.length:=by have:=HN.out;omega
   obtain ⟨g,o,rfl,c1,c2⟩:=HC.out k ep;have oS:Hid (df l[k].1 key=true→∀ j (h:j<l.length),j<k+1→df l[j].1 key=true):=fun hl j h hj=>by
    by_cases he:j=k
    ·subst he;exact hl
    ·exact HP.out j h (by omega)
   have CI:Hid (df l[k].1 key=false→aQ l key=k):=fun hl=>sw ep (fun j hj=>HP.out j (by omega) hj) hl
   have QN:Hid (aQ l key=k→bq l key=decide (l[k].1=key)):=fun h=>by subst h;exact l8 ep
   obtain ⟨p,hp⟩ : ∃ p,p=l[k]:=⟨_,rfl⟩;rw [← hp] at c1 c2 oS CI QN;have dO:(k:Int)<(n:Int):=by omega
   have j0:(0:Int)≤(k:Int):=by omega
   clear hp HC;cases hb:df p.1 key with
   | true =>
    have tY:=ab (oS.out hb);have aY:Op.bytesLess p.1.toList key.toList=true:=hb;clear hb oS CI QN c2;go_wp2;go_roundw
    case rel=>exact ⟨k+1,by omega,by go_num,tY.out,by first | trivial | rfl⟩
    case measure=>simp [intOf];omega
   | false =>
    have Ic:=ab (CI.out hb);have adJ:=ab (QN.out Ic.out);have aY:Op.bytesLess p.1.toList key.toList=false:=hb;clear hb oS CI QN c2;go_wp2;go_quiet (fail)
    go_wp2;rw [HQ.out,Ic.out,adJ.out,← oN];exact ⟨rfl,_,rfl⟩
  ·have dO:¬ (k:Int)<(n:Int):=by omega
   have kh:Hid (aQ l key=n∧bq l key=false):=by
    have h:=qO (l:=l) (key:=key) (fun j hj=>HP.out j hj (by have:=HN.out;omega))
    have h2:=oI (l:=l) (key:=key) (by omega)
    have:=HN.out;exact ⟨by omega,h2⟩
   clear HC HP;go_wp2;rw [HQ.out,kh.out.1,kh.out.2];exact ⟨rfl,0,rfl⟩
theorem iU.take_len(l:List Pr)(key:ByteArray):([] : List Pr).length+(l.take (aQ l key)).length=aQ l key:=by
 have:=cW l key;rw [ag,a8 this];simp
theorem KP(v:Value)(l:List Pr)(key value:ByteArray)(w:World)(hm:l.length≤4398046511000)(hr:gZ w v l):Calls prog 40 #[v,.string key,.string value] w fun e w'=>∃ u,e = .returned u∧iU w' w.heap.size u (eT l key value)∧Below w.heap.size w w':=by
 have HF:=ab (jx v l key w (by omega) hr)
 have HR:=ab hr;obtain ⟨a,cap,hv⟩:=hr.form;subst hv;have kU:=cW l key;have jJ:=jF l key;have St:=eP l key;have du:l.length≤cap:=by obtain ⟨_,_,he,h,_⟩:=hr;cases he;exact h
 have zF:=iU.take_len l key;have vY:(if bq l key then aQ l key+1 else aQ l key:Nat)=bW l key:=rfl
 have iw:Hid (eT l key value=(l.take (aQ l key)++[(key,value)])++l.drop (bW l key)):=by show _=_;simp [eT]
 obtain ⟨q,hq⟩ : ∃ q,q=aQ l key:=⟨_,rfl⟩;obtain ⟨r,zd⟩ : ∃ r,r=bW l key:=⟨_,rfl⟩;rw [← hq] at HF kU zF vY iw;rw [← zd] at jJ vY iw;rw [← hq,← zd] at St;have vj:=fun W=>Ka W a l.length cap q (by omega)
 have Fj:∀ k,Hid (∃ a1 c1 w1 a2 c2 w2 a3 c3 w3 a4 n4 c4,(Builtin.append_ #[63,63] 63 #[.slice none 0 0,.slice a q cap]).run prog (w.drewN k) = .ok (.slice a1 q c1) w1∧(Builtin.append_ #[63,63] 63 #[.slice a1 q c1,.slice (some ⟨w1.heap.size,0,none⟩) 1 1]).run prog (w1.alloc (.cells #[.string key,.string value] 52)) = .ok (.slice a2 (q+1) c2) w2∧(∀ W,(Instr.sliceAt 63 (.slice a l.length cap) (some (.int .i64 (r:Int))) none none).run prog W = .ok (.slice a4 n4 c4) W)∧(Builtin.append_ #[63,63] 63 #[.slice a2 (q+1) c2,.slice a4 n4 c4]).run prog w2 = .ok (.slice a3 (q+1+(l.length - r)) c3) w3∧iU w3 w.heap.size (.slice a3 (q+1+(l.length - r)) c3) (eT l key value)∧Below w.heap.size w w3):=fun k=>by
  have mE:Below w.heap.size w (w.drewN k):=aB (Below.refl _ _) k;have Yx:iU (w.drewN k) w.heap.size (.slice none 0 0) []:=iU.nil _ _;obtain ⟨a1,c1,w1,eN,jB,fJ⟩:=gT w.heap.size _ (.slice a q cap) [] (l.take q) (w.drewN k) Yx ((hr.below mE).take kU) (by rw [zF];omega) mE.size
  rw [zF] at eN jB;rw [List.nil_append] at jB;have aN:Below w.heap.size w w1:=mE.grown fJ mE.size (fun k hk=>(World.ownsRow.lt Yx k hk).1)
  obtain ⟨a2,c2,w2,iK,dW,aY,j8⟩:=NH w.heap.size _ (l.take q) (key,value) 52 w1 w w.heap.size q (by rw [ag,a8 kU]) jB (by omega) aN.size (aj _) aN
  obtain ⟨a4,AG,Vg⟩:=(hr.below aY).drop jJ;have Vt:(l.take q++[(key,value)]).length+(l.drop r).length=q+1+(l.length - r):=by
   rw [ae,ag,a8 kU,ao];rfl
  obtain ⟨a3,c3,w3,gj,fX,Ui⟩:=gT w.heap.size _ _ _ (l.drop r) w2 dW AG (by rw [Vt];omega) aY.size
  rw [Vt] at gj fX;have b6:Below w.heap.size w w3:=aY.grown Ui aY.size (fun k hk=>(World.ownsRow.lt dW k hk).1)
  exact ⟨a1,c1,w1,a2,c2,w2,a3,c3,w3,a4,_,_,eN,iK,Vg,gj,by rw [iw.out];exact fX,b6⟩
 have JE:=ab Fj;have Su:(q:Int)≤4398046511000:=by omega
 clear Fj hr hq zd zF du HR iw jJ St;generalize bq l key=fb at *;go_enter func40,ntmps40;go_wp2_with fail;refine HF.out.mono ?_
 rintro e w' ⟨rfl,k,rfl⟩;obtain ⟨a1,c1,w1,a2,c2,w2,a3,c3,w3,a4,n4,c4,r1,r2,qD,r3,fX,b6⟩:=(JE.out k).out;have R1:=ab r1;have R2:=ab r2;have R3:=ab r3;have HO:=ab fX;have HB:=ab b6;clear r1 r2 r3 fX b6 JE HF;cases fb with
 | true =>
  have vY:q+1=r:=by simpa using vY
  subst vY;rw [gd,jX] at qD;go_wp2_with (first
   | (at_builtin;refine wpList_append_run 63 rfl (.tmp 16) (.tmp 19) rfl rfl _ _ rfl rfl _ _ R1.out ?_)
   | (at_builtin;refine wpList_append_run 63 rfl (.tmp 21) (.tmp 25) rfl rfl _ _ rfl rfl _ _ R2.out ?_)
   | (at_builtin;refine wpList_append_run 63 rfl (.tmp 30) (.tmp 33) rfl rfl _ _ rfl rfl _ _ R3.out ?_))
  go_ret;exact ⟨_,rfl,HO.out,HB.out⟩
 | false =>
  have vY:q=r:=by simpa using vY
  subst vY;go_wp2_with (first
   | (at_builtin;refine wpList_append_run 63 rfl (.tmp 16) (.tmp 19) rfl rfl _ _ rfl rfl _ _ R1.out ?_)
   | (at_builtin;refine wpList_append_run 63 rfl (.tmp 21) (.tmp 25) rfl rfl _ _ rfl rfl _ _ R2.out ?_)
   | (at_builtin;refine wpList_append_run 63 rfl (.tmp 30) (.tmp 33) rfl rfl _ _ rfl rfl _ _ R3.out ?_))
  go_ret;exact ⟨_,rfl,HO.out,HB.out⟩
theorem yr{l:List Pr}{key:ByteArray}(h:bq l key=false):cX l key=l:=by
 unfold cX bW;rw [h];simp
theorem BM(v:Value)(l:List Pr)(key:ByteArray)(w:World)(hm:l.length≤4398046511000)(hr:gZ w v l):Calls prog 58 #[v,.string key] w fun e w'=>((bq l key=false∧e = .returned v)∨(bq l key=true∧∃ u,e = .returned u∧iU w' w.heap.size u (cX l key)))∧Below w.heap.size w w':=by
 have HF:=ab (jx v l key w (by omega) hr)
 have HR:=ab hr;obtain ⟨a,cap,hv⟩:=hr.form;subst hv;have kU:=cW l key;have jJ:=jF l key;have St:=eP l key;have du:l.length≤cap:=by obtain ⟨_,_,he,h,_⟩:=hr;cases he;exact h
 have zF:=iU.take_len l key;have vY:(if bq l key then aQ l key+1 else aQ l key:Nat)=bW l key:=rfl
 have iw:Hid (cX l key=l.take (aQ l key)++l.drop (bW l key)):=rfl;obtain ⟨q,hq⟩ : ∃ q,q=aQ l key:=⟨_,rfl⟩;obtain ⟨r,zd⟩ : ∃ r,r=bW l key:=⟨_,rfl⟩;rw [← hq] at HF kU zF vY iw;rw [← zd] at jJ vY iw;rw [← hq,← zd] at St;have vj:=fun W=>Ka W a l.length cap q (by omega)
 have Fj:∀ k,Hid (∃ a1 c1 w1 a3 c3 w3 a4 n4 c4,(Builtin.append_ #[63,63] 63 #[.slice none 0 0,.slice a q cap]).run prog (w.drewN k) = .ok (.slice a1 q c1) w1∧(∀ W,(Instr.sliceAt 63 (.slice a l.length cap) (some (.int .i64 (r:Int))) none none).run prog W = .ok (.slice a4 n4 c4) W)∧(Builtin.append_ #[63,63] 63 #[.slice a1 q c1,.slice a4 n4 c4]).run prog w1 = .ok (.slice a3 (q+(l.length - r)) c3) w3∧iU w3 w.heap.size (.slice a3 (q+(l.length - r)) c3) (cX l key)∧Below w.heap.size w w3):=fun k=>by
  have mE:Below w.heap.size w (w.drewN k):=aB (Below.refl _ _) k;have Yx:iU (w.drewN k) w.heap.size (.slice none 0 0) []:=iU.nil _ _;obtain ⟨a1,c1,w1,eN,jB,fJ⟩:=gT w.heap.size _ (.slice a q cap) [] (l.take q) (w.drewN k) Yx ((hr.below mE).take kU) (by rw [zF];omega) mE.size
  rw [zF] at eN jB;rw [List.nil_append] at jB;have aN:Below w.heap.size w w1:=mE.grown fJ mE.size (fun k hk=>(World.ownsRow.lt Yx k hk).1)
  obtain ⟨a4,AG,Vg⟩:=(hr.below aN).drop jJ;have Vt:(l.take q).length+(l.drop r).length=q+(l.length - r):=by
   rw [ag,a8 kU,ao]
  obtain ⟨a3,c3,w3,gj,fX,Ui⟩:=gT w.heap.size _ _ _ (l.drop r) w1 jB AG (by rw [Vt];omega) aN.size
  rw [Vt] at gj fX;have b6:Below w.heap.size w w3:=aN.grown Ui aN.size (fun k hk=>(World.ownsRow.lt jB k hk).1)
  exact ⟨a1,c1,w1,a3,c3,w3,a4,_,_,eN,Vg,gj,by rw [iw.out];exact fX,b6⟩
 have JE:=ab Fj;have wo:=ab (fun k=>aB (Below.refl w.heap.size w) k)
 have Su:(q:Int)≤4398046511000:=by omega
 clear Fj hr hq zd zF du HR iw jJ St;generalize bq l key=fb at *;go_enter func58,ntmps58;go_wp2_with fail;refine HF.out.mono ?_
 rintro e w' ⟨rfl,k,rfl⟩;obtain ⟨a1,c1,w1,a3,c3,w3,a4,n4,c4,r1,qD,r3,fX,b6⟩:=(JE.out k).out;have R1:=ab r1;have R3:=ab r3;have HO:=ab fX;have HB:=ab b6;clear r1 r3 fX b6 JE HF;cases fb with
 | true =>
  have vY:q+1=r:=by simpa using vY
  subst vY;rw [gd,jX] at qD;go_wp2_with (first
   | (at_builtin;refine wpList_append_run 63 rfl (.tmp 17) (.tmp 20) rfl rfl _ _ rfl rfl _ _ R1.out ?_)
   | (at_builtin;refine wpList_append_run 63 rfl (.tmp 22) (.tmp 26) rfl rfl _ _ rfl rfl _ _ R3.out ?_))
  go_ret;exact ⟨⟨_,rfl,HO.out⟩,HB.out⟩
 | false =>
  go_wp2;go_ret;exact ⟨rfl,wo.out k⟩
theorem EP{α:Type}(f p:α→Nat):∀ (cs:List α),(∀ c ∈ cs,f c+1≤2*p c)→(cs.map f).sum+cs.length≤2*(cs.map p).sum
 | [],_=>by simp
 | c::cs,h=>by
  have h1:=h c (by simp)
  have h2:=EP f p cs fun x hx=>h x (by simp [hx])
  simp only [List.map_cons,gD,List.length_cons];omega
def LI(h:Nat)(t:Nd h):Nat:=(cD h t).length+fA h t
theorem Dw(n:Nat):(cJ n).length+(if n=0 then 1 else 0)=1:=by
 unfold cJ;split <;> simp
theorem ui{α:Type}(f g:α→Nat):∀ (cs:List α),(cs.map fun c=>f c+g c).sum=(cs.map f).sum+(cs.map g).sum
 | []=>by simp
 | c::cs=>by
  have h2:=ui f g cs;simp only [List.map_cons,gD];omega
theorem EO:∀ (h:Nat) {t:Nd h},MC h t→LI h t+1≤2*(flat h t).length
 | 0,t,ho=>by
  have h1:t.2≠[]:=ho.2.2;have h2:=List.length_pos_iff.2 h1;have h3:=Dw t.1;show (cJ t.1).length+(if t.1=0 then 1 else 0)+1≤2*t.2.length
  omega
 | h+1,t,ho=>by
  obtain ⟨⟨lo,hi,cC⟩,_,h1⟩:=ho;have h1:t.2.1≠[]:=h1;have hl:=jI ((iA h t lo hi).1 cC);have hp:=List.length_pos_iff.2 h1;have hk:∀ c ∈ t.2.2,LI h c+1≤2*(flat h c).length:=fun c hc=>by
   obtain ⟨i,oE,rfl⟩:=aI hc;exact EO h (rO ⟨⟨lo,hi,cC⟩,by assumption,h1⟩ (af oE))
  have h2:=EP (LI h) (fun c=>(flat h c).length) t.2.2 hk
  have h3:(flat (h+1) t).length=(t.2.2.map fun c=>(flat h c).length).sum:=by
   show (t.2.2.flatMap (flat h)).length=_
   rw [List.length_flatMap]
  have h4:(t.2.2.flatMap (cD h)).length=(t.2.2.map fun c=>(cD h c).length).sum:=List.length_flatMap
  have h5:(t.2.2.map (LI h)).sum=(t.2.2.map fun c=>(cD h c).length).sum+(t.2.2.map (fA h)).sum:=ui _ _ _
  have h6:(cD (h+1) t).length=(cJ t.1).length+(t.2.2.flatMap (cD h)).length:=by
   show (cJ t.1++t.2.2.flatMap (cD h)).length=_
   rw [ae]
  have h7:fA (h+1) t=if t.1=0 then (t.2.2.map (fA h)).sum+1 else 0:=rfl
  have h8:=Dw t.1;unfold LI;rw [h3,h6,h7];split at h8
  ·rename_i e;rw [if_pos e];omega
  ·rename_i e;rw [if_neg e];omega
theorem gl{r:cT}(h:dU r):(bz r).length+bY r≤2*(aP r).length:=by
 cases r with
 | none=>exact aj _
 | some x =>
  have:=EO x.1 (t:=x.2) ⟨⟨none,none,h.1⟩,h.2.1,h.2.2⟩;unfold LI at this;show (cD x.1 x.2).length+fA x.1 x.2≤2*(flat x.1 x.2).length
  omega
theorem Jn(T:Nat→Bool)(i:Nat):∀ n,(Q.fY T n).length≤(Q.fY (Q.nO T i true) n).length+(if i<n then 1 else 0)
 | 0=>by simp [Q.fY]
 | n+1=>by
  have h:=Jn T i n;show (Q.fY T n++(if T n then [] else [n])).length≤(Q.fY (Q.nO T i true) n++(if Q.nO T i true n then [] else [n])).length+_
  rw [ae,ae];by_cases e:n=i
  ·subst e;have h1:((if T n then [] else [n] : List Nat)).length≤1:=by split <;> simp
   rw [if_neg (Nat.lt_irrefl _)] at h;rw [if_pos (Nat.lt_succ_self _)];omega
  ·have h1:Q.nO T i true n=T n:=by simp [Q.nO,e]
   rw [h1];by_cases h2:i<n
   ·have e1:(if i<n+1 then 1 else 0:Nat)=1:=if_pos (by omega)
    rw [if_pos h2] at h;rw [e1];omega
   ·have e1:(if i<n+1 then 1 else 0:Nat)=0:=if_neg (by omega)
    rw [if_neg h2] at h;rw [e1];omega
def fN(T:Nat→Bool)(L:List Nat):Nat→Bool:=L.foldl (fun T i=>Q.nO T i true) T
theorem pw(L:List Nat):∀ (T:Nat→Bool) (n:Nat),(Q.fY T n).length≤(Q.fY (fN T L) n).length+L.length:=by
 induction L with
 | nil=>intro T n;exact aj _
 | cons i L ih =>
  intro T n;have h1:=Jn T i n;have h2:=ih (Q.nO T i true) n;show _≤(Q.fY (fN (Q.nO T i true) L) n).length+(L.length+1)
  split at h1 <;> omega
theorem oq(L:List Nat):∀ (T:Nat→Bool) (j:Nat),fN T L j=(T j || decide (j ∈ L)):=by
 induction L with
 | nil=>intro T j;simp [fN]
 | cons i L ih =>
  intro T j;show fN (Q.nO T i true) L j=_
  rw [ih];by_cases e:j=i
  ·subst e;simp [Q.nO]
  ·have h1:Q.nO T i true j=T j:=by simp [Q.nO,e]
   rw [h1];simp [e]
theorem Og{PP:Nat}{T:Nat→Bool}(h:Q.qc PP T)(L:List Nat):Q.qc PP (fN T L):=⟨h.lo,h.hi,by rw [oq,h.t0];rfl,by rw [oq,h.t1];rfl,fun j hj=>by rw [oq,h.up j hj];rfl⟩
theorem oX:∀ n,n+2≤4000→(Q.fY (Q.T0 4000) (n+2)).length=n
 | 0,_=>by decide
 | n+1,h=>by
  have ih:=oX n (by omega)
  show (Q.fY (Q.T0 4000) (n+2)++(if Q.T0 4000 (n+2) then [] else [n+2])).length=n+1
  have e:Q.T0 4000 (n+2)=false:=by
   simp [Q.T0];omega
  rw [e,ae,ih];rfl
end T
end Go.Proofs.YtihmgigfkmofnaaGreatDoor
