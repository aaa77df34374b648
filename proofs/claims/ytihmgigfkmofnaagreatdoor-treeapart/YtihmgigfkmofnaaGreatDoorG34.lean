import Derived.Test.YtihmgigfkmofnaaGreatDoorG33
set_option maxHeartbeats 4000000
set_option maxRecDepth 100000
open Go.Proofs.Tryz
namespace Go.Proofs.YtihmgigfkmofnaaGreatDoor
namespace T
open Go.RowKit
attribute [local go_sem ↓] Go.wp_at_zero Go.wp_at_succ
theorem Ih{d:S.V.bq}{Pk:SN→Nat→Prop}{w:World}:∀ {ss:List (gz XT)} {x y:XT},Way (cX d) Pk w x ss y→ss.length+y.1=x.1
 | [],_,_,h=>by
  have h:_=_:=h;subst h;simp
 | s::ss,x,y,⟨_,_,_,_,_,z,h6,h7⟩=>by
  have ih:=Ih h7;obtain ⟨h,t⟩:=x;cases h with
  | zero=>exact (h6:False).elim
  | succ h =>
   obtain ⟨c,_,rfl⟩:=h6;have ih:ss.length+y.1=h:=ih;show ss.length+1+y.1=h+1
   omega
def Po:ch→Nat
 | none=>0
 | some x=>x.1+1
section
variable {base:Nat} {A:Nat→Addr} {db:Nat} {F:Nat→Prop} {d:S.V.bq} {W0:World} {r:ch}
theorem vO{w w1:World}{tb:Nat}(hc:Ts base A db F d W0 w tb r)(hn:(aB r).length≤4611686018427387904)(hb:Below w.heap.size w w1):Calls prog 54 #[.pointer (some ⟨tb,0,none⟩),.func (.func 57) #[] #[]] w1 fun e w'=>(∃ a c,e = .returned (.tuple #[.slice a (Po r) c,.nilIface]))∧Dv base A db F d w'∧Mv db F w w':=by
 obtain ⟨rv,ht,hr⟩:=hc.tr;have hv:=hc.dv.below hb;have hm:Mv db F w w1:=Mv.of hb;rcases hr with ⟨rfl,rfl⟩ | ⟨p,h,t,rfl,rfl,hk⟩
 ·refine (vQ _ ⟨_,_,_,rfl⟩ tb _ w1 (ht.below hb)).mono fun e w' ⟨he,hw⟩=>?_
  subst hw;exact ⟨⟨_,_,he⟩,hv,hm⟩
 ·refine (AT (cX d) (fun _ q=>q=0) (fun _=>True) (fun _ _ _ h=>h) p ⟨h,t⟩ tb 57 #[] Tryz.call57 w w1 ⟨hk.cC (cP.of hb),iL hc.ok⟩ (ht.below hb) hv hm hc.dv trivial (.inr (kT hc.ok hn)) (fun W b n pv lv cv y _ hs hn xD=>?_)).mono fun e w' ⟨h1,h2,h3⟩=>⟨?_,h2,h3⟩
  ·exact (FI n lv W).mono fun e w' ⟨he,hb⟩=>⟨0,he,rfl,by omega,hb⟩
  ·rcases h1 with ⟨hE,_⟩ | ⟨ss,s,a,c,he,ho,hw,⟨_,hn⟩,h0,rG,hl⟩
   ·exact (hE:False).elim
   ·have hx:=Ih hw;obtain ⟨b,n,i,⟨hh,t'⟩⟩:=s;cases hh with
    | zero =>
     have hx:ss.length+0=h:=hx;simp only [List.length_nil,Nat.zero_add] at he;exact ⟨a,c,by rw [he];show _=Ending.returned (.tuple #[.slice a (h+1) c,.nilIface]);rw [← hx]⟩
    | succ h'=>exact absurd (List.length_eq_zero_iff.1 h0) hn.1.2.1
theorem Ex{w w1:World}{tb:Nat}(hc:Ts base A db F d W0 w tb r)(hn:(aB r).length≤4611686018427387904)(hb:Below w.heap.size w w1):Calls prog 19 #[.pointer (some ⟨tb,0,none⟩)] w1 fun e w'=>e = .returned (.tuple #[.int .i64 (Po r:Int),.nilIface])∧Dv base A db F d w'∧Mv db F w w':=by
 have HW:=ab (vO hc hn hb);clear hc;go_enter func19,ntmps19;go_wp2_with fail;refine HW.out.mono ?_
 rintro e w1 ⟨⟨a,c,rfl⟩,fI,fK⟩;have HE:Hid (Dv base A db F d w1∧Mv db F w w1):=⟨fI,fK⟩;clear fI fK HW;go_wp2;go_ret2;exact ⟨rfl,HE.out⟩
theorem zv{rv:Value}{w0:World}{tb:Nat}{x:Bv}{lo:Nat}(iF:Dv base A db F d w0)(GG:B.au w0 tb #[.pointer (some ⟨db,0,none⟩),rv] 100):∀ h,h≤1000→QD base A db F d w0 tb x lo h
 | 0,_=>FE iF
 | h+1,hh=>AU (by omega) (zv iF GG h (by omega)) iF GG
theorem Nh(w W:World)(a b:Value)(TA TB:TypeId)(hW:(w.alloc (.cells #[a] TA)).alloc (.cells #[b] TB)=W):Below w.heap.size w W∧W.heap.size=w.heap.size+1+1∧B.au W w.heap.size #[a] TA∧B.au W (w.heap.size+1) #[b] TB:=by
 obtain ⟨W1,h1⟩ : ∃ W1,W1=w.alloc (.cells #[a] TA):=⟨_,rfl⟩;rw [← h1] at hW;have s1:W1.heap.size=w.heap.size+1:=by rw [h1];simp
 have b1:Below w.heap.size w W1:=h1▸ai w _;have b2:Below W1.heap.size W1 W:=hW▸ai W1 _;have r1:B.au W1 w.heap.size #[a] TA:=h1▸B.au.new w _ _;have r2:B.au W W1.heap.size #[b] TB:=hW▸B.au.new W1 _ _;rw [s1] at r2;exact ⟨Below.next b1 b2,by rw [← hW,← s1];simp,r1.below b2,r2⟩
theorem Ls(w W:World)(a c e:Value)(TA TC TE:TypeId)(hW:(((w.alloc (.cells #[a] TA)).alloc (.map #[] 0)).alloc (.cells #[c] TC)).alloc (.cells #[e] TE)=W):Below w.heap.size w W∧W.heap.size=w.heap.size+1+1+1+1∧B.au W w.heap.size #[a] TA∧W.heap[w.heap.size+1]?=some (.map #[] 0)∧B.au W (w.heap.size+1+1) #[c] TC∧B.au W (w.heap.size+1+1+1) #[e] TE:=by
 obtain ⟨W1,h1⟩ : ∃ W1,W1=w.alloc (.cells #[a] TA):=⟨_,rfl⟩;obtain ⟨W2,h2⟩ : ∃ W2,W2=W1.alloc (.map #[] 0):=⟨_,rfl⟩;obtain ⟨W3,h3⟩ : ∃ W3,W3=W2.alloc (.cells #[c] TC):=⟨_,rfl⟩;rw [← h1,← h2,← h3] at hW;have s1:W1.heap.size=w.heap.size+1:=by rw [h1];simp
 have s2:W2.heap.size=w.heap.size+1+1:=by rw [h2,← s1];simp
 have s3:W3.heap.size=w.heap.size+1+1+1:=by rw [h3,← s2];simp
 have b1:Below w.heap.size w W1:=h1▸ai w _;have b2:Below W1.heap.size W1 W2:=h2▸ai W1 _;have b3:Below W2.heap.size W2 W3:=h3▸ai W2 _;have b4:Below W3.heap.size W3 W:=hW▸ai W3 _;have r1:B.au W1 w.heap.size #[a] TA:=h1▸B.au.new w _ _;have r2:W2.heap[W1.heap.size]?=some (.map #[] 0):=h2▸heap_alloc_new W1 _;have r3:B.au W3 W2.heap.size #[c] TC:=h3▸B.au.new W2 _ _;have r4:B.au W W3.heap.size #[e] TE:=hW▸B.au.new W3 _ _;have e2:W.heap[W1.heap.size]?=some (.map #[] 0):=(b4.block _ (by omega)).trans ((b3.block _ (by omega)).trans r2)
 rw [s1] at e2;rw [s2] at r3;rw [s3] at r4;exact ⟨Below.next (Below.next (Below.next b1 b2) b3) b4,by rw [← hW,← s3];simp,((r1.below b2).below b3).below b4,e2,r3.below b4,r4⟩
end
attribute [local go_sem ↓] Go.wp_at_zero Go.wp_at_succ
theorem uI.lower{w:World}{lo pz:Nat}{v:Value}{l:List Nat}(h:uI w lo v l)(hl:pz≤lo):uI w pz v l:=by
 refine ⟨⟨h.1.1,?_⟩,h.2⟩;rcases h.1.2 with h' | ⟨g,cap,cur,h',h1,h2⟩
 ·exact .inl h'
 ·exact .inr ⟨g,cap,cur,h',ar hl h1,h2⟩
section
variable {base:Nat} {A:Nat→Addr} {db:Nat} {F:Nat→Prop} {d:S.V.bq} {W0:World} {r:ch}
theorem BC{w0 w:World}{tb pc:Nat}(hc:Ts base A db F d W0 w0 tb r)(hn:(aB r).length≤4611686018427387904)(jo:(eB r).Nodup)(Q9:(eB r).length<1099511627776)(bO:Below w0.heap.size w0 w)(Ra:B.au w pc #[.slice none 0 0] 69)(Fg:w0.heap.size≤pc):Calls prog 65 #[.pointer (some ⟨tb,0,none⟩),.func (.func 66) #[] #[.pointer (some ⟨pc,0,none⟩)]] w fun e w'=>e = .returned .nilIface∧(∃ v,B.au w' pc #[v] 69∧uI w' w.heap.size v (eB r))∧Dv base A db F d w'∧Mv db F w0 w':=by
 have B5:=@run_makeMap prog;obtain ⟨H,hH⟩ : ∃ H,H=w.heap.size:=⟨_,rfl⟩;obtain ⟨W2,Lh⟩ : ∃ W2,(w.alloc (.cells #[.pointer (some ⟨tb,0,none⟩)] 38)).alloc (.cells #[.func (.func 66) #[] #[.pointer (some ⟨pc,0,none⟩)]] 121)=W2:=⟨_,rfl⟩;obtain ⟨aU,s2,r0,r1⟩:=Nh w W2 _ _ _ _ Lh;rw [← hH] at s2 r0 r1;have Wh:Below w0.heap.size w0 W2:=Below.next bO aU;have HD:=ab (Ex (hc.below Wh) hn (Below.refl _ _));have q0:W2.cell? ⟨H,0,none⟩=some (.pointer (some ⟨tb,0,none⟩)):=r0.cell 0 (by simp)
 have HC:=ab hc;have HR:Hid (B.au W2 H #[.pointer (some ⟨tb,0,none⟩)] 38∧B.au W2 (H+1) #[.func (.func 66) #[] #[.pointer (some ⟨pc,0,none⟩)]] 121∧B.au W2 pc #[.slice none 0 0] 69∧W2.heap.size=H+1+1∧H=w.heap.size∧w0.heap.size≤H∧pc<H):=⟨r0,r1,Ra.below aU,s2,hH,by have:=bO.size;omega,by have:=Ra.lt;omega⟩
 have jQ:=ab Wh;have HPC:=ab Fg;have HND:=ab jo;have Rx:=ab Q9;have Ry:=ab hn;have hHs:=hH.symm;clear hc jo Q9 bO Ra Fg aU r0 r1 Wh hH hn;cases r with
 | none =>
  rw [show ((Po none:Nat):Int)=0 from rfl] at HD
  go_enter func65,ntmps65;go_wp2_with fail;refine HD.out.mono ?_
  rintro e w1 ⟨rfl,fI,fK⟩;have bT:=ai w1 (.cells #[.nilIface] 32);have HE:Hid ((∃ v,B.au (w1.alloc (.cells #[.nilIface] 32)) pc #[v] 69∧uI (w1.alloc (.cells #[.nilIface] 32)) w.heap.size v (eB none))∧Dv base A db F d (w1.alloc (.cells #[.nilIface] 32))∧Mv db F w0 (w1.alloc (.cells #[.nilIface] 32))):=by
   obtain ⟨h1,h2,h3,h4,h5,h6,h7⟩:=HR.out;have jw:=HC.out.dv.Ha;have Fg:=HPC.out;have h8:B.au w1 pc #[.slice none 0 0] 69:=(fK.one.block pc (by omega) (by omega)).trans h3
   exact ⟨⟨_,h8.below bT,uI.nil _ _⟩,fI.below bT,((Mv.of jQ.out).trans fK).trans (Mv.of bT)⟩
  clear fI fK HD bT;go_wp2;go_ret;exact ⟨rfl,HE.out⟩
 | some y =>
  obtain ⟨h,t⟩:=y;have Bt:h+1≤64:=kT HC.out.ok Ry.out;have hh1:¬ ((Po (some ⟨h,t⟩):Nat):Int)=0:=by show ¬ ((h+1:Nat):Int)=0;omega
  have hhe:((Po (some ⟨h,t⟩):Nat):Int)=(h:Int)+1:=by show ((h+1:Nat):Int)=_;omega
  rw [hhe] at HD hh1;go_enter func65,ntmps65;go_wp2_with fail;refine HD.out.mono ?_
  rintro e w1 ⟨rfl,fI,fK⟩;obtain ⟨h1,h2,h3,h4,h5,h6,h7⟩:=HR.out;have jw:=HC.out.dv.Ha;have Fg:=HPC.out;have GI:=fK.size;have bE:∀ {k:Nat} {cs:Array Value} {T:TypeId},w0.heap.size≤k→B.au W2 k cs T→B.au w1 k cs T:=fun {k cs T} hk hr=>(fK.one.block k hr.lt (by omega)).trans hr
  have u0:=bE h6 h1;have u1:=bE (by omega) h2
  have u2:=bE Fg h3;have V1:Mv db F w0 w1:=(Mv.of jQ.out).trans fK;obtain ⟨rv,ht,hr⟩:=HC.out.tr;obtain ⟨p,xC,hk⟩ : ∃ p:C.Ch,rv=p.val∧eh (cM d) w0 h p t:=by
   rcases hr with ⟨_,he⟩ | ⟨p,h',t',rfl,he,hk⟩
   ·cases he
   ·cases he;exact ⟨p,rfl,hk⟩
  subst xC;obtain ⟨vt,vx,iS⟩:=bM p;obtain ⟨K,hK⟩ : ∃ K,w1.heap.size=K:=⟨_,rfl⟩;obtain ⟨W9,Z6⟩ : ∃ W9,(((w1.alloc (.cells #[.nilIface] 32)).alloc (.map #[] 0)).alloc (.cells #[.map (some (K+1))] 166)).alloc (.cells #[.nilFunc] 176)=W9:=⟨_,rfl⟩;obtain ⟨Jb,s9,r4,r6,r7,r8⟩:=Ls w1 W9 _ _ _ _ _ _ Z6;rw [hK] at s9 r4 r6 r7 r8;have q8:W9.cell? ⟨K+1+1+1,0,none⟩=some .nilFunc:=r8.cell 0 (by simp)
  have f8:W9.frozen? ⟨K+1+1+1,0,none⟩=false:=by unfold B.au at r8;simp [World.frozen?,r8]
  obtain ⟨W,hW⟩ : ∃ W,W9.setCell ⟨K+1+1+1,0,none⟩ (.func (.func 103) #[] #[.pointer (some ⟨K+1+1,0,none⟩),.pointer (some ⟨K,0,none⟩),.pointer (some ⟨H+1,0,none⟩),.pointer (some ⟨H,0,none⟩),.pointer (some ⟨K+1+1+1,0,none⟩)])=W:=⟨_,rfl⟩;have dC:=bJ.set (K+1+1+1) 0 W9 (.func (.func 103) #[] #[.pointer (some ⟨K+1+1,0,none⟩),.pointer (some ⟨K,0,none⟩),.pointer (some ⟨H+1,0,none⟩),.pointer (some ⟨H,0,none⟩),.pointer (some ⟨K+1+1+1,0,none⟩)]);rw [hW] at dC;have Ja:Below w1.heap.size w1 W:=⟨dC.os.trans Jb.os,dC.tape.trans Jb.tape,dC.output.trans Jb.output,ar Jb.size dC.size,fun k hk=>(dC.block k (by have:=Jb.size;omega) (by omega)).trans (Jb.block k hk)⟩
  have SL:∀ {k:Nat} {cs:Array Value} {T:TypeId},k<K+1+1+1→B.au W9 k cs T→B.au W k cs T:=fun {k cs T} hk hr=>(dC.block k (by omega) (by omega)).trans hr
  have v0:=u0.below Ja;have v1:=u1.below Ja;have v2:=u2.below Ja;have v4:=SL (by omega) r4
  have v6:W.heap[K+1]?=some (.map #[] 0):=(dC.block _ (by omega) (by omega)).trans r6
  have v7:=SL (by omega) r7
  have v8:B.au W (K+1+1+1) #[.func (.func 103) #[] #[.pointer (some ⟨K+1+1,0,none⟩),.pointer (some ⟨K,0,none⟩),.pointer (some ⟨H+1,0,none⟩),.pointer (some ⟨H,0,none⟩),.pointer (some ⟨K+1+1+1,0,none⟩)]] 176:=hW▸qX r8 _;have hVS:Vs base A db F d w0 tb ⟨K+1+1,K+1,K,H+1,H,K+1+1+1,pc⟩ (K+1+1+1+1) W (.slice none 0 0) [] []:=by
   refine ⟨fI.below Ja,V1.trans (Mv.of Ja),v7.cell 0 (by simp),v1.cell 0 (by simp),v0.cell 0 (by simp),v8.cell 0 (by simp),v4,v2,uI.nil _ _,Met.made v6,by simp,?_,?_,?_,jw,?_⟩
   ·intro b hb;simp only [dK,dx,or_false] at hb;omega
   ·intro b hb;simp only [dK,dx,or_false] at hb;show b≠K∧b≠pc
    omega
   ·show K≠pc
    omega
   ·have:=dC.size;omega
  have WX:Hid (∀ W',Below W.heap.size W W'→Calls prog 103 #[p.val,.string ⟨#[]⟩,.int .i64 ((h:Int)+1),.pointer (some ⟨K+1+1,0,none⟩),.pointer (some ⟨K,0,none⟩),.pointer (some ⟨H+1,0,none⟩),.pointer (some ⟨H,0,none⟩),.pointer (some ⟨K+1+1+1,0,none⟩)] W' fun e w'=>e = .returned (.bool true)∧(∃ v',Vs base A db F d w0 tb ⟨K+1+1,K+1,K,H+1,H,K+1+1+1,pc⟩ (K+1+1+1+1) w' v' ([]++dB h t) ([]++dB h t))∧cP W' w'):=fun W' XA=>zv HC.out.dv ht h (by omega) p t ⟨#[]⟩ W' _ [] [] hk (iL HC.out.ok) (hVS.below XA) HND.out (fun _ _ h=>by simp at h) (by have h9:(dB h t).length<1099511627776:=Rx.out;simpa using h9) (by have h9:(dB h t).length<1099511627776:=Rx.out;simpa using h9)
  have AM:Hid (∀ W',Mv db F w0 W'→W'.cell? ⟨tb,1,none⟩=some p.val):=fun W' hm=>(dU (hm.cC HC.out.dv) ht).c1
  have m4:W.cell? ⟨tb,1,none⟩=some (.iface vt vx):=by rw [← iS];exact AM.out W (V1.trans (Mv.of Ja))
  rw [iS] at WX AM;have m0:W.cell? ⟨H,0,none⟩=some (.pointer (some ⟨tb,0,none⟩)):=v0.cell 0 (by simp)
  have m8:W.cell? ⟨K+1+1+1,0,none⟩=some (.func (.func 103) #[] #[.pointer (some ⟨K+1+1,0,none⟩),.pointer (some ⟨K,0,none⟩),.pointer (some ⟨H+1,0,none⟩),.pointer (some ⟨H,0,none⟩),.pointer (some ⟨K+1+1+1,0,none⟩)]):=v8.cell 0 (by simp)
  have qI:Hid (w.heap.size≤K+1+1+1+1):=by show _≤_;omega
  clear fI fK h1 h2 h3 h4 h5 h6 h7 jw Fg GI bE u0 u1 u2 V1 ht hr hk iS Jb s9 r4 r6 r7 r8 dC Ja SL v0 v1 v2 v4 v6 v7 v8 hVS HD HR;go_wp2_with fail;go_region_held3 (fun w'=>w'.cell? ⟨H,0,none⟩=some (.pointer (some ⟨tb,0,none⟩))∧w'.cell? ⟨K+1+1+1,0,none⟩=some (.func (.func 103) #[] #[.pointer (some ⟨K+1+1,0,none⟩),.pointer (some ⟨K,0,none⟩),.pointer (some ⟨H+1,0,none⟩),.pointer (some ⟨H,0,none⟩),.pointer (some ⟨K+1+1+1,0,none⟩)])∧w'.cell? ⟨tb,1,none⟩=some (.iface vt vx)) (go_keep)
   (first
    | (go_at_call 103;refine (WX.out _ (by first | exact Below.refl _ _ | exact B.aO (Below.refl _ _))).mono ?_;rintro e w2 ⟨rfl,⟨v',pE⟩,-⟩;have QV:=ab pE;have n0:w2.cell? ⟨H,0,none⟩=some (.pointer (some ⟨tb,0,none⟩)):=pE.ct;have n8:w2.cell? ⟨K+1+1+1,0,none⟩=some (.func (.func 103) #[] #[.pointer (some ⟨K+1+1,0,none⟩),.pointer (some ⟨K,0,none⟩),.pointer (some ⟨H+1,0,none⟩),.pointer (some ⟨H,0,none⟩),.pointer (some ⟨K+1+1+1,0,none⟩)]):=pE.cv;have n4:=AM.out _ pE.mv;have kf:w2.cell? ⟨K,0,none⟩=some .nilIface:=pE.cf.cell 0 (by simp);clear pE))
  have HE:Hid ((∃ v,B.au w2 pc #[v] 69∧uI w2 w.heap.size v (eB (some ⟨h,t⟩)))∧Dv base A db F d w2∧Mv db F w0 w2):=⟨⟨v',QV.out.row,QV.out.ps.lower qI.out⟩,QV.out.dv,QV.out.mv⟩;clear QV WX n0 n8 n4 m0 m8 m4 AM hW Z6 q8 f8;go_wp2;go_ret;exact ⟨rfl,HE.out⟩
end
open Go.Sort
theorem OR(w:World):Calls prog 136 #[.slice none 0 0,.int .i64 0,.int .i64 0] w fun e w'=>e = .returned (.tuple #[])∧w=w':=by
 go_enter func136,ntmps136;go_wp2;refine wp_loop_rounds 1 ?_
 rw [rounds_succ];go_wp2;go_end0
 exact ⟨rfl,rfl⟩
theorem Se(n:Int)(w:World):Calls prog 105 #[.slice none 0 0,.int .i64 0,.int .i64 0,.int .i64 n] w fun e w'=>e = .returned (.tuple #[])∧w=w':=by
 have HI:=ab (OR w);go_enter func105,ntmps105;go_wp2_with fail;refine wp_loop_rounds 1 ?_
 rw [rounds_succ];go_wp2_with fail;refine HI.out.mono ?_
 rintro e w1 ⟨rfl,rfl⟩;go_wp2;refine bodyPost_ret (results_none rfl _ _ _) rfl ?_
 exact ⟨rfl,rfl⟩
theorem L7(w:World):Calls prog 106 #[.int .u64 0] w fun e w'=>(∃ n,e = .returned (.int .i64 n))∧w=w':=by
 have HL:=ab (sO 0 w (by decide))
 rw [show ((0:Nat):Int)=0 from rfl] at HL
 go_enter func106,ntmps106;go_wp2_with fail;refine HL.out.mono ?_
 rintro e w1 ⟨rfl,rfl⟩;go_wp2;go_ret;exact ⟨⟨_,rfl⟩,rfl⟩
theorem Ny(w:World):Calls prog 68 #[.slice none 0 0] w fun e w'=>e = .returned (.tuple #[])∧w=w':=by
 have HL:=ab (L7 w);go_enter func68,ntmps68;go_wp2_with fail;refine HL.out.mono ?_
 rintro e w1 ⟨⟨n,rfl⟩,rfl⟩;go_wp2_with fail;refine (Se n w).mono ?_
 rintro e w1 ⟨rfl,rfl⟩;go_wp2;go_end0
 exact ⟨rfl,rfl⟩
def uL(l:List Nat):List Int:=(l.map fun n:Nat=>(n:Int)).mergeSort fun x y=>decide (x≤y)
theorem J3(l:List Nat):(uL l).Perm (l.map fun n:Nat=>(n:Int)):=List.mergeSort_perm _ _
theorem RS{w:World}{lo:Nat}{v:Value}{l:List Nat}(h:uI w lo v l)(hl:l.length<4611686018427387904):Calls prog 68 #[v] w fun e w'=>e = .returned (.tuple #[])∧w'.ownsRow lo 3 1 v l.length ((uL l).map (Value.int .i64))∧w.grownBy w' v.ownBlock:=by
 have aE:=h.1;rcases h.1.2 with ⟨rfl,h0⟩ | ⟨g,gc,cur,rfl,du,hb,h1,h2,h3,h4⟩
 ·refine (Ny w).mono ?_
  rintro e w' ⟨rfl,rfl⟩;have Rh:l=[]:=List.length_eq_zero_iff.1 h0;subst Rh;exact ⟨rfl,by show w.ownsRow lo 3 1 (.slice none 0 0) 0 ((uL []).map (Value.int .i64));rw [show uL []=[] by simp [uL]];exact World.ownsRow_nil _ _ _ _,⟨rfl,rfl,rfl,aj _,fun _ _ _=>rfl⟩⟩
 ·obtain ⟨zs,GA⟩ : ∃ zs,zs=l.map fun n:Nat=>(n:Int):=⟨_,rfl⟩
  have hzl:zs.length=l.length:=by rw [GA,az]
  have hH:Holds (Value.int .i64) w g 0 zs.toArray:=holds_of_blockI hb (by rw [hzl,GA,eF];have h4':=h4;simp only [Nat.mul_one] at h4';exact h4')
  have xH:g<w.heap.size:=(Array.getElem?_eq_some_iff.1 hb).1;have hc:=B.zF g gc zs w hH xH (by omega)
  rw [hzl] at hc;refine hc.mono ?_
  rintro e w' ⟨rfl,q,os,rfl⟩;have KW:uL l=zs.mergeSort fun x y=>decide (x≤y):=by rw [GA];rfl
  rw [KW];refine ⟨rfl,?_,grownBy_sortedI _⟩;have:=ownsRow_sortedI (w:=w) (base:=lo) (n:=q) (os:=os) (ss:=zs) (ts:=zs.mergeSort fun x y=>decide (x≤y)) (by rw [List.length_mergeSort]) du hb (by omega) h2 h3
  rwa [hzl] at this
end T
end Go.Proofs.YtihmgigfkmofnaaGreatDoor
namespace Go.Proofs.YtihmgigfkmofnaaGreatDoor
namespace T
open Go.RowKit
section
variable {base:Nat} {A:Nat→Addr} {db:Nat} {F:Nat→Prop} {d:S.V.bq} {W0:World} {r:ch}
theorem C9{w:World}{tb:Nat}(hc:Ts base A db F d W0 w tb r)(hn:(aB r).length≤4611686018427387904)(jo:(eB r).Nodup)(Q9:(eB r).length<1099511627776):Calls prog 27 #[.pointer (some ⟨tb,0,none⟩)] w fun e w'=>(∃ v,e = .returned (.tuple #[v,.nilIface])∧w'.ownsRow w.heap.size 3 1 v (eB r).length ((uL (eB r)).map (Value.int .i64)))∧Dv base A db F d w'∧Mv db F w w':=by
 obtain ⟨W1,gF⟩ : ∃ W1,w.alloc (.cells #[.slice none 0 0] 69)=W1:=⟨_,rfl⟩;obtain ⟨H,hH⟩ : ∃ H,w.heap.size=H:=⟨_,rfl⟩;have aL:Below w.heap.size w W1:=gF▸ai w _;have r1:B.au W1 w.heap.size #[.slice none 0 0] 69:=gF▸B.au.new w _ _;have s1:W1.heap.size=w.heap.size+1:=by rw [← gF];simp
 have HG:=ab (BC hc hn jo Q9 aL r1 (aj _));rw [hH] at HG;have HC:=ab hc;have lT:Hid (W1.heap.size=H+1):=by show _=_;omega
 have Rx:=ab Q9;clear hc hn jo Q9 r1 aL s1;go_enter func27,ntmps27;go_wp2_with fail;refine HG.out.mono ?_
 rintro e w2 ⟨rfl,⟨v,bE,j6⟩,km,lq⟩;have k2:w2.cell? ⟨H,0,none⟩=some v:=bE.cell 0 (by simp)
 obtain ⟨a,c,kL⟩:=j6.form;have HSO:=ab (RS j6 (by have:=Rx.out;omega))
 have oL:=ab bE;have XO:=ab j6;have tD:=ab km;have yp:=ab lq;have HF:Hid (∀ w3,w2.grownBy w3 v.ownBlock→w3.cell? ⟨H,0,none⟩=some v∧Dv base A db F d w3∧Mv db F w w3):=fun w3 hg=>by
  have h1:=lT.out;have fJ:∀ k,k<W1.heap.size→some k≠v.ownBlock:=fun k hk e=>by
   have:=(j6.dr e.symm).1;omega
  have jv:B.au w3 H #[v] 69:=(hg.block H bE.lt (fJ _ (by omega))).trans bE
  have b7:w.heap.size≤w2.heap.size:=lq.size;have nN:Below w.heap.size w2 w3:=⟨hg.os,hg.tape,hg.output,hg.size,fun k hk=>hg.block k (by omega) (fJ k (by omega))⟩
  exact ⟨jv.cell 0 (by simp),km.grown nN lq HC.out.dv⟩
 have qI:Hid (w.heap.size≤W1.heap.size):=by have h1:=lT.out;show _≤_;omega
 subst kL;clear bE j6 km lq HG;go_wp2_with fail;refine HSO.out.mono ?_
 rintro e w3 ⟨rfl,lJ,UH⟩;obtain ⟨k3,yw,yx⟩:=HF.out w3 UH;have HE:Hid (w3.ownsRow w.heap.size 3 1 (.slice a (eB r).length c) (eB r).length ((uL (eB r)).map (Value.int .i64))∧Dv base A db F d w3∧Mv db F w w3):=by
  refine ⟨⟨lJ.1,?_⟩,yw,yx⟩;rcases lJ.2 with h' | ⟨g,cap,cur,h',h1,h2⟩
  ·exact .inl h'
  ·exact .inr ⟨g,cap,cur,h',ar qI.out h1,h2⟩
 clear lJ UH yw yx HSO HF;go_wp2;go_ret2;exact ⟨⟨_,rfl,HE.out.1⟩,HE.out.2⟩
end
theorem xQ(key value:ByteArray)(w:World)(hk:key.size≤140737488355328)(hv:value.size≤140737488355328):Calls prog 29 #[.string key,.string value] w fun e w'=>e = .returned (.bool (cO (key,value)))∧w=w':=by
 have h1:cO (key,value)=decide (1≤key.size∧key.size≤255∧value.size≤700):=rfl;rw [h1];by_cases a1:1≤key.size
 ·by_cases a2:key.size≤255
  ·by_cases a3:value.size≤700
   ·have d1:decide ((key.size:Int)≥1)=true:=decide_eq_true (by omega)
    have d2:decide ((key.size:Int)≤255)=true:=decide_eq_true (by omega)
    have d3:decide ((value.size:Int)≤700)=true:=decide_eq_true (by omega)
    rw [decide_eq_true ⟨a1,a2,a3⟩];clear a1 a2 a3 h1 hk hv;go_enter func29,ntmps29;go_wp2;go_ret;exact ⟨rfl,rfl⟩
   ·have d1:decide ((key.size:Int)≥1)=true:=decide_eq_true (by omega)
    have d2:decide ((key.size:Int)≤255)=true:=decide_eq_true (by omega)
    have d3:decide ((value.size:Int)≤700)=false:=decide_eq_false (by omega)
    rw [decide_eq_false (fun h=>a3 h.2.2)]
    clear a1 a2 a3 h1 hk hv;go_enter func29,ntmps29;go_wp2;go_ret;exact ⟨rfl,rfl⟩
  ·have d1:decide ((key.size:Int)≥1)=true:=decide_eq_true (by omega)
   have d2:decide ((key.size:Int)≤255)=false:=decide_eq_false (by omega)
   rw [decide_eq_false (fun h=>a2 h.2.1)]
   clear a1 a2 h1 hk hv;go_enter func29,ntmps29;go_wp2;go_ret;exact ⟨rfl,rfl⟩
 ·have d1:decide ((key.size:Int)≥1)=false:=decide_eq_false (by omega)
  rw [decide_eq_false (fun h=>a1 h.1)]
  clear a1 h1 hk hv;go_enter func29,ntmps29;go_wp2;go_ret;exact ⟨rfl,rfl⟩
theorem lZ(v:Value)(l:List Pr)(key:ByteArray)(w:World)(hm:l.length≤140737488355328)(hr:gG w v l):Calls prog 28 #[v,.string key] w fun e w'=>e = .returned (.tuple #[.int .i64 (aN l key:Int),.bool (bf l key)])∧∃ k,w'=w.drewN k:=by
 obtain ⟨a,cap,rfl,dd,_,hc⟩:=hr;have HC:=ab hc;obtain ⟨n,hn⟩ : ∃ n,n=l.length:=⟨_,rfl⟩;rw [← hn] at hm ⊢;have HN:=ab hn;obtain ⟨Q,hQ⟩ : ∃ Q:Ending→World→Prop,Q=fun e w'=>e = .returned (.tuple #[.int .i64 (aN l key:Int),.bool (bf l key)])∧∃ k,w'=w.drewN k:=⟨_,rfl⟩
 rw [← hQ];have HQ:=ab hQ;clear hc hn dd hQ;go_enter func28,ntmps28;go_wp2;go_loopw [6] (fun i wr=>∃ k:Nat,k≤n∧i = .int .i64 k∧(∀ j (h:j<l.length),j<k→cR l[j].1 key=true)∧w=wr) (fun i _=>n - (intOf i).toNat)
 case atStart=>exact ⟨0,aD _,rfl,fun j _ h=>absurd h (im _),rfl⟩
 case round =>
  obtain ⟨k,hk,rfl,jg,rfl⟩:=hrel;have HP:=ab jg;clear jg;by_cases bN:k<n
  ·have cL:k<l.length:=by have:=HN.out;omega
   obtain ⟨g,o,rfl,c1,c2⟩:=HC.out k cL;have pI:Hid (cR l[k].1 key=true→∀ j (h:j<l.length),j<k+1→cR l[j].1 key=true):=fun hl j h hj=>by
    by_cases he:j=k
    ·subst he;exact hl
    ·exact HP.out j h (by omega)
   have yD:Hid (cR l[k].1 key=false→aN l key=k):=fun hl=>rN cL (fun j hj=>HP.out j (by omega) hj) hl
   have Jz:Hid (aN l key=k→bf l key=decide (l[k].1=key)):=fun h=>by subst h;exact pd cL
   obtain ⟨p,hp⟩ : ∃ p,p=l[k]:=⟨_,rfl⟩;rw [← hp] at c1 c2 pI yD Jz;have dP:(k:Int)<(n:Int):=by omega
   have j0:(0:Int)≤(k:Int):=by omega
   clear hp HC;cases hb:cR p.1 key with
   | true =>
    have tF:=ab (pI.out hb);have aU:Op.bytesLess p.1.toList key.toList=true:=hb;clear hb pI yD Jz c2;go_wp2;go_roundw
    case rel=>exact ⟨k+1,by omega,by go_num,tF.out,by first | trivial | rfl⟩
    case measure=>simp [intOf];omega
   | false =>
    have H6:=ab (yD.out hb);have aeK:=ab (Jz.out H6.out);have aU:Op.bytesLess p.1.toList key.toList=false:=hb;clear hb pI yD Jz c2;go_wp2;go_quiet (fail)
    go_wp2;rw [HQ.out,H6.out,aeK.out,← oH];exact ⟨rfl,_,rfl⟩
  ·have dP:¬ (k:Int)<(n:Int):=by omega
   have kB:Hid (aN l key=n∧bf l key=false):=by
    have h:=qy (l:=l) (key:=key) (fun j hj=>HP.out j hj (by have:=HN.out;omega))
    have h2:=oD (l:=l) (key:=key) (by omega)
    have:=HN.out;exact ⟨by omega,h2⟩
   clear HC HP;go_wp2;rw [HQ.out,kB.out.1,kB.out.2];exact ⟨rfl,0,rfl⟩
theorem ij.take_len(l:List Pr)(key:ByteArray):([] : List Pr).length+(l.take (aN l key)).length=aN l key:=by
 have:=cD l key;rw [ag,a7 this];simp
theorem KU(v:Value)(l:List Pr)(key value:ByteArray)(w:World)(hm:l.length≤4398046511000)(hr:gG w v l):Calls prog 40 #[v,.string key,.string value] w fun e w'=>∃ u,e = .returned u∧ij w' w.heap.size u (fl l key value)∧Below w.heap.size w w':=by
 have HF:=ab (lZ v l key w (by omega) hr)
 have HR:=ab hr;obtain ⟨a,cap,hv⟩:=hr.form;subst hv;have iH:=cD l key;have jt:=jJ l key;have SP:=eN l key;have dd:l.length≤cap:=by obtain ⟨_,_,he,h,_⟩:=hr;cases he;exact h
 have yT:=ij.take_len l key;have vA:(if bf l key then aN l key+1 else aN l key:Nat)=de l key:=rfl
 have ir:Hid (fl l key value=(l.take (aN l key)++[(key,value)])++l.drop (de l key)):=by show _=_;simp [fl]
 obtain ⟨q,hq⟩ : ∃ q,q=aN l key:=⟨_,rfl⟩;obtain ⟨r,uQ⟩ : ∃ r,r=de l key:=⟨_,rfl⟩;rw [← hq] at HF iH yT vA ir;rw [← uQ] at jt vA ir;rw [← hq,← uQ] at SP;have uP:=fun W=>J6 W a l.length cap q (by omega)
 have E5:∀ k,Hid (∃ a1 c1 w1 a2 c2 w2 a3 c3 w3 a4 n4 c4,(Builtin.append_ #[63,63] 63 #[.slice none 0 0,.slice a q cap]).run prog (w.drewN k) = .ok (.slice a1 q c1) w1∧(Builtin.append_ #[63,63] 63 #[.slice a1 q c1,.slice (some ⟨w1.heap.size,0,none⟩) 1 1]).run prog (w1.alloc (.cells #[.string key,.string value] 52)) = .ok (.slice a2 (q+1) c2) w2∧(∀ W,(Instr.sliceAt 63 (.slice a l.length cap) (some (.int .i64 (r:Int))) none none).run prog W = .ok (.slice a4 n4 c4) W)∧(Builtin.append_ #[63,63] 63 #[.slice a2 (q+1) c2,.slice a4 n4 c4]).run prog w2 = .ok (.slice a3 (q+1+(l.length - r)) c3) w3∧ij w3 w.heap.size (.slice a3 (q+1+(l.length - r)) c3) (fl l key value)∧Below w.heap.size w w3):=fun k=>by
  have lM:Below w.heap.size w (w.drewN k):=aA (Below.refl _ _) k;have Y7:ij (w.drewN k) w.heap.size (.slice none 0 0) []:=ij.nil _ _;obtain ⟨a1,c1,w1,fV,lp,fG⟩:=gO w.heap.size _ (.slice a q cap) [] (l.take q) (w.drewN k) Y7 ((hr.below lM).take iH) (by rw [yT];omega) lM.size
  rw [yT] at fV lp;rw [List.nil_append] at lp;have aL:Below w.heap.size w w1:=lM.grown fG lM.size (fun k hk=>(World.ownsRow.lt Y7 k hk).1)
  obtain ⟨a2,c2,w2,iG,jE,aU,jm⟩:=CX w.heap.size _ (l.take q) (key,value) 52 w1 w w.heap.size q (by rw [ag,a7 iH]) lp (by omega) aL.size (aj _) aL
  obtain ⟨a4,O4,VQ⟩:=(hr.below aU).drop jt;have Xv:(l.take q++[(key,value)]).length+(l.drop r).length=q+1+(l.length - r):=by
   rw [ae,ag,a7 iH,ao];rfl
  obtain ⟨a3,c3,w3,pO,lJ,UH⟩:=gO w.heap.size _ _ _ (l.drop r) w2 jE O4 (by rw [Xv];omega) aU.size
  rw [Xv] at pO lJ;have bT:Below w.heap.size w w3:=aU.grown UH aU.size (fun k hk=>(World.ownsRow.lt jE k hk).1)
  exact ⟨a1,c1,w1,a2,c2,w2,a3,c3,w3,a4,_,_,fV,iG,VQ,pO,by rw [ir.out];exact lJ,bT⟩
 have yp:=ab E5;have O5:(q:Int)≤4398046511000:=by omega
 clear E5 hr hq uQ yT dd HR ir jt SP;generalize bf l key=fb at *;go_enter func40,ntmps40;go_wp2_with fail;refine HF.out.mono ?_
 rintro e w' ⟨rfl,k,rfl⟩;obtain ⟨a1,c1,w1,a2,c2,w2,a3,c3,w3,a4,n4,c4,r1,r2,qp,r3,lJ,bT⟩:=(yp.out k).out;have R1:=ab r1;have R2:=ab r2;have R3:=ab r3;have HO:=ab lJ;have HB:=ab bT;clear r1 r2 r3 lJ bT yp HF;cases fb with
 | true =>
  have vA:q+1=r:=by simpa using vA
  subst vA;rw [fZ,j9] at qp;go_wp2_with (first
   | (at_builtin;refine wpList_append_run 63 rfl (.tmp 16) (.tmp 19) rfl rfl _ _ rfl rfl _ _ R1.out ?_)
   | (at_builtin;refine wpList_append_run 63 rfl (.tmp 21) (.tmp 25) rfl rfl _ _ rfl rfl _ _ R2.out ?_)
   | (at_builtin;refine wpList_append_run 63 rfl (.tmp 30) (.tmp 33) rfl rfl _ _ rfl rfl _ _ R3.out ?_))
  go_ret;exact ⟨_,rfl,HO.out,HB.out⟩
 | false =>
  have vA:q=r:=by simpa using vA
  subst vA;go_wp2_with (first
   | (at_builtin;refine wpList_append_run 63 rfl (.tmp 16) (.tmp 19) rfl rfl _ _ rfl rfl _ _ R1.out ?_)
   | (at_builtin;refine wpList_append_run 63 rfl (.tmp 21) (.tmp 25) rfl rfl _ _ rfl rfl _ _ R2.out ?_)
   | (at_builtin;refine wpList_append_run 63 rfl (.tmp 30) (.tmp 33) rfl rfl _ _ rfl rfl _ _ R3.out ?_))
  go_ret;exact ⟨_,rfl,HO.out,HB.out⟩
theorem xS{l:List Pr}{key:ByteArray}(h:bf l key=false):fQ l key=l:=by
 unfold fQ de;rw [h];simp
theorem Bn(v:Value)(l:List Pr)(key:ByteArray)(w:World)(hm:l.length≤4398046511000)(hr:gG w v l):Calls prog 58 #[v,.string key] w fun e w'=>((bf l key=false∧e = .returned v)∨(bf l key=true∧∃ u,e = .returned u∧ij w' w.heap.size u (fQ l key)))∧Below w.heap.size w w':=by
 have HF:=ab (lZ v l key w (by omega) hr)
 have HR:=ab hr;obtain ⟨a,cap,hv⟩:=hr.form;subst hv;have iH:=cD l key;have jt:=jJ l key;have SP:=eN l key;have dd:l.length≤cap:=by obtain ⟨_,_,he,h,_⟩:=hr;cases he;exact h
 have yT:=ij.take_len l key;have vA:(if bf l key then aN l key+1 else aN l key:Nat)=de l key:=rfl
 have ir:Hid (fQ l key=l.take (aN l key)++l.drop (de l key)):=rfl;obtain ⟨q,hq⟩ : ∃ q,q=aN l key:=⟨_,rfl⟩;obtain ⟨r,uQ⟩ : ∃ r,r=de l key:=⟨_,rfl⟩;rw [← hq] at HF iH yT vA ir;rw [← uQ] at jt vA ir;rw [← hq,← uQ] at SP;have uP:=fun W=>J6 W a l.length cap q (by omega)
 have E5:∀ k,Hid (∃ a1 c1 w1 a3 c3 w3 a4 n4 c4,(Builtin.append_ #[63,63] 63 #[.slice none 0 0,.slice a q cap]).run prog (w.drewN k) = .ok (.slice a1 q c1) w1∧(∀ W,(Instr.sliceAt 63 (.slice a l.length cap) (some (.int .i64 (r:Int))) none none).run prog W = .ok (.slice a4 n4 c4) W)∧(Builtin.append_ #[63,63] 63 #[.slice a1 q c1,.slice a4 n4 c4]).run prog w1 = .ok (.slice a3 (q+(l.length - r)) c3) w3∧ij w3 w.heap.size (.slice a3 (q+(l.length - r)) c3) (fQ l key)∧Below w.heap.size w w3):=fun k=>by
  have lM:Below w.heap.size w (w.drewN k):=aA (Below.refl _ _) k;have Y7:ij (w.drewN k) w.heap.size (.slice none 0 0) []:=ij.nil _ _;obtain ⟨a1,c1,w1,fV,lp,fG⟩:=gO w.heap.size _ (.slice a q cap) [] (l.take q) (w.drewN k) Y7 ((hr.below lM).take iH) (by rw [yT];omega) lM.size
  rw [yT] at fV lp;rw [List.nil_append] at lp;have aL:Below w.heap.size w w1:=lM.grown fG lM.size (fun k hk=>(World.ownsRow.lt Y7 k hk).1)
  obtain ⟨a4,O4,VQ⟩:=(hr.below aL).drop jt;have Xv:(l.take q).length+(l.drop r).length=q+(l.length - r):=by
   rw [ag,a7 iH,ao]
  obtain ⟨a3,c3,w3,pO,lJ,UH⟩:=gO w.heap.size _ _ _ (l.drop r) w1 lp O4 (by rw [Xv];omega) aL.size
  rw [Xv] at pO lJ;have bT:Below w.heap.size w w3:=aL.grown UH aL.size (fun k hk=>(World.ownsRow.lt lp k hk).1)
  exact ⟨a1,c1,w1,a3,c3,w3,a4,_,_,fV,VQ,pO,by rw [ir.out];exact lJ,bT⟩
 have yp:=ab E5;have uY:=ab (fun k=>aA (Below.refl w.heap.size w) k)
 have O5:(q:Int)≤4398046511000:=by omega
 clear E5 hr hq uQ yT dd HR ir jt SP;generalize bf l key=fb at *;go_enter func58,ntmps58;go_wp2_with fail;refine HF.out.mono ?_
 rintro e w' ⟨rfl,k,rfl⟩;obtain ⟨a1,c1,w1,a3,c3,w3,a4,n4,c4,r1,qp,r3,lJ,bT⟩:=(yp.out k).out;have R1:=ab r1;have R3:=ab r3;have HO:=ab lJ;have HB:=ab bT;clear r1 r3 lJ bT yp HF;cases fb with
 | true =>
  have vA:q+1=r:=by simpa using vA
  subst vA;rw [fZ,j9] at qp;go_wp2_with (first
   | (at_builtin;refine wpList_append_run 63 rfl (.tmp 17) (.tmp 20) rfl rfl _ _ rfl rfl _ _ R1.out ?_)
   | (at_builtin;refine wpList_append_run 63 rfl (.tmp 22) (.tmp 26) rfl rfl _ _ rfl rfl _ _ R3.out ?_))
  go_ret;exact ⟨⟨_,rfl,HO.out⟩,HB.out⟩
 | false =>
  go_wp2;go_ret;exact ⟨rfl,uY.out k⟩
theorem EC{α:Type}(f p:α→Nat):∀ (cs:List α),(∀ c ∈ cs,f c+1≤2*p c)→(cs.map f).sum+cs.length≤2*(cs.map p).sum
 | [],_=>by simp
 | c::cs,h=>by
  have h1:=h c (by simp)
  have h2:=EC f p cs fun x hx=>h x (by simp [hx])
  simp only [List.map_cons,qH,List.length_cons];omega
def LX(h:Nat)(t:Nd h):Nat:=(dB h t).length+iX h t
theorem Db(n:Nat):(cY n).length+(if n=0 then 1 else 0)=1:=by
 unfold cY;split <;> simp
theorem tM{α:Type}(f g:α→Nat):∀ (cs:List α),(cs.map fun c=>f c+g c).sum=(cs.map f).sum+(cs.map g).sum
 | []=>by simp
 | c::cs=>by
  have h2:=tM f g cs;simp only [List.map_cons,qH];omega
theorem EB:∀ (h:Nat) {t:Nd h},QE h t→LX h t+1≤2*(flat h t).length
 | 0,t,ho=>by
  have h1:t.2≠[]:=ho.2.2;have h2:=List.length_pos_iff.2 h1;have h3:=Db t.1;show (cY t.1).length+(if t.1=0 then 1 else 0)+1≤2*t.2.length
  omega
 | h+1,t,ho=>by
  obtain ⟨⟨lo,hi,cN⟩,_,h1⟩:=ho;have h1:t.2.1≠[]:=h1;have hl:=jO ((fu h t lo hi).1 cN);have hp:=List.length_pos_iff.2 h1;have hk:∀ c ∈ t.2.2,LX h c+1≤2*(flat h c).length:=fun c hc=>by
   obtain ⟨i,mh,rfl⟩:=aQ hc;exact EB h (vi ⟨⟨lo,hi,cN⟩,by assumption,h1⟩ (af mh))
  have h2:=EC (LX h) (fun c=>(flat h c).length) t.2.2 hk
  have h3:(flat (h+1) t).length=(t.2.2.map fun c=>(flat h c).length).sum:=by
   show (t.2.2.flatMap (flat h)).length=_
   rw [List.length_flatMap]
  have h4:(t.2.2.flatMap (dB h)).length=(t.2.2.map fun c=>(dB h c).length).sum:=List.length_flatMap
  have h5:(t.2.2.map (LX h)).sum=(t.2.2.map fun c=>(dB h c).length).sum+(t.2.2.map (iX h)).sum:=tM _ _ _
  have h6:(dB (h+1) t).length=(cY t.1).length+(t.2.2.flatMap (dB h)).length:=by
   show (cY t.1++t.2.2.flatMap (dB h)).length=_
   rw [ae]
  have h7:iX (h+1) t=if t.1=0 then (t.2.2.map (iX h)).sum+1 else 0:=rfl
  have h8:=Db t.1;unfold LX;rw [h3,h6,h7];split at h8
  ·rename_i e;rw [if_pos e];omega
  ·rename_i e;rw [if_neg e];omega
theorem ld{r:ch}(h:eP r):(eB r).length+eE r≤2*(aB r).length:=by
 cases r with
 | none=>exact aj _
 | some x =>
  have:=EB x.1 (t:=x.2) ⟨⟨none,none,h.1⟩,h.2.1,h.2.2⟩;unfold LX at this;show (dB x.1 x.2).length+iX x.1 x.2≤2*(flat x.1 x.2).length
  omega
theorem Jg(T:Nat→Bool)(i:Nat):∀ n,(Q.gv T n).length≤(Q.gv (Q.nJ T i true) n).length+(if i<n then 1 else 0)
 | 0=>by simp [Q.gv]
 | n+1=>by
  have h:=Jg T i n;show (Q.gv T n++(if T n then [] else [n])).length≤(Q.gv (Q.nJ T i true) n++(if Q.nJ T i true n then [] else [n])).length+_
  rw [ae,ae];by_cases e:n=i
  ·subst e;have h1:((if T n then [] else [n] : List Nat)).length≤1:=by split <;> simp
   rw [if_neg (Nat.lt_irrefl _)] at h;rw [if_pos (Nat.lt_succ_self _)];omega
  ·have h1:Q.nJ T i true n=T n:=by simp [Q.nJ,e]
   rw [h1];by_cases h2:i<n
   ·have e1:(if i<n+1 then 1 else 0:Nat)=1:=if_pos (by omega)
    rw [if_pos h2] at h;rw [e1];omega
   ·have e1:(if i<n+1 then 1 else 0:Nat)=0:=if_neg (by omega)
    rw [if_neg h2] at h;rw [e1];omega
def iO(T:Nat→Bool)(L:List Nat):Nat→Bool:=L.foldl (fun T i=>Q.nJ T i true) T
theorem KC(L:List Nat):∀ (T:Nat→Bool) (n:Nat),(Q.gv T n).length≤(Q.gv (iO T L) n).length+L.length:=by
 induction L with
 | nil=>intro T n;exact aj _
 | cons i L ih =>
  intro T n;have h1:=Jg T i n;have h2:=ih (Q.nJ T i true) n;show _≤(Q.gv (iO (Q.nJ T i true) L) n).length+(L.length+1)
  split at h1 <;> omega
theorem oq(L:List Nat):∀ (T:Nat→Bool) (j:Nat),iO T L j=(T j || decide (j ∈ L)):=by
 induction L with
 | nil=>intro T j;simp [iO]
 | cons i L ih =>
  intro T j;show iO (Q.nJ T i true) L j=_
  rw [ih];by_cases e:j=i
  ·subst e;simp [Q.nJ]
  ·have h1:Q.nJ T i true j=T j:=by simp [Q.nJ,e]
   rw [h1];simp [e]
theorem Oq{PP:Nat}{T:Nat→Bool}(h:Q.pU PP T)(L:List Nat):Q.pU PP (iO T L):=⟨h.lo,h.hi,by rw [oq,h.t0];rfl,by rw [oq,h.t1];rfl,fun j hj=>by rw [oq,h.up j hj];rfl⟩
theorem AW:∀ n,n+2≤4000→(Q.gv (Q.T0 4000) (n+2)).length=n
 | 0,_=>by decide
 | n+1,h=>by
  have ih:=AW n (by omega)
  show (Q.gv (Q.T0 4000) (n+2)++(if Q.T0 4000 (n+2) then [] else [n+2])).length=n+1
  have e:Q.T0 4000 (n+2)=false:=by
   simp [Q.T0];omega
  rw [e,ae,ih];rfl
end T
end Go.Proofs.YtihmgigfkmofnaaGreatDoor
