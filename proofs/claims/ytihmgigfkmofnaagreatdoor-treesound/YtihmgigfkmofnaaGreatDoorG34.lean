import Derived.Test.YtihmgigfkmofnaaGreatDoorG33
set_option maxHeartbeats 4000000
set_option maxRecDepth 100000
open Go.Proofs.Tryz
namespace Go.Proofs.YtihmgigfkmofnaaGreatDoor
namespace T
open Go.RowKit
attribute [local go_sem ↓] Go.wp_at_zero Go.wp_at_succ
theorem Jb{d:S.V.bE}{Pk:SN→Nat→Prop}{w:World}:∀ {ss:List (gF XT)} {x y:XT},Way (dh d) Pk w x ss y→ss.length+y.1=x.1
 | [],_,_,h=>by
  have h:_=_:=h;subst h;simp
 | s::ss,x,y,⟨_,_,_,_,_,z,h6,h7⟩=>by
  have ih:=Jb h7;obtain ⟨h,t⟩:=x;cases h with
  | zero=>exact (h6:False).elim
  | succ h =>
   obtain ⟨c,_,rfl⟩:=h6;have ih:ss.length+y.1=h:=ih;show ss.length+1+y.1=h+1
   omega
def Ih:cT→Nat
 | none=>0
 | some x=>x.1+1
section
variable {base:Nat} {A:Nat→Addr} {db:Nat} {F:Nat→Prop} {d:S.V.bE} {W0:World} {r:cT}
theorem xe{w w1:World}{tb:Nat}(hc:Ts base A db F d W0 w tb r)(hn:(aD r).length≤4611686018427387904)(hb:Below w.heap.size w w1):Calls prog 54 #[.pointer (some ⟨tb,0,none⟩),.func (.func 57) #[] #[]] w1 fun e w'=>(∃ a c,e = .returned (.tuple #[.slice a (Ih r) c,.nilIface]))∧Dv base A db F d w'∧Mv db F w w':=by
 obtain ⟨rv,ht,hr⟩:=hc.tr;have hv:=hc.dv.below hb;have hm:Mv db F w w1:=Mv.of hb;rcases hr with ⟨rfl,rfl⟩ | ⟨p,h,t,rfl,rfl,hk⟩
 ·refine (xg _ ⟨_,_,_,rfl⟩ tb _ w1 (ht.below hb)).mono fun e w' ⟨he,hw⟩=>?_
  subst hw;exact ⟨⟨_,_,he⟩,hv,hm⟩
 ·refine (BL (dh d) (fun _ q=>q=0) (fun _=>True) (fun _ _ _ h=>h) p ⟨h,t⟩ tb 57 #[] Tryz.call57 w w1 ⟨hk.cN (df.of hb),jK hc.ok⟩ (ht.below hb) hv hm hc.dv trivial (.inr (lh hc.ok hn)) (fun W b n pv lv cv y _ hs hn yu=>?_)).mono fun e w' ⟨h1,h2,h3⟩=>⟨?_,h2,h3⟩
  ·exact (GC n lv W).mono fun e w' ⟨he,hb⟩=>⟨0,he,rfl,by omega,hb⟩
  ·rcases h1 with ⟨hE,_⟩ | ⟨ss,s,a,c,he,ho,hw,⟨_,hn⟩,h0,sB,hl⟩
   ·exact (hE:False).elim
   ·have hx:=Jb hw;obtain ⟨b,n,i,⟨hh,t'⟩⟩:=s;cases hh with
    | zero =>
     have hx:ss.length+0=h:=hx;simp only [List.length_nil,Nat.zero_add] at he;exact ⟨a,c,by rw [he];show _=Ending.returned (.tuple #[.slice a (h+1) c,.nilIface]);rw [← hx]⟩
    | succ h'=>exact absurd (List.length_eq_zero_iff.1 h0) hn.1.2.1
theorem vA{w w1:World}{tb:Nat}(hc:Ts base A db F d W0 w tb r)(hn:(aD r).length≤4611686018427387904)(hb:Below w.heap.size w w1):Calls prog 19 #[.pointer (some ⟨tb,0,none⟩)] w1 fun e w'=>e = .returned (.tuple #[.int .i64 (Ih r:Int),.nilIface])∧Dv base A db F d w'∧Mv db F w w':=by
 have HW:=ab (xe hc hn hb);clear hc;go_enter func19,ntmps19;go_wp2_with fail;refine HW.out.mono ?_
 rintro e w1 ⟨⟨a,c,rfl⟩,fD,fo⟩;have HE:Hid (Dv base A db F d w1∧Mv db F w w1):=⟨fD,fo⟩;clear fD fo HW;go_wp2;go_ret2;exact ⟨rfl,HE.out⟩
theorem An{rv:Value}{w0:World}{tb:Nat}{x:Bv}{lo:Nat}(iK:Dv base A db F d w0)(Hy:B.au w0 tb #[.pointer (some ⟨db,0,none⟩),rv] 100):∀ h,h≤1000→RY base A db F d w0 tb x lo h
 | 0,_=>Gy iK
 | h+1,hh=>BM (by omega) (An iK Hy h (by omega)) iK Hy
theorem OB(w W:World)(a b:Value)(TA TB:TypeId)(hW:(w.alloc (.cells #[a] TA)).alloc (.cells #[b] TB)=W):Below w.heap.size w W∧W.heap.size=w.heap.size+1+1∧B.au W w.heap.size #[a] TA∧B.au W (w.heap.size+1) #[b] TB:=by
 obtain ⟨W1,h1⟩ : ∃ W1,W1=w.alloc (.cells #[a] TA):=⟨_,rfl⟩;rw [← h1] at hW;have s1:W1.heap.size=w.heap.size+1:=by rw [h1];simp
 have b1:Below w.heap.size w W1:=h1▸ai w _;have b2:Below W1.heap.size W1 W:=hW▸ai W1 _;have r1:B.au W1 w.heap.size #[a] TA:=h1▸B.au.new w _ _;have r2:B.au W W1.heap.size #[b] TB:=hW▸B.au.new W1 _ _;rw [s1] at r2;exact ⟨Below.next b1 b2,by rw [← hW,← s1];simp,r1.below b2,r2⟩
theorem MB(w W:World)(a c e:Value)(TA TC TE:TypeId)(hW:(((w.alloc (.cells #[a] TA)).alloc (.map #[] 0)).alloc (.cells #[c] TC)).alloc (.cells #[e] TE)=W):Below w.heap.size w W∧W.heap.size=w.heap.size+1+1+1+1∧B.au W w.heap.size #[a] TA∧W.heap[w.heap.size+1]?=some (.map #[] 0)∧B.au W (w.heap.size+1+1) #[c] TC∧B.au W (w.heap.size+1+1+1) #[e] TE:=by
 obtain ⟨W1,h1⟩ : ∃ W1,W1=w.alloc (.cells #[a] TA):=⟨_,rfl⟩;obtain ⟨W2,h2⟩ : ∃ W2,W2=W1.alloc (.map #[] 0):=⟨_,rfl⟩;obtain ⟨W3,h3⟩ : ∃ W3,W3=W2.alloc (.cells #[c] TC):=⟨_,rfl⟩;rw [← h1,← h2,← h3] at hW;have s1:W1.heap.size=w.heap.size+1:=by rw [h1];simp
 have s2:W2.heap.size=w.heap.size+1+1:=by rw [h2,← s1];simp
 have s3:W3.heap.size=w.heap.size+1+1+1:=by rw [h3,← s2];simp
 have b1:Below w.heap.size w W1:=h1▸ai w _;have b2:Below W1.heap.size W1 W2:=h2▸ai W1 _;have b3:Below W2.heap.size W2 W3:=h3▸ai W2 _;have b4:Below W3.heap.size W3 W:=hW▸ai W3 _;have r1:B.au W1 w.heap.size #[a] TA:=h1▸B.au.new w _ _;have r2:W2.heap[W1.heap.size]?=some (.map #[] 0):=h2▸heap_alloc_new W1 _;have r3:B.au W3 W2.heap.size #[c] TC:=h3▸B.au.new W2 _ _;have r4:B.au W W3.heap.size #[e] TE:=hW▸B.au.new W3 _ _;have e2:W.heap[W1.heap.size]?=some (.map #[] 0):=(b4.block _ (by omega)).trans ((b3.block _ (by omega)).trans r2)
 rw [s1] at e2;rw [s2] at r3;rw [s3] at r4;exact ⟨Below.next (Below.next (Below.next b1 b2) b3) b4,by rw [← hW,← s3];simp,((r1.below b2).below b3).below b4,e2,r3.below b4,r4⟩
end
attribute [local go_sem ↓] Go.wp_at_zero Go.wp_at_succ
theorem vJ.lower{w:World}{lo pT:Nat}{v:Value}{l:List Nat}(h:vJ w lo v l)(hl:pT≤lo):vJ w pT v l:=by
 refine ⟨⟨h.1.1,?_⟩,h.2⟩;rcases h.1.2 with h' | ⟨g,cap,cur,h',h1,h2⟩
 ·exact .inl h'
 ·exact .inr ⟨g,cap,cur,h',ar hl h1,h2⟩
section
variable {base:Nat} {A:Nat→Addr} {db:Nat} {F:Nat→Prop} {d:S.V.bE} {W0:World} {r:cT}
theorem Cp{w0 w:World}{tb pc:Nat}(hc:Ts base A db F d W0 w0 tb r)(hn:(aD r).length≤4611686018427387904)(jb:(eh r).Nodup)(L8:(eh r).length<1099511627776)(bQ:Below w0.heap.size w0 w)(Sz:B.au w pc #[.slice none 0 0] 69)(Gc:w0.heap.size≤pc):Calls prog 65 #[.pointer (some ⟨tb,0,none⟩),.func (.func 66) #[] #[.pointer (some ⟨pc,0,none⟩)]] w fun e w'=>e = .returned .nilIface∧(∃ v,B.au w' pc #[v] 69∧vJ w' w.heap.size v (eh r))∧Dv base A db F d w'∧Mv db F w0 w':=by
 have A9:=@run_makeMap prog;obtain ⟨H,hH⟩ : ∃ H,H=w.heap.size:=⟨_,rfl⟩;obtain ⟨W2,Ip⟩ : ∃ W2,(w.alloc (.cells #[.pointer (some ⟨tb,0,none⟩)] 38)).alloc (.cells #[.func (.func 66) #[] #[.pointer (some ⟨pc,0,none⟩)]] 121)=W2:=⟨_,rfl⟩;obtain ⟨aV,s2,r0,r1⟩:=OB w W2 _ _ _ _ Ip;rw [← hH] at s2 r0 r1;have XV:Below w0.heap.size w0 W2:=Below.next bQ aV;have HD:=ab (vA (hc.below XV) hn (Below.refl _ _));have q0:W2.cell? ⟨H,0,none⟩=some (.pointer (some ⟨tb,0,none⟩)):=r0.cell 0 (by simp)
 have HC:=ab hc;have HR:Hid (B.au W2 H #[.pointer (some ⟨tb,0,none⟩)] 38∧B.au W2 (H+1) #[.func (.func 66) #[] #[.pointer (some ⟨pc,0,none⟩)]] 121∧B.au W2 pc #[.slice none 0 0] 69∧W2.heap.size=H+1+1∧H=w.heap.size∧w0.heap.size≤H∧pc<H):=⟨r0,r1,Sz.below aV,s2,hH,by have:=bQ.size;omega,by have:=Sz.lt;omega⟩
 have kB:=ab XV;have HPC:=ab Gc;have Wr:=ab jb;have N8:=ab L8;have BH:=ab hn;have hHs:=hH.symm;clear hc jb L8 bQ Sz Gc aV r0 r1 XV hH hn;cases r with
 | none =>
  rw [show ((Ih none:Nat):Int)=0 from rfl] at HD
  go_enter func65,ntmps65;go_wp2_with fail;refine HD.out.mono ?_
  rintro e w1 ⟨rfl,fD,fo⟩;have bW:=ai w1 (.cells #[.nilIface] 32);have HE:Hid ((∃ v,B.au (w1.alloc (.cells #[.nilIface] 32)) pc #[v] 69∧vJ (w1.alloc (.cells #[.nilIface] 32)) w.heap.size v (eh none))∧Dv base A db F d (w1.alloc (.cells #[.nilIface] 32))∧Mv db F w0 (w1.alloc (.cells #[.nilIface] 32))):=by
   obtain ⟨h1,h2,h3,h4,h5,h6,h7⟩:=HR.out;have jE:=HC.out.dv.Ct;have Gc:=HPC.out;have h8:B.au w1 pc #[.slice none 0 0] 69:=(fo.one.block pc (by omega) (by omega)).trans h3
   exact ⟨⟨_,h8.below bW,vJ.nil _ _⟩,fD.below bW,((Mv.of kB.out).trans fo).trans (Mv.of bW)⟩
  clear fD fo HD bW;go_wp2;go_ret;exact ⟨rfl,HE.out⟩
 | some y =>
  obtain ⟨h,t⟩:=y;have vT:h+1≤64:=lh HC.out.ok BH.out;have hh1:¬ ((Ih (some ⟨h,t⟩):Nat):Int)=0:=by show ¬ ((h+1:Nat):Int)=0;omega
  have hhe:((Ih (some ⟨h,t⟩):Nat):Int)=(h:Int)+1:=by show ((h+1:Nat):Int)=_;omega
  rw [hhe] at HD hh1;go_enter func65,ntmps65;go_wp2_with fail;refine HD.out.mono ?_
  rintro e w1 ⟨rfl,fD,fo⟩;obtain ⟨h1,h2,h3,h4,h5,h6,h7⟩:=HR.out;have jE:=HC.out.dv.Ct;have Gc:=HPC.out;have Qk:=fo.size;have bH:∀ {k:Nat} {cs:Array Value} {T:TypeId},w0.heap.size≤k→B.au W2 k cs T→B.au w1 k cs T:=fun {k cs T} hk hr=>(fo.one.block k hr.lt (by omega)).trans hr
  have u0:=bH h6 h1;have u1:=bH (by omega) h2
  have u2:=bH Gc h3;have XH:Mv db F w0 w1:=(Mv.of kB.out).trans fo;obtain ⟨rv,ht,hr⟩:=HC.out.tr;obtain ⟨p,zV,hk⟩ : ∃ p:C.Ch,rv=p.val∧eu (cF d) w0 h p t:=by
   rcases hr with ⟨_,he⟩ | ⟨p,h',t',rfl,he,hk⟩
   ·cases he
   ·cases he;exact ⟨p,rfl,hk⟩
  subst zV;obtain ⟨vt,vx,ir⟩:=bU p;obtain ⟨K,hK⟩ : ∃ K,w1.heap.size=K:=⟨_,rfl⟩;obtain ⟨W9,hW9⟩ : ∃ W9,(((w1.alloc (.cells #[.nilIface] 32)).alloc (.map #[] 0)).alloc (.cells #[.map (some (K+1))] 166)).alloc (.cells #[.nilFunc] 176)=W9:=⟨_,rfl⟩;obtain ⟨z7,s9,r4,r6,r7,r8⟩:=MB w1 W9 _ _ _ _ _ _ hW9;rw [hK] at s9 r4 r6 r7 r8;have q8:W9.cell? ⟨K+1+1+1,0,none⟩=some .nilFunc:=r8.cell 0 (by simp)
  have f8:W9.frozen? ⟨K+1+1+1,0,none⟩=false:=by unfold B.au at r8;simp [World.frozen?,r8]
  obtain ⟨W,hW⟩ : ∃ W,W9.setCell ⟨K+1+1+1,0,none⟩ (.func (.func 103) #[] #[.pointer (some ⟨K+1+1,0,none⟩),.pointer (some ⟨K,0,none⟩),.pointer (some ⟨H+1,0,none⟩),.pointer (some ⟨H,0,none⟩),.pointer (some ⟨K+1+1+1,0,none⟩)])=W:=⟨_,rfl⟩;have dG:=bG.set (K+1+1+1) 0 W9 (.func (.func 103) #[] #[.pointer (some ⟨K+1+1,0,none⟩),.pointer (some ⟨K,0,none⟩),.pointer (some ⟨H+1,0,none⟩),.pointer (some ⟨H,0,none⟩),.pointer (some ⟨K+1+1+1,0,none⟩)]);rw [hW] at dG;have J7:Below w1.heap.size w1 W:=⟨dG.os.trans z7.os,dG.tape.trans z7.tape,dG.output.trans z7.output,ar z7.size dG.size,fun k hk=>(dG.block k (by have:=z7.size;omega) (by omega)).trans (z7.block k hk)⟩
  have Ue:∀ {k:Nat} {cs:Array Value} {T:TypeId},k<K+1+1+1→B.au W9 k cs T→B.au W k cs T:=fun {k cs T} hk hr=>(dG.block k (by omega) (by omega)).trans hr
  have v0:=u0.below J7;have v1:=u1.below J7;have v2:=u2.below J7;have v4:=Ue (by omega) r4
  have v6:W.heap[K+1]?=some (.map #[] 0):=(dG.block _ (by omega) (by omega)).trans r6
  have v7:=Ue (by omega) r7
  have v8:B.au W (K+1+1+1) #[.func (.func 103) #[] #[.pointer (some ⟨K+1+1,0,none⟩),.pointer (some ⟨K,0,none⟩),.pointer (some ⟨H+1,0,none⟩),.pointer (some ⟨H,0,none⟩),.pointer (some ⟨K+1+1+1,0,none⟩)]] 176:=hW▸rL r8 _;have hVS:Vs base A db F d w0 tb ⟨K+1+1,K+1,K,H+1,H,K+1+1+1,pc⟩ (K+1+1+1+1) W (.slice none 0 0) [] []:=by
   refine ⟨fD.below J7,XH.trans (Mv.of J7),v7.cell 0 (by simp),v1.cell 0 (by simp),v0.cell 0 (by simp),v8.cell 0 (by simp),v4,v2,vJ.nil _ _,Met.made v6,by simp,?_,?_,?_,jE,?_⟩
   ·intro b hb;simp only [dO,dB,or_false] at hb;omega
   ·intro b hb;simp only [dO,dB,or_false] at hb;show b≠K∧b≠pc
    omega
   ·show K≠pc
    omega
   ·have:=dG.size;omega
  have YK:Hid (∀ W',Below W.heap.size W W'→Calls prog 103 #[p.val,.string ⟨#[]⟩,.int .i64 ((h:Int)+1),.pointer (some ⟨K+1+1,0,none⟩),.pointer (some ⟨K,0,none⟩),.pointer (some ⟨H+1,0,none⟩),.pointer (some ⟨H,0,none⟩),.pointer (some ⟨K+1+1+1,0,none⟩)] W' fun e w'=>e = .returned (.bool true)∧(∃ v',Vs base A db F d w0 tb ⟨K+1+1,K+1,K,H+1,H,K+1+1+1,pc⟩ (K+1+1+1+1) w' v' ([]++cD h t) ([]++cD h t))∧df W' w'):=fun W' Zi=>An HC.out.dv ht h (by omega) p t ⟨#[]⟩ W' _ [] [] hk (jK HC.out.ok) (hVS.below Zi) Wr.out (fun _ _ h=>by simp at h) (by have h9:(cD h t).length<1099511627776:=N8.out;simpa using h9) (by have h9:(cD h t).length<1099511627776:=N8.out;simpa using h9)
  have BD:Hid (∀ W',Mv db F w0 W'→W'.cell? ⟨tb,1,none⟩=some p.val):=fun W' hm=>(dX (hm.cN HC.out.dv) ht).c1
  have m4:W.cell? ⟨tb,1,none⟩=some (.iface vt vx):=by rw [← ir];exact BD.out W (XH.trans (Mv.of J7))
  rw [ir] at YK BD;have m0:W.cell? ⟨H,0,none⟩=some (.pointer (some ⟨tb,0,none⟩)):=v0.cell 0 (by simp)
  have m8:W.cell? ⟨K+1+1+1,0,none⟩=some (.func (.func 103) #[] #[.pointer (some ⟨K+1+1,0,none⟩),.pointer (some ⟨K,0,none⟩),.pointer (some ⟨H+1,0,none⟩),.pointer (some ⟨H,0,none⟩),.pointer (some ⟨K+1+1+1,0,none⟩)]):=v8.cell 0 (by simp)
  have wR:Hid (w.heap.size≤K+1+1+1+1):=by show _≤_;omega
  clear fD fo h1 h2 h3 h4 h5 h6 h7 jE Gc Qk bH u0 u1 u2 XH ht hr hk ir z7 s9 r4 r6 r7 r8 dG J7 Ue v0 v1 v2 v4 v6 v7 v8 hVS HD HR;go_wp2_with fail;go_region_held3 (fun w'=>w'.cell? ⟨H,0,none⟩=some (.pointer (some ⟨tb,0,none⟩))∧w'.cell? ⟨K+1+1+1,0,none⟩=some (.func (.func 103) #[] #[.pointer (some ⟨K+1+1,0,none⟩),.pointer (some ⟨K,0,none⟩),.pointer (some ⟨H+1,0,none⟩),.pointer (some ⟨H,0,none⟩),.pointer (some ⟨K+1+1+1,0,none⟩)])∧w'.cell? ⟨tb,1,none⟩=some (.iface vt vx)) (go_keep)
   (first
    | (go_at_call 103;refine (YK.out _ (by first | exact Below.refl _ _ | exact B.aP (Below.refl _ _))).mono ?_;rintro e w2 ⟨rfl,⟨v',pX⟩,-⟩;have Sn:=ab pX;have n0:w2.cell? ⟨H,0,none⟩=some (.pointer (some ⟨tb,0,none⟩)):=pX.ct;have n8:w2.cell? ⟨K+1+1+1,0,none⟩=some (.func (.func 103) #[] #[.pointer (some ⟨K+1+1,0,none⟩),.pointer (some ⟨K,0,none⟩),.pointer (some ⟨H+1,0,none⟩),.pointer (some ⟨H,0,none⟩),.pointer (some ⟨K+1+1+1,0,none⟩)]):=pX.cv;have n4:=BD.out _ pX.mv;have kf:w2.cell? ⟨K,0,none⟩=some .nilIface:=pX.cf.cell 0 (by simp);clear pX))
  have HE:Hid ((∃ v,B.au w2 pc #[v] 69∧vJ w2 w.heap.size v (eh (some ⟨h,t⟩)))∧Dv base A db F d w2∧Mv db F w0 w2):=⟨⟨v',Sn.out.row,Sn.out.ps.lower wR.out⟩,Sn.out.dv,Sn.out.mv⟩;clear Sn YK n0 n8 n4 m0 m8 m4 BD hW hW9 q8 f8;go_wp2;go_ret;exact ⟨rfl,HE.out⟩
end
open Go.Sort
theorem Qd(w:World):Calls prog 136 #[.slice none 0 0,.int .i64 0,.int .i64 0] w fun e w'=>e = .returned (.tuple #[])∧w=w':=by
 go_enter func136,ntmps136;go_wp2;refine wp_loop_rounds 1 ?_
 rw [rounds_succ];go_wp2;go_end0
 exact ⟨rfl,rfl⟩
theorem TD(n:Int)(w:World):Calls prog 105 #[.slice none 0 0,.int .i64 0,.int .i64 0,.int .i64 n] w fun e w'=>e = .returned (.tuple #[])∧w=w':=by
 have HI:=ab (Qd w);go_enter func105,ntmps105;go_wp2_with fail;refine wp_loop_rounds 1 ?_
 rw [rounds_succ];go_wp2_with fail;refine HI.out.mono ?_
 rintro e w1 ⟨rfl,rfl⟩;go_wp2;refine bodyPost_ret (results_none rfl _ _ _) rfl ?_
 exact ⟨rfl,rfl⟩
theorem Nb(w:World):Calls prog 106 #[.int .u64 0] w fun e w'=>(∃ n,e = .returned (.int .i64 n))∧w=w':=by
 have HL:=ab (tO 0 w (by decide))
 rw [show ((0:Nat):Int)=0 from rfl] at HL
 go_enter func106,ntmps106;go_wp2_with fail;refine HL.out.mono ?_
 rintro e w1 ⟨rfl,rfl⟩;go_wp2;go_ret;exact ⟨⟨_,rfl⟩,rfl⟩
theorem OQ(w:World):Calls prog 68 #[.slice none 0 0] w fun e w'=>e = .returned (.tuple #[])∧w=w':=by
 have HL:=ab (Nb w);go_enter func68,ntmps68;go_wp2_with fail;refine HL.out.mono ?_
 rintro e w1 ⟨⟨n,rfl⟩,rfl⟩;go_wp2_with fail;refine (TD n w).mono ?_
 rintro e w1 ⟨rfl,rfl⟩;go_wp2;go_end0
 exact ⟨rfl,rfl⟩
def pS(l:List Nat):List Int:=(l.map fun n:Nat=>(n:Int)).mergeSort fun x y=>decide (x≤y)
theorem Ds(l:List Nat):(pS l).length=l.length:=by unfold pS;rw [List.length_mergeSort,az]
theorem K0(l:List Nat):(pS l).Perm (l.map fun n:Nat=>(n:Int)):=List.mergeSort_perm _ _
theorem Tg{w:World}{lo:Nat}{v:Value}{l:List Nat}(h:vJ w lo v l)(hl:l.length<4611686018427387904):Calls prog 68 #[v] w fun e w'=>e = .returned (.tuple #[])∧w'.ownsRow lo 3 1 v l.length ((pS l).map (Value.int .i64))∧w.grownBy w' v.ownBlock:=by
 have aE:=h.1;rcases h.1.2 with ⟨rfl,h0⟩ | ⟨g,gc,cur,rfl,dd,hb,h1,h2,h3,h4⟩
 ·refine (OQ w).mono ?_
  rintro e w' ⟨rfl,rfl⟩;have SD:l=[]:=List.length_eq_zero_iff.1 h0;subst SD;exact ⟨rfl,by show w.ownsRow lo 3 1 (.slice none 0 0) 0 ((pS []).map (Value.int .i64));rw [show pS []=[] by simp [pS]];exact World.ownsRow_nil _ _ _ _,⟨rfl,rfl,rfl,aj _,fun _ _ _=>rfl⟩⟩
 ·obtain ⟨zs,Ht⟩ : ∃ zs,zs=l.map fun n:Nat=>(n:Int):=⟨_,rfl⟩
  have hzl:zs.length=l.length:=by rw [Ht,az]
  have hH:Holds (Value.int .i64) w g 0 zs.toArray:=holds_of_blockI hb (by rw [hzl,Ht,et];have h4':=h4;simp only [Nat.mul_one] at h4';exact h4')
  have yy:g<w.heap.size:=(Array.getElem?_eq_some_iff.1 hb).1;have hc:=B.Au g gc zs w hH yy (by omega)
  rw [hzl] at hc;refine hc.mono ?_
  rintro e w' ⟨rfl,q,os,rfl⟩;have H6:pS l=zs.mergeSort fun x y=>decide (x≤y):=by rw [Ht];rfl
  rw [H6];refine ⟨rfl,?_,grownBy_sortedI _⟩;have:=ownsRow_sortedI (w:=w) (base:=lo) (n:=q) (os:=os) (ss:=zs) (ts:=zs.mergeSort fun x y=>decide (x≤y)) (by rw [List.length_mergeSort]) dd hb (by omega) h2 h3
  rwa [hzl] at this
end T
end Go.Proofs.YtihmgigfkmofnaaGreatDoor
namespace Go.Proofs.YtihmgigfkmofnaaGreatDoor
namespace T
open Go.RowKit
section
variable {base:Nat} {A:Nat→Addr} {db:Nat} {F:Nat→Prop} {d:S.V.bE} {W0:World} {r:cT}
theorem uV{w:World}{tb:Nat}(hc:Ts base A db F d W0 w tb r)(hn:(aD r).length≤4611686018427387904)(jb:(eh r).Nodup)(L8:(eh r).length<1099511627776):Calls prog 27 #[.pointer (some ⟨tb,0,none⟩)] w fun e w'=>(∃ v,e = .returned (.tuple #[v,.nilIface])∧w'.ownsRow w.heap.size 3 1 v (eh r).length ((pS (eh r)).map (Value.int .i64)))∧Dv base A db F d w'∧Mv db F w w':=by
 obtain ⟨W1,ig⟩ : ∃ W1,w.alloc (.cells #[.slice none 0 0] 69)=W1:=⟨_,rfl⟩;obtain ⟨H,hH⟩ : ∃ H,w.heap.size=H:=⟨_,rfl⟩;have aO:Below w.heap.size w W1:=ig▸ai w _;have r1:B.au W1 w.heap.size #[.slice none 0 0] 69:=ig▸B.au.new w _ _;have s1:W1.heap.size=w.heap.size+1:=by rw [← ig];simp
 have HG:=ab (Cp hc hn jb L8 aO r1 (aj _));rw [hH] at HG;have HC:=ab hc;have mf:Hid (W1.heap.size=H+1):=by show _=_;omega
 have N8:=ab L8;clear hc hn jb L8 r1 aO s1;go_enter func27,ntmps27;go_wp2_with fail;refine HG.out.mono ?_
 rintro e w2 ⟨rfl,⟨v,bH,kt⟩,je,jD⟩;have k2:w2.cell? ⟨H,0,none⟩=some v:=bH.cell 0 (by simp)
 obtain ⟨a,c,lM⟩:=kt.form;have HSO:=ab (Tg kt (by have:=N8.out;omega))
 have pe:=ab bH;have Zy:=ab kt;have uJ:=ab je;have vX:=ab jD;have HF:Hid (∀ w3,w2.grownBy w3 v.ownBlock→w3.cell? ⟨H,0,none⟩=some v∧Dv base A db F d w3∧Mv db F w w3):=fun w3 hg=>by
  have h1:=mf.out;have fl:∀ k,k<W1.heap.size→some k≠v.ownBlock:=fun k hk e=>by
   have:=(kt.dx e.symm).1;omega
  have iV:B.au w3 H #[v] 69:=(hg.block H bH.lt (fl _ (by omega))).trans bH
  have b8:w.heap.size≤w2.heap.size:=jD.size;have n9:Below w.heap.size w2 w3:=⟨hg.os,hg.tape,hg.output,hg.size,fun k hk=>hg.block k (by omega) (fl k (by omega))⟩
  exact ⟨iV.cell 0 (by simp),je.grown n9 jD HC.out.dv⟩
 have wR:Hid (w.heap.size≤W1.heap.size):=by have h1:=mf.out;show _≤_;omega
 subst lM;clear bH kt je jD HG;go_wp2_with fail;refine HSO.out.mono ?_
 rintro e w3 ⟨rfl,kO,V0⟩;obtain ⟨k3,rr,lX⟩:=HF.out w3 V0;have HE:Hid (w3.ownsRow w.heap.size 3 1 (.slice a (eh r).length c) (eh r).length ((pS (eh r)).map (Value.int .i64))∧Dv base A db F d w3∧Mv db F w w3):=by
  refine ⟨⟨kO.1,?_⟩,rr,lX⟩;rcases kO.2 with h' | ⟨g,cap,cur,h',h1,h2⟩
  ·exact .inl h'
  ·exact .inr ⟨g,cap,cur,h',ar wR.out h1,h2⟩
 clear kO V0 rr lX HSO HF;go_wp2;go_ret2;exact ⟨⟨_,rfl,HE.out.1⟩,HE.out.2⟩
end
theorem yF(key value:ByteArray)(w:World)(hk:key.size≤140737488355328)(hv:value.size≤140737488355328):Calls prog 29 #[.string key,.string value] w fun e w'=>e = .returned (.bool (cQ (key,value)))∧w=w':=by
 have h1:cQ (key,value)=decide (1≤key.size∧key.size≤255∧value.size≤700):=rfl;rw [h1];by_cases a1:1≤key.size
 ·by_cases a2:key.size≤255
  ·by_cases a3:value.size≤700
   ·have d1:decide ((key.size:Int)≥1)=true:=decide_eq_true (by omega)
    have d2:decide ((key.size:Int)≤255)=true:=decide_eq_true (by omega)
    have d3:decide ((value.size:Int)≤700)=true:=decide_eq_true (by omega)
    rw [decide_eq_true ⟨a1,a2,a3⟩];clear a1 a2 a3 h1 hk hv;go_enter func29,ntmps29;go_wp2;go_ret;exact ⟨rfl,rfl⟩
   ·have d1:decide ((key.size:Int)≥1)=true:=decide_eq_true (by omega)
    have d2:decide ((key.size:Int)≤255)=true:=decide_eq_true (by omega)
    have d3:decide ((value.size:Int)≤700)=false:=decide_eq_false (by omega)
    rw [decide_eq_false (fun h=>a3 h.2.2)]
    clear a1 a2 a3 h1 hk hv;go_enter func29,ntmps29;go_wp2;go_ret;exact ⟨rfl,rfl⟩
  ·have d1:decide ((key.size:Int)≥1)=true:=decide_eq_true (by omega)
   have d2:decide ((key.size:Int)≤255)=false:=decide_eq_false (by omega)
   rw [decide_eq_false (fun h=>a2 h.2.1)]
   clear a1 a2 h1 hk hv;go_enter func29,ntmps29;go_wp2;go_ret;exact ⟨rfl,rfl⟩
 ·have d1:decide ((key.size:Int)≥1)=false:=decide_eq_false (by omega)
  rw [decide_eq_false (fun h=>a1 h.1)]
  clear a1 h1 hk hv;go_enter func29,ntmps29;go_wp2;go_ret;exact ⟨rfl,rfl⟩
theorem mn(v:Value)(l:List Pr)(key:ByteArray)(w:World)(hm:l.length≤140737488355328)(hr:gM w v l):Calls prog 28 #[v,.string key] w fun e w'=>e = .returned (.tuple #[.int .i64 (aS l key:Int),.bool (bm l key)])∧∃ k,w'=w.drewN k:=by
 obtain ⟨a,cap,rfl,dj,_,hc⟩:=hr;have HC:=ab hc;obtain ⟨n,hn⟩ : ∃ n,n=l.length:=⟨_,rfl⟩;rw [← hn] at hm ⊢;have HN:=ab hn;obtain ⟨Q,hQ⟩ : ∃ Q:Ending→World→Prop,Q=fun e w'=>e = .returned (.tuple #[.int .i64 (aS l key:Int),.bool (bm l key)])∧∃ k,w'=w.drewN k:=⟨_,rfl⟩
 rw [← hQ];have HQ:=ab hQ;clear hc hn dj hQ;go_enter func28,ntmps28;go_wp2;go_loopw [6] (fun i wr=>∃ k:Nat,k≤n∧i = .int .i64 k∧(∀ j (h:j<l.length),j<k→cR l[j].1 key=true)∧w=wr) (fun i _=>n - (intOf i).toNat)
 case atStart=>exact ⟨0,aB _,rfl,fun j _ h=>absurd h (iz _),rfl⟩
 case round =>
  obtain ⟨k,hk,rfl,js,rfl⟩:=hrel;have HP:=ab js;clear js;by_cases bO:k<n
  ·have cZ:k<l.length:=by have:=HN.out;omega
   obtain ⟨g,o,rfl,c1,c2⟩:=HC.out k cZ;have nU:Hid (cR l[k].1 key=true→∀ j (h:j<l.length),j<k+1→cR l[j].1 key=true):=fun hl j h hj=>by
    by_cases he:j=k
    ·subst he;exact hl
    ·exact HP.out j h (by omega)
   have zB:Hid (cR l[k].1 key=false→aS l key=k):=fun hl=>sG cZ (fun j hj=>HP.out j (by omega) hj) hl
   have Ku:Hid (aS l key=k→bm l key=decide (l[k].1=key)):=fun h=>by subst h;exact pN cZ
   obtain ⟨p,hp⟩ : ∃ p,p=l[k]:=⟨_,rfl⟩;rw [← hp] at c1 c2 nU zB Ku;have dE:(k:Int)<(n:Int):=by omega
   have j0:(0:Int)≤(k:Int):=by omega
   clear hp HC;cases hb:cR p.1 key with
   | true =>
    have p8:=ab (nU.out hb);have aV:Op.bytesLess p.1.toList key.toList=true:=hb;clear hb nU zB Ku c2;go_wp2;go_roundw
    case rel=>exact ⟨k+1,by omega,by go_num,p8.out,by first | trivial | rfl⟩
    case measure=>simp [intOf];omega
   | false =>
    have I1:=ab (zB.out hb);have agC:=ab (Ku.out I1.out);have aV:Op.bytesLess p.1.toList key.toList=false:=hb;clear hb nU zB Ku c2;go_wp2;go_quiet (fail)
    go_wp2;rw [HQ.out,I1.out,agC.out,← oZ];exact ⟨rfl,_,rfl⟩
  ·have dE:¬ (k:Int)<(n:Int):=by omega
   have kK:Hid (aS l key=n∧bm l key=false):=by
    have h:=qT (l:=l) (key:=key) (fun j hj=>HP.out j hj (by have:=HN.out;omega))
    have h2:=oV (l:=l) (key:=key) (by omega)
    have:=HN.out;exact ⟨by omega,h2⟩
   clear HC HP;go_wp2;rw [HQ.out,kK.out.1,kK.out.2];exact ⟨rfl,0,rfl⟩
theorem fJ.take_len(l:List Pr)(key:ByteArray):([] : List Pr).length+(l.take (aS l key)).length=aS l key:=by
 have:=cH l key;rw [ag,aT this];simp
theorem L5(v:Value)(l:List Pr)(key value:ByteArray)(w:World)(hm:l.length≤4398046511000)(hr:gM w v l):Calls prog 40 #[v,.string key,.string value] w fun e w'=>∃ u,e = .returned u∧fJ w' w.heap.size u (fx l key value)∧Below w.heap.size w w':=by
 have HF:=ab (mn v l key w (by omega) hr)
 have HR:=ab hr;obtain ⟨a,cap,hv⟩:=hr.form;subst hv;have il:=cH l key;have jB:=jV l key;have Uh:=eP l key;have dj:l.length≤cap:=by obtain ⟨_,_,he,h,_⟩:=hr;cases he;exact h
 have zS:=fJ.take_len l key;have wI:(if bm l key then aS l key+1 else aS l key:Nat)=dk l key:=rfl
 have iB:Hid (fx l key value=(l.take (aS l key)++[(key,value)])++l.drop (dk l key)):=by show _=_;simp [fx]
 obtain ⟨q,hq⟩ : ∃ q,q=aS l key:=⟨_,rfl⟩;obtain ⟨r,vR⟩ : ∃ r,r=dk l key:=⟨_,rfl⟩;rw [← hq] at HF il zS wI iB;rw [← vR] at jB wI iB;rw [← hq,← vR] at Uh;have vQ:=fun W=>K6 W a l.length cap q (by omega)
 have F5:∀ k,Hid (∃ a1 c1 w1 a2 c2 w2 a3 c3 w3 a4 n4 c4,(Builtin.append_ #[63,63] 63 #[.slice none 0 0,.slice a q cap]).run prog (w.drewN k) = .ok (.slice a1 q c1) w1∧(Builtin.append_ #[63,63] 63 #[.slice a1 q c1,.slice (some ⟨w1.heap.size,0,none⟩) 1 1]).run prog (w1.alloc (.cells #[.string key,.string value] 52)) = .ok (.slice a2 (q+1) c2) w2∧(∀ W,(Instr.sliceAt 63 (.slice a l.length cap) (some (.int .i64 (r:Int))) none none).run prog W = .ok (.slice a4 n4 c4) W)∧(Builtin.append_ #[63,63] 63 #[.slice a2 (q+1) c2,.slice a4 n4 c4]).run prog w2 = .ok (.slice a3 (q+1+(l.length - r)) c3) w3∧fJ w3 w.heap.size (.slice a3 (q+1+(l.length - r)) c3) (fx l key value)∧Below w.heap.size w w3):=fun k=>by
  have mS:Below w.heap.size w (w.drewN k):=aA (Below.refl _ _) k;have ho0:fJ (w.drewN k) w.heap.size (.slice none 0 0) []:=fJ.nil _ _;obtain ⟨a1,c1,w1,fX,kP,fM⟩:=gh w.heap.size _ (.slice a q cap) [] (l.take q) (w.drewN k) ho0 ((hr.below mS).take il) (by rw [zS];omega) mS.size
  rw [zS] at fX kP;rw [List.nil_append] at kP;have aO:Below w.heap.size w w1:=mS.grown fM mS.size (fun k hk=>(World.ownsRow.lt ho0 k hk).1)
  obtain ⟨a2,c2,w2,iM,jf,aV,iL⟩:=DO w.heap.size _ (l.take q) (key,value) 52 w1 w w.heap.size q (by rw [ag,aT il]) kP (by omega) aO.size (aj _) aO
  obtain ⟨a4,EK,Xt⟩:=(hr.below aV).drop jB;have VS:(l.take q++[(key,value)]).length+(l.drop r).length=q+1+(l.length - r):=by
   rw [ae,ag,aT il,al];rfl
  obtain ⟨a3,c3,w3,nF,kO,V0⟩:=gh w.heap.size _ _ _ (l.drop r) w2 jf EK (by rw [VS];omega) aV.size
  rw [VS] at nF kO;have bW:Below w.heap.size w w3:=aV.grown V0 aV.size (fun k hk=>(World.ownsRow.lt jf k hk).1)
  exact ⟨a1,c1,w1,a2,c2,w2,a3,c3,w3,a4,_,_,fX,iM,Xt,nF,by rw [iB.out];exact kO,bW⟩
 have vX:=ab F5;have Qq:(q:Int)≤4398046511000:=by omega
 clear F5 hr hq vR zS dj HR iB jB Uh;generalize bm l key=fb at *;go_enter func40,ntmps40;go_wp2_with fail;refine HF.out.mono ?_
 rintro e w' ⟨rfl,k,rfl⟩;obtain ⟨a1,c1,w1,a2,c2,w2,a3,c3,w3,a4,n4,c4,r1,r2,qO,r3,kO,bW⟩:=(vX.out k).out;have R1:=ab r1;have R2:=ab r2;have R3:=ab r3;have HO:=ab kO;have HB:=ab bW;clear r1 r2 r3 kO bW vX HF;cases fb with
 | true =>
  have wI:q+1=r:=by simpa using wI
  subst wI;rw [gk,kA] at qO;go_wp2_with (first
   | (at_builtin;refine wpList_append_run 63 rfl (.tmp 16) (.tmp 19) rfl rfl _ _ rfl rfl _ _ R1.out ?_)
   | (at_builtin;refine wpList_append_run 63 rfl (.tmp 21) (.tmp 25) rfl rfl _ _ rfl rfl _ _ R2.out ?_)
   | (at_builtin;refine wpList_append_run 63 rfl (.tmp 30) (.tmp 33) rfl rfl _ _ rfl rfl _ _ R3.out ?_))
  go_ret;exact ⟨_,rfl,HO.out,HB.out⟩
 | false =>
  have wI:q=r:=by simpa using wI
  subst wI;go_wp2_with (first
   | (at_builtin;refine wpList_append_run 63 rfl (.tmp 16) (.tmp 19) rfl rfl _ _ rfl rfl _ _ R1.out ?_)
   | (at_builtin;refine wpList_append_run 63 rfl (.tmp 21) (.tmp 25) rfl rfl _ _ rfl rfl _ _ R2.out ?_)
   | (at_builtin;refine wpList_append_run 63 rfl (.tmp 30) (.tmp 33) rfl rfl _ _ rfl rfl _ _ R3.out ?_))
  go_ret;exact ⟨_,rfl,HO.out,HB.out⟩
theorem yI{l:List Pr}{key:ByteArray}(h:bm l key=false):fT l key=l:=by
 unfold fT dk;rw [h];simp
theorem Cf(v:Value)(l:List Pr)(key:ByteArray)(w:World)(hm:l.length≤4398046511000)(hr:gM w v l):Calls prog 58 #[v,.string key] w fun e w'=>((bm l key=false∧e = .returned v)∨(bm l key=true∧∃ u,e = .returned u∧fJ w' w.heap.size u (fT l key)))∧Below w.heap.size w w':=by
 have HF:=ab (mn v l key w (by omega) hr)
 have HR:=ab hr;obtain ⟨a,cap,hv⟩:=hr.form;subst hv;have il:=cH l key;have jB:=jV l key;have Uh:=eP l key;have dj:l.length≤cap:=by obtain ⟨_,_,he,h,_⟩:=hr;cases he;exact h
 have zS:=fJ.take_len l key;have wI:(if bm l key then aS l key+1 else aS l key:Nat)=dk l key:=rfl
 have iB:Hid (fT l key=l.take (aS l key)++l.drop (dk l key)):=rfl;obtain ⟨q,hq⟩ : ∃ q,q=aS l key:=⟨_,rfl⟩;obtain ⟨r,vR⟩ : ∃ r,r=dk l key:=⟨_,rfl⟩;rw [← hq] at HF il zS wI iB;rw [← vR] at jB wI iB;rw [← hq,← vR] at Uh;have vQ:=fun W=>K6 W a l.length cap q (by omega)
 have F5:∀ k,Hid (∃ a1 c1 w1 a3 c3 w3 a4 n4 c4,(Builtin.append_ #[63,63] 63 #[.slice none 0 0,.slice a q cap]).run prog (w.drewN k) = .ok (.slice a1 q c1) w1∧(∀ W,(Instr.sliceAt 63 (.slice a l.length cap) (some (.int .i64 (r:Int))) none none).run prog W = .ok (.slice a4 n4 c4) W)∧(Builtin.append_ #[63,63] 63 #[.slice a1 q c1,.slice a4 n4 c4]).run prog w1 = .ok (.slice a3 (q+(l.length - r)) c3) w3∧fJ w3 w.heap.size (.slice a3 (q+(l.length - r)) c3) (fT l key)∧Below w.heap.size w w3):=fun k=>by
  have mS:Below w.heap.size w (w.drewN k):=aA (Below.refl _ _) k;have ho0:fJ (w.drewN k) w.heap.size (.slice none 0 0) []:=fJ.nil _ _;obtain ⟨a1,c1,w1,fX,kP,fM⟩:=gh w.heap.size _ (.slice a q cap) [] (l.take q) (w.drewN k) ho0 ((hr.below mS).take il) (by rw [zS];omega) mS.size
  rw [zS] at fX kP;rw [List.nil_append] at kP;have aO:Below w.heap.size w w1:=mS.grown fM mS.size (fun k hk=>(World.ownsRow.lt ho0 k hk).1)
  obtain ⟨a4,EK,Xt⟩:=(hr.below aO).drop jB;have VS:(l.take q).length+(l.drop r).length=q+(l.length - r):=by
   rw [ag,aT il,al]
  obtain ⟨a3,c3,w3,nF,kO,V0⟩:=gh w.heap.size _ _ _ (l.drop r) w1 kP EK (by rw [VS];omega) aO.size
  rw [VS] at nF kO;have bW:Below w.heap.size w w3:=aO.grown V0 aO.size (fun k hk=>(World.ownsRow.lt kP k hk).1)
  exact ⟨a1,c1,w1,a3,c3,w3,a4,_,_,fX,Xt,nF,by rw [iB.out];exact kO,bW⟩
 have vX:=ab F5;have vY:=ab (fun k=>aA (Below.refl w.heap.size w) k)
 have Qq:(q:Int)≤4398046511000:=by omega
 clear F5 hr hq vR zS dj HR iB jB Uh;generalize bm l key=fb at *;go_enter func58,ntmps58;go_wp2_with fail;refine HF.out.mono ?_
 rintro e w' ⟨rfl,k,rfl⟩;obtain ⟨a1,c1,w1,a3,c3,w3,a4,n4,c4,r1,qO,r3,kO,bW⟩:=(vX.out k).out;have R1:=ab r1;have R3:=ab r3;have HO:=ab kO;have HB:=ab bW;clear r1 r3 kO bW vX HF;cases fb with
 | true =>
  have wI:q+1=r:=by simpa using wI
  subst wI;rw [gk,kA] at qO;go_wp2_with (first
   | (at_builtin;refine wpList_append_run 63 rfl (.tmp 17) (.tmp 20) rfl rfl _ _ rfl rfl _ _ R1.out ?_)
   | (at_builtin;refine wpList_append_run 63 rfl (.tmp 22) (.tmp 26) rfl rfl _ _ rfl rfl _ _ R3.out ?_))
  go_ret;exact ⟨⟨_,rfl,HO.out⟩,HB.out⟩
 | false =>
  go_wp2;go_ret;exact ⟨rfl,vY.out k⟩
theorem Fu{α:Type}(f p:α→Nat):∀ (cs:List α),(∀ c ∈ cs,f c+1≤2*p c)→(cs.map f).sum+cs.length≤2*(cs.map p).sum
 | [],_=>by simp
 | c::cs,h=>by
  have h1:=h c (by simp)
  have h2:=Fu f p cs fun x hx=>h x (by simp [hx])
  simp only [List.map_cons,rj,List.length_cons];omega
def M1(h:Nat)(t:Nd h):Nat:=(cD h t).length+jh h t
theorem D2(n:Nat):(cU n).length+(if n=0 then 1 else 0)=1:=by
 unfold cU;split <;> simp
theorem uR{α:Type}(f g:α→Nat):∀ (cs:List α),(cs.map fun c=>f c+g c).sum=(cs.map f).sum+(cs.map g).sum
 | []=>by simp
 | c::cs=>by
  have h2:=uR f g cs;simp only [List.map_cons,rj];omega
theorem Ft:∀ (h:Nat) {t:Nd h},R0 h t→M1 h t+1≤2*(flat h t).length
 | 0,t,ho=>by
  have h1:t.2≠[]:=ho.2.2;have h2:=List.length_pos_iff.2 h1;have h3:=D2 t.1;show (cU t.1).length+(if t.1=0 then 1 else 0)+1≤2*t.2.length
  omega
 | h+1,t,ho=>by
  obtain ⟨⟨lo,hi,cM⟩,_,h1⟩:=ho;have h1:t.2.1≠[]:=h1;have hl:=iD ((eS h t lo hi).1 cM);have hp:=List.length_pos_iff.2 h1;have hk:∀ c ∈ t.2.2,M1 h c+1≤2*(flat h c).length:=fun c hc=>by
   obtain ⟨i,mc,rfl⟩:=aK hc;exact Ft h (wk ⟨⟨lo,hi,cM⟩,by assumption,h1⟩ (af mc))
  have h2:=Fu (M1 h) (fun c=>(flat h c).length) t.2.2 hk
  have h3:(flat (h+1) t).length=(t.2.2.map fun c=>(flat h c).length).sum:=by
   show (t.2.2.flatMap (flat h)).length=_
   rw [List.length_flatMap]
  have h4:(t.2.2.flatMap (cD h)).length=(t.2.2.map fun c=>(cD h c).length).sum:=List.length_flatMap
  have h5:(t.2.2.map (M1 h)).sum=(t.2.2.map fun c=>(cD h c).length).sum+(t.2.2.map (jh h)).sum:=uR _ _ _
  have h6:(cD (h+1) t).length=(cU t.1).length+(t.2.2.flatMap (cD h)).length:=by
   show (cU t.1++t.2.2.flatMap (cD h)).length=_
   rw [ae]
  have h7:jh (h+1) t=if t.1=0 then (t.2.2.map (jh h)).sum+1 else 0:=rfl
  have h8:=D2 t.1;unfold M1;rw [h3,h6,h7];split at h8
  ·rename_i e;rw [if_pos e];omega
  ·rename_i e;rw [if_neg e];omega
theorem kn{r:cT}(h:eD r):(eh r).length+eA r≤2*(aD r).length:=by
 cases r with
 | none=>exact aj _
 | some x =>
  have:=Ft x.1 (t:=x.2) ⟨⟨none,none,h.1⟩,h.2.1,h.2.2⟩;unfold M1 at this;show (cD x.1 x.2).length+jh x.1 x.2≤2*(flat x.1 x.2).length
  omega
theorem Kb(T:Nat→Bool)(i:Nat):∀ n,(Q.gB T n).length≤(Q.gB (Q.nX T i true) n).length+(if i<n then 1 else 0)
 | 0=>by simp [Q.gB]
 | n+1=>by
  have h:=Kb T i n;show (Q.gB T n++(if T n then [] else [n])).length≤(Q.gB (Q.nX T i true) n++(if Q.nX T i true n then [] else [n])).length+_
  rw [ae,ae];by_cases e:n=i
  ·subst e;have h1:((if T n then [] else [n] : List Nat)).length≤1:=by split <;> simp
   rw [if_neg (Nat.lt_irrefl _)] at h;rw [if_pos (Nat.lt_succ_self _)];omega
  ·have h1:Q.nX T i true n=T n:=by simp [Q.nX,e]
   rw [h1];by_cases h2:i<n
   ·have e1:(if i<n+1 then 1 else 0:Nat)=1:=if_pos (by omega)
    rw [if_pos h2] at h;rw [e1];omega
   ·have e1:(if i<n+1 then 1 else 0:Nat)=0:=if_neg (by omega)
    rw [if_neg h2] at h;rw [e1];omega
def iu(T:Nat→Bool)(L:List Nat):Nat→Bool:=L.foldl (fun T i=>Q.nX T i true) T
theorem LG(L:List Nat):∀ (T:Nat→Bool) (n:Nat),(Q.gB T n).length≤(Q.gB (iu T L) n).length+L.length:=by
 induction L with
 | nil=>intro T n;exact aj _
 | cons i L ih =>
  intro T n;have h1:=Kb T i n;have h2:=ih (Q.nX T i true) n;show _≤(Q.gB (iu (Q.nX T i true) L) n).length+(L.length+1)
  split at h1 <;> omega
theorem oH(L:List Nat):∀ (T:Nat→Bool) (j:Nat),iu T L j=(T j || decide (j ∈ L)):=by
 induction L with
 | nil=>intro T j;simp [iu]
 | cons i L ih =>
  intro T j;show iu (Q.nX T i true) L j=_
  rw [ih];by_cases e:j=i
  ·subst e;simp [Q.nX]
  ·have h1:Q.nX T i true j=T j:=by simp [Q.nX,e]
   rw [h1];simp [e]
theorem PM{PP:Nat}{T:Nat→Bool}(h:Q.qo PP T)(L:List Nat):Q.qo PP (iu T L):=⟨h.lo,h.hi,by rw [oH,h.t0];rfl,by rw [oH,h.t1];rfl,fun j hj=>by rw [oH,h.up j hj];rfl⟩
theorem BO:∀ n,n+2≤4000→(Q.gB (Q.T0 4000) (n+2)).length=n
 | 0,_=>by decide
 | n+1,h=>by
  have ih:=BO n (by omega)
  show (Q.gB (Q.T0 4000) (n+2)++(if Q.T0 4000 (n+2) then [] else [n+2])).length=n+1
  have e:Q.T0 4000 (n+2)=false:=by
   simp [Q.T0];omega
  rw [e,ae,ih];rfl
end T
end Go.Proofs.YtihmgigfkmofnaaGreatDoor
