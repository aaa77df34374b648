import Derived.Test.YtihmgigfkmofnaaGreatDoorG34
set_option maxHeartbeats 4000000
set_option maxRecDepth 100000
open Go.Proofs.Tryz
namespace Go.Proofs.YtihmgigfkmofnaaGreatDoor
namespace T
open Go.RowKit
attribute [local go_sem ↓] Go.wp_at_zero Go.wp_at_succ
theorem Ix{d:S.V.bw}{Pk:SN→Nat→Prop}{w:World}:∀ {ss:List (gD XT)} {x y:XT},Way (cX d) Pk w x ss y→ss.length+y.1=x.1
 | [],_,_,h=>by
  have h:_=_:=h;subst h;simp
 | s::ss,x,y,⟨_,_,_,_,_,z,h6,h7⟩=>by
  have ih:=Ix h7;obtain ⟨h,t⟩:=x;cases h with
  | zero=>exact (h6:False).elim
  | succ h =>
   obtain ⟨c,_,rfl⟩:=h6;have ih:ss.length+y.1=h:=ih;show ss.length+1+y.1=h+1
   omega
def PZ:cC→Nat
 | none=>0
 | some x=>x.1+1
section
variable {base:Nat} {A:Nat→Addr} {db:Nat} {F:Nat→Prop} {d:S.V.bw} {W0:World} {r:cC}
theorem wD{w w1:World}{tb:Nat}(hc:Ts base A db F d W0 w tb r)(hn:(aD r).length≤4611686018427387904)(hb:Below w.heap.size w w1):Calls prog 54 #[.pointer (some ⟨tb,0,none⟩),.func (.func 57) #[] #[]] w1 fun e w'=>(∃ a c,e = .returned (.tuple #[.slice a (PZ r) c,.nilIface]))∧Dv base A db F d w'∧Mv db F w w':=by
 obtain ⟨rv,ht,hr⟩:=hc.tr;have hv:=hc.dv.below hb;have hm:Mv db F w w1:=Mv.of hb;rcases hr with ⟨rfl,rfl⟩ | ⟨p,h,t,rfl,rfl,hk⟩
 ·refine (wF _ ⟨_,_,_,rfl⟩ tb _ w1 (ht.below hb)).mono fun e w' ⟨he,hw⟩=>?_
  subst hw;exact ⟨⟨_,_,he⟩,hv,hm⟩
 ·refine (Bg (cX d) (fun _ q=>q=0) (fun _=>True) (fun _ _ _ h=>h) p ⟨h,t⟩ tb 57 #[] Tryz.call57 w w1 ⟨hk.cH (cW.of hb),jI hc.ok⟩ (ht.below hb) hv hm hc.dv trivial (.inr (ld hc.ok hn)) (fun W b n pv lv cv y _ hs hn yf=>?_)).mono fun e w' ⟨h1,h2,h3⟩=>⟨?_,h2,h3⟩
  ·exact (Gb n lv W).mono fun e w' ⟨he,hb⟩=>⟨0,he,rfl,by omega,hb⟩
  ·rcases h1 with ⟨hE,_⟩ | ⟨ss,s,a,c,he,ho,hw,⟨_,hn⟩,h0,rR,hl⟩
   ·exact (hE:False).elim
   ·have hx:=Ix hw;obtain ⟨b,n,i,⟨hh,t'⟩⟩:=s;cases hh with
    | zero =>
     have hx:ss.length+0=h:=hx;simp only [List.length_nil,Nat.zero_add] at he;exact ⟨a,c,by rw [he];show _=Ending.returned (.tuple #[.slice a (h+1) c,.nilIface]);rw [← hx]⟩
    | succ h'=>exact absurd (List.length_eq_zero_iff.1 h0) hn.1.2.1
theorem ET{w w1:World}{tb:Nat}(hc:Ts base A db F d W0 w tb r)(hn:(aD r).length≤4611686018427387904)(hb:Below w.heap.size w w1):Calls prog 19 #[.pointer (some ⟨tb,0,none⟩)] w1 fun e w'=>e = .returned (.tuple #[.int .i64 (PZ r:Int),.nilIface])∧Dv base A db F d w'∧Mv db F w w':=by
 have HW:=ab (wD hc hn hb);clear hc;go_enter func19,ntmps19;go_wp2_with fail;refine HW.out.mono ?_
 rintro e w1 ⟨⟨a,c,rfl⟩,fP,fs⟩;have HE:Hid (Dv base A db F d w1∧Mv db F w w1):=⟨fP,fs⟩;clear fP fs HW;go_wp2;go_ret2;exact ⟨rfl,HE.out⟩
theorem zV{rv:Value}{w0:World}{tb:Nat}{x:Bv}{lo:Nat}(iL:Dv base A db F d w0)(G0:B.au w0 tb #[.pointer (some ⟨db,0,none⟩),rv] 100):∀ h,h≤1000→Ra base A db F d w0 tb x lo h
 | 0,_=>F5 iL
 | h+1,hh=>Bh (by omega) (zV iL G0 h (by omega)) iL G0
theorem NH(w W:World)(a b:Value)(TA TB:TypeId)(hW:(w.alloc (.cells #[a] TA)).alloc (.cells #[b] TB)=W):Below w.heap.size w W∧W.heap.size=w.heap.size+1+1∧B.au W w.heap.size #[a] TA∧B.au W (w.heap.size+1) #[b] TB:=by
 obtain ⟨W1,h1⟩ : ∃ W1,W1=w.alloc (.cells #[a] TA):=⟨_,rfl⟩;rw [← h1] at hW;have s1:W1.heap.size=w.heap.size+1:=by rw [h1];simp
 have b1:Below w.heap.size w W1:=h1▸ai w _;have b2:Below W1.heap.size W1 W:=hW▸ai W1 _;have r1:B.au W1 w.heap.size #[a] TA:=h1▸B.au.new w _ _;have r2:B.au W W1.heap.size #[b] TB:=hW▸B.au.new W1 _ _;rw [s1] at r2;exact ⟨Below.next b1 b2,by rw [← hW,← s1];simp,r1.below b2,r2⟩
theorem LI(w W:World)(a c e:Value)(TA TC TE:TypeId)(hW:(((w.alloc (.cells #[a] TA)).alloc (.map #[] 0)).alloc (.cells #[c] TC)).alloc (.cells #[e] TE)=W):Below w.heap.size w W∧W.heap.size=w.heap.size+1+1+1+1∧B.au W w.heap.size #[a] TA∧W.heap[w.heap.size+1]?=some (.map #[] 0)∧B.au W (w.heap.size+1+1) #[c] TC∧B.au W (w.heap.size+1+1+1) #[e] TE:=by
 obtain ⟨W1,h1⟩ : ∃ W1,W1=w.alloc (.cells #[a] TA):=⟨_,rfl⟩;obtain ⟨W2,h2⟩ : ∃ W2,W2=W1.alloc (.map #[] 0):=⟨_,rfl⟩;obtain ⟨W3,h3⟩ : ∃ W3,W3=W2.alloc (.cells #[c] TC):=⟨_,rfl⟩;rw [← h1,← h2,← h3] at hW;have s1:W1.heap.size=w.heap.size+1:=by rw [h1];simp
 have s2:W2.heap.size=w.heap.size+1+1:=by rw [h2,← s1];simp
 have s3:W3.heap.size=w.heap.size+1+1+1:=by rw [h3,← s2];simp
 have b1:Below w.heap.size w W1:=h1▸ai w _;have b2:Below W1.heap.size W1 W2:=h2▸ai W1 _;have b3:Below W2.heap.size W2 W3:=h3▸ai W2 _;have b4:Below W3.heap.size W3 W:=hW▸ai W3 _;have r1:B.au W1 w.heap.size #[a] TA:=h1▸B.au.new w _ _;have r2:W2.heap[W1.heap.size]?=some (.map #[] 0):=h2▸heap_alloc_new W1 _;have r3:B.au W3 W2.heap.size #[c] TC:=h3▸B.au.new W2 _ _;have r4:B.au W W3.heap.size #[e] TE:=hW▸B.au.new W3 _ _;have e2:W.heap[W1.heap.size]?=some (.map #[] 0):=(b4.block _ (by omega)).trans ((b3.block _ (by omega)).trans r2)
 rw [s1] at e2;rw [s2] at r3;rw [s3] at r4;exact ⟨Below.next (Below.next (Below.next b1 b2) b3) b4,by rw [← hW,← s3];simp,((r1.below b2).below b3).below b4,e2,r3.below b4,r4⟩
end
attribute [local go_sem ↓] Go.wp_at_zero Go.wp_at_succ
theorem uV.lower{w:World}{lo pJ:Nat}{v:Value}{l:List Nat}(h:uV w lo v l)(hl:pJ≤lo):uV w pJ v l:=by
 refine ⟨⟨h.1.1,?_⟩,h.2⟩;rcases h.1.2 with h' | ⟨g,cap,cur,h',h1,h2⟩
 ·exact .inl h'
 ·exact .inr ⟨g,cap,cur,h',ar hl h1,h2⟩
section
variable {base:Nat} {A:Nat→Addr} {db:Nat} {F:Nat→Prop} {d:S.V.bw} {W0:World} {r:cC}
theorem BY{w0 w:World}{tb pc:Nat}(hc:Ts base A db F d W0 w0 tb r)(hn:(aD r).length≤4611686018427387904)(jw:(eJ r).Nodup)(RG:(eJ r).length<1099511627776)(bO:Below w0.heap.size w0 w)(RH:B.au w pc #[.slice none 0 0] 69)(zB:w0.heap.size≤pc):Calls prog 65 #[.pointer (some ⟨tb,0,none⟩),.func (.func 66) #[] #[.pointer (some ⟨pc,0,none⟩)]] w fun e w'=>e = .returned .nilIface∧(∃ v,B.au w' pc #[v] 69∧uV w' w.heap.size v (eJ r))∧Dv base A db F d w'∧Mv db F w0 w':=by
 have Cp:=@run_makeMap prog;obtain ⟨H,hH⟩ : ∃ H,H=w.heap.size:=⟨_,rfl⟩;obtain ⟨W2,Lx⟩ : ∃ W2,(w.alloc (.cells #[.pointer (some ⟨tb,0,none⟩)] 38)).alloc (.cells #[.func (.func 66) #[] #[.pointer (some ⟨pc,0,none⟩)]] 121)=W2:=⟨_,rfl⟩;obtain ⟨aS,s2,r0,r1⟩:=NH w W2 _ _ _ _ Lx;rw [← hH] at s2 r0 r1;have WU:Below w0.heap.size w0 W2:=Below.next bO aS;have HD:=ab (ET (hc.below WU) hn (Below.refl _ _));have q0:W2.cell? ⟨H,0,none⟩=some (.pointer (some ⟨tb,0,none⟩)):=r0.cell 0 (by simp)
 have HC:=ab hc;have HR:Hid (B.au W2 H #[.pointer (some ⟨tb,0,none⟩)] 38∧B.au W2 (H+1) #[.func (.func 66) #[] #[.pointer (some ⟨pc,0,none⟩)]] 121∧B.au W2 pc #[.slice none 0 0] 69∧W2.heap.size=H+1+1∧H=w.heap.size∧w0.heap.size≤H∧pc<H):=⟨r0,r1,RH.below aS,s2,hH,by have:=bO.size;omega,by have:=RH.lt;omega⟩
 have jW:=ab WU;have HPC:=ab zB;have HND:=ab jw;have RZ:=ab RG;have R4:=ab hn;have hHs:=hH.symm;clear hc jw RG bO RH zB aS r0 r1 WU hH hn;cases r with
 | none =>
  rw [show ((PZ none:Nat):Int)=0 from rfl] at HD
  go_enter func65,ntmps65;go_wp2_with fail;refine HD.out.mono ?_
  rintro e w1 ⟨rfl,fP,fs⟩;have bQ:=ai w1 (.cells #[.nilIface] 32);have HE:Hid ((∃ v,B.au (w1.alloc (.cells #[.nilIface] 32)) pc #[v] 69∧uV (w1.alloc (.cells #[.nilIface] 32)) w.heap.size v (eJ none))∧Dv base A db F d (w1.alloc (.cells #[.nilIface] 32))∧Mv db F w0 (w1.alloc (.cells #[.nilIface] 32))):=by
   obtain ⟨h1,h2,h3,h4,h5,h6,h7⟩:=HR.out;have jB:=HC.out.dv.Hr;have zB:=HPC.out;have h8:B.au w1 pc #[.slice none 0 0] 69:=(fs.one.block pc (by omega) (by omega)).trans h3
   exact ⟨⟨_,h8.below bQ,uV.nil _ _⟩,fP.below bQ,((Mv.of jW.out).trans fs).trans (Mv.of bQ)⟩
  clear fP fs HD bQ;go_wp2;go_ret;exact ⟨rfl,HE.out⟩
 | some y =>
  obtain ⟨h,t⟩:=y;have vl:h+1≤64:=ld HC.out.ok R4.out;have hh1:¬ ((PZ (some ⟨h,t⟩):Nat):Int)=0:=by show ¬ ((h+1:Nat):Int)=0;omega
  have hhe:((PZ (some ⟨h,t⟩):Nat):Int)=(h:Int)+1:=by show ((h+1:Nat):Int)=_;omega
  rw [hhe] at HD hh1;go_enter func65,ntmps65;go_wp2_with fail;refine HD.out.mono ?_
  rintro e w1 ⟨rfl,fP,fs⟩;obtain ⟨h1,h2,h3,h4,h5,h6,h7⟩:=HR.out;have jB:=HC.out.dv.Hr;have zB:=HPC.out;have Eh:=fs.size;have bE:∀ {k:Nat} {cs:Array Value} {T:TypeId},w0.heap.size≤k→B.au W2 k cs T→B.au w1 k cs T:=fun {k cs T} hk hr=>(fs.one.block k hr.lt (by omega)).trans hr
  have u0:=bE h6 h1;have u1:=bE (by omega) h2
  have u2:=bE zB h3;have Wz:Mv db F w0 w1:=(Mv.of jW.out).trans fs;obtain ⟨rv,ht,hr⟩:=HC.out.tr;obtain ⟨p,zA,hk⟩ : ∃ p:C.Ch,rv=p.val∧ew (cM d) w0 h p t:=by
   rcases hr with ⟨_,he⟩ | ⟨p,h',t',rfl,he,hk⟩
   ·cases he
   ·cases he;exact ⟨p,rfl,hk⟩
  subst zA;obtain ⟨vt,vx,iV⟩:=bP p;obtain ⟨K,hK⟩ : ∃ K,w1.heap.size=K:=⟨_,rfl⟩;obtain ⟨W9,hW9⟩ : ∃ W9,(((w1.alloc (.cells #[.nilIface] 32)).alloc (.map #[] 0)).alloc (.cells #[.map (some (K+1))] 166)).alloc (.cells #[.nilFunc] 176)=W9:=⟨_,rfl⟩;obtain ⟨Js,s9,r4,r6,r7,r8⟩:=LI w1 W9 _ _ _ _ _ _ hW9;rw [hK] at s9 r4 r6 r7 r8;have q8:W9.cell? ⟨K+1+1+1,0,none⟩=some .nilFunc:=r8.cell 0 (by simp)
  have f8:W9.frozen? ⟨K+1+1+1,0,none⟩=false:=by unfold B.au at r8;simp [World.frozen?,r8]
  obtain ⟨W,hW⟩ : ∃ W,W9.setCell ⟨K+1+1+1,0,none⟩ (.func (.func 103) #[] #[.pointer (some ⟨K+1+1,0,none⟩),.pointer (some ⟨K,0,none⟩),.pointer (some ⟨H+1,0,none⟩),.pointer (some ⟨H,0,none⟩),.pointer (some ⟨K+1+1+1,0,none⟩)])=W:=⟨_,rfl⟩;have dE:=bJ.set (K+1+1+1) 0 W9 (.func (.func 103) #[] #[.pointer (some ⟨K+1+1,0,none⟩),.pointer (some ⟨K,0,none⟩),.pointer (some ⟨H+1,0,none⟩),.pointer (some ⟨H,0,none⟩),.pointer (some ⟨K+1+1+1,0,none⟩)]);rw [hW] at dE;have Jr:Below w1.heap.size w1 W:=⟨dE.os.trans Js.os,dE.tape.trans Js.tape,dE.output.trans Js.output,ar Js.size dE.size,fun k hk=>(dE.block k (by have:=Js.size;omega) (by omega)).trans (Js.block k hk)⟩
  have To:∀ {k:Nat} {cs:Array Value} {T:TypeId},k<K+1+1+1→B.au W9 k cs T→B.au W k cs T:=fun {k cs T} hk hr=>(dE.block k (by omega) (by omega)).trans hr
  have v0:=u0.below Jr;have v1:=u1.below Jr;have v2:=u2.below Jr;have v4:=To (by omega) r4
  have v6:W.heap[K+1]?=some (.map #[] 0):=(dE.block _ (by omega) (by omega)).trans r6
  have v7:=To (by omega) r7
  have v8:B.au W (K+1+1+1) #[.func (.func 103) #[] #[.pointer (some ⟨K+1+1,0,none⟩),.pointer (some ⟨K,0,none⟩),.pointer (some ⟨H+1,0,none⟩),.pointer (some ⟨H,0,none⟩),.pointer (some ⟨K+1+1+1,0,none⟩)]] 176:=hW▸rj r8 _;have hVS:Vs base A db F d w0 tb ⟨K+1+1,K+1,K,H+1,H,K+1+1+1,pc⟩ (K+1+1+1+1) W (.slice none 0 0) [] []:=by
   refine ⟨fP.below Jr,Wz.trans (Mv.of Jr),v7.cell 0 (by simp),v1.cell 0 (by simp),v0.cell 0 (by simp),v8.cell 0 (by simp),v4,v2,uV.nil _ _,Met.made v6,by simp,?_,?_,?_,jB,?_⟩
   ·intro b hb;simp only [dP,dA,or_false] at hb;omega
   ·intro b hb;simp only [dP,dA,or_false] at hb;show b≠K∧b≠pc
    omega
   ·show K≠pc
    omega
   ·have:=dE.size;omega
  have XJ:Hid (∀ W',Below W.heap.size W W'→Calls prog 103 #[p.val,.string ⟨#[]⟩,.int .i64 ((h:Int)+1),.pointer (some ⟨K+1+1,0,none⟩),.pointer (some ⟨K,0,none⟩),.pointer (some ⟨H+1,0,none⟩),.pointer (some ⟨H,0,none⟩),.pointer (some ⟨K+1+1+1,0,none⟩)] W' fun e w'=>e = .returned (.bool true)∧(∃ v',Vs base A db F d w0 tb ⟨K+1+1,K+1,K,H+1,H,K+1+1+1,pc⟩ (K+1+1+1+1) w' v' ([]++dG h t) ([]++dG h t))∧cW W' w'):=fun W' Yb=>zV HC.out.dv ht h (by omega) p t ⟨#[]⟩ W' _ [] [] hk (jI HC.out.ok) (hVS.below Yb) HND.out (fun _ _ h=>by simp at h) (by have h9:(dG h t).length<1099511627776:=RZ.out;simpa using h9) (by have h9:(dG h t).length<1099511627776:=RZ.out;simpa using h9)
  have Ba:Hid (∀ W',Mv db F w0 W'→W'.cell? ⟨tb,1,none⟩=some p.val):=fun W' hm=>(ed (hm.cH HC.out.dv) ht).c1
  have m4:W.cell? ⟨tb,1,none⟩=some (.iface vt vx):=by rw [← iV];exact Ba.out W (Wz.trans (Mv.of Jr))
  rw [iV] at XJ Ba;have m0:W.cell? ⟨H,0,none⟩=some (.pointer (some ⟨tb,0,none⟩)):=v0.cell 0 (by simp)
  have m8:W.cell? ⟨K+1+1+1,0,none⟩=some (.func (.func 103) #[] #[.pointer (some ⟨K+1+1,0,none⟩),.pointer (some ⟨K,0,none⟩),.pointer (some ⟨H+1,0,none⟩),.pointer (some ⟨H,0,none⟩),.pointer (some ⟨K+1+1+1,0,none⟩)]):=v8.cell 0 (by simp)
  have wj:Hid (w.heap.size≤K+1+1+1+1):=by show _≤_;omega
  clear fP fs h1 h2 h3 h4 h5 h6 h7 jB zB Eh bE u0 u1 u2 Wz ht hr hk iV Js s9 r4 r6 r7 r8 dE Jr To v0 v1 v2 v4 v6 v7 v8 hVS HD HR;go_wp2_with fail;go_region_held3 (fun w'=>w'.cell? ⟨H,0,none⟩=some (.pointer (some ⟨tb,0,none⟩))∧w'.cell? ⟨K+1+1+1,0,none⟩=some (.func (.func 103) #[] #[.pointer (some ⟨K+1+1,0,none⟩),.pointer (some ⟨K,0,none⟩),.pointer (some ⟨H+1,0,none⟩),.pointer (some ⟨H,0,none⟩),.pointer (some ⟨K+1+1+1,0,none⟩)])∧w'.cell? ⟨tb,1,none⟩=some (.iface vt vx)) (go_keep)
   (first
    | (go_at_call 103;refine (XJ.out _ (by first | exact Below.refl _ _ | exact B.aK (Below.refl _ _))).mono ?_;rintro e w2 ⟨rfl,⟨v',pO⟩,-⟩;have Ru:=ab pO;have n0:w2.cell? ⟨H,0,none⟩=some (.pointer (some ⟨tb,0,none⟩)):=pO.ct;have n8:w2.cell? ⟨K+1+1+1,0,none⟩=some (.func (.func 103) #[] #[.pointer (some ⟨K+1+1,0,none⟩),.pointer (some ⟨K,0,none⟩),.pointer (some ⟨H+1,0,none⟩),.pointer (some ⟨H,0,none⟩),.pointer (some ⟨K+1+1+1,0,none⟩)]):=pO.cv;have n4:=Ba.out _ pO.mv;have kf:w2.cell? ⟨K,0,none⟩=some .nilIface:=pO.cf.cell 0 (by simp);clear pO))
  have HE:Hid ((∃ v,B.au w2 pc #[v] 69∧uV w2 w.heap.size v (eJ (some ⟨h,t⟩)))∧Dv base A db F d w2∧Mv db F w0 w2):=⟨⟨v',Ru.out.row,Ru.out.ps.lower wj.out⟩,Ru.out.dv,Ru.out.mv⟩;clear Ru XJ n0 n8 n4 m0 m8 m4 Ba hW hW9 q8 f8;go_wp2;go_ret;exact ⟨rfl,HE.out⟩
end
open Go.Sort
theorem Pq(w:World):Calls prog 136 #[.slice none 0 0,.int .i64 0,.int .i64 0] w fun e w'=>e = .returned (.tuple #[])∧w=w':=by
 go_enter func136,ntmps136;go_wp2;refine wp_loop_rounds 1 ?_
 rw [rounds_succ];go_wp2;go_end0
 exact ⟨rfl,rfl⟩
theorem SJ(n:Int)(w:World):Calls prog 105 #[.slice none 0 0,.int .i64 0,.int .i64 0,.int .i64 n] w fun e w'=>e = .returned (.tuple #[])∧w=w':=by
 have HI:=ab (Pq w);go_enter func105,ntmps105;go_wp2_with fail;refine wp_loop_rounds 1 ?_
 rw [rounds_succ];go_wp2_with fail;refine HI.out.mono ?_
 rintro e w1 ⟨rfl,rfl⟩;go_wp2;refine bodyPost_ret (results_none rfl _ _ _) rfl ?_
 exact ⟨rfl,rfl⟩
theorem Mn(w:World):Calls prog 106 #[.int .u64 0] w fun e w'=>(∃ n,e = .returned (.int .i64 n))∧w=w':=by
 have HL:=ab (sZ 0 w (by decide))
 rw [show ((0:Nat):Int)=0 from rfl] at HL
 go_enter func106,ntmps106;go_wp2_with fail;refine HL.out.mono ?_
 rintro e w1 ⟨rfl,rfl⟩;go_wp2;go_ret;exact ⟨⟨_,rfl⟩,rfl⟩
theorem NU(w:World):Calls prog 68 #[.slice none 0 0] w fun e w'=>e = .returned (.tuple #[])∧w=w':=by
 have HL:=ab (Mn w);go_enter func68,ntmps68;go_wp2_with fail;refine HL.out.mono ?_
 rintro e w1 ⟨⟨n,rfl⟩,rfl⟩;go_wp2_with fail;refine (SJ n w).mono ?_
 rintro e w1 ⟨rfl,rfl⟩;go_wp2;go_end0
 exact ⟨rfl,rfl⟩
def uY(l:List Nat):List Int:=(l.map fun n:Nat=>(n:Int)).mergeSort fun x y=>decide (x≤y)
theorem Kn(l:List Nat):(uY l).Perm (l.map fun n:Nat=>(n:Int)):=List.mergeSort_perm _ _
theorem Sn{w:World}{lo:Nat}{v:Value}{l:List Nat}(h:uV w lo v l)(hl:l.length<4611686018427387904):Calls prog 68 #[v] w fun e w'=>e = .returned (.tuple #[])∧w'.ownsRow lo 3 1 v l.length ((uY l).map (Value.int .i64))∧w.grownBy w' v.ownBlock:=by
 have aF:=h.1;rcases h.1.2 with ⟨rfl,h0⟩ | ⟨g,gc,cur,rfl,dx,hb,h1,h2,h3,h4⟩
 ·refine (NU w).mono ?_
  rintro e w' ⟨rfl,rfl⟩;have RL:l=[]:=List.length_eq_zero_iff.1 h0;subst RL;exact ⟨rfl,by show w.ownsRow lo 3 1 (.slice none 0 0) 0 ((uY []).map (Value.int .i64));rw [show uY []=[] by simp [uY]];exact World.ownsRow_nil _ _ _ _,⟨rfl,rfl,rfl,aj _,fun _ _ _=>rfl⟩⟩
 ·obtain ⟨zs,GV⟩ : ∃ zs,zs=l.map fun n:Nat=>(n:Int):=⟨_,rfl⟩
  have hzl:zs.length=l.length:=by rw [GV,az]
  have hH:Holds (Value.int .i64) w g 0 zs.toArray:=holds_of_blockI hb (by rw [hzl,GV,eO];have h4':=h4;simp only [Nat.mul_one] at h4';exact h4')
  have yj:g<w.heap.size:=(Array.getElem?_eq_some_iff.1 hb).1;have hc:=B.Aa g gc zs w hH yj (by omega)
  rw [hzl] at hc;refine hc.mono ?_
  rintro e w' ⟨rfl,q,os,rfl⟩;have Lh:uY l=zs.mergeSort fun x y=>decide (x≤y):=by rw [GV];rfl
  rw [Lh];refine ⟨rfl,?_,grownBy_sortedI _⟩;have:=ownsRow_sortedI (w:=w) (base:=lo) (n:=q) (os:=os) (ss:=zs) (ts:=zs.mergeSort fun x y=>decide (x≤y)) (by rw [List.length_mergeSort]) dx hb (by omega) h2 h3
  rwa [hzl] at this
end T
end Go.Proofs.YtihmgigfkmofnaaGreatDoor
namespace Go.Proofs.YtihmgigfkmofnaaGreatDoor
namespace T
open Go.RowKit
section
variable {base:Nat} {A:Nat→Addr} {db:Nat} {F:Nat→Prop} {d:S.V.bw} {W0:World} {r:cC}
theorem DB{w:World}{tb:Nat}(hc:Ts base A db F d W0 w tb r)(hn:(aD r).length≤4611686018427387904)(jw:(eJ r).Nodup)(RG:(eJ r).length<1099511627776):Calls prog 27 #[.pointer (some ⟨tb,0,none⟩)] w fun e w'=>(∃ v,e = .returned (.tuple #[v,.nilIface])∧w'.ownsRow w.heap.size 3 1 v (eJ r).length ((uY (eJ r)).map (Value.int .i64)))∧Dv base A db F d w'∧Mv db F w w':=by
 obtain ⟨W1,gL⟩ : ∃ W1,w.alloc (.cells #[.slice none 0 0] 69)=W1:=⟨_,rfl⟩;obtain ⟨H,hH⟩ : ∃ H,w.heap.size=H:=⟨_,rfl⟩;have aM:Below w.heap.size w W1:=gL▸ai w _;have r1:B.au W1 w.heap.size #[.slice none 0 0] 69:=gL▸B.au.new w _ _;have s1:W1.heap.size=w.heap.size+1:=by rw [← gL];simp
 have HG:=ab (BY hc hn jw RG aM r1 (aj _));rw [hH] at HG;have HC:=ab hc;have mh:Hid (W1.heap.size=H+1):=by show _=_;omega
 have RZ:=ab RG;clear hc hn jw RG r1 aM s1;go_enter func27,ntmps27;go_wp2_with fail;refine HG.out.mono ?_
 rintro e w2 ⟨rfl,⟨v,bE,kt⟩,kD,kO⟩;have k2:w2.cell? ⟨H,0,none⟩=some v:=bE.cell 0 (by simp)
 obtain ⟨a,c,kq⟩:=kt.form;have HSO:=ab (Sn kt (by have:=RZ.out;omega))
 have oT:=ab bE;have Yq:=ab kt;have tT:=ab kD;have vw:=ab kO;have HF:Hid (∀ w3,w2.grownBy w3 v.ownBlock→w3.cell? ⟨H,0,none⟩=some v∧Dv base A db F d w3∧Mv db F w w3):=fun w3 hg=>by
  have h1:=mh.out;have fQ:∀ k,k<W1.heap.size→some k≠v.ownBlock:=fun k hk e=>by
   have:=(kt.dF e.symm).1;omega
  have jx:B.au w3 H #[v] 69:=(hg.block H bE.lt (fQ _ (by omega))).trans bE
  have b8:w.heap.size≤w2.heap.size:=kO.size;have nV:Below w.heap.size w2 w3:=⟨hg.os,hg.tape,hg.output,hg.size,fun k hk=>hg.block k (by omega) (fQ k (by omega))⟩
  exact ⟨jx.cell 0 (by simp),kD.grown nV kO HC.out.dv⟩
 have wj:Hid (w.heap.size≤W1.heap.size):=by have h1:=mh.out;show _≤_;omega
 subst kq;clear bE kt kD kO HG;go_wp2_with fail;refine HSO.out.mono ?_
 rintro e w3 ⟨rfl,lF,Ve⟩;obtain ⟨k3,yV,sA⟩:=HF.out w3 Ve;have HE:Hid (w3.ownsRow w.heap.size 3 1 (.slice a (eJ r).length c) (eJ r).length ((uY (eJ r)).map (Value.int .i64))∧Dv base A db F d w3∧Mv db F w w3):=by
  refine ⟨⟨lF.1,?_⟩,yV,sA⟩;rcases lF.2 with h' | ⟨g,cap,cur,h',h1,h2⟩
  ·exact .inl h'
  ·exact .inr ⟨g,cap,cur,h',ar wj.out h1,h2⟩
 clear lF Ve yV sA HSO HF;go_wp2;go_ret2;exact ⟨⟨_,rfl,HE.out.1⟩,HE.out.2⟩
end
theorem yt(key value:ByteArray)(w:World)(hk:key.size≤140737488355328)(hv:value.size≤140737488355328):Calls prog 29 #[.string key,.string value] w fun e w'=>e = .returned (.bool (cN (key,value)))∧w=w':=by
 have h1:cN (key,value)=decide (1≤key.size∧key.size≤255∧value.size≤700):=rfl;rw [h1];by_cases a1:1≤key.size
 ·by_cases a2:key.size≤255
  ·by_cases a3:value.size≤700
   ·have d1:decide ((key.size:Int)≥1)=true:=decide_eq_true (by omega)
    have d2:decide ((key.size:Int)≤255)=true:=decide_eq_true (by omega)
    have d3:decide ((value.size:Int)≤700)=true:=decide_eq_true (by omega)
    rw [decide_eq_true ⟨a1,a2,a3⟩];clear a1 a2 a3 h1 hk hv;go_enter func29,ntmps29;go_wp2;go_ret;exact ⟨rfl,rfl⟩
   ·have d1:decide ((key.size:Int)≥1)=true:=decide_eq_true (by omega)
    have d2:decide ((key.size:Int)≤255)=true:=decide_eq_true (by omega)
    have d3:decide ((value.size:Int)≤700)=false:=decide_eq_false (by omega)
    rw [decide_eq_false (fun h=>a3 h.2.2)]
    clear a1 a2 a3 h1 hk hv;go_enter func29,ntmps29;go_wp2;go_ret;exact ⟨rfl,rfl⟩
  ·have d1:decide ((key.size:Int)≥1)=true:=decide_eq_true (by omega)
   have d2:decide ((key.size:Int)≤255)=false:=decide_eq_false (by omega)
   rw [decide_eq_false (fun h=>a2 h.2.1)]
   clear a1 a2 h1 hk hv;go_enter func29,ntmps29;go_wp2;go_ret;exact ⟨rfl,rfl⟩
 ·have d1:decide ((key.size:Int)≥1)=false:=decide_eq_false (by omega)
  rw [decide_eq_false (fun h=>a1 h.1)]
  clear a1 h1 hk hv;go_enter func29,ntmps29;go_wp2;go_ret;exact ⟨rfl,rfl⟩
theorem mn(v:Value)(l:List Pr)(key:ByteArray)(w:World)(hm:l.length≤140737488355328)(hr:gM w v l):Calls prog 28 #[v,.string key] w fun e w'=>e = .returned (.tuple #[.int .i64 (aP l key:Int),.bool (bg l key)])∧∃ k,w'=w.drewN k:=by
 obtain ⟨a,cap,rfl,cT,_,hc⟩:=hr;have HC:=ab hc;obtain ⟨n,hn⟩ : ∃ n,n=l.length:=⟨_,rfl⟩;rw [← hn] at hm ⊢;have HN:=ab hn;obtain ⟨Q,hQ⟩ : ∃ Q:Ending→World→Prop,Q=fun e w'=>e = .returned (.tuple #[.int .i64 (aP l key:Int),.bool (bg l key)])∧∃ k,w'=w.drewN k:=⟨_,rfl⟩
 rw [← hQ];have HQ:=ab hQ;clear hc hn cT hQ;go_enter func28,ntmps28;go_wp2;go_loopw [6] (fun i wr=>∃ k:Nat,k≤n∧i = .int .i64 k∧(∀ j (h:j<l.length),j<k→cQ l[j].1 key=true)∧w=wr) (fun i _=>n - (intOf i).toNat)
 case atStart=>exact ⟨0,aB _,rfl,fun j _ h=>absurd h (iA _),rfl⟩
 case round =>
  obtain ⟨k,hk,rfl,jm,rfl⟩:=hrel;have HP:=ab jm;clear jm;by_cases bK:k<n
  ·have de:k<l.length:=by have:=HN.out;omega
   obtain ⟨g,o,rfl,c1,c2⟩:=HC.out k de;have pT:Hid (cQ l[k].1 key=true→∀ j (h:j<l.length),j<k+1→cQ l[j].1 key=true):=fun hl j h hj=>by
    by_cases he:j=k
    ·subst he;exact hl
    ·exact HP.out j h (by omega)
   have vA:Hid (cQ l[k].1 key=false→aP l key=k):=fun hl=>rX de (fun j hj=>HP.out j (by omega) hj) hl
   have JR:Hid (aP l key=k→bg l key=decide (l[k].1=key)):=fun h=>by subst h;exact pB de
   obtain ⟨p,hp⟩ : ∃ p,p=l[k]:=⟨_,rfl⟩;rw [← hp] at c1 c2 pT vA JR;have dK:(k:Int)<(n:Int):=by omega
   have j0:(0:Int)≤(k:Int):=by omega
   clear hp HC;cases hb:cQ p.1 key with
   | true =>
    have tV:=ab (pT.out hb);have aS:Op.bytesLess p.1.toList key.toList=true:=hb;clear hb pT vA JR c2;go_wp2;go_roundw
    case rel=>exact ⟨k+1,by omega,by go_num,tV.out,by first | trivial | rfl⟩
    case measure=>simp [intOf];omega
   | false =>
    have Io:=ab (vA.out hb);have ae8:=ab (JR.out Io.out);have aS:Op.bytesLess p.1.toList key.toList=false:=hb;clear hb pT vA JR c2;go_wp2;go_quiet (fail)
    go_wp2;rw [HQ.out,Io.out,ae8.out,← oP];exact ⟨rfl,_,rfl⟩
  ·have dK:¬ (k:Int)<(n:Int):=by omega
   have kL:Hid (aP l key=n∧bg l key=false):=by
    have h:=qH (l:=l) (key:=key) (fun j hj=>HP.out j hj (by have:=HN.out;omega))
    have h2:=oL (l:=l) (key:=key) (by omega)
    have:=HN.out;exact ⟨by omega,h2⟩
   clear HC HP;go_wp2;rw [HQ.out,kL.out.1,kL.out.2];exact ⟨rfl,0,rfl⟩
theorem ir.take_len(l:List Pr)(key:ByteArray):([] : List Pr).length+(l.take (aP l key)).length=aP l key:=by
 have:=cD l key;rw [ag,a6 this];simp
theorem Lf(v:Value)(l:List Pr)(key value:ByteArray)(w:World)(hm:l.length≤4398046511000)(hr:gM w v l):Calls prog 40 #[v,.string key,.string value] w fun e w'=>∃ u,e = .returned u∧ir w' w.heap.size u (fu l key value)∧Below w.heap.size w w':=by
 have HF:=ab (mn v l key w (by omega) hr)
 have HR:=ab hr;obtain ⟨a,cap,hv⟩:=hr.form;subst hv;have gU:=cD l key;have jz:=jQ l key;have Tr:=eW l key;have cT:l.length≤cap:=by obtain ⟨_,_,he,h,_⟩:=hr;cases he;exact h
 have zu:=ir.take_len l key;have tu:(if bg l key then aP l key+1 else aP l key:Nat)=dd l key:=rfl
 have iC:Hid (fu l key value=(l.take (aP l key)++[(key,value)])++l.drop (dd l key)):=by show _=_;simp [fu]
 obtain ⟨q,hq⟩ : ∃ q,q=aP l key:=⟨_,rfl⟩;obtain ⟨r,vh⟩ : ∃ r,r=dd l key:=⟨_,rfl⟩;rw [← hq] at HF gU zu tu iC;rw [← vh] at jz tu iC;rw [← hq,← vh] at Tr;have vg:=fun W=>Kq W a l.length cap q (by omega)
 have Fz:∀ k,Hid (∃ a1 c1 w1 a2 c2 w2 a3 c3 w3 a4 n4 c4,(Builtin.append_ #[63,63] 63 #[.slice none 0 0,.slice a q cap]).run prog (w.drewN k) = .ok (.slice a1 q c1) w1∧(Builtin.append_ #[63,63] 63 #[.slice a1 q c1,.slice (some ⟨w1.heap.size,0,none⟩) 1 1]).run prog (w1.alloc (.cells #[.string key,.string value] 52)) = .ok (.slice a2 (q+1) c2) w2∧(∀ W,(Instr.sliceAt 63 (.slice a l.length cap) (some (.int .i64 (r:Int))) none none).run prog W = .ok (.slice a4 n4 c4) W)∧(Builtin.append_ #[63,63] 63 #[.slice a2 (q+1) c2,.slice a4 n4 c4]).run prog w2 = .ok (.slice a3 (q+1+(l.length - r)) c3) w3∧ir w3 w.heap.size (.slice a3 (q+1+(l.length - r)) c3) (fu l key value)∧Below w.heap.size w w3):=fun k=>by
  have lZ:Below w.heap.size w (w.drewN k):=aA (Below.refl _ _) k;have ZL:ir (w.drewN k) w.heap.size (.slice none 0 0) []:=ir.nil _ _;obtain ⟨a1,c1,w1,fU,kI,fO⟩:=gW w.heap.size _ (.slice a q cap) [] (l.take q) (w.drewN k) ZL ((hr.below lZ).take gU) (by rw [zu];omega) lZ.size
  rw [zu] at fU kI;rw [List.nil_append] at kI;have aM:Below w.heap.size w w1:=lZ.grown fO lZ.size (fun k hk=>(World.ownsRow.lt ZL k hk).1)
  obtain ⟨a2,c2,w2,iF,ja,aS,jv⟩:=Dq w.heap.size _ (l.take q) (key,value) 52 w1 w w.heap.size q (by rw [ag,a6 gU]) kI (by omega) aM.size (aj _) aM
  obtain ⟨a4,MY,Wo⟩:=(hr.below aS).drop jz;have WD:(l.take q++[(key,value)]).length+(l.drop r).length=q+1+(l.length - r):=by
   rw [ae,ag,a6 gU,ao];rfl
  obtain ⟨a3,c3,w3,pM,lF,Ve⟩:=gW w.heap.size _ _ _ (l.drop r) w2 ja MY (by rw [WD];omega) aS.size
  rw [WD] at pM lF;have bQ:Below w.heap.size w w3:=aS.grown Ve aS.size (fun k hk=>(World.ownsRow.lt ja k hk).1)
  exact ⟨a1,c1,w1,a2,c2,w2,a3,c3,w3,a4,_,_,fU,iF,Wo,pM,by rw [iC.out];exact lF,bQ⟩
 have vw:=ab Fz;have PF:(q:Int)≤4398046511000:=by omega
 clear Fz hr hq vh zu cT HR iC jz Tr;generalize bg l key=fb at *;go_enter func40,ntmps40;go_wp2_with fail;refine HF.out.mono ?_
 rintro e w' ⟨rfl,k,rfl⟩;obtain ⟨a1,c1,w1,a2,c2,w2,a3,c3,w3,a4,n4,c4,r1,r2,qC,r3,lF,bQ⟩:=(vw.out k).out;have R1:=ab r1;have R2:=ab r2;have R3:=ab r3;have HO:=ab lF;have HB:=ab bQ;clear r1 r2 r3 lF bQ vw HF;cases fb with
 | true =>
  have tu:q+1=r:=by simpa using tu
  subst tu;rw [eA,kA] at qC;go_wp2_with (first
   | (at_builtin;refine wpList_append_run 63 rfl (.tmp 16) (.tmp 19) rfl rfl _ _ rfl rfl _ _ R1.out ?_)
   | (at_builtin;refine wpList_append_run 63 rfl (.tmp 21) (.tmp 25) rfl rfl _ _ rfl rfl _ _ R2.out ?_)
   | (at_builtin;refine wpList_append_run 63 rfl (.tmp 30) (.tmp 33) rfl rfl _ _ rfl rfl _ _ R3.out ?_))
  go_ret;exact ⟨_,rfl,HO.out,HB.out⟩
 | false =>
  have tu:q=r:=by simpa using tu
  subst tu;go_wp2_with (first
   | (at_builtin;refine wpList_append_run 63 rfl (.tmp 16) (.tmp 19) rfl rfl _ _ rfl rfl _ _ R1.out ?_)
   | (at_builtin;refine wpList_append_run 63 rfl (.tmp 21) (.tmp 25) rfl rfl _ _ rfl rfl _ _ R2.out ?_)
   | (at_builtin;refine wpList_append_run 63 rfl (.tmp 30) (.tmp 33) rfl rfl _ _ rfl rfl _ _ R3.out ?_))
  go_ret;exact ⟨_,rfl,HO.out,HB.out⟩
theorem yv{l:List Pr}{key:ByteArray}(h:bg l key=false):fX l key=l:=by
 unfold fX dd;rw [h];simp
theorem BM(v:Value)(l:List Pr)(key:ByteArray)(w:World)(hm:l.length≤4398046511000)(hr:gM w v l):Calls prog 58 #[v,.string key] w fun e w'=>((bg l key=false∧e = .returned v)∨(bg l key=true∧∃ u,e = .returned u∧ir w' w.heap.size u (fX l key)))∧Below w.heap.size w w':=by
 have HF:=ab (mn v l key w (by omega) hr)
 have HR:=ab hr;obtain ⟨a,cap,hv⟩:=hr.form;subst hv;have gU:=cD l key;have jz:=jQ l key;have Tr:=eW l key;have cT:l.length≤cap:=by obtain ⟨_,_,he,h,_⟩:=hr;cases he;exact h
 have zu:=ir.take_len l key;have tu:(if bg l key then aP l key+1 else aP l key:Nat)=dd l key:=rfl
 have iC:Hid (fX l key=l.take (aP l key)++l.drop (dd l key)):=rfl;obtain ⟨q,hq⟩ : ∃ q,q=aP l key:=⟨_,rfl⟩;obtain ⟨r,vh⟩ : ∃ r,r=dd l key:=⟨_,rfl⟩;rw [← hq] at HF gU zu tu iC;rw [← vh] at jz tu iC;rw [← hq,← vh] at Tr;have vg:=fun W=>Kq W a l.length cap q (by omega)
 have Fz:∀ k,Hid (∃ a1 c1 w1 a3 c3 w3 a4 n4 c4,(Builtin.append_ #[63,63] 63 #[.slice none 0 0,.slice a q cap]).run prog (w.drewN k) = .ok (.slice a1 q c1) w1∧(∀ W,(Instr.sliceAt 63 (.slice a l.length cap) (some (.int .i64 (r:Int))) none none).run prog W = .ok (.slice a4 n4 c4) W)∧(Builtin.append_ #[63,63] 63 #[.slice a1 q c1,.slice a4 n4 c4]).run prog w1 = .ok (.slice a3 (q+(l.length - r)) c3) w3∧ir w3 w.heap.size (.slice a3 (q+(l.length - r)) c3) (fX l key)∧Below w.heap.size w w3):=fun k=>by
  have lZ:Below w.heap.size w (w.drewN k):=aA (Below.refl _ _) k;have ZL:ir (w.drewN k) w.heap.size (.slice none 0 0) []:=ir.nil _ _;obtain ⟨a1,c1,w1,fU,kI,fO⟩:=gW w.heap.size _ (.slice a q cap) [] (l.take q) (w.drewN k) ZL ((hr.below lZ).take gU) (by rw [zu];omega) lZ.size
  rw [zu] at fU kI;rw [List.nil_append] at kI;have aM:Below w.heap.size w w1:=lZ.grown fO lZ.size (fun k hk=>(World.ownsRow.lt ZL k hk).1)
  obtain ⟨a4,MY,Wo⟩:=(hr.below aM).drop jz;have WD:(l.take q).length+(l.drop r).length=q+(l.length - r):=by
   rw [ag,a6 gU,ao]
  obtain ⟨a3,c3,w3,pM,lF,Ve⟩:=gW w.heap.size _ _ _ (l.drop r) w1 kI MY (by rw [WD];omega) aM.size
  rw [WD] at pM lF;have bQ:Below w.heap.size w w3:=aM.grown Ve aM.size (fun k hk=>(World.ownsRow.lt kI k hk).1)
  exact ⟨a1,c1,w1,a3,c3,w3,a4,_,_,fU,Wo,pM,by rw [iC.out];exact lF,bQ⟩
 have vw:=ab Fz;have vz:=ab (fun k=>aA (Below.refl w.heap.size w) k)
 have PF:(q:Int)≤4398046511000:=by omega
 clear Fz hr hq vh zu cT HR iC jz Tr;generalize bg l key=fb at *;go_enter func58,ntmps58;go_wp2_with fail;refine HF.out.mono ?_
 rintro e w' ⟨rfl,k,rfl⟩;obtain ⟨a1,c1,w1,a3,c3,w3,a4,n4,c4,r1,qC,r3,lF,bQ⟩:=(vw.out k).out;have R1:=ab r1;have R3:=ab r3;have HO:=ab lF;have HB:=ab bQ;clear r1 r3 lF bQ vw HF;cases fb with
 | true =>
  have tu:q+1=r:=by simpa using tu
  subst tu;rw [eA,kA] at qC;go_wp2_with (first
   | (at_builtin;refine wpList_append_run 63 rfl (.tmp 17) (.tmp 20) rfl rfl _ _ rfl rfl _ _ R1.out ?_)
   | (at_builtin;refine wpList_append_run 63 rfl (.tmp 22) (.tmp 26) rfl rfl _ _ rfl rfl _ _ R3.out ?_))
  go_ret;exact ⟨⟨_,rfl,HO.out⟩,HB.out⟩
 | false =>
  go_wp2;go_ret;exact ⟨rfl,vz.out k⟩
theorem EY{α:Type}(f p:α→Nat):∀ (cs:List α),(∀ c ∈ cs,f c+1≤2*p c)→(cs.map f).sum+cs.length≤2*(cs.map p).sum
 | [],_=>by simp
 | c::cs,h=>by
  have h1:=h c (by simp)
  have h2:=EY f p cs fun x hx=>h x (by simp [hx])
  simp only [List.map_cons,qQ,List.length_cons];omega
def Md(h:Nat)(t:Nd h):Nat:=(dG h t).length+jc h t
theorem DD(n:Nat):(cY n).length+(if n=0 then 1 else 0)=1:=by
 unfold cY;split <;> simp
theorem ud{α:Type}(f g:α→Nat):∀ (cs:List α),(cs.map fun c=>f c+g c).sum=(cs.map f).sum+(cs.map g).sum
 | []=>by simp
 | c::cs=>by
  have h2:=ud f g cs;simp only [List.map_cons,qQ];omega
theorem EX:∀ (h:Nat) {t:Nd h},Re h t→Md h t+1≤2*(flat h t).length
 | 0,t,ho=>by
  have h1:t.2≠[]:=ho.2.2;have h2:=List.length_pos_iff.2 h1;have h3:=DD t.1;show (cY t.1).length+(if t.1=0 then 1 else 0)+1≤2*t.2.length
  omega
 | h+1,t,ho=>by
  obtain ⟨⟨lo,hi,cO⟩,_,h1⟩:=ho;have h1:t.2.1≠[]:=h1;have hl:=jV ((fA h t lo hi).1 cO);have hp:=List.length_pos_iff.2 h1;have hk:∀ c ∈ t.2.2,Md h c+1≤2*(flat h c).length:=fun c hc=>by
   obtain ⟨i,mz,rfl⟩:=aO hc;exact EX h (vH ⟨⟨lo,hi,cO⟩,by assumption,h1⟩ (af mz))
  have h2:=EY (Md h) (fun c=>(flat h c).length) t.2.2 hk
  have h3:(flat (h+1) t).length=(t.2.2.map fun c=>(flat h c).length).sum:=by
   show (t.2.2.flatMap (flat h)).length=_
   rw [List.length_flatMap]
  have h4:(t.2.2.flatMap (dG h)).length=(t.2.2.map fun c=>(dG h c).length).sum:=List.length_flatMap
  have h5:(t.2.2.map (Md h)).sum=(t.2.2.map fun c=>(dG h c).length).sum+(t.2.2.map (jc h)).sum:=ud _ _ _
  have h6:(dG (h+1) t).length=(cY t.1).length+(t.2.2.flatMap (dG h)).length:=by
   show (cY t.1++t.2.2.flatMap (dG h)).length=_
   rw [ae]
  have h7:jc (h+1) t=if t.1=0 then (t.2.2.map (jc h)).sum+1 else 0:=rfl
  have h8:=DD t.1;unfold Md;rw [h3,h6,h7];split at h8
  ·rename_i e;rw [if_pos e];omega
  ·rename_i e;rw [if_neg e];omega
theorem kj{r:cC}(h:fc r):(eJ r).length+dO r≤2*(aD r).length:=by
 cases r with
 | none=>exact aj _
 | some x =>
  have:=EX x.1 (t:=x.2) ⟨⟨none,none,h.1⟩,h.2.1,h.2.2⟩;unfold Md at this;show (dG x.1 x.2).length+jc x.1 x.2≤2*(flat x.1 x.2).length
  omega
theorem Jy(T:Nat→Bool)(i:Nat):∀ n,(Q.dU T n).length≤(Q.dU (Q.lE T i true) n).length+(if i<n then 1 else 0)
 | 0=>by simp [Q.dU]
 | n+1=>by
  have h:=Jy T i n;show (Q.dU T n++(if T n then [] else [n])).length≤(Q.dU (Q.lE T i true) n++(if Q.lE T i true n then [] else [n])).length+_
  rw [ae,ae];by_cases e:n=i
  ·subst e;have h1:((if T n then [] else [n] : List Nat)).length≤1:=by split <;> simp
   rw [if_neg (Nat.lt_irrefl _)] at h;rw [if_pos (Nat.lt_succ_self _)];omega
  ·have h1:Q.lE T i true n=T n:=by simp [Q.lE,e]
   rw [h1];by_cases h2:i<n
   ·have e1:(if i<n+1 then 1 else 0:Nat)=1:=if_pos (by omega)
    rw [if_pos h2] at h;rw [e1];omega
   ·have e1:(if i<n+1 then 1 else 0:Nat)=0:=if_neg (by omega)
    rw [if_neg h2] at h;rw [e1];omega
def iS(T:Nat→Bool)(L:List Nat):Nat→Bool:=L.foldl (fun T i=>Q.lE T i true) T
theorem KV(L:List Nat):∀ (T:Nat→Bool) (n:Nat),(Q.dU T n).length≤(Q.dU (iS T L) n).length+L.length:=by
 induction L with
 | nil=>intro T n;exact aj _
 | cons i L ih =>
  intro T n;have h1:=Jy T i n;have h2:=ih (Q.lE T i true) n;show _≤(Q.dU (iS (Q.lE T i true) L) n).length+(L.length+1)
  split at h1 <;> omega
theorem ox(L:List Nat):∀ (T:Nat→Bool) (j:Nat),iS T L j=(T j || decide (j ∈ L)):=by
 induction L with
 | nil=>intro T j;simp [iS]
 | cons i L ih =>
  intro T j;show iS (Q.lE T i true) L j=_
  rw [ih];by_cases e:j=i
  ·subst e;simp [Q.lE]
  ·have h1:Q.lE T i true j=T j:=by simp [Q.lE,e]
   rw [h1];simp [e]
theorem OV{PP:Nat}{T:Nat→Bool}(h:Q.kn PP T)(L:List Nat):Q.kn PP (iS T L):=⟨h.lo,h.hi,by rw [ox,h.t0];rfl,by rw [ox,h.t1];rfl,fun j hj=>by rw [ox,h.up j hj];rfl⟩
theorem Bj:∀ n,n+2≤4000→(Q.dU (Q.T0 4000) (n+2)).length=n
 | 0,_=>by decide
 | n+1,h=>by
  have ih:=Bj n (by omega)
  show (Q.dU (Q.T0 4000) (n+2)++(if Q.T0 4000 (n+2) then [] else [n+2])).length=n+1
  have e:Q.T0 4000 (n+2)=false:=by
   simp [Q.T0];omega
  rw [e,ae,ih];rfl
end T
end Go.Proofs.YtihmgigfkmofnaaGreatDoor
