import Derived.Test.YtihmgigfkmofnaaGreatDoorG36
set_option maxHeartbeats 4000000
set_option maxRecDepth 100000
open Go.Proofs.Tryz
namespace Go.Proofs.YtihmgigfkmofnaaGreatDoor
namespace T
open Go.RowKit
attribute [local go_sem ↓] Go.wp_at_zero Go.wp_at_succ
theorem Is{d:S.V.bq}{Pk:SN→Nat→Prop}{w:World}:∀ {ss:List (eT XT)} {x y:XT},Way (de d) Pk w x ss y→ss.length+y.1=x.1
 | [],_,_,h=>by
  have h:_=_:=h;subst h;simp
 | s::ss,x,y,⟨_,_,_,_,_,z,h6,h7⟩=>by
  have ih:=Is h7;obtain ⟨h,t⟩:=x;cases h with
  | zero=>exact (h6:False).elim
  | succ h =>
   obtain ⟨c,_,rfl⟩:=h6;have ih:ss.length+y.1=h:=ih;show ss.length+1+y.1=h+1
   omega
def PE:cQ→Nat
 | none=>0
 | some x=>x.1+1
section
variable {base:Nat} {A:Nat→Addr} {db:Nat} {F:Nat→Prop} {d:S.V.bq} {W0:World} {r:cQ}
theorem wA{w w1:World}{tb:Nat}(hc:Ts base A db F d W0 w tb r)(hn:(aC r).length≤4611686018427387904)(hb:Below w.heap.size w w1):Calls prog 54 #[.pointer (some ⟨tb,0,none⟩),.func (.func 57) #[] #[]] w1 fun e w'=>(∃ a c,e = .returned (.tuple #[.slice a (PE r) c,.nilIface]))∧Dv base A db F d w'∧Mv db F w w':=by
 obtain ⟨rv,ht,hr⟩:=hc.tr;have hv:=hc.dv.below hb;have hm:Mv db F w w1:=Mv.of hb;rcases hr with ⟨rfl,rfl⟩ | ⟨p,h,t,rfl,rfl,hk⟩
 ·refine (wC _ ⟨_,_,_,rfl⟩ tb _ w1 (ht.below hb)).mono fun e w' ⟨he,hw⟩=>?_
  subst hw;exact ⟨⟨_,_,he⟩,hv,hm⟩
 ·refine (JV (de d) (fun _ q=>q=0) (fun _=>True) (fun _ _ _ h=>h) p ⟨h,t⟩ tb w w1 ⟨hk.bU (cM.of hb),jM hc.ok⟩ (ht.below hb) hv hm hc.dv trivial (.inr (lu hc.ok hn)) (fun W b n pv lv cv y _ hs hn xV=>?_)).mono fun e w' ⟨h1,h2,h3⟩=>⟨?_,h2,h3⟩
  ·exact (F9 n lv W).mono fun e w' ⟨he,hb⟩=>⟨0,he,rfl,by omega,hb⟩
  ·rcases h1 with ⟨hE,_⟩ | ⟨ss,s,a,c,he,ho,hw,⟨_,hn⟩,h0,sk,hl⟩
   ·exact (hE:False).elim
   ·have hx:=Is hw;obtain ⟨b,n,i,⟨hh,t'⟩⟩:=s;cases hh with
    | zero =>
     have hx:ss.length+0=h:=hx;simp only [List.length_nil,Nat.zero_add] at he;exact ⟨a,c,by rw [he];show _=Ending.returned (.tuple #[.slice a (h+1) c,.nilIface]);rw [← hx]⟩
    | succ h'=>exact absurd (List.length_eq_zero_iff.1 h0) hn.1.2.1
theorem ER{w w1:World}{tb:Nat}(hc:Ts base A db F d W0 w tb r)(hn:(aC r).length≤4611686018427387904)(hb:Below w.heap.size w w1):Calls prog 19 #[.pointer (some ⟨tb,0,none⟩)] w1 fun e w'=>e = .returned (.tuple #[.int .i64 (PE r:Int),.nilIface])∧Dv base A db F d w'∧Mv db F w w':=by
 have HW:=ab (wA hc hn hb);clear hc;go_enter func19,ntmps19;go_wp2_with fail;refine HW.out.mono ?_
 rintro e w1 ⟨⟨a,c,rfl⟩,dX,eo⟩;have HE:Hid (Dv base A db F d w1∧Mv db F w w1):=⟨dX,eo⟩;clear dX eo HW;go_wp2;go_ret2;exact ⟨rfl,HE.out⟩
theorem zW{rv:Value}{w0:World}{tb:Nat}{x:Bv}{lo:Nat}(gi:Dv base A db F d w0)(GW:B.ax w0 tb #[.pointer (some ⟨db,0,none⟩),rv] 100):∀ h,h≤1000→QS base A db F d w0 tb x lo h
 | 0,_=>F4 gi
 | h+1,hh=>Bd (by omega) (zW gi GW h (by omega)) gi GW
theorem Nq(w W:World)(a b:Value)(TA TB:TypeId)(hW:(w.alloc (.cells #[a] TA)).alloc (.cells #[b] TB)=W):Below w.heap.size w W∧W.heap.size=w.heap.size+1+1∧B.ax W w.heap.size #[a] TA∧B.ax W (w.heap.size+1) #[b] TB:=by
 obtain ⟨W1,h1⟩ : ∃ W1,W1=w.alloc (.cells #[a] TA):=⟨_,rfl⟩;rw [← h1] at hW;have s1:W1.heap.size=w.heap.size+1:=by rw [h1];simp
 have b1:Below w.heap.size w W1:=h1▸ai w _;have b2:Below W1.heap.size W1 W:=hW▸ai W1 _;have r1:B.ax W1 w.heap.size #[a] TA:=h1▸B.ax.new w _ _;have r2:B.ax W W1.heap.size #[b] TB:=hW▸B.ax.new W1 _ _;rw [s1] at r2;exact ⟨Below.next b1 b2,by rw [← hW,← s1];simp,r1.below b2,r2⟩
theorem Lx(w W:World)(a c e:Value)(TA TC TE:TypeId)(hW:(((w.alloc (.cells #[a] TA)).alloc (.map #[] 0)).alloc (.cells #[c] TC)).alloc (.cells #[e] TE)=W):Below w.heap.size w W∧W.heap.size=w.heap.size+1+1+1+1∧B.ax W w.heap.size #[a] TA∧W.heap[w.heap.size+1]?=some (.map #[] 0)∧B.ax W (w.heap.size+1+1) #[c] TC∧B.ax W (w.heap.size+1+1+1) #[e] TE:=by
 obtain ⟨W1,h1⟩ : ∃ W1,W1=w.alloc (.cells #[a] TA):=⟨_,rfl⟩;obtain ⟨W2,h2⟩ : ∃ W2,W2=W1.alloc (.map #[] 0):=⟨_,rfl⟩;obtain ⟨W3,h3⟩ : ∃ W3,W3=W2.alloc (.cells #[c] TC):=⟨_,rfl⟩;rw [← h1,← h2,← h3] at hW;have s1:W1.heap.size=w.heap.size+1:=by rw [h1];simp
 have s2:W2.heap.size=w.heap.size+1+1:=by rw [h2,← s1];simp
 have s3:W3.heap.size=w.heap.size+1+1+1:=by rw [h3,← s2];simp
 have b1:Below w.heap.size w W1:=h1▸ai w _;have b2:Below W1.heap.size W1 W2:=h2▸ai W1 _;have b3:Below W2.heap.size W2 W3:=h3▸ai W2 _;have b4:Below W3.heap.size W3 W:=hW▸ai W3 _;have r1:B.ax W1 w.heap.size #[a] TA:=h1▸B.ax.new w _ _;have r2:W2.heap[W1.heap.size]?=some (.map #[] 0):=h2▸heap_alloc_new W1 _;have r3:B.ax W3 W2.heap.size #[c] TC:=h3▸B.ax.new W2 _ _;have r4:B.ax W W3.heap.size #[e] TE:=hW▸B.ax.new W3 _ _;have e2:W.heap[W1.heap.size]?=some (.map #[] 0):=(b4.block _ (by omega)).trans ((b3.block _ (by omega)).trans r2)
 rw [s1] at e2;rw [s2] at r3;rw [s3] at r4;exact ⟨Below.next (Below.next (Below.next b1 b2) b3) b4,by rw [← hW,← s3];simp,((r1.below b2).below b3).below b4,e2,r3.below b4,r4⟩
end
attribute [local go_sem ↓] Go.wp_at_zero Go.wp_at_succ
theorem vi.lower{w:World}{lo pQ:Nat}{v:Value}{l:List Nat}(h:vi w lo v l)(hl:pQ≤lo):vi w pQ v l:=by
 refine ⟨⟨h.1.1,?_⟩,h.2⟩;rcases h.1.2 with h' | ⟨g,cap,cur,h',h1,h2⟩
 ·exact .inl h'
 ·exact .inr ⟨g,cap,cur,h',al hl h1,h2⟩
section
variable {base:Nat} {A:Nat→Addr} {db:Nat} {F:Nat→Prop} {d:S.V.bq} {W0:World} {r:cQ}
theorem BS{w0 w:World}{tb pc:Nat}(hc:Ts base A db F d W0 w0 tb r)(hn:(aC r).length≤4611686018427387904)(jz:(eD r).Nodup)(Rk:(eD r).length<1099511627776)(bO:Below w0.heap.size w0 w)(Cm:B.ax w pc #[.slice none 0 0] 69)(FF:w0.heap.size≤pc):Calls prog 65 #[.pointer (some ⟨tb,0,none⟩),.func (.func 66) #[] #[.pointer (some ⟨pc,0,none⟩)]] w fun e w'=>e = .returned .nilIface∧(∃ v,B.ax w' pc #[v] 69∧vi w' w.heap.size v (eD r))∧Dv base A db F d w'∧Mv db F w0 w':=by
 have Co:=@run_makeMap prog;obtain ⟨H,hH⟩ : ∃ H,H=w.heap.size:=⟨_,rfl⟩;obtain ⟨W2,Hc⟩ : ∃ W2,(w.alloc (.cells #[.pointer (some ⟨tb,0,none⟩)] 38)).alloc (.cells #[.func (.func 66) #[] #[.pointer (some ⟨pc,0,none⟩)]] 121)=W2:=⟨_,rfl⟩;obtain ⟨aO,s2,r0,r1⟩:=Nq w W2 _ _ _ _ Hc;rw [← hH] at s2 r0 r1;have Wf:Below w0.heap.size w0 W2:=Below.next bO aO;have HD:=ab (ER (hc.below Wf) hn (Below.refl _ _));have q0:W2.cell? ⟨H,0,none⟩=some (.pointer (some ⟨tb,0,none⟩)):=r0.cell 0 (by simp)
 have HC:=ab hc;have HR:Hid (B.ax W2 H #[.pointer (some ⟨tb,0,none⟩)] 38∧B.ax W2 (H+1) #[.func (.func 66) #[] #[.pointer (some ⟨pc,0,none⟩)]] 121∧B.ax W2 pc #[.slice none 0 0] 69∧W2.heap.size=H+1+1∧H=w.heap.size∧w0.heap.size≤H∧pc<H):=⟨r0,r1,Cm.below aO,s2,hH,by have:=bO.size;omega,by have:=Cm.lt;omega⟩
 have kF:=ab Wf;have HPC:=ab FF;have HND:=ab jz;have RI:=ab Rk;have RJ:=ab hn;have hHs:=hH.symm;clear hc jz Rk bO Cm FF aO r0 r1 Wf hH hn;cases r with
 | none =>
  rw [show ((PE none:Nat):Int)=0 from rfl] at HD
  go_enter func65,ntmps65;go_wp2_with fail;refine HD.out.mono ?_
  rintro e w1 ⟨rfl,dX,eo⟩;have bF:=ai w1 (.cells #[.nilIface] 32);have HE:Hid ((∃ v,B.ax (w1.alloc (.cells #[.nilIface] 32)) pc #[v] 69∧vi (w1.alloc (.cells #[.nilIface] 32)) w.heap.size v (eD none))∧Dv base A db F d (w1.alloc (.cells #[.nilIface] 32))∧Mv db F w0 (w1.alloc (.cells #[.nilIface] 32))):=by
   obtain ⟨h1,h2,h3,h4,h5,h6,h7⟩:=HR.out;have jF:=HC.out.dv.BZ;have FF:=HPC.out;have h8:B.ax w1 pc #[.slice none 0 0] 69:=(eo.one.block pc (by omega) (by omega)).trans h3
   exact ⟨⟨_,h8.below bF,vi.nil _ _⟩,dX.below bF,((Mv.of kF.out).trans eo).trans (Mv.of bF)⟩
  clear dX eo HD bF;go_wp2;go_ret;exact ⟨rfl,HE.out⟩
 | some y =>
  obtain ⟨h,t⟩:=y;have BM:h+1≤64:=lu HC.out.ok RJ.out;have hh1:¬ ((PE (some ⟨h,t⟩):Nat):Int)=0:=by show ¬ ((h+1:Nat):Int)=0;omega
  have hhe:((PE (some ⟨h,t⟩):Nat):Int)=(h:Int)+1:=by show ((h+1:Nat):Int)=_;omega
  rw [hhe] at HD hh1;go_enter func65,ntmps65;go_wp2_with fail;refine HD.out.mono ?_
  rintro e w1 ⟨rfl,dX,eo⟩;obtain ⟨h1,h2,h3,h4,h5,h6,h7⟩:=HR.out;have jF:=HC.out.dv.BZ;have FF:=HPC.out;have Pd:=eo.size;have bG:∀ {k:Nat} {cs:Array Value} {T:TypeId},w0.heap.size≤k→B.ax W2 k cs T→B.ax w1 k cs T:=fun {k cs T} hk hr=>(eo.one.block k hr.lt (by omega)).trans hr
  have u0:=bG h6 h1;have u1:=bG (by omega) h2
  have u2:=bG FF h3;have VW:Mv db F w0 w1:=(Mv.of kF.out).trans eo;obtain ⟨rv,ht,hr⟩:=HC.out.tr;obtain ⟨p,zA,hk⟩ : ∃ p:C.Ch,rv=p.val∧eu (cJ d) w0 h p t:=by
   rcases hr with ⟨_,he⟩ | ⟨p,h',t',rfl,he,hk⟩
   ·cases he
   ·cases he;exact ⟨p,rfl,hk⟩
  subst zA;obtain ⟨vt,vx,gw⟩:=bz p;obtain ⟨K,hK⟩ : ∃ K,w1.heap.size=K:=⟨_,rfl⟩;obtain ⟨W9,ZR⟩ : ∃ W9,(((w1.alloc (.cells #[.nilIface] 32)).alloc (.map #[] 0)).alloc (.cells #[.map (some (K+1))] 166)).alloc (.cells #[.nilFunc] 176)=W9:=⟨_,rfl⟩;obtain ⟨Ct,s9,r4,r6,r7,r8⟩:=Lx w1 W9 _ _ _ _ _ _ ZR;rw [hK] at s9 r4 r6 r7 r8;have q8:W9.cell? ⟨K+1+1+1,0,none⟩=some .nilFunc:=r8.cell 0 (by simp)
  have f8:W9.frozen? ⟨K+1+1+1,0,none⟩=false:=by unfold B.ax at r8;simp [World.frozen?,r8]
  obtain ⟨W,hW⟩ : ∃ W,W9.setCell ⟨K+1+1+1,0,none⟩ (.func (.func 103) #[] #[.pointer (some ⟨K+1+1,0,none⟩),.pointer (some ⟨K,0,none⟩),.pointer (some ⟨H+1,0,none⟩),.pointer (some ⟨H,0,none⟩),.pointer (some ⟨K+1+1+1,0,none⟩)])=W:=⟨_,rfl⟩;have dF:=bL.set (K+1+1+1) 0 W9 (.func (.func 103) #[] #[.pointer (some ⟨K+1+1,0,none⟩),.pointer (some ⟨K,0,none⟩),.pointer (some ⟨H+1,0,none⟩),.pointer (some ⟨H,0,none⟩),.pointer (some ⟨K+1+1+1,0,none⟩)]);rw [hW] at dF;have Jj:Below w1.heap.size w1 W:=⟨dF.os.trans Ct.os,dF.tape.trans Ct.tape,dF.output.trans Ct.output,al Ct.size dF.size,fun k hk=>(dF.block k (by have:=Ct.size;omega) (by omega)).trans (Ct.block k hk)⟩
  have SY:∀ {k:Nat} {cs:Array Value} {T:TypeId},k<K+1+1+1→B.ax W9 k cs T→B.ax W k cs T:=fun {k cs T} hk hr=>(dF.block k (by omega) (by omega)).trans hr
  have v0:=u0.below Jj;have v1:=u1.below Jj;have v2:=u2.below Jj;have v4:=SY (by omega) r4
  have v6:W.heap[K+1]?=some (.map #[] 0):=(dF.block _ (by omega) (by omega)).trans r6
  have v7:=SY (by omega) r7
  have v8:B.ax W (K+1+1+1) #[.func (.func 103) #[] #[.pointer (some ⟨K+1+1,0,none⟩),.pointer (some ⟨K,0,none⟩),.pointer (some ⟨H+1,0,none⟩),.pointer (some ⟨H,0,none⟩),.pointer (some ⟨K+1+1+1,0,none⟩)]] 176:=hW▸rC r8 _;have hVS:Vs base A db F d w0 tb ⟨K+1+1,K+1,K,H+1,H,K+1+1+1,pc⟩ (K+1+1+1+1) W (.slice none 0 0) [] []:=by
   refine ⟨dX.below Jj,VW.trans (Mv.of Jj),v7.cell 0 (by simp),v1.cell 0 (by simp),v0.cell 0 (by simp),v8.cell 0 (by simp),v4,v2,vi.nil _ _,Met.made v6,by simp,?_,?_,?_,jF,?_⟩
   ·intro b hb;simp only [dN,dA,or_false] at hb;omega
   ·intro b hb;simp only [dN,dA,or_false] at hb;show b≠K∧b≠pc
    omega
   ·show K≠pc
    omega
   ·have:=dF.size;omega
  have WZ:Hid (∀ W',Below W.heap.size W W'→Calls prog 103 #[p.val,.string ⟨#[]⟩,.int .i64 ((h:Int)+1),.pointer (some ⟨K+1+1,0,none⟩),.pointer (some ⟨K,0,none⟩),.pointer (some ⟨H+1,0,none⟩),.pointer (some ⟨H,0,none⟩),.pointer (some ⟨K+1+1+1,0,none⟩)] W' fun e w'=>e = .returned (.bool true)∧(∃ v',Vs base A db F d w0 tb ⟨K+1+1,K+1,K,H+1,H,K+1+1+1,pc⟩ (K+1+1+1+1) w' v' ([]++dE h t) ([]++dE h t))∧cM W' w'):=fun W' XA=>zW HC.out.dv ht h (by omega) p t ⟨#[]⟩ W' _ [] [] hk (jM HC.out.ok) (hVS.below XA) HND.out (fun _ _ h=>by simp at h) (by have h9:(dE h t).length<1099511627776:=RI.out;simpa using h9) (by have h9:(dE h t).length<1099511627776:=RI.out;simpa using h9)
  have wg:Hid (∀ W',Mv db F w0 W'→W'.cell? ⟨tb,1,none⟩=some p.val):=fun W' hm=>(cG (hm.bU HC.out.dv) ht).c1
  have m4:W.cell? ⟨tb,1,none⟩=some (.iface vt vx):=by rw [← gw];exact wg.out W (VW.trans (Mv.of Jj))
  rw [gw] at WZ wg;have m0:W.cell? ⟨H,0,none⟩=some (.pointer (some ⟨tb,0,none⟩)):=v0.cell 0 (by simp)
  have m8:W.cell? ⟨K+1+1+1,0,none⟩=some (.func (.func 103) #[] #[.pointer (some ⟨K+1+1,0,none⟩),.pointer (some ⟨K,0,none⟩),.pointer (some ⟨H+1,0,none⟩),.pointer (some ⟨H,0,none⟩),.pointer (some ⟨K+1+1+1,0,none⟩)]):=v8.cell 0 (by simp)
  have vl:Hid (w.heap.size≤K+1+1+1+1):=by show _≤_;omega
  clear dX eo h1 h2 h3 h4 h5 h6 h7 jF FF Pd bG u0 u1 u2 VW ht hr hk gw Ct s9 r4 r6 r7 r8 dF Jj SY v0 v1 v2 v4 v6 v7 v8 hVS HD HR;go_wp2_with fail;go_region_held3 (fun w'=>w'.cell? ⟨H,0,none⟩=some (.pointer (some ⟨tb,0,none⟩))∧w'.cell? ⟨K+1+1+1,0,none⟩=some (.func (.func 103) #[] #[.pointer (some ⟨K+1+1,0,none⟩),.pointer (some ⟨K,0,none⟩),.pointer (some ⟨H+1,0,none⟩),.pointer (some ⟨H,0,none⟩),.pointer (some ⟨K+1+1+1,0,none⟩)])∧w'.cell? ⟨tb,1,none⟩=some (.iface vt vx)) (go_keep)
   (first
    | (go_at_call 103;refine (WZ.out _ (by first | exact Below.refl _ _ | exact B.aN (Below.refl _ _))).mono ?_;rintro e w2 ⟨rfl,⟨v',pW⟩,-⟩;have Q7:=ab pW;have n0:w2.cell? ⟨H,0,none⟩=some (.pointer (some ⟨tb,0,none⟩)):=pW.ct;have n8:w2.cell? ⟨K+1+1+1,0,none⟩=some (.func (.func 103) #[] #[.pointer (some ⟨K+1+1,0,none⟩),.pointer (some ⟨K,0,none⟩),.pointer (some ⟨H+1,0,none⟩),.pointer (some ⟨H,0,none⟩),.pointer (some ⟨K+1+1+1,0,none⟩)]):=pW.cv;have n4:=wg.out _ pW.mv;have kf:w2.cell? ⟨K,0,none⟩=some .nilIface:=pW.cf.cell 0 (by simp);clear pW))
  have HE:Hid ((∃ v,B.ax w2 pc #[v] 69∧vi w2 w.heap.size v (eD (some ⟨h,t⟩)))∧Dv base A db F d w2∧Mv db F w0 w2):=⟨⟨v',Q7.out.row,Q7.out.ps.lower vl.out⟩,Q7.out.dv,Q7.out.mv⟩;clear Q7 WZ n0 n8 n4 m0 m8 m4 wg hW ZR q8 f8;go_wp2;go_ret;exact ⟨rfl,HE.out⟩
end
open Go.Sort
theorem O4(w:World):Calls prog 136 #[.slice none 0 0,.int .i64 0,.int .i64 0] w fun e w'=>e = .returned (.tuple #[])∧w=w':=by
 go_enter func136,ntmps136;go_wp2;refine wp_loop_rounds 1 ?_
 rw [rounds_succ];go_wp2;go_end0
 exact ⟨rfl,rfl⟩
theorem Sr(n:Int)(w:World):Calls prog 105 #[.slice none 0 0,.int .i64 0,.int .i64 0,.int .i64 n] w fun e w'=>e = .returned (.tuple #[])∧w=w':=by
 have HI:=ab (O4 w);go_enter func105,ntmps105;go_wp2_with fail;refine wp_loop_rounds 1 ?_
 rw [rounds_succ];go_wp2_with fail;refine HI.out.mono ?_
 rintro e w1 ⟨rfl,rfl⟩;go_wp2;refine bodyPost_ret (results_none rfl _ _ _) rfl ?_
 exact ⟨rfl,rfl⟩
theorem Mc(w:World):Calls prog 106 #[.int .u64 0] w fun e w'=>(∃ n,e = .returned (.int .i64 n))∧w=w':=by
 have HL:=ab (tw 0 w (by decide))
 rw [show ((0:Nat):Int)=0 from rfl] at HL
 go_enter func106,ntmps106;go_wp2_with fail;refine HL.out.mono ?_
 rintro e w1 ⟨rfl,rfl⟩;go_wp2;go_ret;exact ⟨⟨_,rfl⟩,rfl⟩
theorem NI(w:World):Calls prog 68 #[.slice none 0 0] w fun e w'=>e = .returned (.tuple #[])∧w=w':=by
 have HL:=ab (Mc w);go_enter func68,ntmps68;go_wp2_with fail;refine HL.out.mono ?_
 rintro e w1 ⟨⟨n,rfl⟩,rfl⟩;go_wp2_with fail;refine (Sr n w).mono ?_
 rintro e w1 ⟨rfl,rfl⟩;go_wp2;go_end0
 exact ⟨rfl,rfl⟩
def vm(l:List Nat):List Int:=(l.map fun n:Nat=>(n:Int)).mergeSort fun x y=>decide (x≤y)
theorem Kg(l:List Nat):(vm l).Perm (l.map fun n:Nat=>(n:Int)):=List.mergeSort_perm _ _
theorem R5{w:World}{lo:Nat}{v:Value}{l:List Nat}(h:vi w lo v l)(hl:l.length<4611686018427387904):Calls prog 68 #[v] w fun e w'=>e = .returned (.tuple #[])∧w'.ownsRow lo 3 1 v l.length ((vm l).map (Value.int .i64))∧w.grownBy w' v.ownBlock:=by
 have aE:=h.1;rcases h.1.2 with ⟨rfl,h0⟩ | ⟨g,gc,cur,rfl,dy,hb,h1,h2,h3,h4⟩
 ·refine (NI w).mono ?_
  rintro e w' ⟨rfl,rfl⟩;have Rq:l=[]:=List.length_eq_zero_iff.1 h0;subst Rq;exact ⟨rfl,by show w.ownsRow lo 3 1 (.slice none 0 0) 0 ((vm []).map (Value.int .i64));rw [show vm []=[] by simp [vm]];exact World.ownsRow_nil _ _ _ _,⟨rfl,rfl,rfl,aj _,fun _ _ _=>rfl⟩⟩
 ·obtain ⟨zs,GR⟩ : ∃ zs,zs=l.map fun n:Nat=>(n:Int):=⟨_,rfl⟩
  have hzl:zs.length=l.length:=by rw [GR,aA]
  have hH:Holds (Value.int .i64) w g 0 zs.toArray:=holds_of_blockI hb (by rw [hzl,GR,eH];have h4':=h4;simp only [Nat.mul_one] at h4';exact h4')
  have xZ:g<w.heap.size:=(Array.getElem?_eq_some_iff.1 hb).1;have hc:=B.Aa g gc zs w hH xZ (by omega)
  rw [hzl] at hc;refine hc.mono ?_
  rintro e w' ⟨rfl,q,os,rfl⟩;have La:vm l=zs.mergeSort fun x y=>decide (x≤y):=by rw [GR];rfl
  rw [La];refine ⟨rfl,?_,grownBy_sortedI _⟩;have:=ownsRow_sortedI (w:=w) (base:=lo) (n:=q) (os:=os) (ss:=zs) (ts:=zs.mergeSort fun x y=>decide (x≤y)) (by rw [List.length_mergeSort]) dy hb (by omega) h2 h3
  rwa [hzl] at this
end T
end Go.Proofs.YtihmgigfkmofnaaGreatDoor
namespace Go.Proofs.YtihmgigfkmofnaaGreatDoor
namespace T
open Go.RowKit
section
variable {base:Nat} {A:Nat→Addr} {db:Nat} {F:Nat→Prop} {d:S.V.bq} {W0:World} {r:cQ}
theorem Dx{w:World}{tb:Nat}(hc:Ts base A db F d W0 w tb r)(hn:(aC r).length≤4611686018427387904)(jz:(eD r).Nodup)(Rk:(eD r).length<1099511627776):Calls prog 27 #[.pointer (some ⟨tb,0,none⟩)] w fun e w'=>(∃ v,e = .returned (.tuple #[v,.nilIface])∧w'.ownsRow w.heap.size 3 1 v (eD r).length ((vm (eD r)).map (Value.int .i64)))∧Dv base A db F d w'∧Mv db F w w':=by
 obtain ⟨W1,iy⟩ : ∃ W1,w.alloc (.cells #[.slice none 0 0] 69)=W1:=⟨_,rfl⟩;obtain ⟨H,hH⟩ : ∃ H,w.heap.size=H:=⟨_,rfl⟩;have aP:Below w.heap.size w W1:=iy▸ai w _;have r1:B.ax W1 w.heap.size #[.slice none 0 0] 69:=iy▸B.ax.new w _ _;have s1:W1.heap.size=w.heap.size+1:=by rw [← iy];simp
 have HG:=ab (BS hc hn jz Rk aP r1 (aj _));rw [hH] at HG;have HC:=ab hc;have mh:Hid (W1.heap.size=H+1):=by show _=_;omega
 have RI:=ab Rk;clear hc hn jz Rk r1 aP s1;go_enter func27,ntmps27;go_wp2_with fail;refine HG.out.mono ?_
 rintro e w2 ⟨rfl,⟨v,bG,kB⟩,iG,iw⟩;have k2:w2.cell? ⟨H,0,none⟩=some v:=bG.cell 0 (by simp)
 obtain ⟨a,c,jS⟩:=kB.form;have HSO:=ab (R5 kB (by have:=RI.out;omega))
 have o7:=ab bG;have XO:=ab kB;have oZ:=ab iG;have yL:=ab iw;have HF:Hid (∀ w3,w2.grownBy w3 v.ownBlock→w3.cell? ⟨H,0,none⟩=some v∧Dv base A db F d w3∧Mv db F w w3):=fun w3 hg=>by
  have h1:=mh.out;have fM:∀ k,k<W1.heap.size→some k≠v.ownBlock:=fun k hk e=>by
   have:=(kB.dn e.symm).1;omega
  have jA:B.ax w3 H #[v] 69:=(hg.block H bG.lt (fM _ (by omega))).trans bG
  have cx:w.heap.size≤w2.heap.size:=iw.size;have lU:Below w.heap.size w2 w3:=⟨hg.os,hg.tape,hg.output,hg.size,fun k hk=>hg.block k (by omega) (fM k (by omega))⟩
  exact ⟨jA.cell 0 (by simp),iG.grown lU iw HC.out.dv⟩
 have vl:Hid (w.heap.size≤W1.heap.size):=by have h1:=mh.out;show _≤_;omega
 subst jS;clear bG kB iG iw HG;go_wp2_with fail;refine HSO.out.mono ?_
 rintro e w3 ⟨rfl,jh,UH⟩;obtain ⟨k3,yS,yT⟩:=HF.out w3 UH;have HE:Hid (w3.ownsRow w.heap.size 3 1 (.slice a (eD r).length c) (eD r).length ((vm (eD r)).map (Value.int .i64))∧Dv base A db F d w3∧Mv db F w w3):=by
  refine ⟨⟨jh.1,?_⟩,yS,yT⟩;rcases jh.2 with h' | ⟨g,cap,cur,h',h1,h2⟩
  ·exact .inl h'
  ·exact .inr ⟨g,cap,cur,h',al vl.out h1,h2⟩
 clear jh UH yS yT HSO HF;go_wp2;go_ret2;exact ⟨⟨_,rfl,HE.out.1⟩,HE.out.2⟩
end
theorem yk(key value:ByteArray)(w:World)(hk:key.size≤140737488355328)(hv:value.size≤140737488355328):Calls prog 29 #[.string key,.string value] w fun e w'=>e = .returned (.bool (cP (key,value)))∧w=w':=by
 have h1:cP (key,value)=decide (1≤key.size∧key.size≤255∧value.size≤700):=rfl;rw [h1];by_cases a1:1≤key.size
 ·by_cases a2:key.size≤255
  ·by_cases a3:value.size≤700
   ·have d1:decide ((key.size:Int)≥1)=true:=decide_eq_true (by omega)
    have d2:decide ((key.size:Int)≤255)=true:=decide_eq_true (by omega)
    have d3:decide ((value.size:Int)≤700)=true:=decide_eq_true (by omega)
    rw [decide_eq_true ⟨a1,a2,a3⟩];clear a1 a2 a3 h1 hk hv;go_enter func29,ntmps29;go_wp2;go_ret;exact ⟨rfl,rfl⟩
   ·have d1:decide ((key.size:Int)≥1)=true:=decide_eq_true (by omega)
    have d2:decide ((key.size:Int)≤255)=true:=decide_eq_true (by omega)
    have d3:decide ((value.size:Int)≤700)=false:=decide_eq_false (by omega)
    rw [decide_eq_false (fun h=>a3 h.2.2)]
    clear a1 a2 a3 h1 hk hv;go_enter func29,ntmps29;go_wp2;go_ret;exact ⟨rfl,rfl⟩
  ·have d1:decide ((key.size:Int)≥1)=true:=decide_eq_true (by omega)
   have d2:decide ((key.size:Int)≤255)=false:=decide_eq_false (by omega)
   rw [decide_eq_false (fun h=>a2 h.2.1)]
   clear a1 a2 h1 hk hv;go_enter func29,ntmps29;go_wp2;go_ret;exact ⟨rfl,rfl⟩
 ·have d1:decide ((key.size:Int)≥1)=false:=decide_eq_false (by omega)
  rw [decide_eq_false (fun h=>a1 h.1)]
  clear a1 h1 hk hv;go_enter func29,ntmps29;go_wp2;go_ret;exact ⟨rfl,rfl⟩
theorem mn(v:Value)(l:List Pr)(key:ByteArray)(w:World)(hm:l.length≤140737488355328)(hr:gK w v l):Calls prog 28 #[v,.string key] w fun e w'=>e = .returned (.tuple #[.int .i64 (aJ l key:Int),.bool (bh l key)])∧∃ k,w'=w.drewN k:=by
 obtain ⟨a,cap,rfl,di,_,hc⟩:=hr;have HC:=ab hc;obtain ⟨n,hn⟩ : ∃ n,n=l.length:=⟨_,rfl⟩;rw [← hn] at hm ⊢;have HN:=ab hn;obtain ⟨Q,hQ⟩ : ∃ Q:Ending→World→Prop,Q=fun e w'=>e = .returned (.tuple #[.int .i64 (aJ l key:Int),.bool (bh l key)])∧∃ k,w'=w.drewN k:=⟨_,rfl⟩
 rw [← hQ];have HQ:=ab hQ;clear hc hn di hQ;go_enter func28,ntmps28;go_wp2;go_loopw [6] (fun i wr=>∃ k:Nat,k≤n∧i = .int .i64 k∧(∀ j (h:j<l.length),j<k→cX l[j].1 key=true)∧w=wr) (fun i _=>n - (intOf i).toNat)
 case atStart=>exact ⟨0,aD _,rfl,fun j _ h=>absurd h (eX _),rfl⟩
 case round =>
  obtain ⟨k,hk,rfl,gB,rfl⟩:=hrel;have HP:=ab gB;clear gB;by_cases bP:k<n
  ·have dm:k<l.length:=by have:=HN.out;omega
   obtain ⟨g,o,rfl,c1,c2⟩:=HC.out k dm;have p7:Hid (cX l[k].1 key=true→∀ j (h:j<l.length),j<k+1→cX l[j].1 key=true):=fun hl j h hj=>by
    by_cases he:j=k
    ·subst he;exact hl
    ·exact HP.out j h (by omega)
   have yY:Hid (cX l[k].1 key=false→aJ l key=k):=fun hl=>mE dm (fun j hj=>HP.out j (by omega) hj) hl
   have JJ:Hid (aJ l key=k→bh l key=decide (l[k].1=key)):=fun h=>by subst h;exact mD dm
   obtain ⟨p,hp⟩ : ∃ p,p=l[k]:=⟨_,rfl⟩;rw [← hp] at c1 c2 p7 yY JJ;have dS:(k:Int)<(n:Int):=by omega
   have j0:(0:Int)≤(k:Int):=by omega
   clear hp HC;cases hb:cX p.1 key with
   | true =>
    have uh:=ab (p7.out hb);have aO:Op.bytesLess p.1.toList key.toList=true:=hb;clear hb p7 yY JJ c2;go_wp2;go_roundw
    case rel=>exact ⟨k+1,by omega,by go_num,uh.out,by first | trivial | rfl⟩
    case measure=>simp [intOf];omega
   | false =>
    have Ig:=ab (yY.out hb);have aej:=ab (JJ.out Ig.out);have aO:Op.bytesLess p.1.toList key.toList=false:=hb;clear hb p7 yY JJ c2;go_wp2;go_quiet (fail)
    go_wp2;rw [HQ.out,Ig.out,aej.out,← oV];exact ⟨rfl,_,rfl⟩
  ·have dS:¬ (k:Int)<(n:Int):=by omega
   have kO:Hid (aJ l key=n∧bh l key=false):=by
    have h:=qR (l:=l) (key:=key) (fun j hj=>HP.out j hj (by have:=HN.out;omega))
    have h2:=oQ (l:=l) (key:=key) (by omega)
    have:=HN.out;exact ⟨by omega,h2⟩
   clear HC HP;go_wp2;rw [HQ.out,kO.out.1,kO.out.2];exact ⟨rfl,0,rfl⟩
theorem iC.take_len(l:List Pr)(key:ByteArray):([] : List Pr).length+(l.take (aJ l key)).length=aJ l key:=by
 have:=cp l key;rw [ag,a8 this];simp
theorem K8(v:Value)(l:List Pr)(key value:ByteArray)(w:World)(hm:l.length≤4398046511000)(hr:gK w v l):Calls prog 40 #[v,.string key,.string value] w fun e w'=>∃ u,e = .returned u∧iC w' w.heap.size u (fc l key value)∧Below w.heap.size w w':=by
 have HF:=ab (mn v l key w (by omega) hr)
 have HR:=ab hr;obtain ⟨a,cap,hv⟩:=hr.form;subst hv;have iB:=cp l key;have jD:=jZ l key;have S1:=eQ l key;have di:l.length≤cap:=by obtain ⟨_,_,he,h,_⟩:=hr;cases he;exact h
 have zr:=iC.take_len l key;have vW:(if bh l key then aJ l key+1 else aJ l key:Nat)=bZ l key:=rfl
 have iJ:Hid (fc l key value=(l.take (aJ l key)++[(key,value)])++l.drop (bZ l key)):=by show _=_;simp [fc]
 obtain ⟨q,hq⟩ : ∃ q,q=aJ l key:=⟨_,rfl⟩;obtain ⟨r,vr⟩ : ∃ r,r=bZ l key:=⟨_,rfl⟩;rw [← hq] at HF iB zr vW iJ;rw [← vr] at jD vW iJ;rw [← hq,← vr] at S1;have vq:=fun W=>Kj W a l.length cap q (by omega)
 have Fv:∀ k,Hid (∃ a1 c1 w1 a2 c2 w2 a3 c3 w3 a4 n4 c4,(Builtin.append_ #[63,63] 63 #[.slice none 0 0,.slice a q cap]).run prog (w.drewN k) = .ok (.slice a1 q c1) w1∧(Builtin.append_ #[63,63] 63 #[.slice a1 q c1,.slice (some ⟨w1.heap.size,0,none⟩) 1 1]).run prog (w1.alloc (.cells #[.string key,.string value] 52)) = .ok (.slice a2 (q+1) c2) w2∧(∀ W,(Instr.sliceAt 63 (.slice a l.length cap) (some (.int .i64 (r:Int))) none none).run prog W = .ok (.slice a4 n4 c4) W)∧(Builtin.append_ #[63,63] 63 #[.slice a2 (q+1) c2,.slice a4 n4 c4]).run prog w2 = .ok (.slice a3 (q+1+(l.length - r)) c3) w3∧iC w3 w.heap.size (.slice a3 (q+1+(l.length - r)) c3) (fc l key value)∧Below w.heap.size w w3):=fun k=>by
  have mY:Below w.heap.size w (w.drewN k):=aB (Below.refl _ _) k;have YX:iC (w.drewN k) w.heap.size (.slice none 0 0) []:=iC.nil _ _;obtain ⟨a1,c1,w1,fV,jT,fK⟩:=gV w.heap.size _ (.slice a q cap) [] (l.take q) (w.drewN k) YX ((hr.below mY).take iB) (by rw [zr];omega) mY.size
  rw [zr] at fV jT;rw [List.nil_append] at jT;have aP:Below w.heap.size w w1:=mY.grown fK mY.size (fun k hk=>(World.ownsRow.lt YX k hk).1)
  obtain ⟨a2,c2,w2,iT,gC,aO,jy⟩:=Dk w.heap.size _ (l.take q) (key,value) 52 w1 w w.heap.size q (by rw [ag,a8 iB]) jT (by omega) aP.size (aj _) aP
  obtain ⟨a4,AK,VM⟩:=(hr.below aO).drop jD;have VY:(l.take q++[(key,value)]).length+(l.drop r).length=q+1+(l.length - r):=by
   rw [ae,ag,a8 iB,ao];rfl
  obtain ⟨a3,c3,w3,gj,jh,UH⟩:=gV w.heap.size _ _ _ (l.drop r) w2 gC AK (by rw [VY];omega) aO.size
  rw [VY] at gj jh;have bF:Below w.heap.size w w3:=aO.grown UH aO.size (fun k hk=>(World.ownsRow.lt gC k hk).1)
  exact ⟨a1,c1,w1,a2,c2,w2,a3,c3,w3,a4,_,_,fV,iT,VM,gj,by rw [iJ.out];exact jh,bF⟩
 have yL:=ab Fv;have Jg:(q:Int)≤4398046511000:=by omega
 clear Fv hr hq vr zr di HR iJ jD S1;generalize bh l key=fb at *;go_enter func40,ntmps40;go_wp2_with fail;refine HF.out.mono ?_
 rintro e w' ⟨rfl,k,rfl⟩;obtain ⟨a1,c1,w1,a2,c2,w2,a3,c3,w3,a4,n4,c4,r1,r2,qL,r3,jh,bF⟩:=(yL.out k).out;have R1:=ab r1;have R2:=ab r2;have R3:=ab r3;have HO:=ab jh;have HB:=ab bF;clear r1 r2 r3 jh bF yL HF;cases fb with
 | true =>
  have vW:q+1=r:=by simpa using vW
  subst vW;rw [fZ,kE] at qL;go_wp2_with (first
   | (at_builtin;refine wpList_append_run 63 rfl (.tmp 16) (.tmp 19) rfl rfl _ _ rfl rfl _ _ R1.out ?_)
   | (at_builtin;refine wpList_append_run 63 rfl (.tmp 21) (.tmp 25) rfl rfl _ _ rfl rfl _ _ R2.out ?_)
   | (at_builtin;refine wpList_append_run 63 rfl (.tmp 30) (.tmp 33) rfl rfl _ _ rfl rfl _ _ R3.out ?_))
  go_ret;exact ⟨_,rfl,HO.out,HB.out⟩
 | false =>
  have vW:q=r:=by simpa using vW
  subst vW;go_wp2_with (first
   | (at_builtin;refine wpList_append_run 63 rfl (.tmp 16) (.tmp 19) rfl rfl _ _ rfl rfl _ _ R1.out ?_)
   | (at_builtin;refine wpList_append_run 63 rfl (.tmp 21) (.tmp 25) rfl rfl _ _ rfl rfl _ _ R2.out ?_)
   | (at_builtin;refine wpList_append_run 63 rfl (.tmp 30) (.tmp 33) rfl rfl _ _ rfl rfl _ _ R3.out ?_))
  go_ret;exact ⟨_,rfl,HO.out,HB.out⟩
theorem yn{l:List Pr}{key:ByteArray}(h:bh l key=false):cU l key=l:=by
 unfold cU bZ;rw [h];simp
theorem BJ(v:Value)(l:List Pr)(key:ByteArray)(w:World)(hm:l.length≤4398046511000)(hr:gK w v l):Calls prog 58 #[v,.string key] w fun e w'=>((bh l key=false∧e = .returned v)∨(bh l key=true∧∃ u,e = .returned u∧iC w' w.heap.size u (cU l key)))∧Below w.heap.size w w':=by
 have HF:=ab (mn v l key w (by omega) hr)
 have HR:=ab hr;obtain ⟨a,cap,hv⟩:=hr.form;subst hv;have iB:=cp l key;have jD:=jZ l key;have S1:=eQ l key;have di:l.length≤cap:=by obtain ⟨_,_,he,h,_⟩:=hr;cases he;exact h
 have zr:=iC.take_len l key;have vW:(if bh l key then aJ l key+1 else aJ l key:Nat)=bZ l key:=rfl
 have iJ:Hid (cU l key=l.take (aJ l key)++l.drop (bZ l key)):=rfl;obtain ⟨q,hq⟩ : ∃ q,q=aJ l key:=⟨_,rfl⟩;obtain ⟨r,vr⟩ : ∃ r,r=bZ l key:=⟨_,rfl⟩;rw [← hq] at HF iB zr vW iJ;rw [← vr] at jD vW iJ;rw [← hq,← vr] at S1;have vq:=fun W=>Kj W a l.length cap q (by omega)
 have Fv:∀ k,Hid (∃ a1 c1 w1 a3 c3 w3 a4 n4 c4,(Builtin.append_ #[63,63] 63 #[.slice none 0 0,.slice a q cap]).run prog (w.drewN k) = .ok (.slice a1 q c1) w1∧(∀ W,(Instr.sliceAt 63 (.slice a l.length cap) (some (.int .i64 (r:Int))) none none).run prog W = .ok (.slice a4 n4 c4) W)∧(Builtin.append_ #[63,63] 63 #[.slice a1 q c1,.slice a4 n4 c4]).run prog w1 = .ok (.slice a3 (q+(l.length - r)) c3) w3∧iC w3 w.heap.size (.slice a3 (q+(l.length - r)) c3) (cU l key)∧Below w.heap.size w w3):=fun k=>by
  have mY:Below w.heap.size w (w.drewN k):=aB (Below.refl _ _) k;have YX:iC (w.drewN k) w.heap.size (.slice none 0 0) []:=iC.nil _ _;obtain ⟨a1,c1,w1,fV,jT,fK⟩:=gV w.heap.size _ (.slice a q cap) [] (l.take q) (w.drewN k) YX ((hr.below mY).take iB) (by rw [zr];omega) mY.size
  rw [zr] at fV jT;rw [List.nil_append] at jT;have aP:Below w.heap.size w w1:=mY.grown fK mY.size (fun k hk=>(World.ownsRow.lt YX k hk).1)
  obtain ⟨a4,AK,VM⟩:=(hr.below aP).drop jD;have VY:(l.take q).length+(l.drop r).length=q+(l.length - r):=by
   rw [ag,a8 iB,ao]
  obtain ⟨a3,c3,w3,gj,jh,UH⟩:=gV w.heap.size _ _ _ (l.drop r) w1 jT AK (by rw [VY];omega) aP.size
  rw [VY] at gj jh;have bF:Below w.heap.size w w3:=aP.grown UH aP.size (fun k hk=>(World.ownsRow.lt jT k hk).1)
  exact ⟨a1,c1,w1,a3,c3,w3,a4,_,_,fV,VM,gj,by rw [iJ.out];exact jh,bF⟩
 have yL:=ab Fv;have uj:=ab (fun k=>aB (Below.refl w.heap.size w) k)
 have Jg:(q:Int)≤4398046511000:=by omega
 clear Fv hr hq vr zr di HR iJ jD S1;generalize bh l key=fb at *;go_enter func58,ntmps58;go_wp2_with fail;refine HF.out.mono ?_
 rintro e w' ⟨rfl,k,rfl⟩;obtain ⟨a1,c1,w1,a3,c3,w3,a4,n4,c4,r1,qL,r3,jh,bF⟩:=(yL.out k).out;have R1:=ab r1;have R3:=ab r3;have HO:=ab jh;have HB:=ab bF;clear r1 r3 jh bF yL HF;cases fb with
 | true =>
  have vW:q+1=r:=by simpa using vW
  subst vW;rw [fZ,kE] at qL;go_wp2_with (first
   | (at_builtin;refine wpList_append_run 63 rfl (.tmp 17) (.tmp 20) rfl rfl _ _ rfl rfl _ _ R1.out ?_)
   | (at_builtin;refine wpList_append_run 63 rfl (.tmp 22) (.tmp 26) rfl rfl _ _ rfl rfl _ _ R3.out ?_))
  go_ret;exact ⟨⟨_,rfl,HO.out⟩,HB.out⟩
 | false =>
  go_wp2;go_ret;exact ⟨rfl,uj.out k⟩
theorem EW{α:Type}(f p:α→Nat):∀ (cs:List α),(∀ c ∈ cs,f c+1≤2*p c)→(cs.map f).sum+cs.length≤2*(cs.map p).sum
 | [],_=>by simp
 | c::cs,h=>by
  have h1:=h c (by simp)
  have h2:=EW f p cs fun x hx=>h x (by simp [hx])
  simp only [List.map_cons,q7,List.length_cons];omega
def L5(h:Nat)(t:Nd h):Nat:=(dE h t).length+jl h t
theorem Dz(n:Nat):(df n).length+(if n=0 then 1 else 0)=1:=by
 unfold df;split <;> simp
theorem uw{α:Type}(f g:α→Nat):∀ (cs:List α),(cs.map fun c=>f c+g c).sum=(cs.map f).sum+(cs.map g).sum
 | []=>by simp
 | c::cs=>by
  have h2:=uw f g cs;simp only [List.map_cons,q7];omega
theorem EV:∀ (h:Nat) {t:Nd h},QT h t→L5 h t+1≤2*(flat h t).length
 | 0,t,ho=>by
  have h1:t.2≠[]:=ho.2.2;have h2:=List.length_pos_iff.2 h1;have h3:=Dz t.1;show (df t.1).length+(if t.1=0 then 1 else 0)+1≤2*t.2.length
  omega
 | h+1,t,ho=>by
  obtain ⟨⟨lo,hi,cT⟩,_,h1⟩:=ho;have h1:t.2.1≠[]:=h1;have hl:=j9 ((fy h t lo hi).1 cT);have hp:=List.length_pos_iff.2 h1;have hk:∀ c ∈ t.2.2,L5 h c+1≤2*(flat h c).length:=fun c hc=>by
   obtain ⟨i,mz,rfl⟩:=aQ hc;exact EV h (vJ ⟨⟨lo,hi,cT⟩,by assumption,h1⟩ (af mz))
  have h2:=EW (L5 h) (fun c=>(flat h c).length) t.2.2 hk
  have h3:(flat (h+1) t).length=(t.2.2.map fun c=>(flat h c).length).sum:=by
   show (t.2.2.flatMap (flat h)).length=_
   rw [List.length_flatMap]
  have h4:(t.2.2.flatMap (dE h)).length=(t.2.2.map fun c=>(dE h c).length).sum:=List.length_flatMap
  have h5:(t.2.2.map (L5 h)).sum=(t.2.2.map fun c=>(dE h c).length).sum+(t.2.2.map (jl h)).sum:=uw _ _ _
  have h6:(dE (h+1) t).length=(df t.1).length+(t.2.2.flatMap (dE h)).length:=by
   show (df t.1++t.2.2.flatMap (dE h)).length=_
   rw [ae]
  have h7:jl (h+1) t=if t.1=0 then (t.2.2.map (jl h)).sum+1 else 0:=rfl
  have h8:=Dz t.1;unfold L5;rw [h3,h6,h7];split at h8
  ·rename_i e;rw [if_pos e];omega
  ·rename_i e;rw [if_neg e];omega
theorem ky{r:cQ}(h:eW r):(eD r).length+eG r≤2*(aC r).length:=by
 cases r with
 | none=>exact aj _
 | some x =>
  have:=EV x.1 (t:=x.2) ⟨⟨none,none,h.1⟩,h.2.1,h.2.2⟩;unfold L5 at this;show (dE x.1 x.2).length+jl x.1 x.2≤2*(flat x.1 x.2).length
  omega
theorem Jp(T:Nat→Bool)(i:Nat):∀ n,(Q.gx T n).length≤(Q.gx (Q.nZ T i true) n).length+(if i<n then 1 else 0)
 | 0=>by simp [Q.gx]
 | n+1=>by
  have h:=Jp T i n;show (Q.gx T n++(if T n then [] else [n])).length≤(Q.gx (Q.nZ T i true) n++(if Q.nZ T i true n then [] else [n])).length+_
  rw [ae,ae];by_cases e:n=i
  ·subst e;have h1:((if T n then [] else [n] : List Nat)).length≤1:=by split <;> simp
   rw [if_neg (Nat.lt_irrefl _)] at h;rw [if_pos (Nat.lt_succ_self _)];omega
  ·have h1:Q.nZ T i true n=T n:=by simp [Q.nZ,e]
   rw [h1];by_cases h2:i<n
   ·have e1:(if i<n+1 then 1 else 0:Nat)=1:=if_pos (by omega)
    rw [if_pos h2] at h;rw [e1];omega
   ·have e1:(if i<n+1 then 1 else 0:Nat)=0:=if_neg (by omega)
    rw [if_neg h2] at h;rw [e1];omega
def ja(T:Nat→Bool)(L:List Nat):Nat→Bool:=L.foldl (fun T i=>Q.nZ T i true) T
theorem KO(L:List Nat):∀ (T:Nat→Bool) (n:Nat),(Q.gx T n).length≤(Q.gx (ja T L) n).length+L.length:=by
 induction L with
 | nil=>intro T n;exact aj _
 | cons i L ih =>
  intro T n;have h1:=Jp T i n;have h2:=ih (Q.nZ T i true) n;show _≤(Q.gx (ja (Q.nZ T i true) L) n).length+(L.length+1)
  split at h1 <;> omega
theorem oF(L:List Nat):∀ (T:Nat→Bool) (j:Nat),ja T L j=(T j || decide (j ∈ L)):=by
 induction L with
 | nil=>intro T j;simp [ja]
 | cons i L ih =>
  intro T j;show ja (Q.nZ T i true) L j=_
  rw [ih];by_cases e:j=i
  ·subst e;simp [Q.nZ]
  ·have h1:Q.nZ T i true j=T j:=by simp [Q.nZ,e]
   rw [h1];simp [e]
theorem OE{PP:Nat}{T:Nat→Bool}(h:Q.qk PP T)(L:List Nat):Q.qk PP (ja T L):=⟨h.lo,h.hi,by rw [oF,h.t0];rfl,by rw [oF,h.t1];rfl,fun j hj=>by rw [oF,h.up j hj];rfl⟩
theorem Bf:∀ n,n+2≤4000→(Q.gx (Q.T0 4000) (n+2)).length=n
 | 0,_=>by decide
 | n+1,h=>by
  have ih:=Bf n (by omega)
  show (Q.gx (Q.T0 4000) (n+2)++(if Q.T0 4000 (n+2) then [] else [n+2])).length=n+1
  have e:Q.T0 4000 (n+2)=false:=by
   simp [Q.T0];omega
  rw [e,ae,ih];rfl
end T
end Go.Proofs.YtihmgigfkmofnaaGreatDoor
