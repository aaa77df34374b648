import Derived.Test.YtihmgigfkmofnaaGreatDoorG05
set_option maxHeartbeats 8000000
set_option maxRecDepth 20000
open Go.Proofs.Tryz
namespace Go.Proofs.YtihmgigfkmofnaaGreatDoor
namespace T
open Go.RowKit
theorem bJ(p:C.Ch):∃ t x,p.val = .iface t x:=by
 cases p
 ·exact ⟨_,_,rfl⟩
 ·exact ⟨_,_,rfl⟩
theorem JO(A:Nat→Addr)(b:Nat)(n:SN)(pv lv cv:Value)(i:Nat)(key:ByteArray)(p:C.Ch)(w:World)(h:dM w b n pv lv cv)(hi:i≤n.lk.length)(hlen:n.us.length=n.lk.length+1)(dV:n.lk.length≤3999)(hk:cQ key)(hE:jG A w):Calls prog 163 #[.pointer (some ⟨b,0,none⟩),.int .i64 (i:Int),.string key,p.val] w fun e w'=>Ra w ⟨[],n.f,B.dD n.lk i (key,0),C.dD n.us (i+1) p⟩ e w':=by
 have hf:=h.fine;have aab:Hid (Calls prog 203 #[.agg #[.int .i64 n.f,lv],.int .i64 (i:Int),.agg #[.string key,.int .i64 0]] w fun e w'=>∃ (ua:Option Addr) (um uc:Nat),e = .returned (.tuple #[.agg #[.int .i64 n.f,.slice ua um uc],.nilIface])∧B.bQ w' w.heap.size (.slice ua um uc) (B.dD n.lk i (key,0))∧Below w.heap.size w w'):=by
  refine (B.Qj A n.f (i:Int) lv n.lk key 0 w (by omega) h.bg hE).mono fun e w' ⟨hv,hb⟩=>?_
  rcases hv with ⟨_,u,he,ho⟩ | ⟨hg,_⟩
  ·obtain ⟨ua,uc,hu⟩:=ho.form;subst hu;exact ⟨_,_,_,he,ho,hb⟩
  ·exfalso
   simp only [B.zL,Bool.and_eq_false_iff,decide_eq_false_iff_not] at hg;omega
 have p1:=h.c1;have p2:=h.c2;have HH:=ab h;have bL:b<w.heap.size:=h.row.lt;obtain ⟨j,hj⟩ : ∃ j,j=i+1:=⟨_,rfl⟩;have vT:IntKind.i64.wrap ((i:Int)+1)=(j:Int):=by rw [IntKind.wrap_i64];omega
 have HJ:Hid (j≤n.us.length∧1≤n.us.length∧n.us.length≤4000):=⟨by omega,by omega,by omega⟩
 have Cg:Hid ((C.dD n.us j p).length≤4001∧(B.dD n.lk i (key,0)).length≤4000∧∀ q ∈ B.dD n.lk i (key,0),cQ q.1):=by
  refine ⟨by unfold C.dD;rw [ae,List.length_cons,ag,ao];omega,by unfold B.dD;rw [ae,List.length_cons,ag,ao];omega,fun q hq=>?_⟩
  unfold B.dD at hq;rcases List.mem_append.1 hq with h | h
  ·exact hf.2.2.1 q (bF h)
  ·rcases List.mem_cons.1 h with rfl | h
   ·exact hk
   ·exact hf.2.2.1 q (bG h)
 rw [← hj];clear h hf hE hi hlen hj dV hk;obtain ⟨pt,px,iB⟩:=bJ p;rw [iB];have Wj:=ab iB;clear iB;go_enter func163,ntmps163;go_wp2_with fail;refine aab.out.mono ?_
 rintro e w1 ⟨ua,um,uc,rfl,ho,aN⟩;have q2:=ai w1 (.cells #[.int .i64 n.f,.slice ua um uc] 150);have x2:=B.au.new w1 #[.int .i64 n.f,.slice ua um uc] 150;have HO:=ab (ho.below q2);have bH:=ab (Below.next aN q2);have vf:=ab x2;clear aab p1 p2 ho aN q2 x2;go_wp2_with fail;generalize w1.alloc (.cells #[.int .i64 n.f,.slice ua um uc] 150)=W2 at *;generalize w1.heap.size=k2 at *;have k0:=vf.out.c0;have k1:=vf.out.c1;have k3:=(HH.out.below bH.out).c3;obtain ⟨ca,cc,yh⟩:=HH.out.kids.form;have zl:Hid (∀ W,Below W2.heap.size W2 W→Calls prog 164 #[cv] W fun e w'=>∃ (g c:Nat),e = .returned (.slice (some ⟨g,0,none⟩) n.us.length c)∧C.bQ w' W.heap.size (.slice (some ⟨g,0,none⟩) n.us.length c) n.us∧Below W.heap.size W w'):=fun W hW=>by
  refine (C.eM cv n.us W (by have:=HJ.out;omega) ((HH.out.below (Below.next bH.out hW)).kids)).mono fun e w' ⟨u,h1,h2,h3⟩=>?_
  obtain ⟨g,c,hu,_,_⟩:=sq h2 (by have:=HJ.out;omega)
  subst hu;exact ⟨g,c,h1,h2,h3⟩
 have aac:Hid (∀ (W:World) (base g c vb:Nat),C.bQ W base (.slice (some ⟨g,0,none⟩) n.us.length c) n.us→base≤W.heap.size→B.au W vb #[.iface pt px] 97→g≠vb→Calls prog 204 #[.slice (some ⟨g,0,none⟩) n.us.length c,.int .i64 (j:Int),.slice (some ⟨vb,0,none⟩) 1 1] W fun e w'=>∃ (a4:Option Addr) (c4:Nat),e = .returned (.slice a4 (C.dD n.us j p).length c4)∧C.bQ w' base (.slice a4 (C.dD n.us j p).length c4) (C.dD n.us j p)∧Below base W w'):=fun W base g c vb h1 h2 h3 h4=>by
  refine (C.ot base _ n.us j vb p W (by have:=HJ.out;omega) HJ.out.1 h1 h2 (by rw [Wj.out];exact h3) (fun e=>h4 (by simpa [Value.ownBlock] using e))).mono fun e w' ⟨u,g1,g2,g3⟩=>?_
  obtain ⟨a4,c4,hu⟩:=g2.form;subst hu;exact ⟨a4,c4,g1,g2,g3⟩
 subst yh;have q5:=ai W2 (.cells #[.iface pt px] 97);have x5:=B.au.new W2 #[.iface pt px] 97;have s5:(W2.alloc (.cells #[.iface pt px] 97)).heap.size=W2.heap.size+1:=by simp
 obtain ⟨y0,y1,y3⟩ : (W2.alloc (.cells #[.iface pt px] 97)).cell? ⟨k2,0,none⟩=some (.int .i64 n.f)∧(W2.alloc (.cells #[.iface pt px] 97)).cell? ⟨k2,1,none⟩=some (.slice ua um uc)∧(W2.alloc (.cells #[.iface pt px] 97)).cell? ⟨b,3,none⟩=some (.slice ca n.us.length cc):=⟨(vf.out.below q5).c0,(vf.out.below q5).c1,(HH.out.below (Below.next bH.out q5)).c3⟩;have f0:=World.new_ne W2 _ k0;have f3:=World.new_ne W2 _ k3;generalize hW5:W2.alloc (.cells #[.iface pt px] 97)=W5 at *;have Fc:=ab q5;have zS:=ab x5;have sU:=ab s5;clear q5 x5 s5;go_region_held3 (fun w'=>w'.cell? ⟨k2,0,none⟩=some (.int .i64 n.f)∧w'.cell? ⟨k2,1,none⟩=some (.slice ua um uc)∧w'.cell? ⟨b,3,none⟩=some (.slice ca n.us.length cc)) (go_keep)
  (first
   | (go_at_call 164;refine (zl.out _ ?_).mono ?_;(first | exact (Below.refl _ _).drew | exact Fc.out.drew);rintro e w3 ⟨g,c,rfl,fX,b6⟩;have dH:Hid (Below W2.heap.size W2 w3):=(by first | exact B.dL b6 | exact Below.next Fc.out (B.dL b6));have nL:=ab fX;have Rb:=ab b6;(try (have ac9:=ab (zS.out.drew.below b6)));have m0:=(vf.out.below dH.out).c0;have m1:=(vf.out.below dH.out).c1;have m3:=(HH.out.below (Below.next bH.out dH.out)).c3;have e0:=World.new_ne w3 _ m0;have e3:=World.new_ne w3 _ m3;clear fX b6)
   | (go_at_call 204;(first
       | (refine (aac.out _ _ _ _ _ nL.out Rb.out.size ac9.out (by have h1:=(nL.out.dy g rfl).1;have h2:=sU.out;show g≠W2.heap.size;show g≠_;simp only [World.drew] at h1;omega)).mono ?_;rintro e w4 ⟨a4,c4,rfl,nH,gH⟩;have wj:=ab nH;have gY:Hid (Below W2.heap.size W2 w4):=(dH.out.trans (gH.mono (by have:=sU.out;show W2.heap.size≤W5.heap.size;omega))))
       | (refine (aac.out _ _ _ _ _ (nL.out.below (ai w3 (.cells #[.iface pt px] 97))) (aq Rb.out.size (ai w3 (.cells #[.iface pt px] 97)).size) (B.au.new w3 #[.iface pt px] 97) (by have h1:=(nL.out.dy g rfl).2;omega)).mono ?_;rintro e w4 ⟨a4,c4,rfl,nH,gH⟩;have wj:=ab nH;have gY:Hid (Below W2.heap.size W2 w4):=((Below.next dH.out (ai w3 (.cells #[.iface pt px] 97))).trans gH))
      );have m0:=(vf.out.below gY.out).c0;have m1:=(vf.out.below gY.out).c1;have m3:=(HH.out.below (Below.next bH.out gY.out)).c3;clear nH gH))
 all_goals (
  have q:=ai w4 (.cells #[.slice none 0 0,.int .i64 n.f,.slice ua um uc,.slice a4 (C.dD n.us j p).length c4] 155);have xr:=B.au.new w4 #[.slice none 0 0,.int .i64 n.f,.slice ua um uc,.slice a4 (C.dD n.us j p).length c4] 155;have HR:Hid (dM (w4.alloc (.cells #[.slice none 0 0,.int .i64 n.f,.slice ua um uc,.slice a4 (C.dD n.us j p).length c4] 155)) w4.heap.size ⟨[],n.f,B.dD n.lk i (key,0),C.dD n.us j p⟩ (.slice none 0 0) (.slice ua um uc) (.slice a4 (C.dD n.us j p).length c4)):=⟨xr,gZ.nil _,((HO.out.below gY.out).below q).at,(wj.out.below q).at,(fun p hp=>by simp at hp),by simp,Cg.out.2.2,Cg.out.2.1,Cg.out.1⟩
  have rm:=ab (Below.next (Below.next bH.out gY.out) q);clear q xr;go_wp2;go_ret;exact ⟨_,_,_,_,rfl,HR.out,rm.out⟩)
end T
open Go.RowKit
def iU(w:World)(base:Nat)(v:Value)(l:List Pr):Prop:=w.ownsRow base 52 2 v l.length (jj l)
theorem iU.at{w:World}{base:Nat}{v:Value}{l:List Pr}(h:iU w base v l):gZ w v l:=gZ.rQ h
theorem iU.form{w:World}{base:Nat}{v:Value}{l:List Pr}(h:iU w base v l):∃ a c,v = .slice a l.length c:=h.at.form
theorem iU.below{w w':World}{base:Nat}{v:Value}{l:List Pr}(h:iU w base v l)(hb:Below w.heap.size w w'):iU w' base v l:=by
 refine ⟨h.1,?_⟩;rcases h.2 with h' | ⟨g,cap,cur,h',h1,h2,hr⟩
 ·exact .inl h'
 ·refine .inr ⟨g,cap,cur,h',h1,?_,hr⟩;have hg:g<w.heap.size:=by
   rcases aZ g w.heap.size with h' | h'
   ·exact h'
   ·rw [aV h'] at h2;cases h2
  rw [hb.block g hg];exact h2
theorem iU.mono{w:World}{b b2:Nat}{v:Value}{l:List Pr}(h:iU w b v l)(hb:b2≤b):iU w b2 v l:=by
 refine ⟨h.1,?_⟩;rcases h.2 with h' | ⟨g,cap,cur,h',h1,hr⟩
 ·exact .inl h'
 ·exact .inr ⟨g,cap,cur,h',aq hb h1,hr⟩
theorem iU.nil(w:World)(base:Nat):iU w base (.slice none 0 0) []:=World.ownsRow_nil _ _ _ _
theorem gT(base:Nat)(v s:Value)(xs us:List Pr)(w:World)(aD:iU w base v xs)(hs:gZ w s us)(hb:(xs.length+us.length)*32≤140737488355328)(dr:base≤w.heap.size):∃ a' eO w',(Builtin.append_ #[63,63] 63 #[v,s]).run prog w = .ok (.slice a' (xs.length+us.length) eO) w'∧iU w' base (.slice a' (xs.length+us.length) eO) (xs++us)∧w.grownBy w' v.ownBlock:=by
 obtain ⟨i0,hi,hz,cp,kL⟩:=info_parts I9;obtain ⟨a,cap,rfl,hle,qH,hc⟩:=hs;have SG:∃ a' c',v = .slice a' xs.length c':=aD.form;unfold iU at aD ⊢;rw [ae,w9];cases a with
 | none =>
  have h0:us=[]:=by
   cases us with
   | nil=>rfl
   | cons u r=>obtain ⟨g,o,he,_⟩:=hc 0 (by simp);cases he
  subst h0;rw [qH rfl];have hr:=run_append_owned_none (P:=prog) w base 63 63 52 i0 2 underlying63 hi v xs.length (jj xs) aD;obtain ⟨a',c',rfl⟩:=SG;exact ⟨a',c',w,hr,by simpa [jj] using aD,⟨rfl,rfl,rfl,aj _,fun _ _ _=>rfl⟩⟩
 | some ad =>
  obtain ⟨v',w',hr,gk,AN,_⟩:=run_append_own (P:=prog) w base 63 63 52 i0 _ 2 32 underlying63 hi hz cp kL rfl (by decide) v xs.length (jj xs) aD ad us.length cap (jj us) (eJ us) (fun j u hj=>by
   have lW:=(List.getElem?_eq_some_iff.1 hj).1;rw [eJ] at lW;obtain ⟨g,o,he,c1,c2⟩:=hc (j / 2) (by omega)
   cases he;have hg:=vF us (j / 2) (by omega)
   rw [bA];rcases cy j with hm | hm
   ·have e:j / 2*2=j:=by omega
    rw [e] at hg c1;rw [hg.1] at hj;cases hj;exact c1
   ·have e:j / 2*2+1=j:=by omega
    rw [ed,e] at c2;rw [e] at hg;rw [hg.2] at hj;cases hj;exact c2) (RM us) (by unfold maxLen;omega) hb dr
  have hf:∃ a' c',v' = .slice a' (xs.length+us.length) c':=by
   rcases gk.2 with ⟨rfl,h0⟩ | ⟨g,cap,cur,rfl,_⟩
   ·exact ⟨none,0,by rw [h0]⟩
   ·exact ⟨_,_,rfl⟩
  obtain ⟨a',c',rfl⟩:=hf;exact ⟨a',c',w',hr,gk,AN⟩
theorem iU.dy{w:World}{base:Nat}{v:Value}{l:List Pr}(h:iU w base v l):∀ k,v.ownBlock=some k→base≤k∧k<w.heap.size:=World.ownsRow.lt h
theorem By(w:World)(p:Pr)(t:TypeId):gZ (w.alloc (.cells #[.string p.1,.string p.2] t)) (.slice (some ⟨w.heap.size,0,none⟩) 1 1) [p]:=by
 have hb:=bM w #[.string p.1,.string p.2] t;refine ⟨_,_,rfl,aj _,fun h=>(by cases h),fun j hj=>⟨_,_,rfl,?_,?_⟩⟩
 ·have:j=0:=by simpa using hj
  subst this;exact hb.2 0 (by simp)
 ·have:j=0:=by simpa using hj
  subst this;exact hb.2 1 (by simp)
theorem NH(base:Nat)(v:Value)(l:List Pr)(p:Pr)(t:TypeId)(w w0:World)(B n:Nat)(hn:l.length=n)(aD:iU w base v l)(hb:(n+1)*32≤140737488355328)(dr:base≤w.heap.size)(hB:B≤base)(h0:Below B w0 w):∃ a' eO w',(Builtin.append_ #[63,63] 63 #[v,.slice (some ⟨w.heap.size,0,none⟩) 1 1]).run prog (w.alloc (.cells #[.string p.1,.string p.2] t)) = .ok (.slice a' (n+1) eO) w'∧iU w' base (.slice a' (n+1) eO) (l++[p])∧Below B w0 w'∧w.heap.size≤w'.heap.size:=by
 subst hn;have ho:iU (w.alloc (.cells #[.string p.1,.string p.2] t)) base v l:=World.ownsRow.alloc aD _;obtain ⟨a',eO,w',hr,gk,hg⟩:=gT base v _ l [p] _ ho (By w p t) (by simpa using hb) (by simp;omega)
 refine ⟨a',eO,w',hr,gk,?_,?_⟩
 ·refine (h0.alloc (aq hB dr) _).grown hg (by simp;omega) (fun k hk=>aq hB (aD.dy k hk).1)
 ·have:=hg.size;simp at this
  omega
theorem ub(n:Nat):(Builtin.zeroCells (Value.agg #[.string ByteArray.empty,.string ByteArray.empty]).cells n).size=n*2:=by
 simp [Builtin.zeroCells,Value.cells]
theorem PE(n:Nat)(w:World)(hn:n*32≤140737488355328):Calls prog 130 #[.slice none 0 0,.int .i64 (n:Int)] w fun e w'=>∃ u,e = .returned u∧iU w' w.heap.size u []∧Below w.heap.size w w':=by
 obtain ⟨i0,hi,hz,cp,kL⟩:=info_parts I9;have G3:decide ((n:Int)<0)=false:=decide_eq_false (by omega)
 by_cases h0:0<n
 ·have bo:=Lib.run_append_nil_zeros (P:=prog) w 63 3 63 52 i0 _ .i64 .i64 underlying63 underlying3 hi hz n h0 (by omega) (by omega) (by rw [kL];omega)
  have Yp:(0:Int)<(n:Int):=by omega
  have hw:IntKind.i64.wrap ((n:Int))=(n:Int):=by rw [IntKind.wrap_i64];omega
  generalize du:grownCap w n 0 52=cap at *;have hle:n≤cap:=by rw [← du];exact grownCap_ge _ _ _ _
  have Ub:cap≤maxLen:=by rw [← du];exact grownCap_le_maxLen _ _ _ _ (by unfold maxLen;omega)
  generalize fG:Builtin.zeroCells _ n++Builtin.zeroCells _ (cap - n)=cs at bo;have Eu:cs.size=cap*2:=by rw [← fG,gv,ub,ub];omega
  have HO:Hid (iU (w.drew.alloc (.cells cs 52)) w.heap.size (.slice (some ⟨w.heap.size,0,none⟩) 0 cap) []) :=
   ⟨by simp [jj],.inr ⟨w.heap.size,cap,cs,rfl,aj _,heap_alloc_new w.drew _,aC _,Ub,Eu,by simp [jj]⟩⟩
  have HB:Hid (Below w.heap.size w (w.drew.alloc (.cells cs 52))):=((Below.refl _ _).drew).alloc (aj _) _;clear fG du hi hz cp kL Eu;go_enter func130,ntmps130;go_wp2_with (first | (at_builtin;refine Lib.wpList_append_run _ rfl (.tmp 20) (.tmp 21) 63 3 rfl _ _ rfl rfl _ _ bo ?_))
  go_ret;exact ⟨_,rfl,HO.out,HB.out⟩
 ·obtain rfl:n=0:=by omega
  go_enter func130,ntmps130;go_wp2;go_ret;exact ⟨_,rfl,iU.nil _ _,Below.refl _ _⟩
def jA(LL:List (List Pr))(k:Nat):Nat:=((LL.take k).flatten).length
theorem uC(LL:List (List Pr))(k:Nat)(h:k<LL.length):jA LL (k+1)=jA LL k+LL[k].length:=by
 unfold jA;rw [ay h,dC,ae];simp
theorem Av(LL:List (List Pr))(k:Nat):jA LL k≤LL.flatten.length:=by
 unfold jA;conv=>rhs;rw [← aE k LL,dC,ae]
 omega
theorem qR(B m cap:Nat)(uh:List Value)(LL:List (List Pr))(w:World)(hm:LL.length=m)(Ek:m≤3)(hs:uh.length=m)(fU:LL.flatten.length*32≤140737488355328)(hc:∀ j (h:j<uh.length),w.cell? ⟨B,j,none⟩=some uh[j])(hr:∀ j (h:j<LL.length) (h':j<uh.length),gZ w uh[j] LL[j]):Calls prog 84 #[.slice (some ⟨B,0,none⟩) m cap] w fun e w'=>∃ u,e = .returned u∧iU w' w.heap.size u LL.flatten∧Below w.heap.size w w':=by
 have HM:=ab hm;have HS:=ab hs;have HC:=ab hc;have HR:=ab hr;have q9:=ab fU;obtain ⟨T,hT⟩ : ∃ T,T=LL.flatten.length:=⟨_,rfl⟩;have HT:=ab hT;have Zn:T*32≤140737488355328:=by rw [hT];exact fU
 have QL:Hid (jA LL 0=0):=by show _=_;simp [jA]
 clear hm hs hc hr fU hT;go_enter func84,ntmps84;go_wp2;go_loop [3,11] (fun r i=>∃ k:Nat,k≤m∧i = .int .i64 k∧r = .int .i64 (jA LL k:Int)) (fun _ i=>m - (intOf i).toNat)
 case atStart=>exact ⟨0,aC _,rfl,by rw [QL.out];rfl⟩
 case round =>
  obtain ⟨k,hk,rfl,rfl⟩:=hrel;by_cases bX:k<m
  ·have jm:k<uh.length:=by have:=HS.out;omega
   have pC:k<LL.length:=by have:=HM.out;omega
   have c1:=HC.out k jm;obtain ⟨a,c,hf⟩:=(HR.out k pC jm).form;rw [hf] at c1;have UB:=ab (uC LL k pC);have CF:=ab (Av LL (k+1));obtain ⟨x,hx⟩ : ∃ x,x=jA LL k:=⟨_,rfl⟩;obtain ⟨y,hy⟩ : ∃ y,y=jA LL (k+1):=⟨_,rfl⟩;obtain ⟨z,hz⟩ : ∃ z,z=LL[k].length:=⟨_,rfl⟩;rw [← hx,← hy,← hz] at UB;rw [← hy,← HT.out] at CF;rw [← hx];rw [← hz] at c1;have HY:=ab hy;have hw:IntKind.i64.wrap ((x:Int)+(z:Int))=(y:Int):=by rw [IntKind.wrap_i64];have:=UB.out;have:=CF.out;omega
   have G3:decide ((y:Int)<0)=false:=decide_eq_false (by omega)
   have dO:(k:Int)<(m:Int):=by omega
   clear hx hy hz hf HC HR;go_wp2;go_round
   case rel=>exact ⟨k+1,by omega,by go_num,by rw [← HY.out]⟩
   case measure=>simp [intOf];omega
  ·have GY:k=m:=by omega
   subst GY;have cZ:jA LL k=T:=by
    rw [HT.out];unfold jA;rw [ar (by rw [HM.out];exact aj _)]
   rw [cZ];have dO:¬ (k:Int)<(k:Int):=by omega
   have HG:=ab (PE T w Zn);clear cZ bX hk;go_wp2_with fail;refine HG.out.mono ?_
   rintro e w1 ⟨u,rfl,aD,aN⟩;have HO:=ab aD;have bN:=ab aN;clear aD aN HG;go_wp2;go_loopw [6,27] (fun u i wr=>∃ j:Nat,j≤k∧i = .int .i64 j∧iU wr w.heap.size u ((LL.take j).flatten)∧Below w.heap.size w wr) (fun _ i _=>k - (intOf i).toNat)
   case atStart=>exact ⟨0,aC _,rfl,by simpa using HO.out,bN.out⟩
   case round =>
    obtain ⟨j,hj,rfl,aD,bL⟩:=hrel;clear HO bN;by_cases bX:j<k
    ·have jm:j<uh.length:=by have:=HS.out;omega
     have pC:j<LL.length:=by have:=HM.out;omega
     have c0:=HC.out j jm;have c1:wr.cell? ⟨B,j,none⟩=some uh[j]:=(bL.cell (p:=⟨B,j,none⟩) (World.block_lt_of_cell? w _ c0)).trans c0;have eN:=(HR.out j pC jm).below bL;have hle:=Av LL (j+1);rw [uC LL j pC,← HT.out] at hle;unfold jA at hle;obtain ⟨a1,cp1,w2,bo,dq,fJ⟩:=gT w.heap.size _ _ _ _ wr aD eN (by omega) bL.size
     have aY:Below w.heap.size w w2:=bL.grown fJ bL.size (fun q hq=>(aD.dy q hq).1)
     obtain ⟨a,c,hf⟩:=eN.form;obtain ⟨ua,uc,hu⟩:=aD.form;subst hu;rw [hf] at c1 bo;have kU:(LL.take j).flatten++LL[j]=(LL.take (j+1)).flatten:=by
      rw [ay pC,dC];simp
     rw [kU] at dq;generalize ((LL.take j).flatten).length=L1 at *;generalize LL[j].length=L2 at *;have gX:=ab dq;have bH:=ab aY;have dO:(j:Int)<(k:Int):=by omega
     clear hf HC HR aD dq bL aY fJ eN c0 hle;go_wp2_with (first | (at_builtin;refine wpList_append_run 63 rfl (.tmp 31) (.tmp 32) rfl rfl _ _ rfl rfl _ _ bo ?_))
     clear bo;go_wp2;go_roundw
     case rel=>exact ⟨j+1,by omega,by go_num,gX.out,bH.out⟩
     case measure=>simp [intOf];omega
    ·have cZ:LL.take j=LL:=by rw [ar];have:=HM.out;omega
     rw [cZ] at aD;have HO:=ab aD;have HB:=ab bL;have dO:¬ (j:Int)<(k:Int):=by omega
     clear aD bL cZ HC HR;go_wp2;go_ret;exact ⟨_,rfl,HO.out,HB.out⟩
theorem yB(n:Nat)(b:Bool)(w:World)(hn:n≤140737488355328):Calls prog 85 #[.int .i64 (n:Int),.bool b] w fun e w'=>e = .returned (.int .i64 ((if b then n+1 else n:Nat):Int))∧w=w':=by
 cases b with
 | true =>
  go_enter func85,ntmps85;go_wp2;go_ret;exact ⟨by go_num,rfl⟩
 | false =>
  go_enter func85,ntmps85;go_wp2;go_ret;exact ⟨rfl,rfl⟩
namespace B
theorem jK(n:Nat):(Builtin.zeroCells (Value.agg #[.string ByteArray.empty,.int .i64 0]).cells n).size=n*2:=by
 simp [Builtin.zeroCells,Value.cells]
theorem tw(n:Nat)(w:World)(hn:n*24≤140737488355328):Calls prog 234 #[.slice none 0 0,.int .i64 (n:Int)] w fun e w'=>∃ u,e = .returned u∧bQ w' w.heap.size u []∧Below w.heap.size w w':=by
 obtain ⟨i0,hi,hz,cp,kL⟩:=info_parts lV;have G3:decide ((n:Int)<0)=false:=decide_eq_false (by omega)
 by_cases h0:0<n
 ·have bo:=Lib.run_append_nil_zeros (P:=prog) w 148 3 148 179 i0 _ .i64 .i64 underlying148 underlying3 hi hz n h0 (by omega) (by omega) (by rw [kL];omega)
  have Yp:(0:Int)<(n:Int):=by omega
  have hw:IntKind.i64.wrap ((n:Int))=(n:Int):=by rw [IntKind.wrap_i64];omega
  generalize du:grownCap w n 0 179=cap at *;have hle:n≤cap:=by rw [← du];exact grownCap_ge _ _ _ _
  have Ub:cap≤maxLen:=by rw [← du];exact grownCap_le_maxLen _ _ _ _ (by unfold maxLen;omega)
  generalize fG:Builtin.zeroCells _ n++Builtin.zeroCells _ (cap - n)=cs at bo;have Eu:cs.size=cap*2:=by rw [← fG,gv,jK,jK];omega
  have HO:Hid (bQ (w.drew.alloc (.cells cs 179)) w.heap.size (.slice (some ⟨w.heap.size,0,none⟩) 0 cap) []) :=
   ⟨by simp [bg],.inr ⟨w.heap.size,cap,cs,rfl,aj _,heap_alloc_new w.drew _,aC _,Ub,Eu,by simp [bg]⟩⟩
  have HB:Hid (Below w.heap.size w (w.drew.alloc (.cells cs 179))):=((Below.refl _ _).drew).alloc (aj _) _;clear fG du hi hz cp kL Eu;go_enter func234,ntmps234;go_wp2_with (first | (at_builtin;refine Lib.wpList_append_run _ rfl (.tmp 20) (.tmp 21) 148 3 rfl _ _ rfl rfl _ _ bo ?_))
  go_ret;exact ⟨_,rfl,HO.out,HB.out⟩
 ·obtain rfl:n=0:=by omega
  go_enter func234,ntmps234;go_wp2;go_ret;exact ⟨_,rfl,bQ.nil _ _,Below.refl _ _⟩
def cR(LL:List (List Lk))(k:Nat):Nat:=((LL.take k).flatten).length
theorem jb(LL:List (List Lk))(k:Nat)(h:k<LL.length):cR LL (k+1)=cR LL k+LL[k].length:=by
 unfold cR;rw [ay h,dC,ae];simp
theorem kK(LL:List (List Lk))(k:Nat):cR LL k≤LL.flatten.length:=by
 unfold cR;conv=>rhs;rw [← aE k LL,dC,ae]
 omega
theorem ov(B m cap:Nat)(uh:List Value)(LL:List (List Lk))(w:World)(hm:LL.length=m)(Ek:m≤3)(hs:uh.length=m)(fU:LL.flatten.length*24≤140737488355328)(hc:∀ j (h:j<uh.length),w.cell? ⟨B,j,none⟩=some uh[j])(hr:∀ j (h:j<LL.length) (h':j<uh.length),dm w uh[j] LL[j]):Calls prog 205 #[.slice (some ⟨B,0,none⟩) m cap] w fun e w'=>∃ u,e = .returned u∧bQ w' w.heap.size u LL.flatten∧Below w.heap.size w w':=by
 have HM:=ab hm;have HS:=ab hs;have HC:=ab hc;have HR:=ab hr;have q9:=ab fU;obtain ⟨T,hT⟩ : ∃ T,T=LL.flatten.length:=⟨_,rfl⟩;have HT:=ab hT;have Zn:T*24≤140737488355328:=by rw [hT];exact fU
 have QL:Hid (cR LL 0=0):=by show _=_;simp [cR]
 clear hm hs hc hr fU hT;go_enter func205,ntmps205;go_wp2;go_loop [3,11] (fun r i=>∃ k:Nat,k≤m∧i = .int .i64 k∧r = .int .i64 (cR LL k:Int)) (fun _ i=>m - (intOf i).toNat)
 case atStart=>exact ⟨0,aC _,rfl,by rw [QL.out];rfl⟩
 case round =>
  obtain ⟨k,hk,rfl,rfl⟩:=hrel;by_cases bX:k<m
  ·have jm:k<uh.length:=by have:=HS.out;omega
   have pC:k<LL.length:=by have:=HM.out;omega
   have c1:=HC.out k jm;obtain ⟨a,c,hf⟩:=(HR.out k pC jm).form;rw [hf] at c1;have UB:=ab (jb LL k pC);have CF:=ab (kK LL (k+1));obtain ⟨x,hx⟩ : ∃ x,x=cR LL k:=⟨_,rfl⟩;obtain ⟨y,hy⟩ : ∃ y,y=cR LL (k+1):=⟨_,rfl⟩;obtain ⟨z,hz⟩ : ∃ z,z=LL[k].length:=⟨_,rfl⟩;rw [← hx,← hy,← hz] at UB;rw [← hy,← HT.out] at CF;rw [← hx];rw [← hz] at c1;have HY:=ab hy;have hw:IntKind.i64.wrap ((x:Int)+(z:Int))=(y:Int):=by rw [IntKind.wrap_i64];have:=UB.out;have:=CF.out;omega
   have G3:decide ((y:Int)<0)=false:=decide_eq_false (by omega)
   have dO:(k:Int)<(m:Int):=by omega
   clear hx hy hz hf HC HR;go_wp2;go_round
   case rel=>exact ⟨k+1,by omega,by go_num,by rw [← HY.out]⟩
   case measure=>simp [intOf];omega
  ·have GY:k=m:=by omega
   subst GY;have cZ:cR LL k=T:=by
    rw [HT.out];unfold cR;rw [ar (by rw [HM.out];exact aj _)]
   rw [cZ];have dO:¬ (k:Int)<(k:Int):=by omega
   have HG:=ab (tw T w Zn);clear cZ bX hk;go_wp2_with fail;refine HG.out.mono ?_
   rintro e w1 ⟨u,rfl,aD,aN⟩;have HO:=ab aD;have bN:=ab aN;clear aD aN HG;go_wp2;go_loopw [6,27] (fun u i wr=>∃ j:Nat,j≤k∧i = .int .i64 j∧bQ wr w.heap.size u ((LL.take j).flatten)∧Below w.heap.size w wr) (fun _ i _=>k - (intOf i).toNat)
   case atStart=>exact ⟨0,aC _,rfl,by simpa using HO.out,bN.out⟩
   case round =>
    obtain ⟨j,hj,rfl,aD,bL⟩:=hrel;clear HO bN;by_cases bX:j<k
    ·have jm:j<uh.length:=by have:=HS.out;omega
     have pC:j<LL.length:=by have:=HM.out;omega
     have c0:=HC.out j jm;have c1:wr.cell? ⟨B,j,none⟩=some uh[j]:=(bL.cell (p:=⟨B,j,none⟩) (World.block_lt_of_cell? w _ c0)).trans c0;have eN:=(HR.out j pC jm).below bL;have hle:=kK LL (j+1);rw [jb LL j pC,← HT.out] at hle;unfold cR at hle;obtain ⟨a1,cp1,w2,bo,dq,fJ⟩:=fo w.heap.size _ _ _ _ wr aD eN (by omega) bL.size
     have aY:Below w.heap.size w w2:=bL.grown fJ bL.size (fun q hq=>(aD.dy q hq).1)
     obtain ⟨a,c,hf⟩:=eN.form;obtain ⟨ua,uc,hu⟩:=aD.form;subst hu;rw [hf] at c1 bo;have kU:(LL.take j).flatten++LL[j]=(LL.take (j+1)).flatten:=by
      rw [ay pC,dC];simp
     rw [kU] at dq;generalize ((LL.take j).flatten).length=L1 at *;generalize LL[j].length=L2 at *;have gX:=ab dq;have bH:=ab aY;have dO:(j:Int)<(k:Int):=by omega
     clear hf HC HR aD dq bL aY fJ eN c0 hle;go_wp2_with (first | (at_builtin;refine wpList_append_run 148 rfl (.tmp 31) (.tmp 32) rfl rfl _ _ rfl rfl _ _ bo ?_))
     clear bo;go_wp2;go_roundw
     case rel=>exact ⟨j+1,by omega,by go_num,gX.out,bH.out⟩
     case measure=>simp [intOf];omega
    ·have cZ:LL.take j=LL:=by rw [ar];have:=HM.out;omega
     rw [cZ] at aD;have HO:=ab aD;have HB:=ab bL;have dO:¬ (j:Int)<(k:Int):=by omega
     clear aD bL cZ HC HR;go_wp2;go_ret;exact ⟨_,rfl,HO.out,HB.out⟩
theorem LR(fa fb:Int)(key:ByteArray)(va vb:Value)(la lb:List Lk)(w:World)(hm:la.length+lb.length+1≤5864062014805)(ha:dm w va la)(hb:dm w vb lb):Calls prog 165 #[.agg #[.int .i64 fa,va],.string key,.agg #[.int .i64 fb,vb]] w fun e w'=>∃ u,e = .returned (.agg #[.int .i64 fa,u])∧bQ w' w.heap.size u (iQ la key fb lb)∧Below w.heap.size w w':=by
 obtain ⟨a1,c1,hv⟩:=ha.form;subst hv;obtain ⟨a2,c2,hv⟩:=hb.form;subst hv;obtain ⟨na,hna⟩ : ∃ n,n=la.length:=⟨_,rfl⟩;obtain ⟨nb,xW⟩ : ∃ n,n=lb.length:=⟨_,rfl⟩;rw [← hna] at ha ⊢;rw [← xW] at hb ⊢;have q1:=ai w (.cells #[.int .i64 fa,.slice a1 na c1] 150);have x1:=au.new w #[.int .i64 fa,.slice a1 na c1] 150;have s1:(w.alloc (.cells #[.int .i64 fa,.slice a1 na c1] 150)).heap.size=w.heap.size+1:=by simp
 generalize lf:w.alloc (.cells #[.int .i64 fa,.slice a1 na c1] 150)=W1 at *;have q2:=ai W1 (.cells #[.int .i64 fb,.slice a2 nb c2] 150);have x2:=au.new W1 #[.int .i64 fb,.slice a2 nb c2] 150;have s2:(W1.alloc (.cells #[.int .i64 fb,.slice a2 nb c2] 150)).heap.size=W1.heap.size+1:=by simp
 generalize K3:W1.alloc (.cells #[.int .i64 fb,.slice a2 nb c2] 150)=W2 at *;have q3:=ai W2 (.cells #[.int .i64 0,.slice none 0 0] 150);have x3:=au.new W2 #[.int .i64 0,.slice none 0 0] 150;have s3:(W2.alloc (.cells #[.int .i64 0,.slice none 0 0] 150)).heap.size=W2.heap.size+1:=by simp
 generalize SO:W2.alloc (.cells #[.int .i64 0,.slice none 0 0] 150)=W3 at *;have q4:=ai W3 (.cells #[.string key,.int .i64 fb] 179);have x4:=vP W3 (key,fb) 179;have s4:(W3.alloc (.cells #[.string key,.int .i64 fb] 179)).heap.size=W3.heap.size+1:=by simp
 generalize Up:W3.alloc (.cells #[.string key,.int .i64 fb] 179)=W4 at *;have q5:=ai W4 (.cells #[.slice a1 na c1,.slice (some ⟨W3.heap.size,0,none⟩) 1 1,.slice a2 nb c2] 148);have x5:=bM W4 #[.slice a1 na c1,.slice (some ⟨W3.heap.size,0,none⟩) 1 1,.slice a2 nb c2] 148;have s5:(W4.alloc (.cells #[.slice a1 na c1,.slice (some ⟨W3.heap.size,0,none⟩) 1 1,.slice a2 nb c2] 148)).heap.size=W4.heap.size+1:=by simp
 generalize hW5:W4.alloc (.cells #[.slice a1 na c1,.slice (some ⟨W3.heap.size,0,none⟩) 1 1,.slice a2 nb c2] 148)=W5 at *;have y1:=((((x1.below q2).below q3).below q4));have y2:=((x2.below q3).below q4);have y3:=(x3.below q4);have zm:Hid (∀ W,Below W5.heap.size W5 W→Calls prog 205 #[.slice (some ⟨W4.heap.size,0,none⟩) 3 3] W fun e w'=>∃ ga gn gc,e = .returned (.slice ga gn gc)∧bQ w' W5.heap.size (.slice ga gn gc) (iQ la key fb lb)∧Below W5.heap.size W5 w'):=fun W hW=>by
  refine (ov W4.heap.size 3 3 [.slice a1 na c1,.slice (some ⟨W3.heap.size,0,none⟩) 1 1,.slice a2 nb c2] [la,[(key,fb)],lb] W rfl (by decide) rfl ?_ (fun j h=>(x5.below hW).2 j h) ?_).mono ?_
  ·simp;omega
  ·intro j h h';have hj:j<3:=h;match j,hj with
   | 0,_=>exact ((((((ha.below q1).below q2).below q3).below q4).below q5).below hW)
   | 1,_=>exact (x4.below q5).below hW
   | 2,_=>exact ((((((hb.below q1).below q2).below q3).below q4).below q5).below hW)
  ·rintro e w' ⟨u,rfl,ho,hb⟩;obtain ⟨ga,gc,hu⟩:=ho.form;subst hu;refine ⟨ga,_,gc,rfl,?_,Below.next hW hb⟩;have he:[la,[(key,fb)],lb].flatten=iQ la key fb lb:=by simp [iQ]
   rw [he] at ho ⊢;exact ho.mono hW.size
 have HQ:=ab (Below.next q1 (Below.next q2 (Below.next q3 (Below.next q4 q5))));have Mc:=ab (Below.next q1 (Below.next q2 (Below.next q3 q4)));have ZK:=ab (y3.below q5);have HS:Hid (W5.heap.size=w.heap.size+5∧W2.heap.size=w.heap.size+2):=by show _∧_;omega
 have Fc:=ab q5;have HY1:=ab y1;have HY2:=ab y2;have p1:W4.cell? ⟨w.heap.size,0,none⟩=some (.int .i64 fa):=y1.c0;have p2:W4.cell? ⟨w.heap.size,1,none⟩=some (.slice a1 na c1):=y1.c1;have p3:W4.cell? ⟨W1.heap.size,0,none⟩=some (.int .i64 fb):=y2.c0;have p4:W4.cell? ⟨W1.heap.size,1,none⟩=some (.slice a2 nb c2):=y2.c1;have p5:W3.cell? ⟨W1.heap.size,0,none⟩=some (.int .i64 fb):=(x2.below q3).c0;have r1:W5.cell? ⟨w.heap.size,0,none⟩=some (.int .i64 fa):=(y1.below q5).c0;have r2:W5.cell? ⟨w.heap.size,1,none⟩=some (.slice a1 na c1):=(y1.below q5).c1;have r3:W5.cell? ⟨W1.heap.size,1,none⟩=some (.slice a2 nb c2):=(y2.below q5).c1;have b1:¬ w.heap.size=W2.heap.size:=by omega
 have b2:¬ W1.heap.size=W2.heap.size:=by omega
 have b3:¬ W2.heap.size=w.heap.size:=by omega
 have b4:¬ W2.heap.size=W1.heap.size:=by omega
 clear q1 q2 q3 q4 q5 x1 x2 x3 x4 x5 y1 y2 y3 s1 s2 s3 s4 s5 ha hb hm hna xW;go_enter func165,ntmps165;go_wp2_with fail;go_region_held3 (fun w'=>w'.cell? ⟨w.heap.size,0,none⟩=some (.int .i64 fa)∧w'.cell? ⟨w.heap.size,1,none⟩=some (.slice a1 na c1)∧w'.cell? ⟨W1.heap.size,1,none⟩=some (.slice a2 nb c2)) (go_keep)
  (first
   | (go_at_call 205;refine (zm.out _ ?_).mono ?_;(exact (Below.refl _ _).drew);rintro e w3 ⟨ga,gn,gc,rfl,ho,hb⟩;have HO:=ab ho;have HB:=ab hb;have k1:w3.cell? ⟨w.heap.size,0,none⟩=some (.int .i64 fa):=((HY1.out.below Fc.out).below hb).c0;have k2:w3.cell? ⟨w.heap.size,1,none⟩=some (.slice a1 na c1):=((HY1.out.below Fc.out).below hb).c1;have k3:w3.cell? ⟨W1.heap.size,1,none⟩=some (.slice a2 nb c2):=((HY2.out.below Fc.out).below hb).c1;have k4:w3.cell? ⟨W2.heap.size,0,none⟩=some (.int .i64 0):=(ZK.out.below hb).c0;have k5:w3.cell? ⟨W2.heap.size,1,none⟩=some (.slice none 0 0):=(ZK.out.below hb).c1;have z4:=(ZK.out.below hb).free 0;have z5:=(ZK.out.below hb).free 1;clear ho hb))
 all_goals
  clear zm r1 r2 r3 p1 p2 p3 p4 p5 k1 k2 k3 k4 k5 z4 z5 b1 b2 b3 b4;go_wp2_with fail;refine bodyPost_ret (results_cell_row rfl _ _ W2.heap.size 150 _ (0,0) _ rfl ((ZK.out.below HB.out).two _ _) underlying150 rfl (by kernel_rfl)) rfl ⟨.slice ga gn gc,rfl,?_,?_⟩
  ·exact (HO.out.ti (by have:=HS.out;omega) _ _).mono HQ.out.size
  ·exact bP (Below.next HQ.out HB.out) (by have:=HS.out;omega)
end B
namespace T
theorem JV(W:World)(a b:Value)(t:TypeId):∀ j (h:j < [a,b].length),(W.alloc (.cells #[a,b] t)).cell? ⟨W.heap.size,j,none⟩=some [a,b][j]:=fun j h=>by
 have h1:=(bM W #[a,b] t).2 j h;exact h1
theorem KO(ba bb:Nat)(na nb:SN)(pa la ca pb lb cb:Value)(key:ByteArray)(w:World)(ha:dM w ba na pa la ca)(hb:dM w bb nb pb lb cb)(h0:na.us.length=0)(hl:na.ps.length+nb.ps.length≤4000):Calls prog 126 #[.pointer (some ⟨ba,0,none⟩),.string key,.pointer (some ⟨bb,0,none⟩)] w fun e w'=>Ra w ⟨na.ps++nb.ps,0,[],[]⟩ e w':=by
 have HL:=ab (cd ba na pa la ca w ha);rw [show decide (na.us.length=0)=true by simp [h0]] at HL
 obtain ⟨xa,xc,T9⟩:=ha.jj.form;obtain ⟨ya,yc,FC⟩:=hb.jj.form;subst T9 FC;have p0:=ha.c0;have p1:=hb.c0;have HFA:=ab ha.fine;have HFB:=ab hb.fine;have zm:Hid (∀ W,Below w.heap.size w W→Calls prog 84 #[.slice (some ⟨W.heap.size,0,none⟩) 2 2] (W.alloc (.cells #[.slice xa na.ps.length xc,.slice ya nb.ps.length yc] 63)) fun e w'=>∃ (ua:Option Addr) (uc:Nat),e = .returned (.slice ua (na.ps++nb.ps).length uc)∧iU w' W.heap.size (.slice ua (na.ps++nb.ps).length uc) (na.ps++nb.ps)∧Below w.heap.size w w'):=fun W hW=>by
  have q:=ai W (.cells #[.slice xa na.ps.length xc,.slice ya nb.ps.length yc] 63);refine (qR W.heap.size 2 2 [.slice xa na.ps.length xc,.slice ya nb.ps.length yc] [na.ps,nb.ps] _ rfl (by decide) rfl (by simp;omega) (JV W _ _ _) (fun j h h'=>?_)).mono fun e w' ⟨u,h1,h2,h3⟩=>?_
  ·match j,h with
   | 0,_=>exact ((ha.jj.below hW).below q)
   | 1,_=>exact ((hb.jj.below hW).below q)
  ·have e1:[na.ps,nb.ps].flatten=na.ps++nb.ps:=by simp
   rw [e1] at h2;obtain ⟨ua,uc,hu⟩:=h2.form;subst hu;exact ⟨ua,uc,h1,h2.mono (by simp),Below.next (Below.next hW q) h3⟩
 have yW:Hid ((∀ p ∈ na.ps++nb.ps,cF p=true)∧(na.ps++nb.ps).length≤4000):=⟨fun p hp=>by
  rcases List.mem_append.1 hp with h | h
  ·exact ha.fine.1 p h
  ·exact hb.fine.1 p h,by rw [ae];exact hl⟩
 obtain ⟨N,hN⟩ : ∃ N,N=(na.ps++nb.ps).length:=⟨_,rfl⟩;rw [← hN] at zm;clear hN;clear ha hb h0 hl;go_enter func126,ntmps126;go_wp2_with fail;refine HL.out.mono ?_
 rintro e w1 ⟨rfl,rfl⟩;clear HL;go_wp2_with fail;have f0:=World.new_ne w _ p0;have f1:=World.new_ne w _ p1;go_region_held3 (fun w'=>w'.cell? ⟨ba,0,none⟩=some (.slice xa na.ps.length xc)∧w'.cell? ⟨bb,0,none⟩=some (.slice ya nb.ps.length yc)) (go_keep)
  (first
   | (go_at_call 84;refine (zm.out _ (Below.refl _ _).drew).mono ?_;rintro e w3 ⟨ua,uc,rfl,fX,b6⟩;have m0:=(b6.cell (p:=⟨ba,0,none⟩) (World.block_lt_of_cell? w _ p0)).trans p0;have m1:=(b6.cell (p:=⟨bb,0,none⟩) (World.block_lt_of_cell? w _ p1)).trans p1;have nL:=ab fX;have dH:=ab b6;clear fX b6))
 all_goals (
  have q:=ai w3 (.cells #[.slice ua N uc,.int .i64 0,.slice none 0 0,.slice none 0 0] 155);have xr:=B.au.new w3 #[.slice ua N uc,.int .i64 0,.slice none 0 0,.slice none 0 0] 155;have HR:Hid (dM (w3.alloc (.cells #[.slice ua N uc,.int .i64 0,.slice none 0 0,.slice none 0 0] 155)) w3.heap.size ⟨na.ps++nb.ps,0,[],[]⟩ (.slice ua N uc) (.slice none 0 0) (.slice none 0 0)):=⟨xr,(nL.out.below q).at,B.dm.nil _,(C.bQ.nil _ 0).at,yW.out.1,yW.out.2,(fun p hp=>by simp at hp),by simp,by simp⟩
  have rm:=ab (Below.next dH.out q);clear q xr;go_wp2;go_ret;exact ⟨_,_,_,_,rfl,HR.out,rm.out⟩)
theorem Sd(ba bb:Nat)(na nb:SN)(pa la ca pb lb cb:Value)(key:ByteArray)(w:World)(ha:dM w ba na pa la ca)(hb:dM w bb nb pb lb cb)(h0:¬ na.us.length=0)(hl:na.lk.length+nb.lk.length+1≤4000)(hu:na.us.length+nb.us.length≤4001)(hk:cQ key):Calls prog 126 #[.pointer (some ⟨ba,0,none⟩),.string key,.pointer (some ⟨bb,0,none⟩)] w fun e w'=>Ra w ⟨[],na.f,B.iQ na.lk key nb.f nb.lk,na.us++nb.us⟩ e w':=by
 have HL:=ab (cd ba na pa la ca w ha);rw [show decide (na.us.length=0)=false by simp [h0]] at HL
 obtain ⟨xa,xc,hca⟩:=ha.kids.form;obtain ⟨ya,yc,My⟩:=hb.kids.form;obtain ⟨va,vc,hla⟩:=ha.bg.form;obtain ⟨za,zc,hlb⟩:=hb.bg.form;subst hca My hla hlb;obtain ⟨N,hN⟩ : ∃ N,N=(na.us++nb.us).length:=⟨_,rfl⟩;obtain ⟨M,hM⟩ : ∃ M,M=(B.iQ na.lk key nb.f nb.lk).length:=⟨_,rfl⟩;have HJN:Hid (∀ W,Below w.heap.size w W→Calls prog 165 #[.agg #[.int .i64 na.f,.slice va na.lk.length vc],.string key,.agg #[.int .i64 nb.f,.slice za nb.lk.length zc]] W fun e w'=>∃ (ua:Option Addr) (uc:Nat),e = .returned (.agg #[.int .i64 na.f,.slice ua M uc])∧B.dm w' (.slice ua M uc) (B.iQ na.lk key nb.f nb.lk)∧Below W.heap.size W w'):=fun W hW=>by
  refine (B.LR na.f nb.f key _ _ na.lk nb.lk W (by omega) (ha.bg.below hW) (hb.bg.below hW)).mono fun e w' ⟨u,h1,h2,h3⟩=>?_
  obtain ⟨ua,uc,hu⟩:=h2.form;subst hu;rw [← hM] at h1 h2;exact ⟨ua,uc,h1,h2.at,h3⟩
 have zm:Hid (∀ (W:World) (k:Nat),Below w.heap.size w W→B.au W k #[.slice xa na.us.length xc,.slice ya nb.us.length yc] 153→Calls prog 166 #[.slice (some ⟨k,0,none⟩) 2 2] W fun e w'=>∃ (ca:Option Addr) (cc:Nat),e = .returned (.slice ca N cc)∧C.dm w' (.slice ca N cc) (na.us++nb.us)∧Below W.heap.size W w'):=fun W k hW hr=>by
  refine (C.ov k 2 2 [.slice xa na.us.length xc,.slice ya nb.us.length yc] [na.us,nb.us] _ rfl (by decide) rfl (by simp;omega) (fun j h=>?_) (fun j h h'=>?_)).mono fun e w' ⟨u,h1,h2,h3⟩=>?_
  ·match j,h with
   | 0,_=>exact hr.cell 0 (by simp)
   | 1,_=>exact hr.cell 1 (by simp)
  ·match j,h with
   | 0,_=>exact (ha.kids.below hW)
   | 1,_=>exact (hb.kids.below hW)
  ·have e1:[na.us,nb.us].flatten=na.us++nb.us:=by simp
   rw [e1] at h2;obtain ⟨ua,uc,hu⟩:=h2.form;subst hu;rw [← hN] at h1 h2;exact ⟨ua,uc,h1,h2.at,h3⟩
 have yW:Hid ((∀ p ∈ B.iQ na.lk key nb.f nb.lk,cQ p.1)∧(B.iQ na.lk key nb.f nb.lk).length≤4000∧(na.us++nb.us).length≤4001):=⟨fun p hp=>by
  unfold B.iQ at hp;rcases List.mem_append.1 hp with h | h
  ·exact ha.fine.2.2.1 p h
  ·rcases List.mem_cons.1 h with rfl | h
   ·exact hk
   ·exact hb.fine.2.2.1 p h,by unfold B.iQ;rw [ae,List.length_cons];omega,by rw [ae];exact hu⟩
 have a1:=ha.c1;have a2:=ha.c2;have a3:=ha.c3;have b1:=hb.c1;have b2:=hb.c2;have b3:=hb.c3;have HA:=ab ha;have HB:=ab hb;clear ha hb h0 hl hu hk hN hM;go_enter func126,ntmps126;go_wp2_with fail;refine HL.out.mono ?_
 rintro e w1 ⟨rfl,rfl⟩;clear HL;go_wp2_with fail;have f0:=World.new_ne w _ a1;have f1:=World.new_ne w _ b1;have q5:=ai w (.cells #[.slice xa na.us.length xc,.slice ya nb.us.length yc] 153);have x5:=B.au.new w #[.slice xa na.us.length xc,.slice ya nb.us.length yc] 153;have QB:Hid (∀ W,Below w.heap.size w W→(W.cell? ⟨ba,1,none⟩=some (.int .i64 na.f)∧W.cell? ⟨ba,2,none⟩=some (.slice va na.lk.length vc)∧W.cell? ⟨ba,3,none⟩=some (.slice xa na.us.length xc)∧W.cell? ⟨bb,1,none⟩=some (.int .i64 nb.f)∧W.cell? ⟨bb,2,none⟩=some (.slice za nb.lk.length zc)∧W.cell? ⟨bb,3,none⟩=some (.slice ya nb.us.length yc))∧¬ ba=W.heap.size∧¬ bb=W.heap.size):=fun W hW=>⟨⟨(HA.out.below hW).c1,(HA.out.below hW).c2,(HA.out.below hW).c3,(HB.out.below hW).c1,(HB.out.below hW).c2,(HB.out.below hW).c3⟩,by have:=HA.out.row.lt;have:=hW.size;omega,by have:=HB.out.row.lt;have:=hW.size;omega⟩
 obtain ⟨⟨y1,y2,y3,y4,y5,y6⟩,y7,y8⟩:=QB.out _ q5;generalize hW5:w.alloc (.cells #[.slice xa na.us.length xc,.slice ya nb.us.length yc] 153)=W5 at *;have Fc:=ab q5;have zS:=ab x5;clear q5 x5;go_region_held3 (fun w'=>w'.cell? ⟨ba,1,none⟩=some (.int .i64 na.f)∧w'.cell? ⟨ba,2,none⟩=some (.slice va na.lk.length vc)∧w'.cell? ⟨ba,3,none⟩=some (.slice xa na.us.length xc)∧w'.cell? ⟨bb,1,none⟩=some (.int .i64 nb.f)∧w'.cell? ⟨bb,2,none⟩=some (.slice za nb.lk.length zc)∧w'.cell? ⟨bb,3,none⟩=some (.slice ya nb.us.length yc)) (go_keep)
  (first
   | (go_at_call 165;refine (HJN.out _ ?_).mono ?_;(first | exact Xw.out | exact Fc.out.drew | exact (Below.refl _ _).drew);rintro e w2 ⟨ua,uc,rfl,dW,aY⟩;have Xv:Hid (Below w.heap.size w w2):=(by first | exact Below.next Xw.out aY | exact Below.next Fc.out (B.dL aY) | exact B.dL aY);have HJ2:=ab dW;(try (have HXJ:=ab (zS.out.drew.below aY)));(try (have HC4:=ab (HC3.out.below aY)));obtain ⟨⟨m1,m2,m3,m4,m5,m6⟩,m7,m8⟩:=QB.out _ Xv.out;clear dW aY)
   | (go_at_call 166;(first
       | (refine (zm.out _ _ Xv.out HXJ.out).mono ?_;rintro e w3 ⟨Q7,ccc,rfl,fX,b6⟩;have Xw:Hid (Below w.heap.size w w3):=Below.next Xv.out b6;have HJ3:=ab (HJ2.out.below b6))
       | (refine (zm.out _ _ (Below.next Xv.out (ai w2 (.cells #[.slice xa na.us.length xc,.slice ya nb.us.length yc] 153))) (B.au.new w2 #[.slice xa na.us.length xc,.slice ya nb.us.length yc] 153)).mono ?_;rintro e w3 ⟨Q7,ccc,rfl,fX,b6⟩;have Xw:Hid (Below w.heap.size w w3):=Below.next (Below.next Xv.out (ai w2 (.cells #[.slice xa na.us.length xc,.slice ya nb.us.length yc] 153))) b6;have HJ3:=ab ((HJ2.out.below (ai w2 (.cells #[.slice xa na.us.length xc,.slice ya nb.us.length yc] 153))).below b6))
       | (refine (zm.out _ _ Fc.out.drew zS.out.drew).mono ?_;rintro e w3 ⟨Q7,ccc,rfl,fX,b6⟩;have Xw:Hid (Below w.heap.size w w3):=Below.next Fc.out (B.dL b6)));have HC3:=ab fX;obtain ⟨⟨m1,m2,m3,m4,m5,m6⟩,m7,m8⟩:=QB.out _ Xw.out;clear fX b6))
 all_goals first
  | (have hj:=HJ3.out
     have q:=ai w3 (.cells #[.slice none 0 0,.int .i64 na.f,.slice ua M uc,.slice Q7 N ccc] 155);have xr:=B.au.new w3 #[.slice none 0 0,.int .i64 na.f,.slice ua M uc,.slice Q7 N ccc] 155;have HR:Hid (dM (w3.alloc (.cells #[.slice none 0 0,.int .i64 na.f,.slice ua M uc,.slice Q7 N ccc] 155)) w3.heap.size ⟨[],na.f,B.iQ na.lk key nb.f nb.lk,na.us++nb.us⟩ (.slice none 0 0) (.slice ua M uc) (.slice Q7 N ccc)):=⟨xr,gZ.nil _,hj.below q,HC3.out.below q,(fun p hp=>by simp at hp),by simp,yW.out.1,yW.out.2.1,yW.out.2.2⟩
     have rm:=ab (Below.next Xw.out q);clear q xr hj;go_wp2;go_ret;exact ⟨_,_,_,_,rfl,HR.out,rm.out⟩)
  | (have hc:=HC4.out
     have q:=ai w2 (.cells #[.slice none 0 0,.int .i64 na.f,.slice ua M uc,.slice Q7 N ccc] 155);have xr:=B.au.new w2 #[.slice none 0 0,.int .i64 na.f,.slice ua M uc,.slice Q7 N ccc] 155;have HR:Hid (dM (w2.alloc (.cells #[.slice none 0 0,.int .i64 na.f,.slice ua M uc,.slice Q7 N ccc] 155)) w2.heap.size ⟨[],na.f,B.iQ na.lk key nb.f nb.lk,na.us++nb.us⟩ (.slice none 0 0) (.slice ua M uc) (.slice Q7 N ccc)):=⟨xr,gZ.nil _,HJ2.out.below q,hc.below q,(fun p hp=>by simp at hp),by simp,yW.out.1,yW.out.2.1,yW.out.2.2⟩
     have rm:=ab (Below.next Xv.out q);clear q xr hc;go_wp2;go_ret;exact ⟨_,_,_,_,rfl,HR.out,rm.out⟩)
end T
end Go.Proofs.YtihmgigfkmofnaaGreatDoor
