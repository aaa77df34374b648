import Derived.Test.YtihmgigfkmofnaaGreatDoorG05
set_option maxHeartbeats 8000000
set_option maxRecDepth 20000
open Go.Proofs.Tryz
namespace Go.Proofs.YtihmgigfkmofnaaGreatDoor
namespace T
open Go.RowKit
theorem bz(p:C.Ch):∃ t x,p.val = .iface t x:=by
 cases p
 ·exact ⟨_,_,rfl⟩
 ·exact ⟨_,_,rfl⟩
theorem JS(A:Nat→Addr)(b:Nat)(n:SN)(pv lv cv:Value)(i:Nat)(key:ByteArray)(p:C.Ch)(w:World)(h:dG w b n pv lv cv)(hi:i≤n.lk.length)(hlen:n.us.length=n.lk.length+1)(dZ:n.lk.length≤3999)(hk:cW key)(hE:j7 A w):Calls prog 163 #[.pointer (some ⟨b,0,none⟩),.int .i64 (i:Int),.string key,p.val] w fun e w'=>RF w ⟨[],n.f,B.dI n.lk i (key,0),C.dI n.us (i+1) p⟩ e w':=by
 have hf:=h.fine;have aaJ:Hid (Calls prog 203 #[.agg #[.int .i64 n.f,lv],.int .i64 (i:Int),.agg #[.string key,.int .i64 0]] w fun e w'=>∃ (ua:Option Addr) (um uc:Nat),e = .returned (.tuple #[.agg #[.int .i64 n.f,.slice ua um uc],.nilIface])∧B.b7 w' w.heap.size (.slice ua um uc) (B.dI n.lk i (key,0))∧Below w.heap.size w w'):=by
  refine (B.QG A n.f (i:Int) lv n.lk key 0 w (by omega) h.bm hE).mono fun e w' ⟨hv,hb⟩=>?_
  rcases hv with ⟨_,u,he,ho⟩ | ⟨hg,_⟩
  ·obtain ⟨ua,uc,hu⟩:=ho.form;subst hu;exact ⟨_,_,_,he,ho,hb⟩
  ·exfalso
   simp only [B.zG,Bool.and_eq_false_iff,decide_eq_false_iff_not] at hg;omega
 have p1:=h.c1;have p2:=h.c2;have HH:=ab h;have bO:b<w.heap.size:=h.row.lt;obtain ⟨j,hj⟩ : ∃ j,j=i+1:=⟨_,rfl⟩;have vS:IntKind.i64.wrap ((i:Int)+1)=(j:Int):=by rw [IntKind.wrap_i64];omega
 have HJ:Hid (j≤n.us.length∧1≤n.us.length∧n.us.length≤4000):=⟨by omega,by omega,by omega⟩
 have Ce:Hid ((C.dI n.us j p).length≤4001∧(B.dI n.lk i (key,0)).length≤4000∧∀ q ∈ B.dI n.lk i (key,0),cW q.1):=by
  refine ⟨by unfold C.dI;rw [ae,List.length_cons,ag,ao];omega,by unfold B.dI;rw [ae,List.length_cons,ag,ao];omega,fun q hq=>?_⟩
  unfold B.dI at hq;rcases List.mem_append.1 hq with h | h
  ·exact hf.2.2.1 q (bH h)
  ·rcases List.mem_cons.1 h with rfl | h
   ·exact hk
   ·exact hf.2.2.1 q (bI h)
 rw [← hj];clear h hf hE hi hlen hj dZ hk;obtain ⟨pt,px,gw⟩:=bz p;rw [gw];have RH:=ab gw;clear gw;go_enter func163,ntmps163;go_wp2_with fail;refine aaJ.out.mono ?_
 rintro e w1 ⟨ua,um,uc,rfl,ho,aP⟩;have q2:=ai w1 (.cells #[.int .i64 n.f,.slice ua um uc] 150);have x2:=B.ax.new w1 #[.int .i64 n.f,.slice ua um uc] 150;have HO:=ab (ho.below q2);have bJ:=ab (Below.next aP q2);have nQ:=ab x2;clear aaJ p1 p2 ho aP q2 x2;go_wp2_with fail;generalize w1.alloc (.cells #[.int .i64 n.f,.slice ua um uc] 150)=W2 at *;generalize w1.heap.size=k2 at *;have k0:=nQ.out.c0;have k1:=nQ.out.c1;have k3:=(HH.out.below bJ.out).c3;obtain ⟨ca,cc,yf⟩:=HH.out.kids.form;have vD:Hid (∀ W,Below W2.heap.size W2 W→Calls prog 164 #[cv] W fun e w'=>∃ (g c:Nat),e = .returned (.slice (some ⟨g,0,none⟩) n.us.length c)∧C.b7 w' W.heap.size (.slice (some ⟨g,0,none⟩) n.us.length c) n.us∧Below W.heap.size W w'):=fun W hW=>by
  refine (C.eN cv n.us W (by have:=HJ.out;omega) ((HH.out.below (Below.next bJ.out hW)).kids)).mono fun e w' ⟨u,h1,h2,h3⟩=>?_
  obtain ⟨g,c,hu,_,_⟩:=sm h2 (by have:=HJ.out;omega)
  subst hu;exact ⟨g,c,h1,h2,h3⟩
 have aaK:Hid (∀ (W:World) (base g c vb:Nat),C.b7 W base (.slice (some ⟨g,0,none⟩) n.us.length c) n.us→base≤W.heap.size→B.ax W vb #[.iface pt px] 97→g≠vb→Calls prog 204 #[.slice (some ⟨g,0,none⟩) n.us.length c,.int .i64 (j:Int),.slice (some ⟨vb,0,none⟩) 1 1] W fun e w'=>∃ (a4:Option Addr) (c4:Nat),e = .returned (.slice a4 (C.dI n.us j p).length c4)∧C.b7 w' base (.slice a4 (C.dI n.us j p).length c4) (C.dI n.us j p)∧Below base W w'):=fun W base g c vb h1 h2 h3 h4=>by
  refine (C.oG base _ n.us j vb p W (by have:=HJ.out;omega) HJ.out.1 h1 h2 (by rw [RH.out];exact h3) (fun e=>h4 (by simpa [Value.ownBlock] using e))).mono fun e w' ⟨u,g1,g2,g3⟩=>?_
  obtain ⟨a4,c4,hu⟩:=g2.form;subst hu;exact ⟨a4,c4,g1,g2,g3⟩
 subst yf;have q5:=ai W2 (.cells #[.iface pt px] 97);have x5:=B.ax.new W2 #[.iface pt px] 97;have s5:(W2.alloc (.cells #[.iface pt px] 97)).heap.size=W2.heap.size+1:=by simp
 obtain ⟨y0,y1,y3⟩ : (W2.alloc (.cells #[.iface pt px] 97)).cell? ⟨k2,0,none⟩=some (.int .i64 n.f)∧(W2.alloc (.cells #[.iface pt px] 97)).cell? ⟨k2,1,none⟩=some (.slice ua um uc)∧(W2.alloc (.cells #[.iface pt px] 97)).cell? ⟨b,3,none⟩=some (.slice ca n.us.length cc):=⟨(nQ.out.below q5).c0,(nQ.out.below q5).c1,(HH.out.below (Below.next bJ.out q5)).c3⟩;have f0:=World.new_ne W2 _ k0;have f3:=World.new_ne W2 _ k3;generalize hW5:W2.alloc (.cells #[.iface pt px] 97)=W5 at *;have Fp:=ab q5;have zO:=ab x5;have sW:=ab s5;clear q5 x5 s5;go_region_held3 (fun w'=>w'.cell? ⟨k2,0,none⟩=some (.int .i64 n.f)∧w'.cell? ⟨k2,1,none⟩=some (.slice ua um uc)∧w'.cell? ⟨b,3,none⟩=some (.slice ca n.us.length cc)) (go_keep)
  (first
   | (go_at_call 164;refine (vD.out _ ?_).mono ?_;(first | exact (Below.refl _ _).drew | exact Fp.out.drew);rintro e w3 ⟨g,c,rfl,jh,bF⟩;have dD:Hid (Below W2.heap.size W2 w3):=(by first | exact B.dw bF | exact Below.next Fp.out (B.dw bF));have vC:=ab jh;have RG:=ab bF;(try (have adE:=ab (zO.out.drew.below bF)));have m0:=(nQ.out.below dD.out).c0;have m1:=(nQ.out.below dD.out).c1;have m3:=(HH.out.below (Below.next bJ.out dD.out)).c3;have e0:=World.new_ne w3 _ m0;have e3:=World.new_ne w3 _ m3;clear jh bF)
   | (go_at_call 204;(first
       | (refine (aaK.out _ _ _ _ _ vC.out RG.out.size adE.out (by have h1:=(vC.out.dn g rfl).1;have h2:=sW.out;show g≠W2.heap.size;show g≠_;simp only [World.drew] at h1;omega)).mono ?_;rintro e w4 ⟨a4,c4,rfl,MN,eO⟩;have XP:=ab MN;have gr:Hid (Below W2.heap.size W2 w4):=(dD.out.trans (eO.mono (by have:=sW.out;show W2.heap.size≤W5.heap.size;omega))))
       | (refine (aaK.out _ _ _ _ _ (vC.out.below (ai w3 (.cells #[.iface pt px] 97))) (al RG.out.size (ai w3 (.cells #[.iface pt px] 97)).size) (B.ax.new w3 #[.iface pt px] 97) (by have h1:=(vC.out.dn g rfl).2;omega)).mono ?_;rintro e w4 ⟨a4,c4,rfl,MN,eO⟩;have XP:=ab MN;have gr:Hid (Below W2.heap.size W2 w4):=((Below.next dD.out (ai w3 (.cells #[.iface pt px] 97))).trans eO))
      );have m0:=(nQ.out.below gr.out).c0;have m1:=(nQ.out.below gr.out).c1;have m3:=(HH.out.below (Below.next bJ.out gr.out)).c3;clear MN eO))
 all_goals (
  have q:=ai w4 (.cells #[.slice none 0 0,.int .i64 n.f,.slice ua um uc,.slice a4 (C.dI n.us j p).length c4] 155);have xr:=B.ax.new w4 #[.slice none 0 0,.int .i64 n.f,.slice ua um uc,.slice a4 (C.dI n.us j p).length c4] 155;have HR:Hid (dG (w4.alloc (.cells #[.slice none 0 0,.int .i64 n.f,.slice ua um uc,.slice a4 (C.dI n.us j p).length c4] 155)) w4.heap.size ⟨[],n.f,B.dI n.lk i (key,0),C.dI n.us j p⟩ (.slice none 0 0) (.slice ua um uc) (.slice a4 (C.dI n.us j p).length c4)):=⟨xr,gK.nil _,((HO.out.below gr.out).below q).at,(XP.out.below q).at,(fun p hp=>by simp at hp),by simp,Ce.out.2.2,Ce.out.2.1,Ce.out.1⟩
  have nc:=ab (Below.next (Below.next bJ.out gr.out) q);clear q xr;go_wp2;go_ret;exact ⟨_,_,_,_,rfl,HR.out,nc.out⟩)
end T
open Go.RowKit
def iC(w:World)(base:Nat)(v:Value)(l:List Pr):Prop:=w.ownsRow base 52 2 v l.length (iD l)
theorem iC.at{w:World}{base:Nat}{v:Value}{l:List Pr}(h:iC w base v l):gK w v l:=gK.rP h
theorem iC.form{w:World}{base:Nat}{v:Value}{l:List Pr}(h:iC w base v l):∃ a c,v = .slice a l.length c:=h.at.form
theorem iC.below{w w':World}{base:Nat}{v:Value}{l:List Pr}(h:iC w base v l)(hb:Below w.heap.size w w'):iC w' base v l:=by
 refine ⟨h.1,?_⟩;rcases h.2 with h' | ⟨g,cap,cur,h',h1,h2,hr⟩
 ·exact .inl h'
 ·refine .inr ⟨g,cap,cur,h',h1,?_,hr⟩;have hg:g<w.heap.size:=by
   rcases a7 g w.heap.size with h' | h'
   ·exact h'
   ·rw [aY h'] at h2;cases h2
  rw [hb.block g hg];exact h2
theorem iC.mono{w:World}{b b2:Nat}{v:Value}{l:List Pr}(h:iC w b v l)(hb:b2≤b):iC w b2 v l:=by
 refine ⟨h.1,?_⟩;rcases h.2 with h' | ⟨g,cap,cur,h',h1,hr⟩
 ·exact .inl h'
 ·exact .inr ⟨g,cap,cur,h',al hb h1,hr⟩
theorem iC.nil(w:World)(base:Nat):iC w base (.slice none 0 0) []:=World.ownsRow_nil _ _ _ _
theorem gV(base:Nat)(v s:Value)(xs us:List Pr)(w:World)(aE:iC w base v xs)(hs:gK w s us)(hb:(xs.length+us.length)*32≤140737488355328)(dy:base≤w.heap.size):∃ a' eP w',(Builtin.append_ #[63,63] 63 #[v,s]).run prog w = .ok (.slice a' (xs.length+us.length) eP) w'∧iC w' base (.slice a' (xs.length+us.length) eP) (xs++us)∧w.grownBy w' v.ownBlock:=by
 obtain ⟨i0,hi,hz,cx,kU⟩:=info_parts Jb;obtain ⟨a,cap,rfl,hle,qN,hc⟩:=hs;have MO:∃ a' c',v = .slice a' xs.length c':=aE.form;unfold iC at aE ⊢;rw [ae,wZ];cases a with
 | none =>
  have h0:us=[]:=by
   cases us with
   | nil=>rfl
   | cons u r=>obtain ⟨g,o,he,_⟩:=hc 0 (by simp);cases he
  subst h0;rw [qN rfl];have hr:=run_append_owned_none (P:=prog) w base 63 63 52 i0 2 underlying63 hi v xs.length (iD xs) aE;obtain ⟨a',c',rfl⟩:=MO;exact ⟨a',c',w,hr,by simpa [iD] using aE,⟨rfl,rfl,rfl,aj _,fun _ _ _=>rfl⟩⟩
 | some ad =>
  obtain ⟨v',w',hr,gk,AQ,_⟩:=run_append_own (P:=prog) w base 63 63 52 i0 _ 2 32 underlying63 hi hz cx kU rfl (by decide) v xs.length (iD xs) aE ad us.length cap (iD us) (eJ us) (fun j u hj=>by
   have l6:=(List.getElem?_eq_some_iff.1 hj).1;rw [eJ] at l6;obtain ⟨g,o,he,c1,c2⟩:=hc (j / 2) (by omega)
   cases he;have hg:=vI us (j / 2) (by omega)
   rw [bB];rcases bW j with hm | hm
   ·have e:j / 2*2=j:=by omega
    rw [e] at hg c1;rw [hg.1] at hj;cases hj;exact c1
   ·have e:j / 2*2+1=j:=by omega
    rw [dM,e] at c2;rw [e] at hg;rw [hg.2] at hj;cases hj;exact c2) (Sk us) (by unfold maxLen;omega) hb dy
  have hf:∃ a' c',v' = .slice a' (xs.length+us.length) c':=by
   rcases gk.2 with ⟨rfl,h0⟩ | ⟨g,cap,cur,rfl,_⟩
   ·exact ⟨none,0,by rw [h0]⟩
   ·exact ⟨_,_,rfl⟩
  obtain ⟨a',c',rfl⟩:=hf;exact ⟨a',c',w',hr,gk,AQ⟩
theorem iC.dn{w:World}{base:Nat}{v:Value}{l:List Pr}(h:iC w base v l):∀ k,v.ownBlock=some k→base≤k∧k<w.heap.size:=World.ownsRow.lt h
theorem Bu(w:World)(p:Pr)(t:TypeId):gK (w.alloc (.cells #[.string p.1,.string p.2] t)) (.slice (some ⟨w.heap.size,0,none⟩) 1 1) [p]:=by
 have hb:=bN w #[.string p.1,.string p.2] t;refine ⟨_,_,rfl,aj _,fun h=>(by cases h),fun j hj=>⟨_,_,rfl,?_,?_⟩⟩
 ·have:j=0:=by simpa using hj
  subst this;exact hb.2 0 (by simp)
 ·have:j=0:=by simpa using hj
  subst this;exact hb.2 1 (by simp)
theorem Dk(base:Nat)(v:Value)(l:List Pr)(p:Pr)(t:TypeId)(w w0:World)(B n:Nat)(hn:l.length=n)(aE:iC w base v l)(hb:(n+1)*32≤140737488355328)(dy:base≤w.heap.size)(hB:B≤base)(h0:Below B w0 w):∃ a' eP w',(Builtin.append_ #[63,63] 63 #[v,.slice (some ⟨w.heap.size,0,none⟩) 1 1]).run prog (w.alloc (.cells #[.string p.1,.string p.2] t)) = .ok (.slice a' (n+1) eP) w'∧iC w' base (.slice a' (n+1) eP) (l++[p])∧Below B w0 w'∧w.heap.size≤w'.heap.size:=by
 subst hn;have ho:iC (w.alloc (.cells #[.string p.1,.string p.2] t)) base v l:=World.ownsRow.alloc aE _;obtain ⟨a',eP,w',hr,gk,hg⟩:=gV base v _ l [p] _ ho (Bu w p t) (by simpa using hb) (by simp;omega)
 refine ⟨a',eP,w',hr,gk,?_,?_⟩
 ·refine (h0.alloc (al hB dy) _).grown hg (by simp;omega) (fun k hk=>al hB (aE.dn k hk).1)
 ·have:=hg.size;simp at this
  omega
theorem uk(n:Nat):(Builtin.zeroCells (Value.agg #[.string ByteArray.empty,.string ByteArray.empty]).cells n).size=n*2:=by
 simp [Builtin.zeroCells,Value.cells]
theorem P5(n:Nat)(w:World)(hn:n*32≤140737488355328):Calls prog 130 #[.slice none 0 0,.int .i64 (n:Int)] w fun e w'=>∃ u,e = .returned u∧iC w' w.heap.size u []∧Below w.heap.size w w':=by
 obtain ⟨i0,hi,hz,cx,kU⟩:=info_parts Jb;have Hb:decide ((n:Int)<0)=false:=decide_eq_false (by omega)
 by_cases h0:0<n
 ·have bg:=Lib.run_append_nil_zeros (P:=prog) w 63 3 63 52 i0 _ .i64 .i64 underlying63 underlying3 hi hz n h0 (by omega) (by omega) (by rw [kU];omega)
  have G0:(0:Int)<(n:Int):=by omega
  have hw:IntKind.i64.wrap ((n:Int))=(n:Int):=by rw [IntKind.wrap_i64];omega
  generalize di:grownCap w n 0 52=cap at *;have hle:n≤cap:=by rw [← di];exact grownCap_ge _ _ _ _
  have Uz:cap≤maxLen:=by rw [← di];exact grownCap_le_maxLen _ _ _ _ (by unfold maxLen;omega)
  generalize fs:Builtin.zeroCells _ n++Builtin.zeroCells _ (cap - n)=cs at bg;have EA:cs.size=cap*2:=by rw [← fs,ew,uk,uk];omega
  have HO:Hid (iC (w.drew.alloc (.cells cs 52)) w.heap.size (.slice (some ⟨w.heap.size,0,none⟩) 0 cap) []) :=
   ⟨by simp [iD],.inr ⟨w.heap.size,cap,cs,rfl,aj _,heap_alloc_new w.drew _,aD _,Uz,EA,by simp [iD]⟩⟩
  have HB:Hid (Below w.heap.size w (w.drew.alloc (.cells cs 52))):=((Below.refl _ _).drew).alloc (aj _) _;clear fs di hi hz cx kU EA;go_enter func130,ntmps130;go_wp2_with (first | (at_builtin;refine Lib.wpList_append_run _ rfl (.tmp 20) (.tmp 21) 63 3 rfl _ _ rfl rfl _ _ bg ?_))
  go_ret;exact ⟨_,rfl,HO.out,HB.out⟩
 ·obtain rfl:n=0:=by omega
  go_enter func130,ntmps130;go_wp2;go_ret;exact ⟨_,rfl,iC.nil _ _,Below.refl _ _⟩
def jQ(LL:List (List Pr))(k:Nat):Nat:=((LL.take k).flatten).length
theorem uF(LL:List (List Pr))(k:Nat)(h:k<LL.length):jQ LL (k+1)=jQ LL k+LL[k].length:=by
 unfold jQ;rw [az h,dH,ae];simp
theorem Ay(LL:List (List Pr))(k:Nat):jQ LL k≤LL.flatten.length:=by
 unfold jQ;conv=>rhs;rw [← aG k LL,dH,ae]
 omega
theorem qU(B m cap:Nat)(uv:List Value)(LL:List (List Pr))(w:World)(hm:LL.length=m)(Et:m≤3)(hs:uv.length=m)(fW:LL.flatten.length*32≤140737488355328)(hc:∀ j (h:j<uv.length),w.cell? ⟨B,j,none⟩=some uv[j])(hr:∀ j (h:j<LL.length) (h':j<uv.length),gK w uv[j] LL[j]):Calls prog 84 #[.slice (some ⟨B,0,none⟩) m cap] w fun e w'=>∃ u,e = .returned u∧iC w' w.heap.size u LL.flatten∧Below w.heap.size w w':=by
 have HM:=ab hm;have HS:=ab hs;have HC:=ab hc;have HR:=ab hr;have ri:=ab fW;obtain ⟨T,hT⟩ : ∃ T,T=LL.flatten.length:=⟨_,rfl⟩;have HT:=ab hT;have ZS:T*32≤140737488355328:=by rw [hT];exact fW
 have Q6:Hid (jQ LL 0=0):=by show _=_;simp [jQ]
 clear hm hs hc hr fW hT;go_enter func84,ntmps84;go_wp2;go_loop [3,11] (fun r i=>∃ k:Nat,k≤m∧i = .int .i64 k∧r = .int .i64 (jQ LL k:Int)) (fun _ i=>m - (intOf i).toNat)
 case atStart=>exact ⟨0,aD _,rfl,by rw [Q6.out];rfl⟩
 case round =>
  obtain ⟨k,hk,rfl,rfl⟩:=hrel;by_cases bP:k<m
  ·have jA:k<uv.length:=by have:=HS.out;omega
   have qg:k<LL.length:=by have:=HM.out;omega
   have c1:=HC.out k jA;obtain ⟨a,c,hf⟩:=(HR.out k qg jA).form;rw [hf] at c1;have U0:=ab (uF LL k qg);have vl:=ab (Ay LL (k+1));obtain ⟨x,hx⟩ : ∃ x,x=jQ LL k:=⟨_,rfl⟩;obtain ⟨y,hy⟩ : ∃ y,y=jQ LL (k+1):=⟨_,rfl⟩;obtain ⟨z,hz⟩ : ∃ z,z=LL[k].length:=⟨_,rfl⟩;rw [← hx,← hy,← hz] at U0;rw [← hy,← HT.out] at vl;rw [← hx];rw [← hz] at c1;have HY:=ab hy;have hw:IntKind.i64.wrap ((x:Int)+(z:Int))=(y:Int):=by rw [IntKind.wrap_i64];have:=U0.out;have:=vl.out;omega
   have Hb:decide ((y:Int)<0)=false:=decide_eq_false (by omega)
   have dS:(k:Int)<(m:Int):=by omega
   clear hx hy hz hf HC HR;go_wp2;go_round
   case rel=>exact ⟨k+1,by omega,by go_num,by rw [← HY.out]⟩
   case measure=>simp [intOf];omega
  ·have Le:k=m:=by omega
   subst Le;have dj:jQ LL k=T:=by
    rw [HT.out];unfold jQ;rw [aq (by rw [HM.out];exact aj _)]
   rw [dj];have dS:¬ (k:Int)<(k:Int):=by omega
   have HG:=ab (P5 T w ZS);clear dj bP hk;go_wp2_with fail;refine HG.out.mono ?_
   rintro e w1 ⟨u,rfl,aE,aP⟩;have HO:=ab aE;have bQ:=ab aP;clear aE aP HG;go_wp2;go_loopw [6,27] (fun u i wr=>∃ j:Nat,j≤k∧i = .int .i64 j∧iC wr w.heap.size u ((LL.take j).flatten)∧Below w.heap.size w wr) (fun _ i _=>k - (intOf i).toNat)
   case atStart=>exact ⟨0,aD _,rfl,by simpa using HO.out,bQ.out⟩
   case round =>
    obtain ⟨j,hj,rfl,aE,bO⟩:=hrel;clear HO bQ;by_cases bP:j<k
    ·have jA:j<uv.length:=by have:=HS.out;omega
     have qg:j<LL.length:=by have:=HM.out;omega
     have c0:=HC.out j jA;have c1:wr.cell? ⟨B,j,none⟩=some uv[j]:=(bO.cell (p:=⟨B,j,none⟩) (World.block_lt_of_cell? w _ c0)).trans c0;have fV:=(HR.out j qg jA).below bO;have hle:=Ay LL (j+1);rw [uF LL j qg,← HT.out] at hle;unfold jQ at hle;obtain ⟨a1,cp1,w2,bg,ij,fK⟩:=gV w.heap.size _ _ _ _ wr aE fV (by omega) bO.size
     have aO:Below w.heap.size w w2:=bO.grown fK bO.size (fun q hq=>(aE.dn q hq).1)
     obtain ⟨a,c,hf⟩:=fV.form;obtain ⟨ua,uc,hu⟩:=aE.form;subst hu;rw [hf] at c1 bg;have iB:(LL.take j).flatten++LL[j]=(LL.take (j+1)).flatten:=by
      rw [az qg,dH];simp
     rw [iB] at ij;generalize ((LL.take j).flatten).length=L1 at *;generalize LL[j].length=L2 at *;have im:=ab ij;have bJ:=ab aO;have dS:(j:Int)<(k:Int):=by omega
     clear hf HC HR aE ij bO aO fK fV c0 hle;go_wp2_with (first | (at_builtin;refine wpList_append_run 63 rfl (.tmp 31) (.tmp 32) rfl rfl _ _ rfl rfl _ _ bg ?_))
     clear bg;go_wp2;go_roundw
     case rel=>exact ⟨j+1,by omega,by go_num,im.out,bJ.out⟩
     case measure=>simp [intOf];omega
    ·have dj:LL.take j=LL:=by rw [aq];have:=HM.out;omega
     rw [dj] at aE;have HO:=ab aE;have HB:=ab bO;have dS:¬ (j:Int)<(k:Int):=by omega
     clear aE bO dj HC HR;go_wp2;go_ret;exact ⟨_,rfl,HO.out,HB.out⟩
theorem yx(n:Nat)(b:Bool)(w:World)(hn:n≤140737488355328):Calls prog 85 #[.int .i64 (n:Int),.bool b] w fun e w'=>e = .returned (.int .i64 ((if b then n+1 else n:Nat):Int))∧w=w':=by
 cases b with
 | true =>
  go_enter func85,ntmps85;go_wp2;go_ret;exact ⟨by go_num,rfl⟩
 | false =>
  go_enter func85,ntmps85;go_wp2;go_ret;exact ⟨rfl,rfl⟩
namespace B
theorem ke(n:Nat):(Builtin.zeroCells (Value.agg #[.string ByteArray.empty,.int .i64 0]).cells n).size=n*2:=by
 simp [Builtin.zeroCells,Value.cells]
theorem tF(n:Nat)(w:World)(hn:n*24≤140737488355328):Calls prog 234 #[.slice none 0 0,.int .i64 (n:Int)] w fun e w'=>∃ u,e = .returned u∧b7 w' w.heap.size u []∧Below w.heap.size w w':=by
 obtain ⟨i0,hi,hz,cx,kU⟩:=info_parts lQ;have Hb:decide ((n:Int)<0)=false:=decide_eq_false (by omega)
 by_cases h0:0<n
 ·have bg:=Lib.run_append_nil_zeros (P:=prog) w 148 3 148 179 i0 _ .i64 .i64 underlying148 underlying3 hi hz n h0 (by omega) (by omega) (by rw [kU];omega)
  have G0:(0:Int)<(n:Int):=by omega
  have hw:IntKind.i64.wrap ((n:Int))=(n:Int):=by rw [IntKind.wrap_i64];omega
  generalize di:grownCap w n 0 179=cap at *;have hle:n≤cap:=by rw [← di];exact grownCap_ge _ _ _ _
  have Uz:cap≤maxLen:=by rw [← di];exact grownCap_le_maxLen _ _ _ _ (by unfold maxLen;omega)
  generalize fs:Builtin.zeroCells _ n++Builtin.zeroCells _ (cap - n)=cs at bg;have EA:cs.size=cap*2:=by rw [← fs,ew,ke,ke];omega
  have HO:Hid (b7 (w.drew.alloc (.cells cs 179)) w.heap.size (.slice (some ⟨w.heap.size,0,none⟩) 0 cap) []) :=
   ⟨by simp [bm],.inr ⟨w.heap.size,cap,cs,rfl,aj _,heap_alloc_new w.drew _,aD _,Uz,EA,by simp [bm]⟩⟩
  have HB:Hid (Below w.heap.size w (w.drew.alloc (.cells cs 179))):=((Below.refl _ _).drew).alloc (aj _) _;clear fs di hi hz cx kU EA;go_enter func234,ntmps234;go_wp2_with (first | (at_builtin;refine Lib.wpList_append_run _ rfl (.tmp 20) (.tmp 21) 148 3 rfl _ _ rfl rfl _ _ bg ?_))
  go_ret;exact ⟨_,rfl,HO.out,HB.out⟩
 ·obtain rfl:n=0:=by omega
  go_enter func234,ntmps234;go_wp2;go_ret;exact ⟨_,rfl,b7.nil _ _,Below.refl _ _⟩
def cY(LL:List (List Lk))(k:Nat):Nat:=((LL.take k).flatten).length
theorem jr(LL:List (List Lk))(k:Nat)(h:k<LL.length):cY LL (k+1)=cY LL k+LL[k].length:=by
 unfold cY;rw [az h,dH,ae];simp
theorem lB(LL:List (List Lk))(k:Nat):cY LL k≤LL.flatten.length:=by
 unfold cY;conv=>rhs;rw [← aG k LL,dH,ae]
 omega
theorem oI(B m cap:Nat)(uv:List Value)(LL:List (List Lk))(w:World)(hm:LL.length=m)(Et:m≤3)(hs:uv.length=m)(fW:LL.flatten.length*24≤140737488355328)(hc:∀ j (h:j<uv.length),w.cell? ⟨B,j,none⟩=some uv[j])(hr:∀ j (h:j<LL.length) (h':j<uv.length),cV w uv[j] LL[j]):Calls prog 205 #[.slice (some ⟨B,0,none⟩) m cap] w fun e w'=>∃ u,e = .returned u∧b7 w' w.heap.size u LL.flatten∧Below w.heap.size w w':=by
 have HM:=ab hm;have HS:=ab hs;have HC:=ab hc;have HR:=ab hr;have ri:=ab fW;obtain ⟨T,hT⟩ : ∃ T,T=LL.flatten.length:=⟨_,rfl⟩;have HT:=ab hT;have ZS:T*24≤140737488355328:=by rw [hT];exact fW
 have Q6:Hid (cY LL 0=0):=by show _=_;simp [cY]
 clear hm hs hc hr fW hT;go_enter func205,ntmps205;go_wp2;go_loop [3,11] (fun r i=>∃ k:Nat,k≤m∧i = .int .i64 k∧r = .int .i64 (cY LL k:Int)) (fun _ i=>m - (intOf i).toNat)
 case atStart=>exact ⟨0,aD _,rfl,by rw [Q6.out];rfl⟩
 case round =>
  obtain ⟨k,hk,rfl,rfl⟩:=hrel;by_cases bP:k<m
  ·have jA:k<uv.length:=by have:=HS.out;omega
   have qg:k<LL.length:=by have:=HM.out;omega
   have c1:=HC.out k jA;obtain ⟨a,c,hf⟩:=(HR.out k qg jA).form;rw [hf] at c1;have U0:=ab (jr LL k qg);have vl:=ab (lB LL (k+1));obtain ⟨x,hx⟩ : ∃ x,x=cY LL k:=⟨_,rfl⟩;obtain ⟨y,hy⟩ : ∃ y,y=cY LL (k+1):=⟨_,rfl⟩;obtain ⟨z,hz⟩ : ∃ z,z=LL[k].length:=⟨_,rfl⟩;rw [← hx,← hy,← hz] at U0;rw [← hy,← HT.out] at vl;rw [← hx];rw [← hz] at c1;have HY:=ab hy;have hw:IntKind.i64.wrap ((x:Int)+(z:Int))=(y:Int):=by rw [IntKind.wrap_i64];have:=U0.out;have:=vl.out;omega
   have Hb:decide ((y:Int)<0)=false:=decide_eq_false (by omega)
   have dS:(k:Int)<(m:Int):=by omega
   clear hx hy hz hf HC HR;go_wp2;go_round
   case rel=>exact ⟨k+1,by omega,by go_num,by rw [← HY.out]⟩
   case measure=>simp [intOf];omega
  ·have Le:k=m:=by omega
   subst Le;have dj:cY LL k=T:=by
    rw [HT.out];unfold cY;rw [aq (by rw [HM.out];exact aj _)]
   rw [dj];have dS:¬ (k:Int)<(k:Int):=by omega
   have HG:=ab (tF T w ZS);clear dj bP hk;go_wp2_with fail;refine HG.out.mono ?_
   rintro e w1 ⟨u,rfl,aE,aP⟩;have HO:=ab aE;have bQ:=ab aP;clear aE aP HG;go_wp2;go_loopw [6,27] (fun u i wr=>∃ j:Nat,j≤k∧i = .int .i64 j∧b7 wr w.heap.size u ((LL.take j).flatten)∧Below w.heap.size w wr) (fun _ i _=>k - (intOf i).toNat)
   case atStart=>exact ⟨0,aD _,rfl,by simpa using HO.out,bQ.out⟩
   case round =>
    obtain ⟨j,hj,rfl,aE,bO⟩:=hrel;clear HO bQ;by_cases bP:j<k
    ·have jA:j<uv.length:=by have:=HS.out;omega
     have qg:j<LL.length:=by have:=HM.out;omega
     have c0:=HC.out j jA;have c1:wr.cell? ⟨B,j,none⟩=some uv[j]:=(bO.cell (p:=⟨B,j,none⟩) (World.block_lt_of_cell? w _ c0)).trans c0;have fV:=(HR.out j qg jA).below bO;have hle:=lB LL (j+1);rw [jr LL j qg,← HT.out] at hle;unfold cY at hle;obtain ⟨a1,cp1,w2,bg,ij,fK⟩:=fo w.heap.size _ _ _ _ wr aE fV (by omega) bO.size
     have aO:Below w.heap.size w w2:=bO.grown fK bO.size (fun q hq=>(aE.dn q hq).1)
     obtain ⟨a,c,hf⟩:=fV.form;obtain ⟨ua,uc,hu⟩:=aE.form;subst hu;rw [hf] at c1 bg;have iB:(LL.take j).flatten++LL[j]=(LL.take (j+1)).flatten:=by
      rw [az qg,dH];simp
     rw [iB] at ij;generalize ((LL.take j).flatten).length=L1 at *;generalize LL[j].length=L2 at *;have im:=ab ij;have bJ:=ab aO;have dS:(j:Int)<(k:Int):=by omega
     clear hf HC HR aE ij bO aO fK fV c0 hle;go_wp2_with (first | (at_builtin;refine wpList_append_run 148 rfl (.tmp 31) (.tmp 32) rfl rfl _ _ rfl rfl _ _ bg ?_))
     clear bg;go_wp2;go_roundw
     case rel=>exact ⟨j+1,by omega,by go_num,im.out,bJ.out⟩
     case measure=>simp [intOf];omega
    ·have dj:LL.take j=LL:=by rw [aq];have:=HM.out;omega
     rw [dj] at aE;have HO:=ab aE;have HB:=ab bO;have dS:¬ (j:Int)<(k:Int):=by omega
     clear aE bO dj HC HR;go_wp2;go_ret;exact ⟨_,rfl,HO.out,HB.out⟩
theorem Md(fa fb:Int)(key:ByteArray)(va vb:Value)(la lb:List Lk)(w:World)(hm:la.length+lb.length+1≤5864062014805)(ha:cV w va la)(hb:cV w vb lb):Calls prog 165 #[.agg #[.int .i64 fa,va],.string key,.agg #[.int .i64 fb,vb]] w fun e w'=>∃ u,e = .returned (.agg #[.int .i64 fa,u])∧b7 w' w.heap.size u (jc la key fb lb)∧Below w.heap.size w w':=by
 obtain ⟨a1,c1,hv⟩:=ha.form;subst hv;obtain ⟨a2,c2,hv⟩:=hb.form;subst hv;obtain ⟨na,hna⟩ : ∃ n,n=la.length:=⟨_,rfl⟩;obtain ⟨nb,sO⟩ : ∃ n,n=lb.length:=⟨_,rfl⟩;rw [← hna] at ha ⊢;rw [← sO] at hb ⊢;have q1:=ai w (.cells #[.int .i64 fa,.slice a1 na c1] 150);have x1:=ax.new w #[.int .i64 fa,.slice a1 na c1] 150;have s1:(w.alloc (.cells #[.int .i64 fa,.slice a1 na c1] 150)).heap.size=w.heap.size+1:=by simp
 generalize iy:w.alloc (.cells #[.int .i64 fa,.slice a1 na c1] 150)=W1 at *;have q2:=ai W1 (.cells #[.int .i64 fb,.slice a2 nb c2] 150);have x2:=ax.new W1 #[.int .i64 fb,.slice a2 nb c2] 150;have s2:(W1.alloc (.cells #[.int .i64 fb,.slice a2 nb c2] 150)).heap.size=W1.heap.size+1:=by simp
 generalize Hc:W1.alloc (.cells #[.int .i64 fb,.slice a2 nb c2] 150)=W2 at *;have q3:=ai W2 (.cells #[.int .i64 0,.slice none 0 0] 150);have x3:=ax.new W2 #[.int .i64 0,.slice none 0 0] 150;have s3:(W2.alloc (.cells #[.int .i64 0,.slice none 0 0] 150)).heap.size=W2.heap.size+1:=by simp
 generalize zH:W2.alloc (.cells #[.int .i64 0,.slice none 0 0] 150)=W3 at *;have q4:=ai W3 (.cells #[.string key,.int .i64 fb] 179);have x4:=vN W3 (key,fb) 179;have s4:(W3.alloc (.cells #[.string key,.int .i64 fb] 179)).heap.size=W3.heap.size+1:=by simp
 generalize Ry:W3.alloc (.cells #[.string key,.int .i64 fb] 179)=W4 at *;have q5:=ai W4 (.cells #[.slice a1 na c1,.slice (some ⟨W3.heap.size,0,none⟩) 1 1,.slice a2 nb c2] 148);have x5:=bN W4 #[.slice a1 na c1,.slice (some ⟨W3.heap.size,0,none⟩) 1 1,.slice a2 nb c2] 148;have s5:(W4.alloc (.cells #[.slice a1 na c1,.slice (some ⟨W3.heap.size,0,none⟩) 1 1,.slice a2 nb c2] 148)).heap.size=W4.heap.size+1:=by simp
 generalize hW5:W4.alloc (.cells #[.slice a1 na c1,.slice (some ⟨W3.heap.size,0,none⟩) 1 1,.slice a2 nb c2] 148)=W5 at *;have y1:=((((x1.below q2).below q3).below q4));have y2:=((x2.below q3).below q4);have y3:=(x3.below q4);have yX:Hid (∀ W,Below W5.heap.size W5 W→Calls prog 205 #[.slice (some ⟨W4.heap.size,0,none⟩) 3 3] W fun e w'=>∃ ga gn gc,e = .returned (.slice ga gn gc)∧b7 w' W5.heap.size (.slice ga gn gc) (jc la key fb lb)∧Below W5.heap.size W5 w'):=fun W hW=>by
  refine (oI W4.heap.size 3 3 [.slice a1 na c1,.slice (some ⟨W3.heap.size,0,none⟩) 1 1,.slice a2 nb c2] [la,[(key,fb)],lb] W rfl (by decide) rfl ?_ (fun j h=>(x5.below hW).2 j h) ?_).mono ?_
  ·simp;omega
  ·intro j h h';have hj:j<3:=h;match j,hj with
   | 0,_=>exact ((((((ha.below q1).below q2).below q3).below q4).below q5).below hW)
   | 1,_=>exact (x4.below q5).below hW
   | 2,_=>exact ((((((hb.below q1).below q2).below q3).below q4).below q5).below hW)
  ·rintro e w' ⟨u,rfl,ho,hb⟩;obtain ⟨ga,gc,hu⟩:=ho.form;subst hu;refine ⟨ga,_,gc,rfl,?_,Below.next hW hb⟩;have he:[la,[(key,fb)],lb].flatten=jc la key fb lb:=by simp [jc]
   rw [he] at ho ⊢;exact ho.mono hW.size
 have HQ:=ab (Below.next q1 (Below.next q2 (Below.next q3 (Below.next q4 q5))));have Mx:=ab (Below.next q1 (Below.next q2 (Below.next q3 q4)));have HY3:=ab (y3.below q5);have HS:Hid (W5.heap.size=w.heap.size+5∧W2.heap.size=w.heap.size+2):=by show _∧_;omega
 have Fp:=ab q5;have HY1:=ab y1;have HY2:=ab y2;have p1:W4.cell? ⟨w.heap.size,0,none⟩=some (.int .i64 fa):=y1.c0;have p2:W4.cell? ⟨w.heap.size,1,none⟩=some (.slice a1 na c1):=y1.c1;have p3:W4.cell? ⟨W1.heap.size,0,none⟩=some (.int .i64 fb):=y2.c0;have p4:W4.cell? ⟨W1.heap.size,1,none⟩=some (.slice a2 nb c2):=y2.c1;have p5:W3.cell? ⟨W1.heap.size,0,none⟩=some (.int .i64 fb):=(x2.below q3).c0;have r1:W5.cell? ⟨w.heap.size,0,none⟩=some (.int .i64 fa):=(y1.below q5).c0;have r2:W5.cell? ⟨w.heap.size,1,none⟩=some (.slice a1 na c1):=(y1.below q5).c1;have r3:W5.cell? ⟨W1.heap.size,1,none⟩=some (.slice a2 nb c2):=(y2.below q5).c1;have b1:¬ w.heap.size=W2.heap.size:=by omega
 have b2:¬ W1.heap.size=W2.heap.size:=by omega
 have b3:¬ W2.heap.size=w.heap.size:=by omega
 have b4:¬ W2.heap.size=W1.heap.size:=by omega
 clear q1 q2 q3 q4 q5 x1 x2 x3 x4 x5 y1 y2 y3 s1 s2 s3 s4 s5 ha hb hm hna sO;go_enter func165,ntmps165;go_wp2_with fail;go_region_held3 (fun w'=>w'.cell? ⟨w.heap.size,0,none⟩=some (.int .i64 fa)∧w'.cell? ⟨w.heap.size,1,none⟩=some (.slice a1 na c1)∧w'.cell? ⟨W1.heap.size,1,none⟩=some (.slice a2 nb c2)) (go_keep)
  (first
   | (go_at_call 205;refine (yX.out _ ?_).mono ?_;(exact (Below.refl _ _).drew);rintro e w3 ⟨ga,gn,gc,rfl,ho,hb⟩;have HO:=ab ho;have HB:=ab hb;have k1:w3.cell? ⟨w.heap.size,0,none⟩=some (.int .i64 fa):=((HY1.out.below Fp.out).below hb).c0;have k2:w3.cell? ⟨w.heap.size,1,none⟩=some (.slice a1 na c1):=((HY1.out.below Fp.out).below hb).c1;have k3:w3.cell? ⟨W1.heap.size,1,none⟩=some (.slice a2 nb c2):=((HY2.out.below Fp.out).below hb).c1;have k4:w3.cell? ⟨W2.heap.size,0,none⟩=some (.int .i64 0):=(HY3.out.below hb).c0;have k5:w3.cell? ⟨W2.heap.size,1,none⟩=some (.slice none 0 0):=(HY3.out.below hb).c1;have z4:=(HY3.out.below hb).free 0;have z5:=(HY3.out.below hb).free 1;clear ho hb))
 all_goals
  clear yX r1 r2 r3 p1 p2 p3 p4 p5 k1 k2 k3 k4 k5 z4 z5 b1 b2 b3 b4;go_wp2_with fail;refine bodyPost_ret (results_cell_row rfl _ _ W2.heap.size 150 _ (0,0) _ rfl ((HY3.out.below HB.out).two _ _) underlying150 rfl (by kernel_rfl)) rfl ⟨.slice ga gn gc,rfl,?_,?_⟩
  ·exact (HO.out.tm (by have:=HS.out;omega) _ _).mono HQ.out.size
  ·exact bY (Below.next HQ.out HB.out) (by have:=HS.out;omega)
end B
namespace T
theorem J1(W:World)(a b:Value)(t:TypeId):∀ j (h:j < [a,b].length),(W.alloc (.cells #[a,b] t)).cell? ⟨W.heap.size,j,none⟩=some [a,b][j]:=fun j h=>by
 have h1:=(bN W #[a,b] t).2 j h;exact h1
theorem K7(ba bb:Nat)(na nb:SN)(pa la ca pb lb cb:Value)(key:ByteArray)(w:World)(ha:dG w ba na pa la ca)(hb:dG w bb nb pb lb cb)(h0:na.us.length=0)(hl:na.ps.length+nb.ps.length≤4000):Calls prog 126 #[.pointer (some ⟨ba,0,none⟩),.string key,.pointer (some ⟨bb,0,none⟩)] w fun e w'=>RF w ⟨na.ps++nb.ps,0,[],[]⟩ e w':=by
 have HL:=ab (ch ba na pa la ca w ha);rw [show decide (na.us.length=0)=true by simp [h0]] at HL
 obtain ⟨xa,xc,Pj⟩:=ha.iD.form;obtain ⟨ya,yc,FG⟩:=hb.iD.form;subst Pj FG;have p0:=ha.c0;have p1:=hb.c0;have HFA:=ab ha.fine;have HFB:=ab hb.fine;have yX:Hid (∀ W,Below w.heap.size w W→Calls prog 84 #[.slice (some ⟨W.heap.size,0,none⟩) 2 2] (W.alloc (.cells #[.slice xa na.ps.length xc,.slice ya nb.ps.length yc] 63)) fun e w'=>∃ (ua:Option Addr) (uc:Nat),e = .returned (.slice ua (na.ps++nb.ps).length uc)∧iC w' W.heap.size (.slice ua (na.ps++nb.ps).length uc) (na.ps++nb.ps)∧Below w.heap.size w w'):=fun W hW=>by
  have q:=ai W (.cells #[.slice xa na.ps.length xc,.slice ya nb.ps.length yc] 63);refine (qU W.heap.size 2 2 [.slice xa na.ps.length xc,.slice ya nb.ps.length yc] [na.ps,nb.ps] _ rfl (by decide) rfl (by simp;omega) (J1 W _ _ _) (fun j h h'=>?_)).mono fun e w' ⟨u,h1,h2,h3⟩=>?_
  ·match j,h with
   | 0,_=>exact ((ha.iD.below hW).below q)
   | 1,_=>exact ((hb.iD.below hW).below q)
  ·have e1:[na.ps,nb.ps].flatten=na.ps++nb.ps:=by simp
   rw [e1] at h2;obtain ⟨ua,uc,hu⟩:=h2.form;subst hu;exact ⟨ua,uc,h1,h2.mono (by simp),Below.next (Below.next hW q) h3⟩
 have yN:Hid ((∀ p ∈ na.ps++nb.ps,cP p=true)∧(na.ps++nb.ps).length≤4000):=⟨fun p hp=>by
  rcases List.mem_append.1 hp with h | h
  ·exact ha.fine.1 p h
  ·exact hb.fine.1 p h,by rw [ae];exact hl⟩
 obtain ⟨N,hN⟩ : ∃ N,N=(na.ps++nb.ps).length:=⟨_,rfl⟩;rw [← hN] at yX;clear hN;clear ha hb h0 hl;go_enter func126,ntmps126;go_wp2_with fail;refine HL.out.mono ?_
 rintro e w1 ⟨rfl,rfl⟩;clear HL;go_wp2_with fail;have f0:=World.new_ne w _ p0;have f1:=World.new_ne w _ p1;go_region_held3 (fun w'=>w'.cell? ⟨ba,0,none⟩=some (.slice xa na.ps.length xc)∧w'.cell? ⟨bb,0,none⟩=some (.slice ya nb.ps.length yc)) (go_keep)
  (first
   | (go_at_call 84;refine (yX.out _ (Below.refl _ _).drew).mono ?_;rintro e w3 ⟨ua,uc,rfl,jh,bF⟩;have m0:=(bF.cell (p:=⟨ba,0,none⟩) (World.block_lt_of_cell? w _ p0)).trans p0;have m1:=(bF.cell (p:=⟨bb,0,none⟩) (World.block_lt_of_cell? w _ p1)).trans p1;have vC:=ab jh;have dD:=ab bF;clear jh bF))
 all_goals (
  have q:=ai w3 (.cells #[.slice ua N uc,.int .i64 0,.slice none 0 0,.slice none 0 0] 155);have xr:=B.ax.new w3 #[.slice ua N uc,.int .i64 0,.slice none 0 0,.slice none 0 0] 155;have HR:Hid (dG (w3.alloc (.cells #[.slice ua N uc,.int .i64 0,.slice none 0 0,.slice none 0 0] 155)) w3.heap.size ⟨na.ps++nb.ps,0,[],[]⟩ (.slice ua N uc) (.slice none 0 0) (.slice none 0 0)):=⟨xr,(vC.out.below q).at,B.cV.nil _,(C.b7.nil _ 0).at,yN.out.1,yN.out.2,(fun p hp=>by simp at hp),by simp,by simp⟩
  have nc:=ab (Below.next dD.out q);clear q xr;go_wp2;go_ret;exact ⟨_,_,_,_,rfl,HR.out,nc.out⟩)
theorem SL(ba bb:Nat)(na nb:SN)(pa la ca pb lb cb:Value)(key:ByteArray)(w:World)(ha:dG w ba na pa la ca)(hb:dG w bb nb pb lb cb)(h0:¬ na.us.length=0)(hl:na.lk.length+nb.lk.length+1≤4000)(hu:na.us.length+nb.us.length≤4001)(hk:cW key):Calls prog 126 #[.pointer (some ⟨ba,0,none⟩),.string key,.pointer (some ⟨bb,0,none⟩)] w fun e w'=>RF w ⟨[],na.f,B.jc na.lk key nb.f nb.lk,na.us++nb.us⟩ e w':=by
 have HL:=ab (ch ba na pa la ca w ha);rw [show decide (na.us.length=0)=false by simp [h0]] at HL
 obtain ⟨xa,xc,hca⟩:=ha.kids.form;obtain ⟨ya,yc,Tg⟩:=hb.kids.form;obtain ⟨va,vc,Cq⟩:=ha.bm.form;obtain ⟨za,zc,UD⟩:=hb.bm.form;subst hca Tg Cq UD;obtain ⟨N,hN⟩ : ∃ N,N=(na.us++nb.us).length:=⟨_,rfl⟩;obtain ⟨M,hM⟩ : ∃ M,M=(B.jc na.lk key nb.f nb.lk).length:=⟨_,rfl⟩;have HJN:Hid (∀ W,Below w.heap.size w W→Calls prog 165 #[.agg #[.int .i64 na.f,.slice va na.lk.length vc],.string key,.agg #[.int .i64 nb.f,.slice za nb.lk.length zc]] W fun e w'=>∃ (ua:Option Addr) (uc:Nat),e = .returned (.agg #[.int .i64 na.f,.slice ua M uc])∧B.cV w' (.slice ua M uc) (B.jc na.lk key nb.f nb.lk)∧Below W.heap.size W w'):=fun W hW=>by
  refine (B.Md na.f nb.f key _ _ na.lk nb.lk W (by omega) (ha.bm.below hW) (hb.bm.below hW)).mono fun e w' ⟨u,h1,h2,h3⟩=>?_
  obtain ⟨ua,uc,hu⟩:=h2.form;subst hu;rw [← hM] at h1 h2;exact ⟨ua,uc,h1,h2.at,h3⟩
 have yX:Hid (∀ (W:World) (k:Nat),Below w.heap.size w W→B.ax W k #[.slice xa na.us.length xc,.slice ya nb.us.length yc] 153→Calls prog 166 #[.slice (some ⟨k,0,none⟩) 2 2] W fun e w'=>∃ (ca:Option Addr) (cc:Nat),e = .returned (.slice ca N cc)∧C.cV w' (.slice ca N cc) (na.us++nb.us)∧Below W.heap.size W w'):=fun W k hW hr=>by
  refine (C.oI k 2 2 [.slice xa na.us.length xc,.slice ya nb.us.length yc] [na.us,nb.us] _ rfl (by decide) rfl (by simp;omega) (fun j h=>?_) (fun j h h'=>?_)).mono fun e w' ⟨u,h1,h2,h3⟩=>?_
  ·match j,h with
   | 0,_=>exact hr.cell 0 (by simp)
   | 1,_=>exact hr.cell 1 (by simp)
  ·match j,h with
   | 0,_=>exact (ha.kids.below hW)
   | 1,_=>exact (hb.kids.below hW)
  ·have e1:[na.us,nb.us].flatten=na.us++nb.us:=by simp
   rw [e1] at h2;obtain ⟨ua,uc,hu⟩:=h2.form;subst hu;rw [← hN] at h1 h2;exact ⟨ua,uc,h1,h2.at,h3⟩
 have yN:Hid ((∀ p ∈ B.jc na.lk key nb.f nb.lk,cW p.1)∧(B.jc na.lk key nb.f nb.lk).length≤4000∧(na.us++nb.us).length≤4001):=⟨fun p hp=>by
  unfold B.jc at hp;rcases List.mem_append.1 hp with h | h
  ·exact ha.fine.2.2.1 p h
  ·rcases List.mem_cons.1 h with rfl | h
   ·exact hk
   ·exact hb.fine.2.2.1 p h,by unfold B.jc;rw [ae,List.length_cons];omega,by rw [ae];exact hu⟩
 have a1:=ha.c1;have a2:=ha.c2;have a3:=ha.c3;have b1:=hb.c1;have b2:=hb.c2;have b3:=hb.c3;have HA:=ab ha;have HB:=ab hb;clear ha hb h0 hl hu hk hN hM;go_enter func126,ntmps126;go_wp2_with fail;refine HL.out.mono ?_
 rintro e w1 ⟨rfl,rfl⟩;clear HL;go_wp2_with fail;have f0:=World.new_ne w _ a1;have f1:=World.new_ne w _ b1;have q5:=ai w (.cells #[.slice xa na.us.length xc,.slice ya nb.us.length yc] 153);have x5:=B.ax.new w #[.slice xa na.us.length xc,.slice ya nb.us.length yc] 153;have Q1:Hid (∀ W,Below w.heap.size w W→(W.cell? ⟨ba,1,none⟩=some (.int .i64 na.f)∧W.cell? ⟨ba,2,none⟩=some (.slice va na.lk.length vc)∧W.cell? ⟨ba,3,none⟩=some (.slice xa na.us.length xc)∧W.cell? ⟨bb,1,none⟩=some (.int .i64 nb.f)∧W.cell? ⟨bb,2,none⟩=some (.slice za nb.lk.length zc)∧W.cell? ⟨bb,3,none⟩=some (.slice ya nb.us.length yc))∧¬ ba=W.heap.size∧¬ bb=W.heap.size):=fun W hW=>⟨⟨(HA.out.below hW).c1,(HA.out.below hW).c2,(HA.out.below hW).c3,(HB.out.below hW).c1,(HB.out.below hW).c2,(HB.out.below hW).c3⟩,by have:=HA.out.row.lt;have:=hW.size;omega,by have:=HB.out.row.lt;have:=hW.size;omega⟩
 obtain ⟨⟨y1,y2,y3,y4,y5,y6⟩,y7,y8⟩:=Q1.out _ q5;generalize hW5:w.alloc (.cells #[.slice xa na.us.length xc,.slice ya nb.us.length yc] 153)=W5 at *;have Fp:=ab q5;have zO:=ab x5;clear q5 x5;go_region_held3 (fun w'=>w'.cell? ⟨ba,1,none⟩=some (.int .i64 na.f)∧w'.cell? ⟨ba,2,none⟩=some (.slice va na.lk.length vc)∧w'.cell? ⟨ba,3,none⟩=some (.slice xa na.us.length xc)∧w'.cell? ⟨bb,1,none⟩=some (.int .i64 nb.f)∧w'.cell? ⟨bb,2,none⟩=some (.slice za nb.lk.length zc)∧w'.cell? ⟨bb,3,none⟩=some (.slice ya nb.us.length yc)) (go_keep)
  (first
   | (go_at_call 165;refine (HJN.out _ ?_).mono ?_;(first | exact XW.out | exact Fp.out.drew | exact (Below.refl _ _).drew);rintro e w2 ⟨ua,uc,rfl,gC,aO⟩;have XV:Hid (Below w.heap.size w w2):=(by first | exact Below.next XW.out aO | exact Below.next Fp.out (B.dw aO) | exact B.dw aO);have HJ2:=ab gC;(try (have HXJ:=ab (zO.out.drew.below aO)));(try (have HC4:=ab (HC3.out.below aO)));obtain ⟨⟨m1,m2,m3,m4,m5,m6⟩,m7,m8⟩:=Q1.out _ XV.out;clear gC aO)
   | (go_at_call 166;(first
       | (refine (yX.out _ _ XV.out HXJ.out).mono ?_;rintro e w3 ⟨RC,ccc,rfl,jh,bF⟩;have XW:Hid (Below w.heap.size w w3):=Below.next XV.out bF;have HJ3:=ab (HJ2.out.below bF))
       | (refine (yX.out _ _ (Below.next XV.out (ai w2 (.cells #[.slice xa na.us.length xc,.slice ya nb.us.length yc] 153))) (B.ax.new w2 #[.slice xa na.us.length xc,.slice ya nb.us.length yc] 153)).mono ?_;rintro e w3 ⟨RC,ccc,rfl,jh,bF⟩;have XW:Hid (Below w.heap.size w w3):=Below.next (Below.next XV.out (ai w2 (.cells #[.slice xa na.us.length xc,.slice ya nb.us.length yc] 153))) bF;have HJ3:=ab ((HJ2.out.below (ai w2 (.cells #[.slice xa na.us.length xc,.slice ya nb.us.length yc] 153))).below bF))
       | (refine (yX.out _ _ Fp.out.drew zO.out.drew).mono ?_;rintro e w3 ⟨RC,ccc,rfl,jh,bF⟩;have XW:Hid (Below w.heap.size w w3):=Below.next Fp.out (B.dw bF)));have HC3:=ab jh;obtain ⟨⟨m1,m2,m3,m4,m5,m6⟩,m7,m8⟩:=Q1.out _ XW.out;clear jh bF))
 all_goals first
  | (have hj:=HJ3.out
     have q:=ai w3 (.cells #[.slice none 0 0,.int .i64 na.f,.slice ua M uc,.slice RC N ccc] 155);have xr:=B.ax.new w3 #[.slice none 0 0,.int .i64 na.f,.slice ua M uc,.slice RC N ccc] 155;have HR:Hid (dG (w3.alloc (.cells #[.slice none 0 0,.int .i64 na.f,.slice ua M uc,.slice RC N ccc] 155)) w3.heap.size ⟨[],na.f,B.jc na.lk key nb.f nb.lk,na.us++nb.us⟩ (.slice none 0 0) (.slice ua M uc) (.slice RC N ccc)):=⟨xr,gK.nil _,hj.below q,HC3.out.below q,(fun p hp=>by simp at hp),by simp,yN.out.1,yN.out.2.1,yN.out.2.2⟩
     have nc:=ab (Below.next XW.out q);clear q xr hj;go_wp2;go_ret;exact ⟨_,_,_,_,rfl,HR.out,nc.out⟩)
  | (have hc:=HC4.out
     have q:=ai w2 (.cells #[.slice none 0 0,.int .i64 na.f,.slice ua M uc,.slice RC N ccc] 155);have xr:=B.ax.new w2 #[.slice none 0 0,.int .i64 na.f,.slice ua M uc,.slice RC N ccc] 155;have HR:Hid (dG (w2.alloc (.cells #[.slice none 0 0,.int .i64 na.f,.slice ua M uc,.slice RC N ccc] 155)) w2.heap.size ⟨[],na.f,B.jc na.lk key nb.f nb.lk,na.us++nb.us⟩ (.slice none 0 0) (.slice ua M uc) (.slice RC N ccc)):=⟨xr,gK.nil _,HJ2.out.below q,hc.below q,(fun p hp=>by simp at hp),by simp,yN.out.1,yN.out.2.1,yN.out.2.2⟩
     have nc:=ab (Below.next XV.out q);clear q xr hc;go_wp2;go_ret;exact ⟨_,_,_,_,rfl,HR.out,nc.out⟩)
end T
end Go.Proofs.YtihmgigfkmofnaaGreatDoor
