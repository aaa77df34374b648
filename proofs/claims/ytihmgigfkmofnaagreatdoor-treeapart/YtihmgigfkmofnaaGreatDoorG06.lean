import Derived.Test.YtihmgigfkmofnaaGreatDoorG05
set_option maxHeartbeats 8000000
set_option maxRecDepth 20000
open Go.Proofs.Tryz
namespace Go.Proofs.YtihmgigfkmofnaaGreatDoor
open Go.RowKit
def ij(w:World)(base:Nat)(v:Value)(l:List Pr):Prop:=w.ownsRow base 52 2 v l.length (iy l)
theorem ij.at{w:World}{base:Nat}{v:Value}{l:List Pr}(h:ij w base v l):gG w v l:=gG.rn h
theorem ij.form{w:World}{base:Nat}{v:Value}{l:List Pr}(h:ij w base v l):∃ a c,v = .slice a l.length c:=h.at.form
theorem ij.below{w w':World}{base:Nat}{v:Value}{l:List Pr}(h:ij w base v l)(hb:Below w.heap.size w w'):ij w' base v l:=by
 refine ⟨h.1,?_⟩;rcases h.2 with h' | ⟨g,cap,cur,h',h1,h2,hr⟩
 ·exact .inl h'
 ·refine .inr ⟨g,cap,cur,h',h1,?_,hr⟩;have hg:g<w.heap.size:=by
   rcases bg g w.heap.size with h' | h'
   ·exact h'
   ·rw [aX h'] at h2;cases h2
  rw [hb.block g hg];exact h2
theorem ij.mono{w:World}{b b2:Nat}{v:Value}{l:List Pr}(h:ij w b v l)(hb:b2≤b):ij w b2 v l:=by
 refine ⟨h.1,?_⟩;rcases h.2 with h' | ⟨g,cap,cur,h',h1,hr⟩
 ·exact .inl h'
 ·exact .inr ⟨g,cap,cur,h',ar hb h1,hr⟩
theorem ij.nil(w:World)(base:Nat):ij w base (.slice none 0 0) []:=World.ownsRow_nil _ _ _ _
theorem gO(base:Nat)(v s:Value)(xs us:List Pr)(w:World)(aE:ij w base v xs)(hs:gG w s us)(hb:(xs.length+us.length)*32≤140737488355328)(du:base≤w.heap.size):∃ a' eS w',(Builtin.append_ #[63,63] 63 #[v,s]).run prog w = .ok (.slice a' (xs.length+us.length) eS) w'∧ij w' base (.slice a' (xs.length+us.length) eS) (xs++us)∧w.grownBy w' v.ownBlock:=by
 obtain ⟨i0,hi,hz,b7,kF⟩:=info_parts I3;obtain ⟨a,cap,rfl,hle,qu,hc⟩:=hs;have Ee:∃ a' c',v = .slice a' xs.length c':=aE.form;unfold ij at aE ⊢;rw [ae,wH];cases a with
 | none =>
  have h0:us=[]:=by
   cases us with
   | nil=>rfl
   | cons u r=>obtain ⟨g,o,he,_⟩:=hc 0 (by simp);cases he
  subst h0;rw [qu rfl];have hr:=run_append_owned_none (P:=prog) w base 63 63 52 i0 2 underlying63 hi v xs.length (iy xs) aE;obtain ⟨a',c',rfl⟩:=Ee;exact ⟨a',c',w,hr,by simpa [iy] using aE,⟨rfl,rfl,rfl,aj _,fun _ _ _=>rfl⟩⟩
 | some ad =>
  obtain ⟨v',w',hr,gi,As,_⟩:=run_append_own (P:=prog) w base 63 63 52 i0 _ 2 32 underlying63 hi hz b7 kF rfl (by decide) v xs.length (iy xs) aE ad us.length cap (iy us) (eI us) (fun j u hj=>by
   have lL:=(List.getElem?_eq_some_iff.1 hj).1;rw [eI] at lL;obtain ⟨g,o,he,c1,c2⟩:=hc (j / 2) (by omega)
   cases he;have hg:=vg us (j / 2) (by omega)
   rw [bz];rcases bU j with hm | hm
   ·have e:j / 2*2=j:=by omega
    rw [e] at hg c1;rw [hg.1] at hj;cases hj;exact c1
   ·have e:j / 2*2+1=j:=by omega
    rw [dJ,e] at c2;rw [e] at hg;rw [hg.2] at hj;cases hj;exact c2) (R8 us) (by unfold maxLen;omega) hb du
  have hf:∃ a' c',v' = .slice a' (xs.length+us.length) c':=by
   rcases gi.2 with ⟨rfl,h0⟩ | ⟨g,cap,cur,rfl,_⟩
   ·exact ⟨none,0,by rw [h0]⟩
   ·exact ⟨_,_,rfl⟩
  obtain ⟨a',c',rfl⟩:=hf;exact ⟨a',c',w',hr,gi,As⟩
theorem ij.dr{w:World}{base:Nat}{v:Value}{l:List Pr}(h:ij w base v l):∀ k,v.ownBlock=some k→base≤k∧k<w.heap.size:=World.ownsRow.lt h
theorem A9(w:World)(p:Pr)(t:TypeId):gG (w.alloc (.cells #[.string p.1,.string p.2] t)) (.slice (some ⟨w.heap.size,0,none⟩) 1 1) [p]:=by
 have hb:=bL w #[.string p.1,.string p.2] t;refine ⟨_,_,rfl,aj _,fun h=>(by cases h),fun j hj=>⟨_,_,rfl,?_,?_⟩⟩
 ·have:j=0:=by simpa using hj
  subst this;exact hb.2 0 (by simp)
 ·have:j=0:=by simpa using hj
  subst this;exact hb.2 1 (by simp)
theorem CX(base:Nat)(v:Value)(l:List Pr)(p:Pr)(t:TypeId)(w w0:World)(B n:Nat)(hn:l.length=n)(aE:ij w base v l)(hb:(n+1)*32≤140737488355328)(du:base≤w.heap.size)(hB:B≤base)(h0:Below B w0 w):∃ a' eS w',(Builtin.append_ #[63,63] 63 #[v,.slice (some ⟨w.heap.size,0,none⟩) 1 1]).run prog (w.alloc (.cells #[.string p.1,.string p.2] t)) = .ok (.slice a' (n+1) eS) w'∧ij w' base (.slice a' (n+1) eS) (l++[p])∧Below B w0 w'∧w.heap.size≤w'.heap.size:=by
 subst hn;have ho:ij (w.alloc (.cells #[.string p.1,.string p.2] t)) base v l:=World.ownsRow.alloc aE _;obtain ⟨a',eS,w',hr,gi,hg⟩:=gO base v _ l [p] _ ho (A9 w p t) (by simpa using hb) (by simp;omega)
 refine ⟨a',eS,w',hr,gi,?_,?_⟩
 ·refine (h0.alloc (ar hB du) _).grown hg (by simp;omega) (fun k hk=>ar hB (aE.dr k hk).1)
 ·have:=hg.size;simp at this
  omega
theorem tI(n:Nat):(Builtin.zeroCells (Value.agg #[.string ByteArray.empty,.string ByteArray.empty]).cells n).size=n*2:=by
 simp [Builtin.zeroCells,Value.cells]
theorem PN(n:Nat)(w:World)(hn:n*32≤140737488355328):Calls prog 130 #[.slice none 0 0,.int .i64 (n:Int)] w fun e w'=>∃ u,e = .returned u∧ij w' w.heap.size u []∧Below w.heap.size w w':=by
 obtain ⟨i0,hi,hz,b7,kF⟩:=info_parts I3;have GX:decide ((n:Int)<0)=false:=decide_eq_false (by omega)
 by_cases h0:0<n
 ·have bn:=Lib.run_append_nil_zeros (P:=prog) w 63 3 63 52 i0 _ .i64 .i64 underlying63 underlying3 hi hz n h0 (by omega) (by omega) (by rw [kF];omega)
  have GL:(0:Int)<(n:Int):=by omega
  have hw:IntKind.i64.wrap ((n:Int))=(n:Int):=by rw [IntKind.wrap_i64];omega
  generalize dd:grownCap w n 0 52=cap at *;have hle:n≤cap:=by rw [← dd];exact grownCap_ge _ _ _ _
  have Uy:cap≤maxLen:=by rw [← dd];exact grownCap_le_maxLen _ _ _ _ (by unfold maxLen;omega)
  generalize fH:Builtin.zeroCells _ n++Builtin.zeroCells _ (cap - n)=cs at bn;have Eh:cs.size=cap*2:=by rw [← fH,ej,tI,tI];omega
  have HO:Hid (ij (w.drew.alloc (.cells cs 52)) w.heap.size (.slice (some ⟨w.heap.size,0,none⟩) 0 cap) []) :=
   ⟨by simp [iy],.inr ⟨w.heap.size,cap,cs,rfl,aj _,heap_alloc_new w.drew _,aD _,Uy,Eh,by simp [iy]⟩⟩
  have HB:Hid (Below w.heap.size w (w.drew.alloc (.cells cs 52))):=((Below.refl _ _).drew).alloc (aj _) _;clear fH dd hi hz b7 kF Eh;go_enter func130,ntmps130;go_wp2_with (first | (at_builtin;refine Lib.wpList_append_run _ rfl (.tmp 20) (.tmp 21) 63 3 rfl _ _ rfl rfl _ _ bn ?_))
  go_ret;exact ⟨_,rfl,HO.out,HB.out⟩
 ·obtain rfl:n=0:=by omega
  go_enter func130,ntmps130;go_wp2;go_ret;exact ⟨_,rfl,ij.nil _ _,Below.refl _ _⟩
def jD(LL:List (List Pr))(k:Nat):Nat:=((LL.take k).flatten).length
theorem tT(LL:List (List Pr))(k:Nat)(h:k<LL.length):jD LL (k+1)=jD LL k+LL[k].length:=by
 unfold jD;rw [ay h,dD,ae];simp
theorem Aa(LL:List (List Pr))(k:Nat):jD LL k≤LL.flatten.length:=by
 unfold jD;conv=>rhs;rw [← aH k LL,dD,ae]
 omega
theorem qB(B m cap:Nat)(tL:List Value)(LL:List (List Pr))(w:World)(hm:LL.length=m)(I7:m≤3)(hs:tL.length=m)(fW:LL.flatten.length*32≤140737488355328)(hc:∀ j (h:j<tL.length),w.cell? ⟨B,j,none⟩=some tL[j])(hr:∀ j (h:j<LL.length) (h':j<tL.length),gG w tL[j] LL[j]):Calls prog 84 #[.slice (some ⟨B,0,none⟩) m cap] w fun e w'=>∃ u,e = .returned u∧ij w' w.heap.size u LL.flatten∧Below w.heap.size w w':=by
 have HM:=ab hm;have HS:=ab hs;have HC:=ab hc;have HR:=ab hr;have qJ:=ab fW;obtain ⟨T,hT⟩ : ∃ T,T=LL.flatten.length:=⟨_,rfl⟩;have HT:=ab hT;have Z7:T*32≤140737488355328:=by rw [hT];exact fW
 have QU:Hid (jD LL 0=0):=by show _=_;simp [jD]
 clear hm hs hc hr fW hT;go_enter func84,ntmps84;go_wp2;go_loop [3,11] (fun r i=>∃ k:Nat,k≤m∧i = .int .i64 k∧r = .int .i64 (jD LL k:Int)) (fun _ i=>m - (intOf i).toNat)
 case atStart=>exact ⟨0,aD _,rfl,by rw [QU.out];rfl⟩
 case round =>
  obtain ⟨k,hk,rfl,rfl⟩:=hrel;by_cases bN:k<m
  ·have jv:k<tL.length:=by have:=HS.out;omega
   have qM:k<LL.length:=by have:=HM.out;omega
   have c1:=HC.out k jv;obtain ⟨a,c,hf⟩:=(HR.out k qM jv).form;rw [hf] at c1;have U0:=ab (tT LL k qM);have qI:=ab (Aa LL (k+1));obtain ⟨x,hx⟩ : ∃ x,x=jD LL k:=⟨_,rfl⟩;obtain ⟨y,hy⟩ : ∃ y,y=jD LL (k+1):=⟨_,rfl⟩;obtain ⟨z,hz⟩ : ∃ z,z=LL[k].length:=⟨_,rfl⟩;rw [← hx,← hy,← hz] at U0;rw [← hy,← HT.out] at qI;rw [← hx];rw [← hz] at c1;have HY:=ab hy;have hw:IntKind.i64.wrap ((x:Int)+(z:Int))=(y:Int):=by rw [IntKind.wrap_i64];have:=U0.out;have:=qI.out;omega
   have GX:decide ((y:Int)<0)=false:=decide_eq_false (by omega)
   have dP:(k:Int)<(m:Int):=by omega
   clear hx hy hz hf HC HR;go_wp2;go_round
   case rel=>exact ⟨k+1,by omega,by go_num,by rw [← HY.out]⟩
   case measure=>simp [intOf];omega
  ·have K5:k=m:=by omega
   subst K5;have df:jD LL k=T:=by
    rw [HT.out];unfold jD;rw [al (by rw [HM.out];exact aj _)]
   rw [df];have dP:¬ (k:Int)<(k:Int):=by omega
   have HG:=ab (PN T w Z7);clear df bN hk;go_wp2_with fail;refine HG.out.mono ?_
   rintro e w1 ⟨u,rfl,aE,aL⟩;have HO:=ab aE;have bP:=ab aL;clear aE aL HG;go_wp2;go_loopw [6,27] (fun u i wr=>∃ j:Nat,j≤k∧i = .int .i64 j∧ij wr w.heap.size u ((LL.take j).flatten)∧Below w.heap.size w wr) (fun _ i _=>k - (intOf i).toNat)
   case atStart=>exact ⟨0,aD _,rfl,by simpa using HO.out,bP.out⟩
   case round =>
    obtain ⟨j,hj,rfl,aE,bO⟩:=hrel;clear HO bP;by_cases bN:j<k
    ·have jv:j<tL.length:=by have:=HS.out;omega
     have qM:j<LL.length:=by have:=HM.out;omega
     have c0:=HC.out j jv;have c1:wr.cell? ⟨B,j,none⟩=some tL[j]:=(bO.cell (p:=⟨B,j,none⟩) (World.block_lt_of_cell? w _ c0)).trans c0;have fV:=(HR.out j qM jv).below bO;have hle:=Aa LL (j+1);rw [tT LL j qM,← HT.out] at hle;unfold jD at hle;obtain ⟨a1,cp1,w2,bn,hU,fG⟩:=gO w.heap.size _ _ _ _ wr aE fV (by omega) bO.size
     have aU:Below w.heap.size w w2:=bO.grown fG bO.size (fun q hq=>(aE.dr q hq).1)
     obtain ⟨a,c,hf⟩:=fV.form;obtain ⟨ua,uc,hu⟩:=aE.form;subst hu;rw [hf] at c1 bn;have iH:(LL.take j).flatten++LL[j]=(LL.take (j+1)).flatten:=by
      rw [ay qM,dD];simp
     rw [iH] at hU;generalize ((LL.take j).flatten).length=L1 at *;generalize LL[j].length=L2 at *;have jP:=ab hU;have bH:=ab aU;have dP:(j:Int)<(k:Int):=by omega
     clear hf HC HR aE hU bO aU fG fV c0 hle;go_wp2_with (first | (at_builtin;refine wpList_append_run 63 rfl (.tmp 31) (.tmp 32) rfl rfl _ _ rfl rfl _ _ bn ?_))
     clear bn;go_wp2;go_roundw
     case rel=>exact ⟨j+1,by omega,by go_num,jP.out,bH.out⟩
     case measure=>simp [intOf];omega
    ·have df:LL.take j=LL:=by rw [al];have:=HM.out;omega
     rw [df] at aE;have HO:=ab aE;have HB:=ab bO;have dP:¬ (j:Int)<(k:Int):=by omega
     clear aE bO df HC HR;go_wp2;go_ret;exact ⟨_,rfl,HO.out,HB.out⟩
theorem yd(n:Nat)(b:Bool)(w:World)(hn:n≤140737488355328):Calls prog 85 #[.int .i64 (n:Int),.bool b] w fun e w'=>e = .returned (.int .i64 ((if b then n+1 else n:Nat):Int))∧w=w':=by
 cases b with
 | true =>
  go_enter func85,ntmps85;go_wp2;go_ret;exact ⟨by go_num,rfl⟩
 | false =>
  go_enter func85,ntmps85;go_wp2;go_ret;exact ⟨rfl,rfl⟩
namespace B
theorem jR(n:Nat):(Builtin.zeroCells (Value.agg #[.string ByteArray.empty,.int .i64 0]).cells n).size=n*2:=by
 simp [Builtin.zeroCells,Value.cells]
theorem sS(n:Nat)(w:World)(hn:n*24≤140737488355328):Calls prog 234 #[.slice none 0 0,.int .i64 (n:Int)] w fun e w'=>∃ u,e = .returned u∧b6 w' w.heap.size u []∧Below w.heap.size w w':=by
 obtain ⟨i0,hi,hz,b7,kF⟩:=info_parts lB;have GX:decide ((n:Int)<0)=false:=decide_eq_false (by omega)
 by_cases h0:0<n
 ·have bn:=Lib.run_append_nil_zeros (P:=prog) w 148 3 148 179 i0 _ .i64 .i64 underlying148 underlying3 hi hz n h0 (by omega) (by omega) (by rw [kF];omega)
  have GL:(0:Int)<(n:Int):=by omega
  have hw:IntKind.i64.wrap ((n:Int))=(n:Int):=by rw [IntKind.wrap_i64];omega
  generalize dd:grownCap w n 0 179=cap at *;have hle:n≤cap:=by rw [← dd];exact grownCap_ge _ _ _ _
  have Uy:cap≤maxLen:=by rw [← dd];exact grownCap_le_maxLen _ _ _ _ (by unfold maxLen;omega)
  generalize fH:Builtin.zeroCells _ n++Builtin.zeroCells _ (cap - n)=cs at bn;have Eh:cs.size=cap*2:=by rw [← fH,ej,jR,jR];omega
  have HO:Hid (b6 (w.drew.alloc (.cells cs 179)) w.heap.size (.slice (some ⟨w.heap.size,0,none⟩) 0 cap) []) :=
   ⟨by simp [a8],.inr ⟨w.heap.size,cap,cs,rfl,aj _,heap_alloc_new w.drew _,aD _,Uy,Eh,by simp [a8]⟩⟩
  have HB:Hid (Below w.heap.size w (w.drew.alloc (.cells cs 179))):=((Below.refl _ _).drew).alloc (aj _) _;clear fH dd hi hz b7 kF Eh;go_enter func234,ntmps234;go_wp2_with (first | (at_builtin;refine Lib.wpList_append_run _ rfl (.tmp 20) (.tmp 21) 148 3 rfl _ _ rfl rfl _ _ bn ?_))
  go_ret;exact ⟨_,rfl,HO.out,HB.out⟩
 ·obtain rfl:n=0:=by omega
  go_enter func234,ntmps234;go_wp2;go_ret;exact ⟨_,rfl,b6.nil _ _,Below.refl _ _⟩
def cT(LL:List (List Lk))(k:Nat):Nat:=((LL.take k).flatten).length
theorem jc(LL:List (List Lk))(k:Nat)(h:k<LL.length):cT LL (k+1)=cT LL k+LL[k].length:=by
 unfold cT;rw [ay h,dD,ae];simp
theorem kW(LL:List (List Lk))(k:Nat):cT LL k≤LL.flatten.length:=by
 unfold cT;conv=>rhs;rw [← aH k LL,dD,ae]
 omega
theorem ov(B m cap:Nat)(tL:List Value)(LL:List (List Lk))(w:World)(hm:LL.length=m)(I7:m≤3)(hs:tL.length=m)(fW:LL.flatten.length*24≤140737488355328)(hc:∀ j (h:j<tL.length),w.cell? ⟨B,j,none⟩=some tL[j])(hr:∀ j (h:j<LL.length) (h':j<tL.length),di w tL[j] LL[j]):Calls prog 205 #[.slice (some ⟨B,0,none⟩) m cap] w fun e w'=>∃ u,e = .returned u∧b6 w' w.heap.size u LL.flatten∧Below w.heap.size w w':=by
 have HM:=ab hm;have HS:=ab hs;have HC:=ab hc;have HR:=ab hr;have qJ:=ab fW;obtain ⟨T,hT⟩ : ∃ T,T=LL.flatten.length:=⟨_,rfl⟩;have HT:=ab hT;have Z7:T*24≤140737488355328:=by rw [hT];exact fW
 have QU:Hid (cT LL 0=0):=by show _=_;simp [cT]
 clear hm hs hc hr fW hT;go_enter func205,ntmps205;go_wp2;go_loop [3,11] (fun r i=>∃ k:Nat,k≤m∧i = .int .i64 k∧r = .int .i64 (cT LL k:Int)) (fun _ i=>m - (intOf i).toNat)
 case atStart=>exact ⟨0,aD _,rfl,by rw [QU.out];rfl⟩
 case round =>
  obtain ⟨k,hk,rfl,rfl⟩:=hrel;by_cases bN:k<m
  ·have jv:k<tL.length:=by have:=HS.out;omega
   have qM:k<LL.length:=by have:=HM.out;omega
   have c1:=HC.out k jv;obtain ⟨a,c,hf⟩:=(HR.out k qM jv).form;rw [hf] at c1;have U0:=ab (jc LL k qM);have qI:=ab (kW LL (k+1));obtain ⟨x,hx⟩ : ∃ x,x=cT LL k:=⟨_,rfl⟩;obtain ⟨y,hy⟩ : ∃ y,y=cT LL (k+1):=⟨_,rfl⟩;obtain ⟨z,hz⟩ : ∃ z,z=LL[k].length:=⟨_,rfl⟩;rw [← hx,← hy,← hz] at U0;rw [← hy,← HT.out] at qI;rw [← hx];rw [← hz] at c1;have HY:=ab hy;have hw:IntKind.i64.wrap ((x:Int)+(z:Int))=(y:Int):=by rw [IntKind.wrap_i64];have:=U0.out;have:=qI.out;omega
   have GX:decide ((y:Int)<0)=false:=decide_eq_false (by omega)
   have dP:(k:Int)<(m:Int):=by omega
   clear hx hy hz hf HC HR;go_wp2;go_round
   case rel=>exact ⟨k+1,by omega,by go_num,by rw [← HY.out]⟩
   case measure=>simp [intOf];omega
  ·have K5:k=m:=by omega
   subst K5;have df:cT LL k=T:=by
    rw [HT.out];unfold cT;rw [al (by rw [HM.out];exact aj _)]
   rw [df];have dP:¬ (k:Int)<(k:Int):=by omega
   have HG:=ab (sS T w Z7);clear df bN hk;go_wp2_with fail;refine HG.out.mono ?_
   rintro e w1 ⟨u,rfl,aE,aL⟩;have HO:=ab aE;have bP:=ab aL;clear aE aL HG;go_wp2;go_loopw [6,27] (fun u i wr=>∃ j:Nat,j≤k∧i = .int .i64 j∧b6 wr w.heap.size u ((LL.take j).flatten)∧Below w.heap.size w wr) (fun _ i _=>k - (intOf i).toNat)
   case atStart=>exact ⟨0,aD _,rfl,by simpa using HO.out,bP.out⟩
   case round =>
    obtain ⟨j,hj,rfl,aE,bO⟩:=hrel;clear HO bP;by_cases bN:j<k
    ·have jv:j<tL.length:=by have:=HS.out;omega
     have qM:j<LL.length:=by have:=HM.out;omega
     have c0:=HC.out j jv;have c1:wr.cell? ⟨B,j,none⟩=some tL[j]:=(bO.cell (p:=⟨B,j,none⟩) (World.block_lt_of_cell? w _ c0)).trans c0;have fV:=(HR.out j qM jv).below bO;have hle:=kW LL (j+1);rw [jc LL j qM,← HT.out] at hle;unfold cT at hle;obtain ⟨a1,cp1,w2,bn,hU,fG⟩:=fi w.heap.size _ _ _ _ wr aE fV (by omega) bO.size
     have aU:Below w.heap.size w w2:=bO.grown fG bO.size (fun q hq=>(aE.dr q hq).1)
     obtain ⟨a,c,hf⟩:=fV.form;obtain ⟨ua,uc,hu⟩:=aE.form;subst hu;rw [hf] at c1 bn;have iH:(LL.take j).flatten++LL[j]=(LL.take (j+1)).flatten:=by
      rw [ay qM,dD];simp
     rw [iH] at hU;generalize ((LL.take j).flatten).length=L1 at *;generalize LL[j].length=L2 at *;have jP:=ab hU;have bH:=ab aU;have dP:(j:Int)<(k:Int):=by omega
     clear hf HC HR aE hU bO aU fG fV c0 hle;go_wp2_with (first | (at_builtin;refine wpList_append_run 148 rfl (.tmp 31) (.tmp 32) rfl rfl _ _ rfl rfl _ _ bn ?_))
     clear bn;go_wp2;go_roundw
     case rel=>exact ⟨j+1,by omega,by go_num,jP.out,bH.out⟩
     case measure=>simp [intOf];omega
    ·have df:LL.take j=LL:=by rw [al];have:=HM.out;omega
     rw [df] at aE;have HO:=ab aE;have HB:=ab bO;have dP:¬ (j:Int)<(k:Int):=by omega
     clear aE bO df HC HR;go_wp2;go_ret;exact ⟨_,rfl,HO.out,HB.out⟩
theorem L8(fa fb:Int)(key:ByteArray)(va vb:Value)(la lb:List Lk)(w:World)(hm:la.length+lb.length+1≤5864062014805)(ha:di w va la)(hb:di w vb lb):Calls prog 165 #[.agg #[.int .i64 fa,va],.string key,.agg #[.int .i64 fb,vb]] w fun e w'=>∃ u,e = .returned (.agg #[.int .i64 fa,u])∧b6 w' w.heap.size u (iR la key fb lb)∧Below w.heap.size w w':=by
 obtain ⟨a1,c1,hv⟩:=ha.form;subst hv;obtain ⟨a2,c2,hv⟩:=hb.form;subst hv;obtain ⟨na,hna⟩ : ∃ n,n=la.length:=⟨_,rfl⟩;obtain ⟨nb,nL⟩ : ∃ n,n=lb.length:=⟨_,rfl⟩;rw [← hna] at ha ⊢;rw [← nL] at hb ⊢;have q1:=ai w (.cells #[.int .i64 fa,.slice a1 na c1] 150);have x1:=au.new w #[.int .i64 fa,.slice a1 na c1] 150;have s1:(w.alloc (.cells #[.int .i64 fa,.slice a1 na c1] 150)).heap.size=w.heap.size+1:=by simp
 generalize gF:w.alloc (.cells #[.int .i64 fa,.slice a1 na c1] 150)=W1 at *;have q2:=ai W1 (.cells #[.int .i64 fb,.slice a2 nb c2] 150);have x2:=au.new W1 #[.int .i64 fb,.slice a2 nb c2] 150;have s2:(W1.alloc (.cells #[.int .i64 fb,.slice a2 nb c2] 150)).heap.size=W1.heap.size+1:=by simp
 generalize Lh:W1.alloc (.cells #[.int .i64 fb,.slice a2 nb c2] 150)=W2 at *;have q3:=ai W2 (.cells #[.int .i64 0,.slice none 0 0] 150);have x3:=au.new W2 #[.int .i64 0,.slice none 0 0] 150;have s3:(W2.alloc (.cells #[.int .i64 0,.slice none 0 0] 150)).heap.size=W2.heap.size+1:=by simp
 generalize MJ:W2.alloc (.cells #[.int .i64 0,.slice none 0 0] 150)=W3 at *;have q4:=ai W3 (.cells #[.string key,.int .i64 fb] 179);have x4:=vp W3 (key,fb) 179;have s4:(W3.alloc (.cells #[.string key,.int .i64 fb] 179)).heap.size=W3.heap.size+1:=by simp
 generalize Rp:W3.alloc (.cells #[.string key,.int .i64 fb] 179)=W4 at *;have q5:=ai W4 (.cells #[.slice a1 na c1,.slice (some ⟨W3.heap.size,0,none⟩) 1 1,.slice a2 nb c2] 148);have x5:=bL W4 #[.slice a1 na c1,.slice (some ⟨W3.heap.size,0,none⟩) 1 1,.slice a2 nb c2] 148;have s5:(W4.alloc (.cells #[.slice a1 na c1,.slice (some ⟨W3.heap.size,0,none⟩) 1 1,.slice a2 nb c2] 148)).heap.size=W4.heap.size+1:=by simp
 generalize hW5:W4.alloc (.cells #[.slice a1 na c1,.slice (some ⟨W3.heap.size,0,none⟩) 1 1,.slice a2 nb c2] 148)=W5 at *;have y1:=((((x1.below q2).below q3).below q4));have y2:=((x2.below q3).below q4);have y3:=(x3.below q4);have yC:Hid (∀ W,Below W5.heap.size W5 W→Calls prog 205 #[.slice (some ⟨W4.heap.size,0,none⟩) 3 3] W fun e w'=>∃ ga gn gc,e = .returned (.slice ga gn gc)∧b6 w' W5.heap.size (.slice ga gn gc) (iR la key fb lb)∧Below W5.heap.size W5 w'):=fun W hW=>by
  refine (ov W4.heap.size 3 3 [.slice a1 na c1,.slice (some ⟨W3.heap.size,0,none⟩) 1 1,.slice a2 nb c2] [la,[(key,fb)],lb] W rfl (by decide) rfl ?_ (fun j h=>(x5.below hW).2 j h) ?_).mono ?_
  ·simp;omega
  ·intro j h h';have hj:j<3:=h;match j,hj with
   | 0,_=>exact ((((((ha.below q1).below q2).below q3).below q4).below q5).below hW)
   | 1,_=>exact (x4.below q5).below hW
   | 2,_=>exact ((((((hb.below q1).below q2).below q3).below q4).below q5).below hW)
  ·rintro e w' ⟨u,rfl,ho,hb⟩;obtain ⟨ga,gc,hu⟩:=ho.form;subst hu;refine ⟨ga,_,gc,rfl,?_,Below.next hW hb⟩;have he:[la,[(key,fb)],lb].flatten=iR la key fb lb:=by simp [iR]
   rw [he] at ho ⊢;exact ho.mono hW.size
 have HQ:=ab (Below.next q1 (Below.next q2 (Below.next q3 (Below.next q4 q5))));have Mq:=ab (Below.next q1 (Below.next q2 (Below.next q3 q4)));have HY3:=ab (y3.below q5);have HS:Hid (W5.heap.size=w.heap.size+5∧W2.heap.size=w.heap.size+2):=by show _∧_;omega
 have E2:=ab q5;have HY1:=ab y1;have HY2:=ab y2;have p1:W4.cell? ⟨w.heap.size,0,none⟩=some (.int .i64 fa):=y1.c0;have p2:W4.cell? ⟨w.heap.size,1,none⟩=some (.slice a1 na c1):=y1.c1;have p3:W4.cell? ⟨W1.heap.size,0,none⟩=some (.int .i64 fb):=y2.c0;have p4:W4.cell? ⟨W1.heap.size,1,none⟩=some (.slice a2 nb c2):=y2.c1;have p5:W3.cell? ⟨W1.heap.size,0,none⟩=some (.int .i64 fb):=(x2.below q3).c0;have r1:W5.cell? ⟨w.heap.size,0,none⟩=some (.int .i64 fa):=(y1.below q5).c0;have r2:W5.cell? ⟨w.heap.size,1,none⟩=some (.slice a1 na c1):=(y1.below q5).c1;have r3:W5.cell? ⟨W1.heap.size,1,none⟩=some (.slice a2 nb c2):=(y2.below q5).c1;have b1:¬ w.heap.size=W2.heap.size:=by omega
 have b2:¬ W1.heap.size=W2.heap.size:=by omega
 have b3:¬ W2.heap.size=w.heap.size:=by omega
 have b4:¬ W2.heap.size=W1.heap.size:=by omega
 clear q1 q2 q3 q4 q5 x1 x2 x3 x4 x5 y1 y2 y3 s1 s2 s3 s4 s5 ha hb hm hna nL;go_enter func165,ntmps165;go_wp2_with fail;go_region_held3 (fun w'=>w'.cell? ⟨w.heap.size,0,none⟩=some (.int .i64 fa)∧w'.cell? ⟨w.heap.size,1,none⟩=some (.slice a1 na c1)∧w'.cell? ⟨W1.heap.size,1,none⟩=some (.slice a2 nb c2)) (go_keep)
  (first
   | (go_at_call 205;refine (yC.out _ ?_).mono ?_;(exact (Below.refl _ _).drew);rintro e w3 ⟨ga,gn,gc,rfl,ho,hb⟩;have HO:=ab ho;have HB:=ab hb;have k1:w3.cell? ⟨w.heap.size,0,none⟩=some (.int .i64 fa):=((HY1.out.below E2.out).below hb).c0;have k2:w3.cell? ⟨w.heap.size,1,none⟩=some (.slice a1 na c1):=((HY1.out.below E2.out).below hb).c1;have k3:w3.cell? ⟨W1.heap.size,1,none⟩=some (.slice a2 nb c2):=((HY2.out.below E2.out).below hb).c1;have k4:w3.cell? ⟨W2.heap.size,0,none⟩=some (.int .i64 0):=(HY3.out.below hb).c0;have k5:w3.cell? ⟨W2.heap.size,1,none⟩=some (.slice none 0 0):=(HY3.out.below hb).c1;have z4:=(HY3.out.below hb).free 0;have z5:=(HY3.out.below hb).free 1;clear ho hb))
 all_goals
  clear yC r1 r2 r3 p1 p2 p3 p4 p5 k1 k2 k3 k4 k5 z4 z5 b1 b2 b3 b4;go_wp2_with fail;refine bodyPost_ret (results_cell_row rfl _ _ W2.heap.size 150 _ (0,0) _ rfl ((HY3.out.below HB.out).two _ _) underlying150 rfl (by kernel_rfl)) rfl ⟨.slice ga gn gc,rfl,?_,?_⟩
  ·exact (HO.out.wG (by have:=HS.out;omega) _ _).mono HQ.out.size
  ·exact b9 (Below.next HQ.out HB.out) (by have:=HS.out;omega)
end B
namespace T
theorem JP(W:World)(a b:Value)(t:TypeId):∀ j (h:j < [a,b].length),(W.alloc (.cells #[a,b] t)).cell? ⟨W.heap.size,j,none⟩=some [a,b][j]:=fun j h=>by
 have h1:=(bL W #[a,b] t).2 j h;exact h1
theorem KT(ba bb:Nat)(na nb:SN)(pa la ca pb lb cb:Value)(key:ByteArray)(w:World)(ha:dH w ba na pa la ca)(hb:dH w bb nb pb lb cb)(h0:na.us.length=0)(hl:na.ps.length+nb.ps.length≤4000):Calls prog 126 #[.pointer (some ⟨ba,0,none⟩),.string key,.pointer (some ⟨bb,0,none⟩)] w fun e w'=>Ru w ⟨na.ps++nb.ps,0,[],[]⟩ e w':=by
 have HL:=ab (cB ba na pa la ca w ha);rw [show decide (na.us.length=0)=true by simp [h0]] at HL
 obtain ⟨xa,xc,O6⟩:=ha.iy.form;obtain ⟨ya,yc,Fh⟩:=hb.iy.form;subst O6 Fh;have p0:=ha.c0;have p1:=hb.c0;have HFA:=ab ha.fine;have HFB:=ab hb.fine;have yC:Hid (∀ W,Below w.heap.size w W→Calls prog 84 #[.slice (some ⟨W.heap.size,0,none⟩) 2 2] (W.alloc (.cells #[.slice xa na.ps.length xc,.slice ya nb.ps.length yc] 63)) fun e w'=>∃ (ua:Option Addr) (uc:Nat),e = .returned (.slice ua (na.ps++nb.ps).length uc)∧ij w' W.heap.size (.slice ua (na.ps++nb.ps).length uc) (na.ps++nb.ps)∧Below w.heap.size w w'):=fun W hW=>by
  have q:=ai W (.cells #[.slice xa na.ps.length xc,.slice ya nb.ps.length yc] 63);refine (qB W.heap.size 2 2 [.slice xa na.ps.length xc,.slice ya nb.ps.length yc] [na.ps,nb.ps] _ rfl (by decide) rfl (by simp;omega) (JP W _ _ _) (fun j h h'=>?_)).mono fun e w' ⟨u,h1,h2,h3⟩=>?_
  ·match j,h with
   | 0,_=>exact ((ha.iy.below hW).below q)
   | 1,_=>exact ((hb.iy.below hW).below q)
  ·have e1:[na.ps,nb.ps].flatten=na.ps++nb.ps:=by simp
   rw [e1] at h2;obtain ⟨ua,uc,hu⟩:=h2.form;subst hu;exact ⟨ua,uc,h1,h2.mono (by simp),Below.next (Below.next hW q) h3⟩
 have yq:Hid ((∀ p ∈ na.ps++nb.ps,cO p=true)∧(na.ps++nb.ps).length≤4000):=⟨fun p hp=>by
  rcases List.mem_append.1 hp with h | h
  ·exact ha.fine.1 p h
  ·exact hb.fine.1 p h,by rw [ae];exact hl⟩
 obtain ⟨N,hN⟩ : ∃ N,N=(na.ps++nb.ps).length:=⟨_,rfl⟩;rw [← hN] at yC;clear hN;clear ha hb h0 hl;go_enter func126,ntmps126;go_wp2_with fail;refine HL.out.mono ?_
 rintro e w1 ⟨rfl,rfl⟩;clear HL;go_wp2_with fail;have f0:=World.new_ne w _ p0;have f1:=World.new_ne w _ p1;go_region_held3 (fun w'=>w'.cell? ⟨ba,0,none⟩=some (.slice xa na.ps.length xc)∧w'.cell? ⟨bb,0,none⟩=some (.slice ya nb.ps.length yc)) (go_keep)
  (first
   | (go_at_call 84;refine (yC.out _ (Below.refl _ _).drew).mono ?_;rintro e w3 ⟨ua,uc,rfl,lJ,bT⟩;have m0:=(bT.cell (p:=⟨ba,0,none⟩) (World.block_lt_of_cell? w _ p0)).trans p0;have m1:=(bT.cell (p:=⟨bb,0,none⟩) (World.block_lt_of_cell? w _ p1)).trans p1;have BY:=ab lJ;have eG:=ab bT;clear lJ bT))
 all_goals (
  have q:=ai w3 (.cells #[.slice ua N uc,.int .i64 0,.slice none 0 0,.slice none 0 0] 155);have xr:=B.au.new w3 #[.slice ua N uc,.int .i64 0,.slice none 0 0,.slice none 0 0] 155;have HR:Hid (dH (w3.alloc (.cells #[.slice ua N uc,.int .i64 0,.slice none 0 0,.slice none 0 0] 155)) w3.heap.size ⟨na.ps++nb.ps,0,[],[]⟩ (.slice ua N uc) (.slice none 0 0) (.slice none 0 0)):=⟨xr,(BY.out.below q).at,B.di.nil _,(C.b6.nil _ 0).at,yq.out.1,yq.out.2,(fun p hp=>by simp at hp),by simp,by simp⟩
  have mJ:=ab (Below.next eG.out q);clear q xr;go_wp2;go_ret;exact ⟨_,_,_,_,rfl,HR.out,mJ.out⟩)
theorem Sy(ba bb:Nat)(na nb:SN)(pa la ca pb lb cb:Value)(key:ByteArray)(w:World)(ha:dH w ba na pa la ca)(hb:dH w bb nb pb lb cb)(h0:¬ na.us.length=0)(hl:na.lk.length+nb.lk.length+1≤4000)(hu:na.us.length+nb.us.length≤4001)(hk:cQ key):Calls prog 126 #[.pointer (some ⟨ba,0,none⟩),.string key,.pointer (some ⟨bb,0,none⟩)] w fun e w'=>Ru w ⟨[],na.f,B.iR na.lk key nb.f nb.lk,na.us++nb.us⟩ e w':=by
 have HL:=ab (cB ba na pa la ca w ha);rw [show decide (na.us.length=0)=false by simp [h0]] at HL
 obtain ⟨xa,xc,hca⟩:=ha.kids.form;obtain ⟨ya,yc,S3⟩:=hb.kids.form;obtain ⟨va,vc,B7⟩:=ha.a8.form;obtain ⟨za,zc,UC⟩:=hb.a8.form;subst hca S3 B7 UC;obtain ⟨N,hN⟩ : ∃ N,N=(na.us++nb.us).length:=⟨_,rfl⟩;obtain ⟨M,hM⟩ : ∃ M,M=(B.iR na.lk key nb.f nb.lk).length:=⟨_,rfl⟩;have HJN:Hid (∀ W,Below w.heap.size w W→Calls prog 165 #[.agg #[.int .i64 na.f,.slice va na.lk.length vc],.string key,.agg #[.int .i64 nb.f,.slice za nb.lk.length zc]] W fun e w'=>∃ (ua:Option Addr) (uc:Nat),e = .returned (.agg #[.int .i64 na.f,.slice ua M uc])∧B.di w' (.slice ua M uc) (B.iR na.lk key nb.f nb.lk)∧Below W.heap.size W w'):=fun W hW=>by
  refine (B.L8 na.f nb.f key _ _ na.lk nb.lk W (by omega) (ha.a8.below hW) (hb.a8.below hW)).mono fun e w' ⟨u,h1,h2,h3⟩=>?_
  obtain ⟨ua,uc,hu⟩:=h2.form;subst hu;rw [← hM] at h1 h2;exact ⟨ua,uc,h1,h2.at,h3⟩
 have yC:Hid (∀ (W:World) (k:Nat),Below w.heap.size w W→B.au W k #[.slice xa na.us.length xc,.slice ya nb.us.length yc] 153→Calls prog 166 #[.slice (some ⟨k,0,none⟩) 2 2] W fun e w'=>∃ (ca:Option Addr) (cc:Nat),e = .returned (.slice ca N cc)∧C.di w' (.slice ca N cc) (na.us++nb.us)∧Below W.heap.size W w'):=fun W k hW hr=>by
  refine (C.ov k 2 2 [.slice xa na.us.length xc,.slice ya nb.us.length yc] [na.us,nb.us] _ rfl (by decide) rfl (by simp;omega) (fun j h=>?_) (fun j h h'=>?_)).mono fun e w' ⟨u,h1,h2,h3⟩=>?_
  ·match j,h with
   | 0,_=>exact hr.cell 0 (by simp)
   | 1,_=>exact hr.cell 1 (by simp)
  ·match j,h with
   | 0,_=>exact (ha.kids.below hW)
   | 1,_=>exact (hb.kids.below hW)
  ·have e1:[na.us,nb.us].flatten=na.us++nb.us:=by simp
   rw [e1] at h2;obtain ⟨ua,uc,hu⟩:=h2.form;subst hu;rw [← hN] at h1 h2;exact ⟨ua,uc,h1,h2.at,h3⟩
 have yq:Hid ((∀ p ∈ B.iR na.lk key nb.f nb.lk,cQ p.1)∧(B.iR na.lk key nb.f nb.lk).length≤4000∧(na.us++nb.us).length≤4001):=⟨fun p hp=>by
  unfold B.iR at hp;rcases List.mem_append.1 hp with h | h
  ·exact ha.fine.2.2.1 p h
  ·rcases List.mem_cons.1 h with rfl | h
   ·exact hk
   ·exact hb.fine.2.2.1 p h,by unfold B.iR;rw [ae,List.length_cons];omega,by rw [ae];exact hu⟩
 have a1:=ha.c1;have a2:=ha.c2;have a3:=ha.c3;have b1:=hb.c1;have b2:=hb.c2;have b3:=hb.c3;have HA:=ab ha;have HB:=ab hb;clear ha hb h0 hl hu hk hN hM;go_enter func126,ntmps126;go_wp2_with fail;refine HL.out.mono ?_
 rintro e w1 ⟨rfl,rfl⟩;clear HL;go_wp2_with fail;have f0:=World.new_ne w _ a1;have f1:=World.new_ne w _ b1;have q5:=ai w (.cells #[.slice xa na.us.length xc,.slice ya nb.us.length yc] 153);have x5:=B.au.new w #[.slice xa na.us.length xc,.slice ya nb.us.length yc] 153;have QN:Hid (∀ W,Below w.heap.size w W→(W.cell? ⟨ba,1,none⟩=some (.int .i64 na.f)∧W.cell? ⟨ba,2,none⟩=some (.slice va na.lk.length vc)∧W.cell? ⟨ba,3,none⟩=some (.slice xa na.us.length xc)∧W.cell? ⟨bb,1,none⟩=some (.int .i64 nb.f)∧W.cell? ⟨bb,2,none⟩=some (.slice za nb.lk.length zc)∧W.cell? ⟨bb,3,none⟩=some (.slice ya nb.us.length yc))∧¬ ba=W.heap.size∧¬ bb=W.heap.size):=fun W hW=>⟨⟨(HA.out.below hW).c1,(HA.out.below hW).c2,(HA.out.below hW).c3,(HB.out.below hW).c1,(HB.out.below hW).c2,(HB.out.below hW).c3⟩,by have:=HA.out.row.lt;have:=hW.size;omega,by have:=HB.out.row.lt;have:=hW.size;omega⟩
 obtain ⟨⟨y1,y2,y3,y4,y5,y6⟩,y7,y8⟩:=QN.out _ q5;generalize hW5:w.alloc (.cells #[.slice xa na.us.length xc,.slice ya nb.us.length yc] 153)=W5 at *;have E2:=ab q5;have zj:=ab x5;clear q5 x5;go_region_held3 (fun w'=>w'.cell? ⟨ba,1,none⟩=some (.int .i64 na.f)∧w'.cell? ⟨ba,2,none⟩=some (.slice va na.lk.length vc)∧w'.cell? ⟨ba,3,none⟩=some (.slice xa na.us.length xc)∧w'.cell? ⟨bb,1,none⟩=some (.int .i64 nb.f)∧w'.cell? ⟨bb,2,none⟩=some (.slice za nb.lk.length zc)∧w'.cell? ⟨bb,3,none⟩=some (.slice ya nb.us.length yc)) (go_keep)
  (first
   | (go_at_call 165;refine (HJN.out _ ?_).mono ?_;(first | exact XX.out | exact E2.out.drew | exact (Below.refl _ _).drew);rintro e w2 ⟨ua,uc,rfl,jE,aU⟩;have XW:Hid (Below w.heap.size w w2):=(by first | exact Below.next XX.out aU | exact Below.next E2.out (B.dq aU) | exact B.dq aU);have HJ2:=ab jE;(try (have HXJ:=ab (zj.out.drew.below aU)));(try (have HC4:=ab (HC3.out.below aU)));obtain ⟨⟨m1,m2,m3,m4,m5,m6⟩,m7,m8⟩:=QN.out _ XW.out;clear jE aU)
   | (go_at_call 166;(first
       | (refine (yC.out _ _ XW.out HXJ.out).mono ?_;rintro e w3 ⟨Rr,ccc,rfl,lJ,bT⟩;have XX:Hid (Below w.heap.size w w3):=Below.next XW.out bT;have HJ3:=ab (HJ2.out.below bT))
       | (refine (yC.out _ _ (Below.next XW.out (ai w2 (.cells #[.slice xa na.us.length xc,.slice ya nb.us.length yc] 153))) (B.au.new w2 #[.slice xa na.us.length xc,.slice ya nb.us.length yc] 153)).mono ?_;rintro e w3 ⟨Rr,ccc,rfl,lJ,bT⟩;have XX:Hid (Below w.heap.size w w3):=Below.next (Below.next XW.out (ai w2 (.cells #[.slice xa na.us.length xc,.slice ya nb.us.length yc] 153))) bT;have HJ3:=ab ((HJ2.out.below (ai w2 (.cells #[.slice xa na.us.length xc,.slice ya nb.us.length yc] 153))).below bT))
       | (refine (yC.out _ _ E2.out.drew zj.out.drew).mono ?_;rintro e w3 ⟨Rr,ccc,rfl,lJ,bT⟩;have XX:Hid (Below w.heap.size w w3):=Below.next E2.out (B.dq bT)));have HC3:=ab lJ;obtain ⟨⟨m1,m2,m3,m4,m5,m6⟩,m7,m8⟩:=QN.out _ XX.out;clear lJ bT))
 all_goals first
  | (have hj:=HJ3.out
     have q:=ai w3 (.cells #[.slice none 0 0,.int .i64 na.f,.slice ua M uc,.slice Rr N ccc] 155);have xr:=B.au.new w3 #[.slice none 0 0,.int .i64 na.f,.slice ua M uc,.slice Rr N ccc] 155;have HR:Hid (dH (w3.alloc (.cells #[.slice none 0 0,.int .i64 na.f,.slice ua M uc,.slice Rr N ccc] 155)) w3.heap.size ⟨[],na.f,B.iR na.lk key nb.f nb.lk,na.us++nb.us⟩ (.slice none 0 0) (.slice ua M uc) (.slice Rr N ccc)):=⟨xr,gG.nil _,hj.below q,HC3.out.below q,(fun p hp=>by simp at hp),by simp,yq.out.1,yq.out.2.1,yq.out.2.2⟩
     have mJ:=ab (Below.next XX.out q);clear q xr hj;go_wp2;go_ret;exact ⟨_,_,_,_,rfl,HR.out,mJ.out⟩)
  | (have hc:=HC4.out
     have q:=ai w2 (.cells #[.slice none 0 0,.int .i64 na.f,.slice ua M uc,.slice Rr N ccc] 155);have xr:=B.au.new w2 #[.slice none 0 0,.int .i64 na.f,.slice ua M uc,.slice Rr N ccc] 155;have HR:Hid (dH (w2.alloc (.cells #[.slice none 0 0,.int .i64 na.f,.slice ua M uc,.slice Rr N ccc] 155)) w2.heap.size ⟨[],na.f,B.iR na.lk key nb.f nb.lk,na.us++nb.us⟩ (.slice none 0 0) (.slice ua M uc) (.slice Rr N ccc)):=⟨xr,gG.nil _,HJ2.out.below q,hc.below q,(fun p hp=>by simp at hp),by simp,yq.out.1,yq.out.2.1,yq.out.2.2⟩
     have mJ:=ab (Below.next XW.out q);clear q xr hc;go_wp2;go_ret;exact ⟨_,_,_,_,rfl,HR.out,mJ.out⟩)
end T
theorem oH(x y:ByteArray):(x.toList == y.toList)=decide (x=y):=by
 rw [ke,beq_iff_eq,decide_eq_true_eq,ByteArray.toList_eq,ByteArray.toList_eq];exact ⟨fun h=>hO h,fun h=>by rw [h]⟩
theorem Lv(p:Pr)(key:ByteArray)(b:Nat)(w:World)(hc:w.cell? ⟨b,0,none⟩=some (.string key)):Calls prog 88 #[.agg #[.string p.1,.string p.2],.pointer (some ⟨b,0,none⟩)] w fun e w'=>e = .returned (.bool (!cR p.1 key))∧Below w.heap.size w w':=by
 have eU:=ai w (.cells #[.string p.1,.string p.2] 52);have Av:(w.alloc (.cells #[.string p.1,.string p.2] 52)).cell? ⟨b,0,none⟩=some (.string key):=(eU.cell (p:=⟨b,0,none⟩) (World.block_lt_of_cell? w _ hc)).trans hc;go_enter func88,ntmps88;go_wp2;go_ret;exact ⟨rfl,eU⟩
theorem OT(v:Value)(l:List Pr)(key:ByteArray)(b:Nat)(w:World)(hm:l.length≤140737488355328)(hr:gG w v l)(hk:w.cell? ⟨b,0,none⟩=some (.string key)):Calls prog 87 #[v,.func (.func 88) #[] #[.pointer (some ⟨b,0,none⟩)]] w fun e w'=>((aN l key<l.length∧e = .returned (.int .i64 (aN l key:Int)))∨(¬ aN l key<l.length∧e = .returned (.int .i64 (-1))))∧Below w.heap.size w w':=by
 obtain ⟨a,cap,rfl,dd,_,hc⟩:=hr;have HC:=ab hc;obtain ⟨n,hn⟩ : ∃ n,n=l.length:=⟨_,rfl⟩;rw [← hn] at hm ⊢;have HN:=ab hn;have HK:=ab hk;have Va:=ab (World.block_lt_of_cell? w _ hk);obtain ⟨Q,hQ⟩ : ∃ Q:Ending→World→Prop,Q=fun e w'=>((aN l key<n∧e = .returned (.int .i64 (aN l key:Int)))∨(¬ aN l key<n∧e = .returned (.int .i64 (-1))))∧Below w.heap.size w w':=⟨_,rfl⟩
 rw [← hQ];have HQ:=ab hQ;clear hc hn dd hk hQ;go_enter func87,ntmps87;go_wp2;go_loopw [8] (fun i wr=>∃ k:Nat,k≤n∧i = .int .i64 k∧(∀ j (h:j<l.length),j<k→cR l[j].1 key=true)∧Below w.heap.size w wr) (fun i _=>n - (intOf i).toNat)
 case atStart=>exact ⟨0,aD _,rfl,fun j _ h=>absurd h (im _),Below.refl _ _⟩
 case round =>
  obtain ⟨k,hk,rfl,jg,bO⟩:=hrel;have HP:=ab jg;clear jg;by_cases bN:k<n
  ·have cL:k<l.length:=by have:=HN.out;omega
   obtain ⟨g,o,rfl,f1,f2⟩:=HC.out k cL;have c1:wr.cell? ⟨g,o+k*2,none⟩=some (.string l[k].1):=(bO.cell (p:=⟨g,o+k*2,none⟩) (World.block_lt_of_cell? w _ f1)).trans f1;have c2:wr.cell? ⟨g,o+k*2+1,none⟩=some (.string l[k].2):=(bO.cell (p:=⟨g,o+k*2+1,none⟩) (World.block_lt_of_cell? w _ f2)).trans f2;have HF:=ab (Lv l[k] key b wr ((bO.cell (p:=⟨b,0,none⟩) Va.out).trans HK.out));have pI:Hid (cR l[k].1 key=true→∀ j (h:j<l.length),j<k+1→cR l[j].1 key=true):=fun hl j h hj=>by
    by_cases he:j=k
    ·subst he;exact hl
    ·exact HP.out j h (by omega)
   have yD:Hid (cR l[k].1 key=false→aN l key=k):=fun hl=>rN cL (fun j hj=>HP.out j (by omega) hj) hl
   obtain ⟨p,hp⟩ : ∃ p,p=l[k]:=⟨_,rfl⟩;rw [← hp] at c1 c2 HF pI yD;have dP:(k:Int)<(n:Int):=by omega
   have HB:=ab bO;clear hp HC f1 f2 bO;cases hb:cR p.1 key with
   | true =>
    rw [hb] at HF;have tF:=ab (pI.out hb);clear hb pI yD;go_wp2_with fail;refine HF.out.mono ?_
    rintro e w1 ⟨rfl,aL⟩;have bP:=ab (Below.next HB.out aL);clear aL HB HF c1 c2;go_wp2;go_roundw
    case rel=>exact ⟨k+1,by omega,by go_num,tF.out,bP.out⟩
    case measure=>simp [intOf];omega
   | false =>
    rw [hb] at HF;have H6:=ab (yD.out hb);clear hb pI yD;go_wp2_with fail;refine HF.out.mono ?_
    rintro e w1 ⟨rfl,aL⟩;have bP:=ab (Below.next HB.out aL);clear aL HB HF c1 c2;go_wp2;rw [HQ.out];exact ⟨.inl ⟨by rw [H6.out];exact bN,by rw [H6.out];rfl⟩,bP.out⟩
  ·have HB:=ab bO;have dP:¬ (k:Int)<(n:Int):=by omega
   have kB:Hid (¬ aN l key<n):=by
    have h:=qy (l:=l) (key:=key) (fun j hj=>HP.out j hj (by have:=HN.out;omega))
    have:=HN.out;intro h';omega
   clear HC bO HP;go_wp2;rw [HQ.out];exact ⟨.inr ⟨kB.out,rfl⟩,HB.out⟩
theorem iQ(v:Value)(l:List Pr)(key:ByteArray)(w:World)(hm:l.length≤140737488355328)(hr:gG w v l):Calls prog 52 #[v,.string key] w fun e w'=>e = .returned (.tuple #[.int .i64 (aN l key:Int),.bool (bf l key)])∧Below w.heap.size w w':=by
 have K3:∀ (fn:Fn) (first cap:Array Value) (w:World),(Instr.makeFunc fn first cap).run prog w = .ok (.func fn first cap) w:=fun _ _ _ _=>rfl
 have eU:=ai w (.cells #[.string key] 9);have hx:=bL w #[.string key] 9;have fV:=hr.below eU;have HI:=ab (OT v l key w.heap.size _ hm fV (hx.2 0 (by simp)))
 have HR:=ab fV;have HX:=ab hx;have B0:=ab eU;obtain ⟨a,c,rfl⟩:=hr.form;have MT:=ab (cD l key);obtain ⟨q,hq⟩ : ∃ q,q=aN l key:=⟨_,rfl⟩;have yD:Hid (∀ (h:q<l.length),bf l key=decide (l[q].1=key)):=by subst hq;exact fun h=>pd h
 have kB:Hid (¬ q<l.length→bf l key=false):=by subst hq;exact fun h=>oD h
 rw [← hq] at HI MT ⊢;clear hq hr fV eU hx;go_enter func52,ntmps52;go_wp2_with fail;refine HI.out.mono ?_
 rintro e w1 ⟨⟨bN,rfl⟩ | ⟨bN,rfl⟩,aL⟩
 ·have fV:=HR.out.below aL;have k0:w1.cell? ⟨w.heap.size,0,none⟩=some (.string key):=(HX.out.below aL).2 0 (by simp)
  obtain ⟨a',c',he,_,_,hc⟩:=fV;cases he;obtain ⟨g,o,rfl,f1,f2⟩:=hc q bN;have Jz:=ab (yD.out bN);have HB:=ab (Below.next B0.out aL);have GX:decide ((q:Int)<0)=false:=decide_eq_false (by omega)
  have j0:(0:Int)≤(q:Int):=by omega
  have j1:(q:Int)<(l.length:Int):=by omega
  generalize l[q].1=x at *;clear hc aL HI HR HX B0 yD kB f2;go_wp2;go_quiet (fail)
  go_wp2;go_ret2;refine ⟨?_,aA HB.out _⟩;rw [Jz.out,← oH];rfl
 ·have HB:=ab (Below.next B0.out aL);have Jz:=ab (kB.out bN);have U2:Hid (q=l.length):=by have:=MT.out;show q=l.length;omega
  clear aL HI HR HX B0 yD kB bN;go_wp2;go_ret2;exact ⟨by rw [Jz.out,U2.out];rfl,HB.out⟩
end Go.Proofs.YtihmgigfkmofnaaGreatDoor
