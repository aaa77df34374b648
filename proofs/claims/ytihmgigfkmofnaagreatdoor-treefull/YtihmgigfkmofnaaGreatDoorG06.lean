import Derived.Test.YtihmgigfkmofnaaGreatDoorG05
set_option maxHeartbeats 8000000
set_option maxRecDepth 20000
open Go.Proofs.Tryz
namespace Go.Proofs.YtihmgigfkmofnaaGreatDoor
open Go.RowKit
def ir(w:World)(base:Nat)(v:Value)(l:List Pr):Prop:=w.ownsRow base 52 2 v l.length (iI l)
theorem ir.at{w:World}{base:Nat}{v:Value}{l:List Pr}(h:ir w base v l):gM w v l:=gM.rB h
theorem ir.form{w:World}{base:Nat}{v:Value}{l:List Pr}(h:ir w base v l):∃ a c,v = .slice a l.length c:=h.at.form
theorem ir.below{w w':World}{base:Nat}{v:Value}{l:List Pr}(h:ir w base v l)(hb:Below w.heap.size w w'):ir w' base v l:=by
 refine ⟨h.1,?_⟩;rcases h.2 with h' | ⟨g,cap,cur,h',h1,h2,hr⟩
 ·exact .inl h'
 ·refine .inr ⟨g,cap,cur,h',h1,?_,hr⟩;have hg:g<w.heap.size:=by
   rcases a8 g w.heap.size with h' | h'
   ·exact h'
   ·rw [aY h'] at h2;cases h2
  rw [hb.block g hg];exact h2
theorem ir.mono{w:World}{b b2:Nat}{v:Value}{l:List Pr}(h:ir w b v l)(hb:b2≤b):ir w b2 v l:=by
 refine ⟨h.1,?_⟩;rcases h.2 with h' | ⟨g,cap,cur,h',h1,hr⟩
 ·exact .inl h'
 ·exact .inr ⟨g,cap,cur,h',ar hb h1,hr⟩
theorem ir.nil(w:World)(base:Nat):ir w base (.slice none 0 0) []:=World.ownsRow_nil _ _ _ _
theorem gW(base:Nat)(v s:Value)(xs us:List Pr)(w:World)(aF:ir w base v xs)(hs:gM w s us)(hb:(xs.length+us.length)*32≤140737488355328)(dx:base≤w.heap.size):∃ a' eY w',(Builtin.append_ #[63,63] 63 #[v,s]).run prog w = .ok (.slice a' (xs.length+us.length) eY) w'∧ir w' base (.slice a' (xs.length+us.length) eY) (xs++us)∧w.grownBy w' v.ownBlock:=by
 obtain ⟨i0,hi,hz,b8,kP⟩:=info_parts Jh;obtain ⟨a,cap,rfl,hle,qD,hc⟩:=hs;have M0:∃ a' c',v = .slice a' xs.length c':=aF.form;unfold ir at aF ⊢;rw [ae,xj];cases a with
 | none =>
  have h0:us=[]:=by
   cases us with
   | nil=>rfl
   | cons u r=>obtain ⟨g,o,he,_⟩:=hc 0 (by simp);cases he
  subst h0;rw [qD rfl];have hr:=run_append_owned_none (P:=prog) w base 63 63 52 i0 2 underlying63 hi v xs.length (iI xs) aF;obtain ⟨a',c',rfl⟩:=M0;exact ⟨a',c',w,hr,by simpa [iI] using aF,⟨rfl,rfl,rfl,aj _,fun _ _ _=>rfl⟩⟩
 | some ad =>
  obtain ⟨v',w',hr,gu,AT,_⟩:=run_append_own (P:=prog) w base 63 63 52 i0 _ 2 32 underlying63 hi hz b8 kP rfl (by decide) v xs.length (iI xs) aF ad us.length cap (iI us) (eQ us) (fun j u hj=>by
   have lY:=(List.getElem?_eq_some_iff.1 hj).1;rw [eQ] at lY;obtain ⟨g,o,he,c1,c2⟩:=hc (j / 2) (by omega)
   cases he;have hg:=vF us (j / 2) (by omega)
   rw [bt];rcases bV j with hm | hm
   ·have e:j / 2*2=j:=by omega
    rw [e] at hg c1;rw [hg.1] at hj;cases hj;exact c1
   ·have e:j / 2*2+1=j:=by omega
    rw [dt,e] at c2;rw [e] at hg;rw [hg.2] at hj;cases hj;exact c2) (SC us) (by unfold maxLen;omega) hb dx
  have hf:∃ a' c',v' = .slice a' (xs.length+us.length) c':=by
   rcases gu.2 with ⟨rfl,h0⟩ | ⟨g,cap,cur,rfl,_⟩
   ·exact ⟨none,0,by rw [h0]⟩
   ·exact ⟨_,_,rfl⟩
  obtain ⟨a',c',rfl⟩:=hf;exact ⟨a',c',w',hr,gu,AT⟩
theorem ir.dF{w:World}{base:Nat}{v:Value}{l:List Pr}(h:ir w base v l):∀ k,v.ownBlock=some k→base≤k∧k<w.heap.size:=World.ownsRow.lt h
theorem BA(w:World)(p:Pr)(t:TypeId):gM (w.alloc (.cells #[.string p.1,.string p.2] t)) (.slice (some ⟨w.heap.size,0,none⟩) 1 1) [p]:=by
 have hb:=bM w #[.string p.1,.string p.2] t;refine ⟨_,_,rfl,aj _,fun h=>(by cases h),fun j hj=>⟨_,_,rfl,?_,?_⟩⟩
 ·have:j=0:=by simpa using hj
  subst this;exact hb.2 0 (by simp)
 ·have:j=0:=by simpa using hj
  subst this;exact hb.2 1 (by simp)
theorem Dq(base:Nat)(v:Value)(l:List Pr)(p:Pr)(t:TypeId)(w w0:World)(B n:Nat)(hn:l.length=n)(aF:ir w base v l)(hb:(n+1)*32≤140737488355328)(dx:base≤w.heap.size)(hB:B≤base)(h0:Below B w0 w):∃ a' eY w',(Builtin.append_ #[63,63] 63 #[v,.slice (some ⟨w.heap.size,0,none⟩) 1 1]).run prog (w.alloc (.cells #[.string p.1,.string p.2] t)) = .ok (.slice a' (n+1) eY) w'∧ir w' base (.slice a' (n+1) eY) (l++[p])∧Below B w0 w'∧w.heap.size≤w'.heap.size:=by
 subst hn;have ho:ir (w.alloc (.cells #[.string p.1,.string p.2] t)) base v l:=World.ownsRow.alloc aF _;obtain ⟨a',eY,w',hr,gu,hg⟩:=gW base v _ l [p] _ ho (BA w p t) (by simpa using hb) (by simp;omega)
 refine ⟨a',eY,w',hr,gu,?_,?_⟩
 ·refine (h0.alloc (ar hB dx) _).grown hg (by simp;omega) (fun k hk=>ar hB (aF.dF k hk).1)
 ·have:=hg.size;simp at this
  omega
theorem tX(n:Nat):(Builtin.zeroCells (Value.agg #[.string ByteArray.empty,.string ByteArray.empty]).cells n).size=n*2:=by
 simp [Builtin.zeroCells,Value.cells]
theorem Qk(n:Nat)(w:World)(hn:n*32≤140737488355328):Calls prog 130 #[.slice none 0 0,.int .i64 (n:Int)] w fun e w'=>∃ u,e = .returned u∧ir w' w.heap.size u []∧Below w.heap.size w w':=by
 obtain ⟨i0,hi,hz,b8,kP⟩:=info_parts Jh;have Hd:decide ((n:Int)<0)=false:=decide_eq_false (by omega)
 by_cases h0:0<n
 ·have bq:=Lib.run_append_nil_zeros (P:=prog) w 63 3 63 52 i0 _ .i64 .i64 underlying63 underlying3 hi hz n h0 (by omega) (by omega) (by rw [kP];omega)
  have G4:(0:Int)<(n:Int):=by omega
  have hw:IntKind.i64.wrap ((n:Int))=(n:Int):=by rw [IntKind.wrap_i64];omega
  generalize cT:grownCap w n 0 52=cap at *;have hle:n≤cap:=by rw [← cT];exact grownCap_ge _ _ _ _
  have U5:cap≤maxLen:=by rw [← cT];exact grownCap_le_maxLen _ _ _ _ (by unfold maxLen;omega)
  generalize fI:Builtin.zeroCells _ n++Builtin.zeroCells _ (cap - n)=cs at bq;have ED:cs.size=cap*2:=by rw [← fI,ey,tX,tX];omega
  have HO:Hid (ir (w.drew.alloc (.cells cs 52)) w.heap.size (.slice (some ⟨w.heap.size,0,none⟩) 0 cap) []) :=
   ⟨by simp [iI],.inr ⟨w.heap.size,cap,cs,rfl,aj _,heap_alloc_new w.drew _,aB _,U5,ED,by simp [iI]⟩⟩
  have HB:Hid (Below w.heap.size w (w.drew.alloc (.cells cs 52))):=((Below.refl _ _).drew).alloc (aj _) _;clear fI cT hi hz b8 kP ED;go_enter func130,ntmps130;go_wp2_with (first | (at_builtin;refine Lib.wpList_append_run _ rfl (.tmp 20) (.tmp 21) 63 3 rfl _ _ rfl rfl _ _ bq ?_))
  go_ret;exact ⟨_,rfl,HO.out,HB.out⟩
 ·obtain rfl:n=0:=by omega
  go_enter func130,ntmps130;go_wp2;go_ret;exact ⟨_,rfl,ir.nil _ _,Below.refl _ _⟩
def jM(LL:List (List Pr))(k:Nat):Nat:=((LL.take k).flatten).length
theorem uo(LL:List (List Pr))(k:Nat)(h:k<LL.length):jM LL (k+1)=jM LL k+LL[k].length:=by
 unfold jM;rw [ax h,dI,ae];simp
theorem AA(LL:List (List Pr))(k:Nat):jM LL k≤LL.flatten.length:=by
 unfold jM;conv=>rhs;rw [← aH k LL,dI,ae]
 omega
theorem qK(B m cap:Nat)(ub:List Value)(LL:List (List Pr))(w:World)(hm:LL.length=m)(Jn:m≤3)(hs:ub.length=m)(gi:LL.flatten.length*32≤140737488355328)(hc:∀ j (h:j<ub.length),w.cell? ⟨B,j,none⟩=some ub[j])(hr:∀ j (h:j<LL.length) (h':j<ub.length),gM w ub[j] LL[j]):Calls prog 84 #[.slice (some ⟨B,0,none⟩) m cap] w fun e w'=>∃ u,e = .returned u∧ir w' w.heap.size u LL.flatten∧Below w.heap.size w w':=by
 have HM:=ab hm;have HS:=ab hs;have HC:=ab hc;have HR:=ab hr;have qR:=ab gi;obtain ⟨T,hT⟩ : ∃ T,T=LL.flatten.length:=⟨_,rfl⟩;have HT:=ab hT;have hTb:T*32≤140737488355328:=by rw [hT];exact gi
 have Rs:Hid (jM LL 0=0):=by show _=_;simp [jM]
 clear hm hs hc hr gi hT;go_enter func84,ntmps84;go_wp2;go_loop [3,11] (fun r i=>∃ k:Nat,k≤m∧i = .int .i64 k∧r = .int .i64 (jM LL k:Int)) (fun _ i=>m - (intOf i).toNat)
 case atStart=>exact ⟨0,aB _,rfl,by rw [Rs.out];rfl⟩
 case round =>
  obtain ⟨k,hk,rfl,rfl⟩:=hrel;by_cases bK:k<m
  ·have jx:k<ub.length:=by have:=HS.out;omega
   have p9:k<LL.length:=by have:=HM.out;omega
   have c1:=HC.out k jx;obtain ⟨a,c,hf⟩:=(HR.out k p9 jx).form;rw [hf] at c1;have Vx:=ab (uo LL k p9);have wj:=ab (AA LL (k+1));obtain ⟨x,hx⟩ : ∃ x,x=jM LL k:=⟨_,rfl⟩;obtain ⟨y,hy⟩ : ∃ y,y=jM LL (k+1):=⟨_,rfl⟩;obtain ⟨z,hz⟩ : ∃ z,z=LL[k].length:=⟨_,rfl⟩;rw [← hx,← hy,← hz] at Vx;rw [← hy,← HT.out] at wj;rw [← hx];rw [← hz] at c1;have HY:=ab hy;have hw:IntKind.i64.wrap ((x:Int)+(z:Int))=(y:Int):=by rw [IntKind.wrap_i64];have:=Vx.out;have:=wj.out;omega
   have Hd:decide ((y:Int)<0)=false:=decide_eq_false (by omega)
   have dK:(k:Int)<(m:Int):=by omega
   clear hx hy hz hf HC HR;go_wp2;go_round
   case rel=>exact ⟨k+1,by omega,by go_num,by rw [← HY.out]⟩
   case measure=>simp [intOf];omega
  ·have Ln:k=m:=by omega
   subst Ln;have df:jM LL k=T:=by
    rw [HT.out];unfold jM;rw [al (by rw [HM.out];exact aj _)]
   rw [df];have dK:¬ (k:Int)<(k:Int):=by omega
   have HG:=ab (Qk T w hTb);clear df bK hk;go_wp2_with fail;refine HG.out.mono ?_
   rintro e w1 ⟨u,rfl,aF,aM⟩;have HO:=ab aF;have bN:=ab aM;clear aF aM HG;go_wp2;go_loopw [6,27] (fun u i wr=>∃ j:Nat,j≤k∧i = .int .i64 j∧ir wr w.heap.size u ((LL.take j).flatten)∧Below w.heap.size w wr) (fun _ i _=>k - (intOf i).toNat)
   case atStart=>exact ⟨0,aB _,rfl,by simpa using HO.out,bN.out⟩
   case round =>
    obtain ⟨j,hj,rfl,aF,bO⟩:=hrel;clear HO bN;by_cases bK:j<k
    ·have jx:j<ub.length:=by have:=HS.out;omega
     have p9:j<LL.length:=by have:=HM.out;omega
     have c0:=HC.out j jx;have c1:wr.cell? ⟨B,j,none⟩=some ub[j]:=(bO.cell (p:=⟨B,j,none⟩) (World.block_lt_of_cell? w _ c0)).trans c0;have fU:=(HR.out j p9 jx).below bO;have hle:=AA LL (j+1);rw [uo LL j p9,← HT.out] at hle;unfold jM at hle;obtain ⟨a1,cp1,w2,bq,ij,fO⟩:=gW w.heap.size _ _ _ _ wr aF fU (by omega) bO.size
     have aS:Below w.heap.size w w2:=bO.grown fO bO.size (fun q hq=>(aF.dF q hq).1)
     obtain ⟨a,c,hf⟩:=fU.form;obtain ⟨ua,uc,hu⟩:=aF.form;subst hu;rw [hf] at c1 bq;have gU:(LL.take j).flatten++LL[j]=(LL.take (j+1)).flatten:=by
      rw [ax p9,dI];simp
     rw [gU] at ij;generalize ((LL.take j).flatten).length=L1 at *;generalize LL[j].length=L2 at *;have jE:=ab ij;have bG:=ab aS;have dK:(j:Int)<(k:Int):=by omega
     clear hf HC HR aF ij bO aS fO fU c0 hle;go_wp2_with (first | (at_builtin;refine wpList_append_run 63 rfl (.tmp 31) (.tmp 32) rfl rfl _ _ rfl rfl _ _ bq ?_))
     clear bq;go_wp2;go_roundw
     case rel=>exact ⟨j+1,by omega,by go_num,jE.out,bG.out⟩
     case measure=>simp [intOf];omega
    ·have df:LL.take j=LL:=by rw [al];have:=HM.out;omega
     rw [df] at aF;have HO:=ab aF;have HB:=ab bO;have dK:¬ (j:Int)<(k:Int):=by omega
     clear aF bO df HC HR;go_wp2;go_ret;exact ⟨_,rfl,HO.out,HB.out⟩
theorem yE(n:Nat)(b:Bool)(w:World)(hn:n≤140737488355328):Calls prog 85 #[.int .i64 (n:Int),.bool b] w fun e w'=>e = .returned (.int .i64 ((if b then n+1 else n:Nat):Int))∧w=w':=by
 cases b with
 | true =>
  go_enter func85,ntmps85;go_wp2;go_ret;exact ⟨by go_num,rfl⟩
 | false =>
  go_enter func85,ntmps85;go_wp2;go_ret;exact ⟨rfl,rfl⟩
namespace B
theorem jX(n:Nat):(Builtin.zeroCells (Value.agg #[.string ByteArray.empty,.int .i64 0]).cells n).size=n*2:=by
 simp [Builtin.zeroCells,Value.cells]
theorem te(n:Nat)(w:World)(hn:n*24≤140737488355328):Calls prog 234 #[.slice none 0 0,.int .i64 (n:Int)] w fun e w'=>∃ u,e = .returned u∧b7 w' w.heap.size u []∧Below w.heap.size w w':=by
 obtain ⟨i0,hi,hz,b8,kP⟩:=info_parts lO;have Hd:decide ((n:Int)<0)=false:=decide_eq_false (by omega)
 by_cases h0:0<n
 ·have bq:=Lib.run_append_nil_zeros (P:=prog) w 148 3 148 179 i0 _ .i64 .i64 underlying148 underlying3 hi hz n h0 (by omega) (by omega) (by rw [kP];omega)
  have G4:(0:Int)<(n:Int):=by omega
  have hw:IntKind.i64.wrap ((n:Int))=(n:Int):=by rw [IntKind.wrap_i64];omega
  generalize cT:grownCap w n 0 179=cap at *;have hle:n≤cap:=by rw [← cT];exact grownCap_ge _ _ _ _
  have U5:cap≤maxLen:=by rw [← cT];exact grownCap_le_maxLen _ _ _ _ (by unfold maxLen;omega)
  generalize fI:Builtin.zeroCells _ n++Builtin.zeroCells _ (cap - n)=cs at bq;have ED:cs.size=cap*2:=by rw [← fI,ey,jX,jX];omega
  have HO:Hid (b7 (w.drew.alloc (.cells cs 179)) w.heap.size (.slice (some ⟨w.heap.size,0,none⟩) 0 cap) []) :=
   ⟨by simp [bh],.inr ⟨w.heap.size,cap,cs,rfl,aj _,heap_alloc_new w.drew _,aB _,U5,ED,by simp [bh]⟩⟩
  have HB:Hid (Below w.heap.size w (w.drew.alloc (.cells cs 179))):=((Below.refl _ _).drew).alloc (aj _) _;clear fI cT hi hz b8 kP ED;go_enter func234,ntmps234;go_wp2_with (first | (at_builtin;refine Lib.wpList_append_run _ rfl (.tmp 20) (.tmp 21) 148 3 rfl _ _ rfl rfl _ _ bq ?_))
  go_ret;exact ⟨_,rfl,HO.out,HB.out⟩
 ·obtain rfl:n=0:=by omega
  go_enter func234,ntmps234;go_wp2;go_ret;exact ⟨_,rfl,b7.nil _ _,Below.refl _ _⟩
def cR(LL:List (List Lk))(k:Nat):Nat:=((LL.take k).flatten).length
theorem ji(LL:List (List Lk))(k:Nat)(h:k<LL.length):cR LL (k+1)=cR LL k+LL[k].length:=by
 unfold cR;rw [ax h,dI,ae];simp
theorem lp(LL:List (List Lk))(k:Nat):cR LL k≤LL.flatten.length:=by
 unfold cR;conv=>rhs;rw [← aH k LL,dI,ae]
 omega
theorem oA(B m cap:Nat)(ub:List Value)(LL:List (List Lk))(w:World)(hm:LL.length=m)(Jn:m≤3)(hs:ub.length=m)(gi:LL.flatten.length*24≤140737488355328)(hc:∀ j (h:j<ub.length),w.cell? ⟨B,j,none⟩=some ub[j])(hr:∀ j (h:j<LL.length) (h':j<ub.length),di w ub[j] LL[j]):Calls prog 205 #[.slice (some ⟨B,0,none⟩) m cap] w fun e w'=>∃ u,e = .returned u∧b7 w' w.heap.size u LL.flatten∧Below w.heap.size w w':=by
 have HM:=ab hm;have HS:=ab hs;have HC:=ab hc;have HR:=ab hr;have qR:=ab gi;obtain ⟨T,hT⟩ : ∃ T,T=LL.flatten.length:=⟨_,rfl⟩;have HT:=ab hT;have hTb:T*24≤140737488355328:=by rw [hT];exact gi
 have Rs:Hid (cR LL 0=0):=by show _=_;simp [cR]
 clear hm hs hc hr gi hT;go_enter func205,ntmps205;go_wp2;go_loop [3,11] (fun r i=>∃ k:Nat,k≤m∧i = .int .i64 k∧r = .int .i64 (cR LL k:Int)) (fun _ i=>m - (intOf i).toNat)
 case atStart=>exact ⟨0,aB _,rfl,by rw [Rs.out];rfl⟩
 case round =>
  obtain ⟨k,hk,rfl,rfl⟩:=hrel;by_cases bK:k<m
  ·have jx:k<ub.length:=by have:=HS.out;omega
   have p9:k<LL.length:=by have:=HM.out;omega
   have c1:=HC.out k jx;obtain ⟨a,c,hf⟩:=(HR.out k p9 jx).form;rw [hf] at c1;have Vx:=ab (ji LL k p9);have wj:=ab (lp LL (k+1));obtain ⟨x,hx⟩ : ∃ x,x=cR LL k:=⟨_,rfl⟩;obtain ⟨y,hy⟩ : ∃ y,y=cR LL (k+1):=⟨_,rfl⟩;obtain ⟨z,hz⟩ : ∃ z,z=LL[k].length:=⟨_,rfl⟩;rw [← hx,← hy,← hz] at Vx;rw [← hy,← HT.out] at wj;rw [← hx];rw [← hz] at c1;have HY:=ab hy;have hw:IntKind.i64.wrap ((x:Int)+(z:Int))=(y:Int):=by rw [IntKind.wrap_i64];have:=Vx.out;have:=wj.out;omega
   have Hd:decide ((y:Int)<0)=false:=decide_eq_false (by omega)
   have dK:(k:Int)<(m:Int):=by omega
   clear hx hy hz hf HC HR;go_wp2;go_round
   case rel=>exact ⟨k+1,by omega,by go_num,by rw [← HY.out]⟩
   case measure=>simp [intOf];omega
  ·have Ln:k=m:=by omega
   subst Ln;have df:cR LL k=T:=by
    rw [HT.out];unfold cR;rw [al (by rw [HM.out];exact aj _)]
   rw [df];have dK:¬ (k:Int)<(k:Int):=by omega
   have HG:=ab (te T w hTb);clear df bK hk;go_wp2_with fail;refine HG.out.mono ?_
   rintro e w1 ⟨u,rfl,aF,aM⟩;have HO:=ab aF;have bN:=ab aM;clear aF aM HG;go_wp2;go_loopw [6,27] (fun u i wr=>∃ j:Nat,j≤k∧i = .int .i64 j∧b7 wr w.heap.size u ((LL.take j).flatten)∧Below w.heap.size w wr) (fun _ i _=>k - (intOf i).toNat)
   case atStart=>exact ⟨0,aB _,rfl,by simpa using HO.out,bN.out⟩
   case round =>
    obtain ⟨j,hj,rfl,aF,bO⟩:=hrel;clear HO bN;by_cases bK:j<k
    ·have jx:j<ub.length:=by have:=HS.out;omega
     have p9:j<LL.length:=by have:=HM.out;omega
     have c0:=HC.out j jx;have c1:wr.cell? ⟨B,j,none⟩=some ub[j]:=(bO.cell (p:=⟨B,j,none⟩) (World.block_lt_of_cell? w _ c0)).trans c0;have fU:=(HR.out j p9 jx).below bO;have hle:=lp LL (j+1);rw [ji LL j p9,← HT.out] at hle;unfold cR at hle;obtain ⟨a1,cp1,w2,bq,ij,fO⟩:=fo w.heap.size _ _ _ _ wr aF fU (by omega) bO.size
     have aS:Below w.heap.size w w2:=bO.grown fO bO.size (fun q hq=>(aF.dF q hq).1)
     obtain ⟨a,c,hf⟩:=fU.form;obtain ⟨ua,uc,hu⟩:=aF.form;subst hu;rw [hf] at c1 bq;have gU:(LL.take j).flatten++LL[j]=(LL.take (j+1)).flatten:=by
      rw [ax p9,dI];simp
     rw [gU] at ij;generalize ((LL.take j).flatten).length=L1 at *;generalize LL[j].length=L2 at *;have jE:=ab ij;have bG:=ab aS;have dK:(j:Int)<(k:Int):=by omega
     clear hf HC HR aF ij bO aS fO fU c0 hle;go_wp2_with (first | (at_builtin;refine wpList_append_run 148 rfl (.tmp 31) (.tmp 32) rfl rfl _ _ rfl rfl _ _ bq ?_))
     clear bq;go_wp2;go_roundw
     case rel=>exact ⟨j+1,by omega,by go_num,jE.out,bG.out⟩
     case measure=>simp [intOf];omega
    ·have df:LL.take j=LL:=by rw [al];have:=HM.out;omega
     rw [df] at aF;have HO:=ab aF;have HB:=ab bO;have dK:¬ (j:Int)<(k:Int):=by omega
     clear aF bO df HC HR;go_wp2;go_ret;exact ⟨_,rfl,HO.out,HB.out⟩
theorem Mo(fa fb:Int)(key:ByteArray)(va vb:Value)(la lb:List Lk)(w:World)(hm:la.length+lb.length+1≤5864062014805)(ha:di w va la)(hb:di w vb lb):Calls prog 165 #[.agg #[.int .i64 fa,va],.string key,.agg #[.int .i64 fb,vb]] w fun e w'=>∃ u,e = .returned (.agg #[.int .i64 fa,u])∧b7 w' w.heap.size u (iU la key fb lb)∧Below w.heap.size w w':=by
 obtain ⟨a1,c1,hv⟩:=ha.form;subst hv;obtain ⟨a2,c2,hv⟩:=hb.form;subst hv;obtain ⟨na,hna⟩ : ∃ n,n=la.length:=⟨_,rfl⟩;obtain ⟨nb,rP⟩ : ∃ n,n=lb.length:=⟨_,rfl⟩;rw [← hna] at ha ⊢;rw [← rP] at hb ⊢;have q1:=ai w (.cells #[.int .i64 fa,.slice a1 na c1] 150);have x1:=au.new w #[.int .i64 fa,.slice a1 na c1] 150;have s1:(w.alloc (.cells #[.int .i64 fa,.slice a1 na c1] 150)).heap.size=w.heap.size+1:=by simp
 generalize gL:w.alloc (.cells #[.int .i64 fa,.slice a1 na c1] 150)=W1 at *;have q2:=ai W1 (.cells #[.int .i64 fb,.slice a2 nb c2] 150);have x2:=au.new W1 #[.int .i64 fb,.slice a2 nb c2] 150;have s2:(W1.alloc (.cells #[.int .i64 fb,.slice a2 nb c2] 150)).heap.size=W1.heap.size+1:=by simp
 generalize Lx:W1.alloc (.cells #[.int .i64 fb,.slice a2 nb c2] 150)=W2 at *;have q3:=ai W2 (.cells #[.int .i64 0,.slice none 0 0] 150);have x3:=au.new W2 #[.int .i64 0,.slice none 0 0] 150;have s3:(W2.alloc (.cells #[.int .i64 0,.slice none 0 0] 150)).heap.size=W2.heap.size+1:=by simp
 generalize M6:W2.alloc (.cells #[.int .i64 0,.slice none 0 0] 150)=W3 at *;have q4:=ai W3 (.cells #[.string key,.int .i64 fb] 179);have x4:=vM W3 (key,fb) 179;have s4:(W3.alloc (.cells #[.string key,.int .i64 fb] 179)).heap.size=W3.heap.size+1:=by simp
 generalize RS:W3.alloc (.cells #[.string key,.int .i64 fb] 179)=W4 at *;have q5:=ai W4 (.cells #[.slice a1 na c1,.slice (some ⟨W3.heap.size,0,none⟩) 1 1,.slice a2 nb c2] 148);have x5:=bM W4 #[.slice a1 na c1,.slice (some ⟨W3.heap.size,0,none⟩) 1 1,.slice a2 nb c2] 148;have s5:(W4.alloc (.cells #[.slice a1 na c1,.slice (some ⟨W3.heap.size,0,none⟩) 1 1,.slice a2 nb c2] 148)).heap.size=W4.heap.size+1:=by simp
 generalize hW5:W4.alloc (.cells #[.slice a1 na c1,.slice (some ⟨W3.heap.size,0,none⟩) 1 1,.slice a2 nb c2] 148)=W5 at *;have y1:=((((x1.below q2).below q3).below q4));have y2:=((x2.below q3).below q4);have y3:=(x3.below q4);have yZ:Hid (∀ W,Below W5.heap.size W5 W→Calls prog 205 #[.slice (some ⟨W4.heap.size,0,none⟩) 3 3] W fun e w'=>∃ ga gn gc,e = .returned (.slice ga gn gc)∧b7 w' W5.heap.size (.slice ga gn gc) (iU la key fb lb)∧Below W5.heap.size W5 w'):=fun W hW=>by
  refine (oA W4.heap.size 3 3 [.slice a1 na c1,.slice (some ⟨W3.heap.size,0,none⟩) 1 1,.slice a2 nb c2] [la,[(key,fb)],lb] W rfl (by decide) rfl ?_ (fun j h=>(x5.below hW).2 j h) ?_).mono ?_
  ·simp;omega
  ·intro j h h';have hj:j<3:=h;match j,hj with
   | 0,_=>exact ((((((ha.below q1).below q2).below q3).below q4).below q5).below hW)
   | 1,_=>exact (x4.below q5).below hW
   | 2,_=>exact ((((((hb.below q1).below q2).below q3).below q4).below q5).below hW)
  ·rintro e w' ⟨u,rfl,ho,hb⟩;obtain ⟨ga,gc,hu⟩:=ho.form;subst hu;refine ⟨ga,_,gc,rfl,?_,Below.next hW hb⟩;have he:[la,[(key,fb)],lb].flatten=iU la key fb lb:=by simp [iU]
   rw [he] at ho ⊢;exact ho.mono hW.size
 have HQ:=ab (Below.next q1 (Below.next q2 (Below.next q3 (Below.next q4 q5))));have MJ:=ab (Below.next q1 (Below.next q2 (Below.next q3 q4)));have HY3:=ab (y3.below q5);have HS:Hid (W5.heap.size=w.heap.size+5∧W2.heap.size=w.heap.size+2):=by show _∧_;omega
 have Fw:=ab q5;have HY1:=ab y1;have HY2:=ab y2;have p1:W4.cell? ⟨w.heap.size,0,none⟩=some (.int .i64 fa):=y1.c0;have p2:W4.cell? ⟨w.heap.size,1,none⟩=some (.slice a1 na c1):=y1.c1;have p3:W4.cell? ⟨W1.heap.size,0,none⟩=some (.int .i64 fb):=y2.c0;have p4:W4.cell? ⟨W1.heap.size,1,none⟩=some (.slice a2 nb c2):=y2.c1;have p5:W3.cell? ⟨W1.heap.size,0,none⟩=some (.int .i64 fb):=(x2.below q3).c0;have r1:W5.cell? ⟨w.heap.size,0,none⟩=some (.int .i64 fa):=(y1.below q5).c0;have r2:W5.cell? ⟨w.heap.size,1,none⟩=some (.slice a1 na c1):=(y1.below q5).c1;have r3:W5.cell? ⟨W1.heap.size,1,none⟩=some (.slice a2 nb c2):=(y2.below q5).c1;have b1:¬ w.heap.size=W2.heap.size:=by omega
 have b2:¬ W1.heap.size=W2.heap.size:=by omega
 have b3:¬ W2.heap.size=w.heap.size:=by omega
 have b4:¬ W2.heap.size=W1.heap.size:=by omega
 clear q1 q2 q3 q4 q5 x1 x2 x3 x4 x5 y1 y2 y3 s1 s2 s3 s4 s5 ha hb hm hna rP;go_enter func165,ntmps165;go_wp2_with fail;go_region_held3 (fun w'=>w'.cell? ⟨w.heap.size,0,none⟩=some (.int .i64 fa)∧w'.cell? ⟨w.heap.size,1,none⟩=some (.slice a1 na c1)∧w'.cell? ⟨W1.heap.size,1,none⟩=some (.slice a2 nb c2)) (go_keep)
  (first
   | (go_at_call 205;refine (yZ.out _ ?_).mono ?_;(exact (Below.refl _ _).drew);rintro e w3 ⟨ga,gn,gc,rfl,ho,hb⟩;have HO:=ab ho;have HB:=ab hb;have k1:w3.cell? ⟨w.heap.size,0,none⟩=some (.int .i64 fa):=((HY1.out.below Fw.out).below hb).c0;have k2:w3.cell? ⟨w.heap.size,1,none⟩=some (.slice a1 na c1):=((HY1.out.below Fw.out).below hb).c1;have k3:w3.cell? ⟨W1.heap.size,1,none⟩=some (.slice a2 nb c2):=((HY2.out.below Fw.out).below hb).c1;have k4:w3.cell? ⟨W2.heap.size,0,none⟩=some (.int .i64 0):=(HY3.out.below hb).c0;have k5:w3.cell? ⟨W2.heap.size,1,none⟩=some (.slice none 0 0):=(HY3.out.below hb).c1;have z4:=(HY3.out.below hb).free 0;have z5:=(HY3.out.below hb).free 1;clear ho hb))
 all_goals
  clear yZ r1 r2 r3 p1 p2 p3 p4 p5 k1 k2 k3 k4 k5 z4 z5 b1 b2 b3 b4;go_wp2_with fail;refine bodyPost_ret (results_cell_row rfl _ _ W2.heap.size 150 _ (0,0) _ rfl ((HY3.out.below HB.out).two _ _) underlying150 rfl (by kernel_rfl)) rfl ⟨.slice ga gn gc,rfl,?_,?_⟩
  ·exact (HO.out.xh (by have:=HS.out;omega) _ _).mono HQ.out.size
  ·exact b9 (Below.next HQ.out HB.out) (by have:=HS.out;omega)
end B
namespace T
theorem J9(W:World)(a b:Value)(t:TypeId):∀ j (h:j < [a,b].length),(W.alloc (.cells #[a,b] t)).cell? ⟨W.heap.size,j,none⟩=some [a,b][j]:=fun j h=>by
 have h1:=(bM W #[a,b] t).2 j h;exact h1
theorem Le(ba bb:Nat)(na nb:SN)(pa la ca pb lb cb:Value)(key:ByteArray)(w:World)(ha:dQ w ba na pa la ca)(hb:dQ w bb nb pb lb cb)(h0:na.us.length=0)(hl:na.ps.length+nb.ps.length≤4000):Calls prog 126 #[.pointer (some ⟨ba,0,none⟩),.string key,.pointer (some ⟨bb,0,none⟩)] w fun e w'=>RX w ⟨na.ps++nb.ps,0,[],[]⟩ e w':=by
 have HL:=ab (cB ba na pa la ca w ha);rw [show decide (na.us.length=0)=true by simp [h0]] at HL
 obtain ⟨xa,xc,PH⟩:=ha.iI.form;obtain ⟨ya,yc,FH⟩:=hb.iI.form;subst PH FH;have p0:=ha.c0;have p1:=hb.c0;have HFA:=ab ha.fine;have HFB:=ab hb.fine;have yZ:Hid (∀ W,Below w.heap.size w W→Calls prog 84 #[.slice (some ⟨W.heap.size,0,none⟩) 2 2] (W.alloc (.cells #[.slice xa na.ps.length xc,.slice ya nb.ps.length yc] 63)) fun e w'=>∃ (ua:Option Addr) (uc:Nat),e = .returned (.slice ua (na.ps++nb.ps).length uc)∧ir w' W.heap.size (.slice ua (na.ps++nb.ps).length uc) (na.ps++nb.ps)∧Below w.heap.size w w'):=fun W hW=>by
  have q:=ai W (.cells #[.slice xa na.ps.length xc,.slice ya nb.ps.length yc] 63);refine (qK W.heap.size 2 2 [.slice xa na.ps.length xc,.slice ya nb.ps.length yc] [na.ps,nb.ps] _ rfl (by decide) rfl (by simp;omega) (J9 W _ _ _) (fun j h h'=>?_)).mono fun e w' ⟨u,h1,h2,h3⟩=>?_
  ·match j,h with
   | 0,_=>exact ((ha.iI.below hW).below q)
   | 1,_=>exact ((hb.iI.below hW).below q)
  ·have e1:[na.ps,nb.ps].flatten=na.ps++nb.ps:=by simp
   rw [e1] at h2;obtain ⟨ua,uc,hu⟩:=h2.form;subst hu;exact ⟨ua,uc,h1,h2.mono (by simp),Below.next (Below.next hW q) h3⟩
 have sI:Hid ((∀ p ∈ na.ps++nb.ps,cN p=true)∧(na.ps++nb.ps).length≤4000):=⟨fun p hp=>by
  rcases List.mem_append.1 hp with h | h
  ·exact ha.fine.1 p h
  ·exact hb.fine.1 p h,by rw [ae];exact hl⟩
 obtain ⟨N,hN⟩ : ∃ N,N=(na.ps++nb.ps).length:=⟨_,rfl⟩;rw [← hN] at yZ;clear hN;clear ha hb h0 hl;go_enter func126,ntmps126;go_wp2_with fail;refine HL.out.mono ?_
 rintro e w1 ⟨rfl,rfl⟩;clear HL;go_wp2_with fail;have f0:=World.new_ne w _ p0;have f1:=World.new_ne w _ p1;go_region_held3 (fun w'=>w'.cell? ⟨ba,0,none⟩=some (.slice xa na.ps.length xc)∧w'.cell? ⟨bb,0,none⟩=some (.slice ya nb.ps.length yc)) (go_keep)
  (first
   | (go_at_call 84;refine (yZ.out _ (Below.refl _ _).drew).mono ?_;rintro e w3 ⟨ua,uc,rfl,lF,bQ⟩;have m0:=(bQ.cell (p:=⟨ba,0,none⟩) (World.block_lt_of_cell? w _ p0)).trans p0;have m1:=(bQ.cell (p:=⟨bb,0,none⟩) (World.block_lt_of_cell? w _ p1)).trans p1;have zN:=ab lF;have eG:=ab bQ;clear lF bQ))
 all_goals (
  have q:=ai w3 (.cells #[.slice ua N uc,.int .i64 0,.slice none 0 0,.slice none 0 0] 155);have xr:=B.au.new w3 #[.slice ua N uc,.int .i64 0,.slice none 0 0,.slice none 0 0] 155;have HR:Hid (dQ (w3.alloc (.cells #[.slice ua N uc,.int .i64 0,.slice none 0 0,.slice none 0 0] 155)) w3.heap.size ⟨na.ps++nb.ps,0,[],[]⟩ (.slice ua N uc) (.slice none 0 0) (.slice none 0 0)):=⟨xr,(zN.out.below q).at,B.di.nil _,(C.b7.nil _ 0).at,sI.out.1,sI.out.2,(fun p hp=>by simp at hp),by simp,by simp⟩
  have lI:=ab (Below.next eG.out q);clear q xr;go_wp2;go_ret;exact ⟨_,_,_,_,rfl,HR.out,lI.out⟩)
theorem Tb(ba bb:Nat)(na nb:SN)(pa la ca pb lb cb:Value)(key:ByteArray)(w:World)(ha:dQ w ba na pa la ca)(hb:dQ w bb nb pb lb cb)(h0:¬ na.us.length=0)(hl:na.lk.length+nb.lk.length+1≤4000)(hu:na.us.length+nb.us.length≤4001)(hk:cP key):Calls prog 126 #[.pointer (some ⟨ba,0,none⟩),.string key,.pointer (some ⟨bb,0,none⟩)] w fun e w'=>RX w ⟨[],na.f,B.iU na.lk key nb.f nb.lk,na.us++nb.us⟩ e w':=by
 have HL:=ab (cB ba na pa la ca w ha);rw [show decide (na.us.length=0)=false by simp [h0]] at HL
 obtain ⟨xa,xc,hca⟩:=ha.kids.form;obtain ⟨ya,yc,P9⟩:=hb.kids.form;obtain ⟨va,vc,Cr⟩:=ha.bh.form;obtain ⟨za,zc,U9⟩:=hb.bh.form;subst hca P9 Cr U9;obtain ⟨N,hN⟩ : ∃ N,N=(na.us++nb.us).length:=⟨_,rfl⟩;obtain ⟨M,hM⟩ : ∃ M,M=(B.iU na.lk key nb.f nb.lk).length:=⟨_,rfl⟩;have HJN:Hid (∀ W,Below w.heap.size w W→Calls prog 165 #[.agg #[.int .i64 na.f,.slice va na.lk.length vc],.string key,.agg #[.int .i64 nb.f,.slice za nb.lk.length zc]] W fun e w'=>∃ (ua:Option Addr) (uc:Nat),e = .returned (.agg #[.int .i64 na.f,.slice ua M uc])∧B.di w' (.slice ua M uc) (B.iU na.lk key nb.f nb.lk)∧Below W.heap.size W w'):=fun W hW=>by
  refine (B.Mo na.f nb.f key _ _ na.lk nb.lk W (by omega) (ha.bh.below hW) (hb.bh.below hW)).mono fun e w' ⟨u,h1,h2,h3⟩=>?_
  obtain ⟨ua,uc,hu⟩:=h2.form;subst hu;rw [← hM] at h1 h2;exact ⟨ua,uc,h1,h2.at,h3⟩
 have yZ:Hid (∀ (W:World) (k:Nat),Below w.heap.size w W→B.au W k #[.slice xa na.us.length xc,.slice ya nb.us.length yc] 153→Calls prog 166 #[.slice (some ⟨k,0,none⟩) 2 2] W fun e w'=>∃ (ca:Option Addr) (cc:Nat),e = .returned (.slice ca N cc)∧C.di w' (.slice ca N cc) (na.us++nb.us)∧Below W.heap.size W w'):=fun W k hW hr=>by
  refine (C.oA k 2 2 [.slice xa na.us.length xc,.slice ya nb.us.length yc] [na.us,nb.us] _ rfl (by decide) rfl (by simp;omega) (fun j h=>?_) (fun j h h'=>?_)).mono fun e w' ⟨u,h1,h2,h3⟩=>?_
  ·match j,h with
   | 0,_=>exact hr.cell 0 (by simp)
   | 1,_=>exact hr.cell 1 (by simp)
  ·match j,h with
   | 0,_=>exact (ha.kids.below hW)
   | 1,_=>exact (hb.kids.below hW)
  ·have e1:[na.us,nb.us].flatten=na.us++nb.us:=by simp
   rw [e1] at h2;obtain ⟨ua,uc,hu⟩:=h2.form;subst hu;rw [← hN] at h1 h2;exact ⟨ua,uc,h1,h2.at,h3⟩
 have sI:Hid ((∀ p ∈ B.iU na.lk key nb.f nb.lk,cP p.1)∧(B.iU na.lk key nb.f nb.lk).length≤4000∧(na.us++nb.us).length≤4001):=⟨fun p hp=>by
  unfold B.iU at hp;rcases List.mem_append.1 hp with h | h
  ·exact ha.fine.2.2.1 p h
  ·rcases List.mem_cons.1 h with rfl | h
   ·exact hk
   ·exact hb.fine.2.2.1 p h,by unfold B.iU;rw [ae,List.length_cons];omega,by rw [ae];exact hu⟩
 have a1:=ha.c1;have a2:=ha.c2;have a3:=ha.c3;have b1:=hb.c1;have b2:=hb.c2;have b3:=hb.c3;have HA:=ab ha;have HB:=ab hb;clear ha hb h0 hl hu hk hN hM;go_enter func126,ntmps126;go_wp2_with fail;refine HL.out.mono ?_
 rintro e w1 ⟨rfl,rfl⟩;clear HL;go_wp2_with fail;have f0:=World.new_ne w _ a1;have f1:=World.new_ne w _ b1;have q5:=ai w (.cells #[.slice xa na.us.length xc,.slice ya nb.us.length yc] 153);have x5:=B.au.new w #[.slice xa na.us.length xc,.slice ya nb.us.length yc] 153;have Rm:Hid (∀ W,Below w.heap.size w W→(W.cell? ⟨ba,1,none⟩=some (.int .i64 na.f)∧W.cell? ⟨ba,2,none⟩=some (.slice va na.lk.length vc)∧W.cell? ⟨ba,3,none⟩=some (.slice xa na.us.length xc)∧W.cell? ⟨bb,1,none⟩=some (.int .i64 nb.f)∧W.cell? ⟨bb,2,none⟩=some (.slice za nb.lk.length zc)∧W.cell? ⟨bb,3,none⟩=some (.slice ya nb.us.length yc))∧¬ ba=W.heap.size∧¬ bb=W.heap.size):=fun W hW=>⟨⟨(HA.out.below hW).c1,(HA.out.below hW).c2,(HA.out.below hW).c3,(HB.out.below hW).c1,(HB.out.below hW).c2,(HB.out.below hW).c3⟩,by have:=HA.out.row.lt;have:=hW.size;omega,by have:=HB.out.row.lt;have:=hW.size;omega⟩
 obtain ⟨⟨y1,y2,y3,y4,y5,y6⟩,y7,y8⟩:=Rm.out _ q5;generalize hW5:w.alloc (.cells #[.slice xa na.us.length xc,.slice ya nb.us.length yc] 153)=W5 at *;have Fw:=ab q5;have zK:=ab x5;clear q5 x5;go_region_held3 (fun w'=>w'.cell? ⟨ba,1,none⟩=some (.int .i64 na.f)∧w'.cell? ⟨ba,2,none⟩=some (.slice va na.lk.length vc)∧w'.cell? ⟨ba,3,none⟩=some (.slice xa na.us.length xc)∧w'.cell? ⟨bb,1,none⟩=some (.int .i64 nb.f)∧w'.cell? ⟨bb,2,none⟩=some (.slice za nb.lk.length zc)∧w'.cell? ⟨bb,3,none⟩=some (.slice ya nb.us.length yc)) (go_keep)
  (first
   | (go_at_call 165;refine (HJN.out _ ?_).mono ?_;(first | exact Yy.out | exact Fw.out.drew | exact (Below.refl _ _).drew);rintro e w2 ⟨ua,uc,rfl,ja,aS⟩;have Yx:Hid (Below w.heap.size w w2):=(by first | exact Below.next Yy.out aS | exact Below.next Fw.out (B.du aS) | exact B.du aS);have HJ2:=ab ja;(try (have HXJ:=ab (zK.out.drew.below aS)));(try (have HC4:=ab (HC3.out.below aS)));obtain ⟨⟨m1,m2,m3,m4,m5,m6⟩,m7,m8⟩:=Rm.out _ Yx.out;clear ja aS)
   | (go_at_call 166;(first
       | (refine (yZ.out _ _ Yx.out HXJ.out).mono ?_;rintro e w3 ⟨RU,ccc,rfl,lF,bQ⟩;have Yy:Hid (Below w.heap.size w w3):=Below.next Yx.out bQ;have HJ3:=ab (HJ2.out.below bQ))
       | (refine (yZ.out _ _ (Below.next Yx.out (ai w2 (.cells #[.slice xa na.us.length xc,.slice ya nb.us.length yc] 153))) (B.au.new w2 #[.slice xa na.us.length xc,.slice ya nb.us.length yc] 153)).mono ?_;rintro e w3 ⟨RU,ccc,rfl,lF,bQ⟩;have Yy:Hid (Below w.heap.size w w3):=Below.next (Below.next Yx.out (ai w2 (.cells #[.slice xa na.us.length xc,.slice ya nb.us.length yc] 153))) bQ;have HJ3:=ab ((HJ2.out.below (ai w2 (.cells #[.slice xa na.us.length xc,.slice ya nb.us.length yc] 153))).below bQ))
       | (refine (yZ.out _ _ Fw.out.drew zK.out.drew).mono ?_;rintro e w3 ⟨RU,ccc,rfl,lF,bQ⟩;have Yy:Hid (Below w.heap.size w w3):=Below.next Fw.out (B.du bQ)));have HC3:=ab lF;obtain ⟨⟨m1,m2,m3,m4,m5,m6⟩,m7,m8⟩:=Rm.out _ Yy.out;clear lF bQ))
 all_goals first
  | (have hj:=HJ3.out
     have q:=ai w3 (.cells #[.slice none 0 0,.int .i64 na.f,.slice ua M uc,.slice RU N ccc] 155);have xr:=B.au.new w3 #[.slice none 0 0,.int .i64 na.f,.slice ua M uc,.slice RU N ccc] 155;have HR:Hid (dQ (w3.alloc (.cells #[.slice none 0 0,.int .i64 na.f,.slice ua M uc,.slice RU N ccc] 155)) w3.heap.size ⟨[],na.f,B.iU na.lk key nb.f nb.lk,na.us++nb.us⟩ (.slice none 0 0) (.slice ua M uc) (.slice RU N ccc)):=⟨xr,gM.nil _,hj.below q,HC3.out.below q,(fun p hp=>by simp at hp),by simp,sI.out.1,sI.out.2.1,sI.out.2.2⟩
     have lI:=ab (Below.next Yy.out q);clear q xr hj;go_wp2;go_ret;exact ⟨_,_,_,_,rfl,HR.out,lI.out⟩)
  | (have hc:=HC4.out
     have q:=ai w2 (.cells #[.slice none 0 0,.int .i64 na.f,.slice ua M uc,.slice RU N ccc] 155);have xr:=B.au.new w2 #[.slice none 0 0,.int .i64 na.f,.slice ua M uc,.slice RU N ccc] 155;have HR:Hid (dQ (w2.alloc (.cells #[.slice none 0 0,.int .i64 na.f,.slice ua M uc,.slice RU N ccc] 155)) w2.heap.size ⟨[],na.f,B.iU na.lk key nb.f nb.lk,na.us++nb.us⟩ (.slice none 0 0) (.slice ua M uc) (.slice RU N ccc)):=⟨xr,gM.nil _,HJ2.out.below q,hc.below q,(fun p hp=>by simp at hp),by simp,sI.out.1,sI.out.2.1,sI.out.2.2⟩
     have lI:=ab (Below.next Yx.out q);clear q xr hc;go_wp2;go_ret;exact ⟨_,_,_,_,rfl,HR.out,lI.out⟩)
end T
theorem oP(x y:ByteArray):(x.toList == y.toList)=decide (x=y):=by
 rw [kB,beq_iff_eq,decide_eq_true_eq,ByteArray.toList_eq,ByteArray.toList_eq];exact ⟨fun h=>ig h,fun h=>by rw [h]⟩
theorem LM(p:Pr)(key:ByteArray)(b:Nat)(w:World)(hc:w.cell? ⟨b,0,none⟩=some (.string key)):Calls prog 88 #[.agg #[.string p.1,.string p.2],.pointer (some ⟨b,0,none⟩)] w fun e w'=>e = .returned (.bool (!cQ p.1 key))∧Below w.heap.size w w':=by
 have fi:=ai w (.cells #[.string p.1,.string p.2] 52);have AW:(w.alloc (.cells #[.string p.1,.string p.2] 52)).cell? ⟨b,0,none⟩=some (.string key):=(fi.cell (p:=⟨b,0,none⟩) (World.block_lt_of_cell? w _ hc)).trans hc;go_enter func88,ntmps88;go_wp2;go_ret;exact ⟨rfl,fi⟩
theorem Pt(v:Value)(l:List Pr)(key:ByteArray)(b:Nat)(w:World)(hm:l.length≤140737488355328)(hr:gM w v l)(hk:w.cell? ⟨b,0,none⟩=some (.string key)):Calls prog 87 #[v,.func (.func 88) #[] #[.pointer (some ⟨b,0,none⟩)]] w fun e w'=>((aP l key<l.length∧e = .returned (.int .i64 (aP l key:Int)))∨(¬ aP l key<l.length∧e = .returned (.int .i64 (-1))))∧Below w.heap.size w w':=by
 obtain ⟨a,cap,rfl,cT,_,hc⟩:=hr;have HC:=ab hc;obtain ⟨n,hn⟩ : ∃ n,n=l.length:=⟨_,rfl⟩;rw [← hn] at hm ⊢;have HN:=ab hn;have HK:=ab hk;have Ys:=ab (World.block_lt_of_cell? w _ hk);obtain ⟨Q,hQ⟩ : ∃ Q:Ending→World→Prop,Q=fun e w'=>((aP l key<n∧e = .returned (.int .i64 (aP l key:Int)))∨(¬ aP l key<n∧e = .returned (.int .i64 (-1))))∧Below w.heap.size w w':=⟨_,rfl⟩
 rw [← hQ];have HQ:=ab hQ;clear hc hn cT hk hQ;go_enter func87,ntmps87;go_wp2;go_loopw [8] (fun i wr=>∃ k:Nat,k≤n∧i = .int .i64 k∧(∀ j (h:j<l.length),j<k→cQ l[j].1 key=true)∧Below w.heap.size w wr) (fun i _=>n - (intOf i).toNat)
 case atStart=>exact ⟨0,aB _,rfl,fun j _ h=>absurd h (iA _),Below.refl _ _⟩
 case round =>
  obtain ⟨k,hk,rfl,jm,bO⟩:=hrel;have HP:=ab jm;clear jm;by_cases bK:k<n
  ·have de:k<l.length:=by have:=HN.out;omega
   obtain ⟨g,o,rfl,f1,f2⟩:=HC.out k de;have c1:wr.cell? ⟨g,o+k*2,none⟩=some (.string l[k].1):=(bO.cell (p:=⟨g,o+k*2,none⟩) (World.block_lt_of_cell? w _ f1)).trans f1;have c2:wr.cell? ⟨g,o+k*2+1,none⟩=some (.string l[k].2):=(bO.cell (p:=⟨g,o+k*2+1,none⟩) (World.block_lt_of_cell? w _ f2)).trans f2;have HF:=ab (LM l[k] key b wr ((bO.cell (p:=⟨b,0,none⟩) Ys.out).trans HK.out));have pT:Hid (cQ l[k].1 key=true→∀ j (h:j<l.length),j<k+1→cQ l[j].1 key=true):=fun hl j h hj=>by
    by_cases he:j=k
    ·subst he;exact hl
    ·exact HP.out j h (by omega)
   have vA:Hid (cQ l[k].1 key=false→aP l key=k):=fun hl=>rX de (fun j hj=>HP.out j (by omega) hj) hl
   obtain ⟨p,hp⟩ : ∃ p,p=l[k]:=⟨_,rfl⟩;rw [← hp] at c1 c2 HF pT vA;have dK:(k:Int)<(n:Int):=by omega
   have HB:=ab bO;clear hp HC f1 f2 bO;cases hb:cQ p.1 key with
   | true =>
    rw [hb] at HF;have tV:=ab (pT.out hb);clear hb pT vA;go_wp2_with fail;refine HF.out.mono ?_
    rintro e w1 ⟨rfl,aM⟩;have bN:=ab (Below.next HB.out aM);clear aM HB HF c1 c2;go_wp2;go_roundw
    case rel=>exact ⟨k+1,by omega,by go_num,tV.out,bN.out⟩
    case measure=>simp [intOf];omega
   | false =>
    rw [hb] at HF;have Io:=ab (vA.out hb);clear hb pT vA;go_wp2_with fail;refine HF.out.mono ?_
    rintro e w1 ⟨rfl,aM⟩;have bN:=ab (Below.next HB.out aM);clear aM HB HF c1 c2;go_wp2;rw [HQ.out];exact ⟨.inl ⟨by rw [Io.out];exact bK,by rw [Io.out];rfl⟩,bN.out⟩
  ·have HB:=ab bO;have dK:¬ (k:Int)<(n:Int):=by omega
   have kL:Hid (¬ aP l key<n):=by
    have h:=qH (l:=l) (key:=key) (fun j hj=>HP.out j hj (by have:=HN.out;omega))
    have:=HN.out;intro h';omega
   clear HC bO HP;go_wp2;rw [HQ.out];exact ⟨.inr ⟨kL.out,rfl⟩,HB.out⟩
theorem iT(v:Value)(l:List Pr)(key:ByteArray)(w:World)(hm:l.length≤140737488355328)(hr:gM w v l):Calls prog 52 #[v,.string key] w fun e w'=>e = .returned (.tuple #[.int .i64 (aP l key:Int),.bool (bg l key)])∧Below w.heap.size w w':=by
 have Lm:∀ (fn:Fn) (first cap:Array Value) (w:World),(Instr.makeFunc fn first cap).run prog w = .ok (.func fn first cap) w:=fun _ _ _ _=>rfl
 have fi:=ai w (.cells #[.string key] 9);have hx:=bM w #[.string key] 9;have fU:=hr.below fi;have HI:=ab (Pt v l key w.heap.size _ hm fU (hx.2 0 (by simp)))
 have HR:=ab fU;have HX:=ab hx;have Cl:=ab fi;obtain ⟨a,c,rfl⟩:=hr.form;have CD:=ab (cD l key);obtain ⟨q,hq⟩ : ∃ q,q=aP l key:=⟨_,rfl⟩;have vA:Hid (∀ (h:q<l.length),bg l key=decide (l[q].1=key)):=by subst hq;exact fun h=>pB h
 have kL:Hid (¬ q<l.length→bg l key=false):=by subst hq;exact fun h=>oL h
 rw [← hq] at HI CD ⊢;clear hq hr fU fi hx;go_enter func52,ntmps52;go_wp2_with fail;refine HI.out.mono ?_
 rintro e w1 ⟨⟨bK,rfl⟩ | ⟨bK,rfl⟩,aM⟩
 ·have fU:=HR.out.below aM;have k0:w1.cell? ⟨w.heap.size,0,none⟩=some (.string key):=(HX.out.below aM).2 0 (by simp)
  obtain ⟨a',c',he,_,_,hc⟩:=fU;cases he;obtain ⟨g,o,rfl,f1,f2⟩:=hc q bK;have JR:=ab (vA.out bK);have HB:=ab (Below.next Cl.out aM);have Hd:decide ((q:Int)<0)=false:=decide_eq_false (by omega)
  have j0:(0:Int)≤(q:Int):=by omega
  have j1:(q:Int)<(l.length:Int):=by omega
  generalize l[q].1=x at *;clear hc aM HI HR HX Cl vA kL f2;go_wp2;go_quiet (fail)
  go_wp2;go_ret2;refine ⟨?_,aA HB.out _⟩;rw [JR.out,← oP];rfl
 ·have HB:=ab (Below.next Cl.out aM);have JR:=ab (kL.out bK);have Vz:Hid (q=l.length):=by have:=CD.out;show q=l.length;omega
  clear aM HI HR HX Cl vA kL bK;go_wp2;go_ret2;exact ⟨by rw [JR.out,Vz.out];rfl,HB.out⟩
end Go.Proofs.YtihmgigfkmofnaaGreatDoor
