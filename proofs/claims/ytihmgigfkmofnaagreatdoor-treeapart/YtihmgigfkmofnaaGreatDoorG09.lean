import Derived.Test.YtihmgigfkmofnaaGreatDoorG08
set_option maxHeartbeats 2000000
open Go.Proofs.Tryz
namespace Go.Proofs.YtihmgigfkmofnaaGreatDoor
namespace T
open Go.RowKit
def oI(w:World)(b:Nat)(n:SN)(e:Ending)(w':World):Prop :=
 Below w.heap.size w w' ∧
 ((4072<n.sz∧∃ (a:SN) (k:ByteArray) (c:SN) (ba bc br:Nat) (pa la ca pc lc cc pr lr cr:Value),My n a k c∧dH w' ba a pa la ca∧dH w' bc c pc lc cc∧e = .returned (C.Ch.nd br).val∧dH w' br ⟨[],0,[(k,0)],[.nd ba,.nd bc]⟩ pr lr cr)∨(¬ 4072<n.sz∧¬ n.us.length=0∧n.lk.length=0∧∃ p,n.us[0]?=some p∧e = .returned p.val)∨(¬ 4072<n.sz∧n.us.length=0∧n.ps.length=0∧e = .returned .nilIface)∨(¬ 4072<n.sz∧(n.us.length=0∧¬ n.ps.length=0∨¬ n.us.length=0∧¬ n.lk.length=0)∧e = .returned (C.Ch.nd b).val))
theorem FR(A:Nat→Addr)(b:Nat)(n:SN)(pv lv cv:Value)(w:World)(h:dH w b n pv lv cv)(gM:n.yP)(fW:4072<n.sz)(hE:jL A w):Calls prog 83 #[.pointer (some ⟨b,0,none⟩)] w fun e w'=>oI w b n e w':=by
 have Cf:=ab (p7 b n pv lv cv w h);rw [show decide (4072<n.sz)=true by simp [fW]] at Cf
 have HH:=ab h;have HE:=ab hE;have qJ:=ab fW;have BZ:=ab gM;clear h hE fW gM;go_enter func83,ntmps83;go_wp2_with fail;refine Cf.out.mono ?_
 rintro e w1 ⟨rfl,aL⟩;have bP:=ab aL;have yr:=ab (Dl A b n pv lv cv w1 (HH.out.below aL) BZ.out qJ.out (HE.out.below aL));clear aL Cf;go_wp2_with fail;refine yr.out.mono ?_
 rintro e w2 ⟨a,k,c,hcut,ba,bc,pa,la,ca,pc,lc,cc,rfl,ha,hc,aU⟩;have pC:=hcut.key HH.out.fine.1 HH.out.fine.2.2.1;have q1:=ai w2 (.cells #[.string k,.int .i64 0] 179);have q2:=ai (w2.alloc (.cells #[.string k,.int .i64 0] 179)) (.cells #[.iface 152 (.pointer (some ⟨ba,0,none⟩)),.iface 152 (.pointer (some ⟨bc,0,none⟩))] 97);have r1:=B.vp w2 (k,0) 179;have s1:(w2.alloc (.cells #[.string k,.int .i64 0] 179)).heap.size=w2.heap.size+1:=by simp
 have b2:=bL (w2.alloc (.cells #[.string k,.int .i64 0] 179)) #[.iface 152 (.pointer (some ⟨ba,0,none⟩)),.iface 152 (.pointer (some ⟨bc,0,none⟩))] 97;rw [s1] at b2;have r2:C.di ((w2.alloc (.cells #[.string k,.int .i64 0] 179)).alloc (.cells #[.iface 152 (.pointer (some ⟨ba,0,none⟩)),.iface 152 (.pointer (some ⟨bc,0,none⟩))] 97)) (.slice (some ⟨w2.heap.size+1,0,none⟩) 2 2) [.nd ba,.nd bc]:=by
  refine ⟨_,2,rfl,by simp [C.a8],fun h=>(by cases h),fun j u hj=>⟨_,_,rfl,?_⟩⟩
  have lL:j<2:=by have:=(List.getElem?_eq_some_iff.1 hj).1;simpa [C.a8] using this
  have e1:=b2.2 j (by simpa using lL)
  rw [Nat.zero_add,e1];match j,lL,hj with
  | 0,_,hj=>exact hj
  | 1,_,hj=>exact hj
 obtain ⟨W3,MJ⟩ : ∃ W,W=(w2.alloc (.cells #[.string k,.int .i64 0] 179)).alloc (.cells #[.iface 152 (.pointer (some ⟨ba,0,none⟩)),.iface 152 (.pointer (some ⟨bc,0,none⟩))] 97):=⟨_,rfl⟩;rw [← MJ] at r2 q2;have s3:W3.heap.size=w2.heap.size+2:=by rw [MJ];simp
 have q3:=ai W3 (.cells #[.slice none 0 0,.int .i64 0,.slice (some ⟨w2.heap.size,0,none⟩) 1 1,.slice (some ⟨w2.heap.size+1,0,none⟩) 2 2] 155);have x3:=B.au.new W3 #[.slice none 0 0,.int .i64 0,.slice (some ⟨w2.heap.size,0,none⟩) 1 1,.slice (some ⟨w2.heap.size+1,0,none⟩) 2 2] 155;rw [s3] at x3;have ud:=Below.next (Below.next q1 q2) q3;have b8:Hid (oI w b n (.returned (C.Ch.nd (w2.heap.size+2)).val) (W3.alloc (.cells #[.slice none 0 0,.int .i64 0,.slice (some ⟨w2.heap.size,0,none⟩) 1 1,.slice (some ⟨w2.heap.size+1,0,none⟩) 2 2] 155))) :=
  ⟨Below.next (Below.next bP.out aU) ud,.inl ⟨qJ.out,a,k,c,ba,bc,w2.heap.size+2,pa,la,ca,pc,lc,cc,_,_,_,hcut,ha.below ud,hc.below ud,rfl,⟨x3,gG.nil _,(r1.below q2).below q3,r2.below q3,(fun p hp=>by simp at hp),by simp,(fun p hp=>by simp at hp;subst hp;exact pC),by simp,by simp⟩⟩⟩
 rw [MJ] at b8;clear pC q1 q2 r1 s1 b2 r2 MJ s3 q3 x3 ud ha hc hcut aU yr bP;go_wp2;go_ret;exact b8.out
theorem CP(b:Nat)(n:SN)(pv lv cv:Value)(w:World)(h:dH w b n pv lv cv)(fW:¬ 4072<n.sz):Calls prog 83 #[.pointer (some ⟨b,0,none⟩)] w fun e w'=>oI w b n e w':=by
 have Cf:=ab (p7 b n pv lv cv w h);rw [show decide (4072<n.sz)=false by simp [fW]] at Cf
 have su:Hid (∀ W,Below w.heap.size w W→Calls prog 93 #[.pointer (some ⟨b,0,none⟩)] W fun e w'=>e = .returned (.bool (decide (n.us.length=0)))∧W=w'):=fun W hW=>cB b n pv lv cv W (h.below hW)
 have HH:=ab h;have qJ:=ab fW;obtain ⟨xa,xc,iS⟩:=h.iy.form;obtain ⟨ya,yc,hlv⟩:=h.a8.form;obtain ⟨za,zc,xJ⟩:=h.kids.form;subst iS hlv xJ;by_cases h0:n.us.length=0
 ·rw [show decide (n.us.length=0)=true by simp [h0]] at su
  by_cases h1:n.ps.length=0
  ·go_enter func83,ntmps83;have b8:Hid (∀ w1,Below w.heap.size w w1→oI w b n (.returned .nilIface) w1):=fun w1 hb=>⟨hb,.inr (.inr (.inl ⟨qJ.out,h0,h1,rfl⟩))⟩
   clear h fW h0;rw [h1] at HH;clear h1;go_wp2_with fail;refine Cf.out.mono ?_
   rintro e w1 ⟨rfl,aL⟩;have bP:=ab aL;have p0:=(HH.out.below aL).c0;clear aL;go_wp2_with (first | (go_at_call 93;refine (su.out _ bP.out).mono ?_;rintro e w2 ⟨rfl,rfl⟩))
   go_ret;exact b8.out _ bP.out
  ·go_enter func83,ntmps83;have b8:Hid (∀ w1,Below w.heap.size w w1→oI w b n (.returned (C.Ch.nd b).val) w1):=fun w1 hb=>⟨hb,.inr (.inr (.inr ⟨qJ.out,.inl ⟨h0,h1⟩,rfl⟩))⟩
   have hz:((n.ps.length:Int) == 0)=false:=by simp;exact fun e=>h1 (by rw [e];rfl)
   clear h fW h0 h1;go_wp2_with fail;refine Cf.out.mono ?_
   rintro e w1 ⟨rfl,aL⟩;have bP:=ab aL;have p0:=(HH.out.below aL).c0;clear aL;go_wp2_with (first | (go_at_call 93;refine (su.out _ bP.out).mono ?_;rintro e w2 ⟨rfl,rfl⟩))
   go_ret;exact b8.out _ bP.out
 ·rw [show decide (n.us.length=0)=false by simp [h0]] at su
  by_cases h1:n.lk.length=0
  ·obtain ⟨p,hp⟩ : ∃ p,n.us[0]?=some p:=⟨_,af (by omega)⟩
   have b8:Hid (∀ w1,Below w.heap.size w w1→oI w b n (.returned p.val) w1):=fun w1 hb=>⟨hb,.inr (.inl ⟨qJ.out,h0,h1,p,hp,rfl⟩)⟩
   obtain ⟨_,_,he,_,_,bh⟩:=h.kids;obtain ⟨g,o,hg,c1⟩:=bh 0 p.val (by unfold C.a8;rw [aM,hp];rfl)
   simp only [Value.slice.injEq] at he;obtain ⟨rfl,-,rfl⟩:=he;subst hg;rw [Nat.add_zero] at c1;obtain ⟨pt,px,iS⟩:=bM p;rw [iS] at c1 b8;have fK:(0:Int)<(n.us.length:Int):=by omega
   have V4:((n.lk.length:Int) == 0)=true:=by simp [h1]
   have RG:=ab c1;go_enter func83,ntmps83;clear h fW h0 hp bh iS c1 h1;go_wp2_with fail;refine Cf.out.mono ?_
   rintro e w1 ⟨rfl,aL⟩;have bP:=ab aL;have p2:=(HH.out.below aL).c2;have p3:=(HH.out.below aL).c3;have p4:=(aL.cell (p:=⟨g,o,none⟩) (World.block_lt_of_cell? w _ RG.out)).trans RG.out;clear aL;go_wp2_with (first | (go_at_call 93;refine (su.out _ bP.out).mono ?_;rintro e w2 ⟨rfl,rfl⟩))
   go_ret;exact b8.out _ bP.out
  ·have b8:Hid (∀ w1,Below w.heap.size w w1→oI w b n (.returned (C.Ch.nd b).val) w1):=fun w1 hb=>⟨hb,.inr (.inr (.inr ⟨qJ.out,.inr ⟨h0,h1⟩,rfl⟩))⟩
   have hz:((n.lk.length:Int) == 0)=false:=by simp;exact fun e=>h1 (by rw [e];rfl)
   go_enter func83,ntmps83;clear h fW h0 h1;go_wp2_with fail;refine Cf.out.mono ?_
   rintro e w1 ⟨rfl,aL⟩;have bP:=ab aL;have p2:=(HH.out.below aL).c2;clear aL;go_wp2_with (first | (go_at_call 93;refine (su.out _ bP.out).mono ?_;rintro e w2 ⟨rfl,rfl⟩))
   go_ret;exact b8.out _ bP.out
theorem FT(A:Nat→Addr)(b:Nat)(n:SN)(pv lv cv:Value)(w:World)(h:dH w b n pv lv cv)(gM:n.yP)(hE:jL A w):Calls prog 83 #[.pointer (some ⟨b,0,none⟩)] w fun e w'=>oI w b n e w':=by
 by_cases hb:4072<n.sz
 ·exact FR A b n pv lv cv w h gM hb hE
 ·exact CP b n pv lv cv w h hb
inductive PD where
 | leaf (l:List Pr)
 | br (f:Int) (lk:List B.Lk)
def ft:(h:Nat)→Nd h→Nat
 | 0,t=>t.1
 | _+1,t=>t.1
def gA(PG:Int→Option PD):(h:Nat)→Int→Nd h→Prop
 | 0,id,t=>(2≤id∧id<1048576)∧(t.1:Int)=id∧PG id=some (.leaf t.2)
 | h+1,id,t=>(2≤id∧id<1048576)∧(t.1:Int)=id∧∃ (f:Int) (lk:List B.Lk),PG id=some (.br f lk)∧t.2.1=lk.map (·.1)∧t.2.2.length=lk.length+1∧∀ (i:Nat) (c:Nd h) (x:Int),t.2.2[i]?=some c→(B.kids f lk)[i]?=some x→gA PG h x c
def aT(PG:Int→Option PD)(w:World):(h:Nat)→SN→Nd h→Prop
 | 0,n,t=>n.us=[]∧n.ps=t.2
 | h+1,n,t=>n.us.length=t.2.2.length∧n.us≠[]∧n.yP∧t.2.1=n.lk.map (·.1)∧∀ (i:Nat) (p:C.Ch) (c:Nd h),n.us[i]?=some p→t.2.2[i]?=some c →
   match p with
   | .pg id=>gA PG h id c
   | .nd b=>ft h c=0∧∃ m pv lv cv,dH w b m pv lv cv∧aT PG w h m c
def eh(PG:Int→Option PD)(w:World)(h:Nat)(p:C.Ch)(t:Nd h):Prop :=
 match p with
 | .pg id=>gA PG h id t
 | .nd b=>ft h t=0∧∃ m pv lv cv,dH w b m pv lv cv∧aT PG w h m t
theorem aT.qL{PG:Int→Option PD}{w:World}{h:Nat}{n:SN}{t:Nd (h+1)}(hn:aT PG w (h+1) n t){i:Nat}{p:C.Ch}{c:Nd h}(h1:n.us[i]?=some p)(h2:t.2.2[i]?=some c):eh PG w h p c:=hn.2.2.2.2 i p c h1 h2
theorem aT.below{PG:Int→Option PD}{w w':World}(hb:Below w.heap.size w w'):∀ (h:Nat) {n:SN} {t:Nd h},aT PG w h n t→aT PG w' h n t
 | 0,_,_,hn=>hn
 | h+1,n,t,hn=>⟨hn.1,hn.2.1,hn.2.2.1,hn.2.2.2.1,fun i p c h1 h2=>by
  have:=hn.2.2.2.2 i p c h1 h2;cases p with
  | pg id=>exact this
  | nd b =>
   obtain ⟨h0,m,pv,lv,cv,hs,hm⟩:=this;exact ⟨h0,m,pv,lv,cv,hs.below hb,aT.below hb h hm⟩⟩
theorem vV(l:List B.Lk):fB (l.map (·.1))=B.jM l:=by
 unfold fB B.jM;rw [eF];rfl
theorem aT.sz{PG:Int→Option PD}{w:World}{h:Nat}{n:SN}{t:Nd h}(hn:aT PG w h n t):n.sz=np h t:=by
 cases h with
 | zero =>
  show n.sz=fR t.2
  unfold SN.sz;rw [if_pos (by rw [hn.1];rfl),hn.2]
 | succ h =>
  have h0:¬ n.us.length=0:=fun e=>hn.2.1 (List.length_eq_zero_iff.1 e)
  show n.sz=fB t.2.1
  unfold SN.sz;rw [if_neg h0,hn.2.2.2.1,vV]
theorem aT.min{PG:Int→Option PD}{w:World}{h:Nat}{n:SN}{t:Nd h}(hn:aT PG w h n t):n.min=wZ h:=by
 cases h with
 | zero=>unfold SN.min wZ;rw [if_pos (by rw [hn.1];rfl)]
 | succ h =>
  have h0:¬ n.us.length=0:=fun e=>hn.2.1 (List.length_eq_zero_iff.1 e)
  unfold SN.min wZ;rw [if_neg h0]
theorem aT.cut{PG:Int→Option PD}{w:World}{h:Nat}{n a b:SN}{k:ByteArray}{t:Nd h}(hn:aT PG w h n t)(hc:My n a k b)(Ea:h=0∨3≤n.lk.length):∃ ta tb,Cut h t ta k tb∧ft h ta=0∧ft h tb=0∧aT PG w h a ta∧aT PG w h b tb:=by
 cases h with
 | zero =>
  rcases hc with ⟨_,i,v,h1,h2,rfl,rfl⟩ | ⟨h0,_⟩
  ·obtain ⟨e1,e2⟩:=hn;rw [e2] at h1 h2;exact ⟨(0,t.2.take i),(0,t.2.drop i),⟨i,h1,rfl,rfl,v,h2⟩,rfl,rfl,⟨rfl,by rw [e2]⟩,⟨rfl,by rw [e2]⟩⟩
  ·exact absurd (by rw [hn.1];rfl) h0
 | succ h =>
  have h0:¬ n.us.length=0:=fun e=>hn.2.1 (List.length_eq_zero_iff.1 e)
  rcases hc with ⟨Ll,_⟩ | ⟨_,i,f2,x,h1,h2,rfl,rfl⟩
  ·exact absurd Ll h0
  ·obtain ⟨e1,e2,e3,e4,e5⟩:=hn;have hlen:n.us.length=n.lk.length+1:=e3.resolve_left h0;have h3:3≤n.lk.length:=Ea.resolve_left (by omega)
   rw [← e4] at h1;have K8:=h1.1;have ju:(iJ t.2.1).length=n.lk.length:=by rw [e4];simp [iJ]
   rw [ju] at K8;have hk:t.2.1[i]?=some k:=by rw [e4,aM,h2];rfl
   refine ⟨(0,t.2.1.take i,t.2.2.take (i+1)),(0,t.2.1.drop (i+1),t.2.2.drop (i+1)),⟨i,h1,rfl,rfl,hk⟩,rfl,rfl,⟨?_,?_,?_,?_,fun j p c g1 g2=>?_⟩,⟨?_,?_,?_,?_,fun j p c g1 g2=>?_⟩⟩
   ·show (n.us.take (i+1)).length=(t.2.2.take (i+1)).length
    rw [ag,ag,e1]
   ·intro e;have:=congrArg List.length e;simp only [ag,List.length_nil] at this;omega
   ·right
    show (n.us.take (i+1)).length=(n.lk.take i).length+1
    rw [ag,ag];omega
   ·show t.2.1.take i=(n.lk.take i).map (·.1)
    rw [e4,jZ]
   ·have g1:(n.us.take (i+1))[j]?=some p:=g1;have g2:(t.2.2.take (i+1))[j]?=some c:=g2;rw [cH] at g1 g2;split at g1
    ·rename_i hj
     rw [if_pos hj] at g2;exact e5 j p c g1 g2
    ·cases g1
   ·show (n.us.drop (i+1)).length=(t.2.2.drop (i+1)).length
    rw [ao,ao,e1]
   ·intro e;have:=congrArg List.length e;simp only [ao,List.length_nil] at this;omega
   ·right
    show (n.us.drop (i+1)).length=(n.lk.drop (i+1)).length+1
    rw [ao,ao];omega
   ·show t.2.1.drop (i+1)=(n.lk.drop (i+1)).map (·.1)
    rw [e4,List.map_drop]
   ·have g1:(n.us.drop (i+1))[j]?=some p:=g1;have g2:(t.2.2.drop (i+1))[j]?=some c:=g2;rw [dk] at g1 g2;exact e5 _ p c g1 g2
section rel
variable {α β:Type} {R:α→β→Prop}
def mw(R:α→β→Prop)(us:List α)(cs:List β):Prop:=us.length=cs.length∧∀ (i:Nat) (p:α) (c:β),us[i]?=some p→cs[i]?=some c→R p c
theorem mw.append{us us':List α}{cs cs':List β}(h:mw R us cs)(h':mw R us' cs'):mw R (us++us') (cs++cs'):=by
 refine ⟨by rw [ae,ae,h.1,h'.1],fun i p c h1 h2=>?_⟩
 by_cases hi:i<us.length
 ·rw [bA hi] at h1;rw [bA (by rw [← h.1];exact hi)] at h2
  exact h.2 i p c h1 h2
 ·rw [a6 (by omega)] at h1
  rw [a6 (by rw [← h.1];omega),← h.1] at h2
  exact h'.2 _ p c h1 h2
theorem mw.take{us:List α}{cs:List β}(h:mw R us cs)(k:Nat):mw R (us.take k) (cs.take k):=by
 refine ⟨by rw [ag,ag,h.1],fun i p c h1 h2=>?_⟩
 rw [cH] at h1 h2;split at h1
 ·rename_i hj
  rw [if_pos hj] at h2;exact h.2 i p c h1 h2
 ·cases h1
theorem mw.drop{us:List α}{cs:List β}(h:mw R us cs)(k:Nat):mw R (us.drop k) (cs.drop k):=by
 refine ⟨by rw [ao,ao,h.1],fun i p c h1 h2=>?_⟩
 rw [dk] at h1 h2;exact h.2 _ p c h1 h2
theorem mw.cons{us:List α}{cs:List β}{p:α}{c:β}(hp:R p c)(h:mw R us cs):mw R (p::us) (c::cs):=by
 refine ⟨by rw [List.length_cons,List.length_cons,h.1],fun i p' c' h1 h2=>?_⟩
 cases i with
 | zero=>cases h1;cases h2;exact hp
 | succ i=>exact h.2 i p' c' (by simpa using h1) (by simpa using h2)
theorem J9(l:List α)(i:Nat)(p:α)(h:i<l.length):l.set i p=l.take i++p::l.drop (i+1):=List.set_eq_take_append_cons_drop.trans (by rw [if_pos h])
end rel
variable {PG:Int→Option PD} {w:World} {h:Nat}
theorem eK{n:SN}{t:Nd (h+1)}:aT PG w (h+1) n t↔mw (eh PG w h) n.us t.2.2∧n.us≠[]∧n.yP∧t.2.1=n.lk.map (·.1):=by
 constructor
 ·intro hn;exact ⟨⟨hn.1,fun i p c h1 h2=>hn.2.2.2.2 i p c h1 h2⟩,hn.2.1,hn.2.2.1,hn.2.2.2.1⟩
 ·intro hn;exact ⟨hn.1.1,hn.2.1,hn.2.2.1,hn.2.2.2,fun i p c h1 h2=>hn.1.2 i p c h1 h2⟩
theorem aT.len{n:SN}{t:Nd (h+1)}(hn:aT PG w (h+1) n t):n.us.length=n.lk.length+1:=hn.2.2.1.resolve_left (fun e=>hn.2.1 (List.length_eq_zero_iff.1 e))
theorem aT.set{n:SN}{t:Nd (h+1)}{C1 C2:List (Nd h)}{c x:Nd h}{p:C.Ch}(hn:aT PG w (h+1) n t)(e2:t.2.2=C1++c::C2)(hk:eh PG w h p x)(ps:List Pr)(f:Int):aT PG w (h+1) ⟨ps,f,n.lk,n.us.set C1.length p⟩ (0,t.2.1,C1++x::C2):=by
 have hl:=hn.len;have hr:=(eK.1 hn).1;have bN:C1.length<n.us.length:=by rw [hr.1,e2];simp
 refine eK.2 ⟨?_,?_,.inr ?_,hn.2.2.2.1⟩
 ·show mw _ (n.us.set C1.length p) (C1++x::C2)
  rw [J9 _ _ _ bN];have h1:=hr.take C1.length;have h2:=hr.drop (C1.length+1);rw [e2,ee] at h1;have e3:(C1++c::C2).drop (C1.length+1)=C2:=by
   rw [show C1++c::C2=(C1++[c])++C2 by simp,show C1.length+1=(C1++[c]).length by simp,fF]
  rw [e2,e3] at h2;exact h1.append (h2.cons hk)
 ·intro e;have:=congrArg List.length e;rw [cx] at this;exact hn.2.1 (List.length_eq_zero_iff.1 this)
 ·show (n.us.set C1.length p).length=n.lk.length+1
  rw [cx];exact hl
theorem aT.ins{n:SN}{K1 K2:List ByteArray}{C1 C2:List (Nd h)}{x y:Nd h}{k:ByteArray}{p:C.Ch}(hn:aT PG w (h+1) n (0,K1++K2,C1++x::C2))(hl:K1.length=C1.length)(hk:eh PG w h p y)(ps:List Pr)(f:Int):aT PG w (h+1) ⟨ps,f,B.dF n.lk C1.length (k,0),C.dF n.us (C1.length+1) p⟩ (0,K1++k::K2,C1++x::y::C2):=by
 have hlen:=hn.len;have hr:mw (eh PG w h) n.us (C1++x::C2):=(eK.1 hn).1;have ju:K1++K2=n.lk.map (·.1):=hn.2.2.2.1;have hul:n.us.length=C1.length+1+C2.length:=by rw [hr.1];simp;omega
 refine eK.2 ⟨?_,?_,.inr ?_,?_⟩
 ·show mw _ (n.us.take (C1.length+1)++p::n.us.drop (C1.length+1)) (C1++x::y::C2)
  have h1:=hr.take (C1.length+1);have h2:=hr.drop (C1.length+1);have e:C1++x::C2=(C1++[x])++C2:=by simp
  rw [e,show C1.length+1=(C1++[x]).length by simp] at h1 h2
  rw [ee] at h1;rw [fF] at h2;rw [show C1++x::y::C2=(C1++[x])++y::C2 by simp,show C1.length+1=(C1++[x]).length by simp]
  exact h1.append (h2.cons hk)
 ·show C.dF n.us (C1.length+1) p≠[]
  unfold C.dF;simp
 ·show (C.dF n.us (C1.length+1) p).length=(B.dF n.lk C1.length (k,0)).length+1
  unfold C.dF B.dF;rw [ae,List.length_cons,ae,List.length_cons,ag,ag,ao,ao];omega
 ·show K1++k::K2=(B.dF n.lk C1.length (k,0)).map (·.1)
  unfold B.dF;rw [bt,List.map_cons,jZ,List.map_drop,← ju,← hl,ee,fF]
theorem sD{n nb:SN}{t:Nd (h+1)}{K1 K2:List ByteArray}{C1 C2:List (Nd h)}{c x:Nd h}{bb:Nat}{pb lb cb:Value}{e:Ending}{w':World}(hn:aT PG w (h+1) n t)(e1:t.2.1=K1++K2)(e2:t.2.2=C1++c::C2)(hl:K1.length=C1.length)(hx:aT PG w h nb x)(hs:dH w bb nb pb lb cb)(hpx:ft h x=0)(Ea:h=0∨3≤nb.lk.length∨¬ 4072<nb.sz)(hw:mu w n C1.length bb nb e w'):∃ b' n' pv lv cv ks cs,e = .returned (.pointer (some ⟨b',0,none⟩))∧dH w' b' n' pv lv cv∧aT PG w' (h+1) n' (0,ks,cs)∧Hn h K1 K2 C1 x C2 ks cs∧Below w.heap.size w w':=by
 rcases hw with ⟨hb,b',pv,lv,cv,he,Ur,bO⟩ | ⟨hb,a,k,c',ba,bc,pa,la,ca,pc,lc,cc,hcut,ha,hc,b',pv,lv,cv,he,Ur,bO⟩
 ·refine ⟨b',_,pv,lv,cv,K1++K2,C1++x::C2,he,Ur,?_,.inl ⟨by unfold Ma;rw [← hx.sz];exact hb,rfl,rfl⟩,bO⟩
  have:=aT.set (p:=.nd bb) (x:=x) (hn.below bO (h+1)) e2 ⟨hpx,nb,pb,lb,cb,hs.below bO,hx.below bO h⟩ [] n.f;rw [e1] at this;exact this
 ·obtain ⟨ta,tb,Xz,p1,p2,n1,n2⟩:=(hx.below bO h).cut hcut (Ea.elim .inl (fun h'=>h'.elim .inr (fun Wq=>absurd hb Wq)))
  refine ⟨b',_,pv,lv,cv,K1++k::K2,C1++ta::tb::C2,he,Ur,?_,.inr ⟨by unfold Ma;rw [← hx.sz];exact hb,ta,k,tb,Xz,rfl,rfl⟩,bO⟩
  have h1:=aT.set (p:=.nd ba) (x:=ta) (hn.below bO (h+1)) e2 ⟨p1,a,pa,la,ca,ha,n1⟩ [] n.f;rw [e1] at h1;exact aT.ins (p:=.nd bc) (y:=tb) h1 hl ⟨p2,c',pc,lc,cc,hc,n2⟩ [] n.f
variable {PG:Int→Option PD} {w:World} {h:Nat}
def SN.join(a:SN)(key:ByteArray)(b:SN):SN:=if a.us.length=0 then ⟨a.ps++b.ps,0,[],[]⟩ else ⟨[],a.f,B.iR a.lk key b.f b.lk,a.us++b.us⟩
theorem Ah{a b:SN}{ta tb:Nd h}{key:ByteArray}(ha:aT PG w h a ta)(hb:aT PG w h b tb):aT PG w h (a.join key b) (jd h ta key tb):=by
 cases h with
 | zero =>
  unfold SN.join;rw [if_pos (by rw [ha.1];rfl)]
  exact ⟨rfl,by show a.ps++b.ps=ta.2++tb.2;rw [ha.2,hb.2]⟩
 | succ h =>
  have h0:¬ a.us.length=0:=fun e=>ha.2.1 (List.length_eq_zero_iff.1 e)
  unfold SN.join;rw [if_neg h0];have ra:=eK.1 ha;have rb:=eK.1 hb;refine eK.2 ⟨ra.1.append rb.1,?_,.inr ?_,?_⟩
  ·intro e;exact ha.2.1 (List.append_eq_nil_iff.1 e).1
  ·show (a.us++b.us).length=(B.iR a.lk key b.f b.lk).length+1
   unfold B.iR;rw [ae,ae,List.length_cons,ha.len,hb.len];omega
  ·show ta.2.1++key::tb.2.1=(B.iR a.lk key b.f b.lk).map (·.1)
   unfold B.iR;rw [bt,List.map_cons,ra.2.2.2,rb.2.2.2]
theorem aT.rem{n:SN}{t:Nd (h+1)}{K1 K2:List ByteArray}{C1 C2:List (Nd h)}{a b:Nd h}{k:ByteArray}(hn:aT PG w (h+1) n t)(e1:t.2.1=K1++k::K2)(e2:t.2.2=C1++a::b::C2)(hl:K1.length=C1.length)(ps:List Pr)(f:Int):aT PG w (h+1) ⟨ps,f,B.cA n.lk C1.length,C.cA n.us (C1.length+1)⟩ (0,K1++K2,C1++a::C2):=by
 have hlen:=hn.len;have hr:=(eK.1 hn).1;have ju:K1++k::K2=n.lk.map (·.1):=by rw [← e1];exact hn.2.2.2.1
 have hul:n.us.length=C1.length+2+C2.length:=by rw [hr.1,e2];simp;omega
 refine eK.2 ⟨?_,?_,.inr ?_,?_⟩
 ·show mw _ (n.us.take (C1.length+1)++n.us.drop (C1.length+1+1)) (C1++a::C2)
  have h1:=hr.take (C1.length+1);have h2:=hr.drop (C1.length+1+1);have d1:(C1++a::b::C2).take (C1.length+1)=C1++[a]:=by
   rw [show C1++a::b::C2=(C1++[a])++b::C2 by simp,show C1.length+1=(C1++[a]).length by simp,ee]
  have d2:(C1++a::b::C2).drop (C1.length+1+1)=C2:=by
   rw [show C1++a::b::C2=(C1++[a,b])++C2 by simp,show C1.length+1+1=(C1++[a,b]).length by simp,fF]
  rw [e2,d1] at h1;rw [e2,d2] at h2;rw [show C1++a::C2=(C1++[a])++C2 by simp]
  exact h1.append h2
 ·intro e;have:=congrArg List.length e;unfold C.cA at this;rw [ae,ag,ao,List.length_nil] at this;omega
 ·show (C.cA n.us (C1.length+1)).length=(B.cA n.lk C1.length).length+1
  unfold C.cA B.cA;rw [ae,ae,ag,ag,ao,ao];omega
 ·show K1++K2=(B.cA n.lk C1.length).map (·.1)
  unfold B.cA;rw [bt,jZ,List.map_drop,← ju,← hl,ee,show K1++k::K2=(K1++[k])++K2 by simp,show K1.length+1=(K1++[k]).length by simp,fF]
def ez(PG:Int→Option PD)(w:World)(v:Value)(r:ch):Prop :=
 (v = .nilIface∧r=none)∨∃ (p:C.Ch) (h:Nat) (t:Nd h),v=p.val∧r=some ⟨h,t⟩∧eh PG w h p t
theorem zM{b:Nat}{n:SN}{pv lv cv:Value}{t:Nd h}{e:Ending}{w':World}(hn:aT PG w h n t)(hs:dH w b n pv lv cv)(hp:ft h t=0)(Ea:h=0∨3≤n.lk.length∨¬ 4072<n.sz)(hr:oI w b n e w'):∃ v r,e = .returned v∧ez PG w' v r∧tw h t r∧Below w.heap.size w w':=by
 obtain ⟨hb,hr⟩:=hr;have b7:=hn.sz;rcases hr with ⟨fW,a,k,c,ba,bc,br,pa,la,ca,pc,lc,cc,pr,lr,cr,hcut,ha,hc,he,KW⟩ | ⟨fW,h0,h1,p,Ao,he⟩ | ⟨fW,h0,h1,he⟩ | ⟨fW,h1,he⟩
 ·obtain ⟨ta,tb,Xz,p1,p2,n1,n2⟩:=(hn.below hb h).cut hcut (Ea.elim .inl (fun h'=>h'.elim .inr (fun Wq=>absurd fW Wq)))
  refine ⟨_,some ⟨h+1,(0,[k],[ta,tb])⟩,he,.inr ⟨.nd br,h+1,(0,[k],[ta,tb]),rfl,rfl,rfl,_,pr,lr,cr,KW,eK.2 ⟨?_,by simp,.inr rfl,rfl⟩⟩,.inl ⟨by unfold Ma;rw [← b7];exact fW,ta,k,tb,Xz,rfl⟩,hb⟩
  refine mw.cons (p:=C.Ch.nd ba) (c:=ta) ⟨p1,a,pa,la,ca,ha,n1⟩ (mw.cons (p:=C.Ch.nd bc) (c:=tb) ⟨p2,c,pc,lc,cc,hc,n2⟩ ⟨rfl,fun i p c h1=>by simp at h1⟩)
 ·cases h with
  | zero=>exact absurd (by rw [hn.1];rfl) h0
  | succ h =>
   have hlen:=hn.len;have iG:=(eK.1 (hn.below hb (h+1))).1;have Av:t.2.2.length=1:=by rw [← hn.1];omega
   obtain ⟨c,hc⟩:=List.length_eq_one_iff.1 Av;have hk:=iG.2 0 p c Ao (by rw [hc];rfl)
   have ju:t.2.1=[]:=by rw [hn.2.2.2.1,List.length_eq_zero_iff.1 h1];rfl
   exact ⟨_,some ⟨h,c⟩,he,.inr ⟨p,h,c,rfl,rfl,hk⟩,.inr (.inr ⟨by unfold Ma;rw [← b7];exact fW,fun e=>e ju,c,hc,rfl⟩),hb⟩
 ·cases h with
  | zero =>
   have hl:t.2=[]:=by rw [← hn.2];exact List.length_eq_zero_iff.1 h1
   exact ⟨_,none,he,.inl ⟨rfl,rfl⟩,.inr (.inr ⟨by unfold Ma;rw [← b7];exact fW,fun e=>e hl,rfl⟩),hb⟩
  | succ h=>exact absurd (List.length_eq_zero_iff.1 h0) hn.2.1
 ·refine ⟨_,some ⟨h,t⟩,he,.inr ⟨.nd b,h,t,rfl,rfl,hp,n,pv,lv,cv,hs.below hb,hn.below hb h⟩,.inr (.inl ⟨by unfold Ma;rw [← b7];exact fW,?_,rfl⟩),hb⟩
  cases h with
  | zero =>
   show t.2≠[]
   rcases h1 with ⟨_,h2⟩ | ⟨h2,_⟩
   ·intro e;rw [← hn.2] at e;exact h2 (by rw [e];rfl)
   ·exact absurd (by rw [hn.1];rfl) h2
  | succ h =>
   show t.2.1≠[]
   rcases h1 with ⟨h2,_⟩ | ⟨_,h2⟩
   ·exact absurd (List.length_eq_zero_iff.1 h2) hn.2.1
   ·intro e;rw [hn.2.2.2.1] at e;exact h2 (List.length_eq_zero_iff.2 (List.map_eq_nil_iff.1 e))
end T
end Go.Proofs.YtihmgigfkmofnaaGreatDoor
