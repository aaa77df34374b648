import Derived.Test.YthnidlhcpelomaaDoorDTake
import Derived.Test.YthnidlhcpelomaaDoorDRng
import Derived.Deep.DeepCutAuto
import Derived.Deep.CutBlock
import Derived.Deep.RegionHeld3
namespace Go.Proofs.YthnidlhcpelomaaDoor
open Go.RowKit
attribute [local go_sem ↓] Go.wp_at_zero Go.wp_at_succ
/-- The types whose cells an iterator of lists side by side turns. -/
def tK (t : TypeId) : Bool := t == 56 || t == 69
/-- Where the element of number p lies. -/
def adr (st : Nat) (a : Option Addr) (p : Nat) : Option Addr := match a with
  | some ⟨g, o, _⟩ => some ⟨g, o + p * st, none⟩
  | none => none
/-- Where a list begins behind its first p elements. -/
def AtP (st : Nat) (a : Option Addr) (n p : Nat) (a' : Option Addr) : Prop := (p < n → a' = adr st a p) ∧ (a' = none → a = none)
theorem AtP.zero {st : Nat} {a : Option Addr} {n : Nat} (h : 0 < n → ∃ g o, a = some ⟨g, o, none⟩) : AtP st a n 0 a := by
  refine ⟨fun hn => ?_, id⟩
  obtain ⟨g, o, rfl⟩ := h hn
  simp [adr]
theorem AtP.next {st g o n c p : Nat} (hc : n ≤ c) : AtP st (some ⟨g, o, none⟩) n (p + 1) (nxA st g (o + p * st) (c - p)) := by
  refine ⟨fun hn => ?_, fun h => ?_⟩
  · rw [nxA, if_neg (by omega)]
    simp only [adr]
    rw [Nat.add_mul, Nat.one_mul, Nat.add_assoc]
  · unfold nxA at h
    split at h <;> cases h
def ptrIf (st : Nat) (t : Bool) (a : Option Addr) (p : Nat) : Value := .pointer (if t then adr st a p else none)
theorem KeyR.drop {st : Nat} {w : World} {a : Option Addr} {n c : Nat} {ks : List ByteArray} {p : Nat} {a' : Option Addr} (h : KeyR st w (.slice a n c) ks) (hp : p ≤ n) (ha : AtP st a n p a') : KeyR st w (.slice a' (n - p) (c - p)) (ks.drop p) := by
  obtain ⟨b, cap, he, hle, hn, hc⟩ := h
  cases he
  refine ⟨a', c - p, by simp, by simp; omega, fun h => by have := hn (ha.2 h); omega, fun j hj => ?_⟩
  have hj' : p + j < ks.length := by simp at hj; omega
  obtain ⟨g, o, rfl, h1⟩ := hc (p + j) hj'
  refine ⟨g, o + p * st, ha.1 (by omega), ?_⟩
  rw [List.getElem_drop, Nat.add_assoc, ← Nat.add_mul]
  exact h1
theorem KeyR.len {st : Nat} {w : World} {a : Option Addr} {n c : Nat} {ks : List ByteArray} (h : KeyR st w (.slice a n c) ks) : n = ks.length ∧ ks.length ≤ c ∧ (0 < n → ∃ g o, a = some ⟨g, o, none⟩) := by
  obtain ⟨b, cap, he, hle, hn, hc⟩ := h
  cases he
  exact ⟨rfl, hle, fun h => by obtain ⟨g, o, rfl, _⟩ := hc 0 h; exact ⟨g, o, rfl⟩⟩
def lenAt (b : Nat) (W : World) : Nat := match W.cell? ⟨b, 0, none⟩ with
  | some (.slice _ n _) => n
  | _ => 0
def leftW (b b' : Nat) (W : World) : Nat := lenAt b W + lenAt b' W
theorem leftW_eq {b b' n n' c c' : Nat} {a a' : Option Addr} {W : World} (h : W.cell? ⟨b, 0, none⟩ = some (.slice a n c)) (h' : W.cell? ⟨b', 0, none⟩ = some (.slice a' n' c')) : leftW b b' W = n + n' := by
  simp [leftW, lenAt, h, h']
def turnA (ka kb : List ByteArray) (s : Nat × Nat) : Bool := turnK (ka.drop s.1) (kb.drop s.2)
def turnB (ka kb : List ByteArray) (s : Nat × Nat) : Bool := turnK (kb.drop s.2) (ka.drop s.1)
def nxS (ka kb : List ByteArray) (s : Nat × Nat) : Nat × Nat := (s.1 + (turnA ka kb s).toNat, s.2 + (turnB ka kb s).toNat)
def moreS (ka kb : List ByteArray) (s : Nat × Nat) : Prop := s.1 < ka.length ∨ s.2 < kb.length
def encsS (sx sy : Nat) (a1 a2 : Option Addr) (ka kb : List ByteArray) (s : Nat × Nat) : Array Value := #[ptrIf sx (turnA ka kb s) a1 s.1, ptrIf sy (turnB ka kb s) a2 s.2]
theorem turnK_some {ks ms : List ByteArray} (h : turnK ks ms = true) : 0 < ks.length := by cases ks <;> simp_all [turnK]
theorem turnK_one {ks ms : List ByteArray} (h : 0 < ks.length ∨ 0 < ms.length) : turnK ks ms = true ∨ turnK ms ks = true := by
  cases ks with
  | nil => cases ms <;> simp_all [turnK]
  | cons k ks => cases ms with
    | nil => simp [turnK]
    | cons m ms =>
      simp only [turnK]
      cases h1 : ltK m k with
      | false => simp
      | true => right; have : ltK k m = false := ltK_asymm h1; simp [this]
/-- A block of two cells. -/
def row2 (W : World) (b : Nat) (x y : Value) (t : TypeId) : Prop := W.heap[b]? = some (.cells #[x, y] t (0, 0))
theorem row2.bel {W W' : World} {b : Nat} {x y : Value} {t : TypeId} (h : row2 W b x y t) (hb : Below W.heap.size W W') : row2 W' b x y t := (hb.block b (Array.getElem?_eq_some_iff.1 h).1).trans h
theorem row2.c0 {W : World} {b : Nat} {x y : Value} {t : TypeId} (h : row2 W b x y t) : W.cell? ⟨b, 0, none⟩ = some x := by rw [cell_of_row W b 0 _ _ _ h]; rfl
theorem row2.c1 {W : World} {b : Nat} {x y : Value} {t : TypeId} (h : row2 W b x y t) : W.cell? ⟨b, 1, none⟩ = some y := by rw [cell_of_row W b 1 _ _ _ h]; rfl
theorem row2.new (W : World) (x y : Value) (t : TypeId) : row2 (W.alloc (.cells #[x, y] t)) W.heap.size x y t := World.alloc_heap_new W _
theorem row2.set0 {W : World} {b : Nat} {x y : Value} {t : TypeId} (h : row2 W b x y t) (v : Value) : row2 (W.setCell ⟨b, 0, none⟩ v) b v y t := by
  have := Go.heap_setCell_same W b 0 _ t v h
  exact this
theorem row2.set1 {W : World} {b : Nat} {x y : Value} {t : TypeId} (h : row2 W b x y t) (v : Value) : row2 (W.setCell ⟨b, 1, none⟩ v) b x v t := by
  have := Go.heap_setCell_same W b 1 _ t v h
  exact this
theorem row2.oth {W : World} {b : Nat} {x y : Value} {t : TypeId} (h : row2 W b x y t) {c : Nat} (hne : b ≠ c) (k : Nat) (v : Value) : row2 (W.setCell ⟨c, k, none⟩ v) b x y t := (Below.heap_setCell W _ v b hne).trans h
/-- The state of the iterator's loop. -/
structure ItS (sx sy : Nat) (kx ky : Value) (tx ty : TypeId) (w0 : World) (B b b' : Nat) (a1 : Option Addr) (n1 c1 : Nat) (a2 : Option Addr) (n2 c2 : Nat) (p q : Nat) (W : World) : Prop where
  p1 : p ≤ n1
  p2 : q ≤ n2
  r1 : ∃ a', row2 W b (.slice a' (n1 - p) (c1 - p)) kx tx ∧ AtP sx a1 n1 p a'
  r2 : ∃ a', row2 W b' (.slice a' (n2 - q) (c2 - q)) ky ty ∧ AtP sy a2 n2 q a'
  bel : Below w0.heap.size w0 W
  lo : B ≤ b
  lo' : B ≤ b'
  ne : b ≠ b'
theorem tku_p (b : Nat) (t : Bool) (a1 e1 : Option Addr) (n1 c1 p : Nat) (hc : n1 ≤ c1) (hs : 0 < n1 → ∃ g o, a1 = some ⟨g, o, none⟩) (hp : p ≤ n1) (ht : t = true → p < n1) (hat : AtP 2 a1 n1 p e1) (W : World) (hr : row2 W b (.slice e1 (n1 - p) (c1 - p)) keyPF 56) :
    Calls Tryd.prog 51 #[.pointer (some ⟨b, 0, none⟩), .bool t] W fun e W' => e = .returned (ptrIf 2 t a1 p) ∧ (∃ a', row2 W' b (.slice a' (n1 - (p + t.toNat)) (c1 - (p + t.toNat))) keyPF 56 ∧ AtP 2 a1 n1 (p + t.toNat) a') ∧ p + t.toNat ≤ n1 ∧ W.heap.size ≤ W'.heap.size ∧ (∀ B, B ≤ b → But B (ofT tK) W W') ∧ ∀ b' x y ty, b' ≠ b → row2 W b' x y ty → row2 W' b' x y ty := by
  cases t with
  | false =>
    refine (take_p_no b W).mono ?_
    rintro e w' ⟨rfl, rfl⟩
    exact ⟨rfl, ⟨e1, hr, hat⟩, hp, Nat.le_refl _, fun _ _ => But.refl _ _ _, fun _ _ _ _ _ h => h⟩
  | true =>
    have hlt := ht rfl
    obtain ⟨g, o, rfl⟩ := hs (by omega)
    have he := hat.1 hlt
    simp only [adr] at he
    subst he
    refine (take_p b g (o + p * 2) (n1 - p) (c1 - p) (by omega) W hr).mono ?_
    rintro e w' ⟨rfl, rfl⟩
    refine ⟨rfl, ⟨nxA 2 g (o + p * 2) (c1 - p), ?_, .next hc⟩, hlt, by simp [World.setCell], fun B hB => (But.refl B (ofT tK) W).setCell (p := ⟨b, 0, none⟩) (o := .cells #[.slice (some ⟨g, o + p * 2, none⟩) (n1 - p) (c1 - p), keyPF] 56 (0, 0)) hr hB rfl _, fun b' x y ty hne h => h.oth hne _ _⟩
    have := hr.set0 (.slice (nxA 2 g (o + p * 2) (c1 - p)) (n1 - p - 1) (c1 - p - 1))
    rwa [Nat.sub_sub, Nat.sub_sub] at this
theorem tku_c (b : Nat) (t : Bool) (a1 e1 : Option Addr) (n1 c1 p : Nat) (hc : n1 ≤ c1) (hs : 0 < n1 → ∃ g o, a1 = some ⟨g, o, none⟩) (hp : p ≤ n1) (ht : t = true → p < n1) (hat : AtP 5 a1 n1 p e1) (W : World) (hr : row2 W b (.slice e1 (n1 - p) (c1 - p)) keyCF 69) :
    Calls Tryd.prog 57 #[.pointer (some ⟨b, 0, none⟩), .bool t] W fun e W' => e = .returned (ptrIf 5 t a1 p) ∧ (∃ a', row2 W' b (.slice a' (n1 - (p + t.toNat)) (c1 - (p + t.toNat))) keyCF 69 ∧ AtP 5 a1 n1 (p + t.toNat) a') ∧ p + t.toNat ≤ n1 ∧ W.heap.size ≤ W'.heap.size ∧ (∀ B, B ≤ b → But B (ofT tK) W W') ∧ ∀ b' x y ty, b' ≠ b → row2 W b' x y ty → row2 W' b' x y ty := by
  cases t with
  | false =>
    refine (take_c_no b W).mono ?_
    rintro e w' ⟨rfl, rfl⟩
    exact ⟨rfl, ⟨e1, hr, hat⟩, hp, Nat.le_refl _, fun _ _ => But.refl _ _ _, fun _ _ _ _ _ h => h⟩
  | true =>
    have hlt := ht rfl
    obtain ⟨g, o, rfl⟩ := hs (by omega)
    have he := hat.1 hlt
    simp only [adr] at he
    subst he
    refine (take_c b g (o + p * 5) (n1 - p) (c1 - p) (by omega) W hr).mono ?_
    rintro e w' ⟨rfl, rfl⟩
    refine ⟨rfl, ⟨nxA 5 g (o + p * 5) (c1 - p), ?_, .next hc⟩, hlt, by simp [World.setCell], fun B hB => (But.refl B (ofT tK) W).setCell (p := ⟨b, 0, none⟩) (o := .cells #[.slice (some ⟨g, o + p * 5, none⟩) (n1 - p) (c1 - p), keyCF] 69 (0, 0)) hr hB rfl _, fun b' x y ty hne h => h.oth hne _ _⟩
    have := hr.set0 (.slice (nxA 5 g (o + p * 5) (c1 - p)) (n1 - p - 1) (c1 - p - 1))
    rwa [Nat.sub_sub, Nat.sub_sub] at this
set_option maxHeartbeats 4000000 in
theorem iter_pp (U : TypeId → Bool) (HU : U 56 = false ∧ U 69 = false) (n : Nat) (ka kb : List ByteArray) (a1 a2 : Option Addr) (n1 c1 n2 c2 : Nat) (b1 b2 : Nat) (w0 w : World) (hbel : Below w0.heap.size w0 w)
    (hk1 : KeyR 2 w0 (.slice a1 n1 c1) ka) (hk2 : KeyR 2 w0 (.slice a2 n2 c2) kb) (hm1 : n1 ≤ 140737488355328) (hm2 : n2 ≤ 140737488355328)
    (hr1 : row2 w b1 (.slice a1 n1 c1) keyPF 56) (hr2 : row2 w b2 (.slice a2 n2 c2) keyPF 56) :
    IterS Fence.wide n Tryd.prog 49 #[.pointer (some ⟨b1, 0, none⟩), .pointer (some ⟨b2, 0, none⟩)] (encsS 2 2 a1 a2 ka kb) (nxS ka kb) (moreS ka kb) (0, 0) tK U w0.heap.size w := by
  intro l J Jx W hbW hJ hJx hy h0
  refine (callsIn_wide (n := n)).2 ?_
  have HB0 : Hid (Below w0.heap.size w0 W) := Below.next hbel hbW
  have HK1 := hide hk1
  have HK2 := hide hk2
  have HR1 := hide (hr1.bel hbW)
  have HR2 := hide (hr2.bel hbW)
  have x0 := (hr1.bel hbW).c0
  have x1 := (hr1.bel hbW).c1
  have y0 := (hr2.bel hbW).c0
  have y1 := (hr2.bel hbW).c1
  have hlt1 : b1 < W.heap.size := (Array.getElem?_eq_some_iff.1 (hr1.bel hbW)).1
  have hlt2 : b2 < W.heap.size := (Array.getElem?_eq_some_iff.1 (hr2.bel hbW)).1
  have ral : ∀ (b k : Nat) (v : Value), b < W.heap.size → W.cell? ⟨b, k, none⟩ = some v → (∀ o, (W.alloc o).cell? ⟨b, k, none⟩ = some v) ∧ ∀ o o', ((W.alloc o).alloc o').cell? ⟨b, k, none⟩ = some v := fun b k v hb hc =>
    ⟨fun o => (World.cell?_of_block (Below.heap_alloc W o b hb)).trans hc, fun o o' => (World.cell?_of_block ((Below.heap_alloc (W.alloc o) o' b (by simp; omega)).trans (Below.heap_alloc W o b hb))).trans hc⟩
  obtain ⟨x0a, x0b⟩ := ral _ _ _ hlt1 x0
  obtain ⟨x1a, x1b⟩ := ral _ _ _ hlt1 x1
  obtain ⟨y0a, y0b⟩ := ral _ _ _ hlt2 y0
  obtain ⟨y1a, y1b⟩ := ral _ _ _ hlt2 y1
  clear ral hlt1 hlt2
  have HJ := hide hJ
  have HJX := hide hJx
  have HY := hide hy
  have H0 := hide h0
  obtain ⟨Q, hQ⟩ : ∃ Q : Ending → World → Prop, Q = fun e W' => (∃ v, e = .returned v) ∧ ((∃ s, ¬ moreS ka kb s ∧ J s W') ∨ (∃ s, Jx s W')) := ⟨_, rfl⟩
  rw [← hQ]
  have HR := hide hQ
  clear hQ hbel hbW hr1 hr2 hJ hJx hy h0 hk1 hk2
  show Calls Tryd.prog 49 #[.func (.yield l) #[] #[], .pointer (some ⟨b1, 0, none⟩), .pointer (some ⟨b2, 0, none⟩)] W Q
  go_enter Tryd.func49, Tryd.ntmps49
  go_upto_region 0 with fail
  go_cut [4, 5] (fun v4 v5 wx => ∃ b b', v4 = .pointer (some ⟨b, 0, none⟩) ∧ v5 = .pointer (some ⟨b', 0, none⟩) ∧ W.heap.size ≤ b ∧ W.heap.size ≤ b' ∧ b ≠ b' ∧ row2 wx b (.slice a1 n1 c1) keyPF 56 ∧ row2 wx b' (.slice a2 n2 c2) keyPF 56 ∧ Below W.heap.size W wx)
  case first =>
    go_region
    all_goals (go_wp2_with fail)
    all_goals go_meet
    · refine ⟨_, _, rfl, rfl, Nat.le_refl _, Nat.le_succ _, by omega, ?_, ?_, ?_⟩
      · exact (Below.heap_alloc _ _ _ (by simp)).trans (World.alloc_heap_new W _)
      · have := World.alloc_heap_new (W.alloc (Obj.cells #[Value.slice a1 n1 c1, keyPF] 56)) (Obj.cells #[Value.slice a2 n2 c2, keyPF] 56)
        rwa [World.size_alloc] at this
      · exact (((Below.refl _ W).alloc (Nat.le_refl _) _).alloc (by simp) _).drew
    · refine ⟨_, _, rfl, rfl, Nat.le_succ _, Nat.le_refl _, by omega, ?_, ?_, ?_⟩
      · have := World.alloc_heap_new (W.alloc (Obj.cells #[Value.slice a2 n2 c2, keyPF] 56)) (Obj.cells #[Value.slice a1 n1 c1, keyPF] 56)
        rwa [World.size_alloc] at this
      · exact (Below.heap_alloc _ _ _ (by simp)).trans (World.alloc_heap_new W _)
      · exact (((Below.refl _ W).alloc (Nat.le_refl _) _).alloc (by simp) _).drew
  case rest =>
    obtain ⟨b, b', rfl, rfl, hb, hb', hne, hq1, hq2, hbl⟩ := hcut
    clear x0 x1 y0 y1 HR1 HR2 x0a x0b x1a x1b y0a y0b y1a y1b
    have HI : Hid (ItS 2 2 keyPF keyPF 56 56 w0 W.heap.size b b' a1 n1 c1 a2 n2 c2 0 0 wc) := ⟨Nat.zero_le _, Nat.zero_le _, ⟨a1, by simpa using hq1, .zero (HK1.out.len).2.2⟩, ⟨a2, by simpa using hq2, .zero (HK2.out.len).2.2⟩, Below.next HB0.out hbl, hb, hb', hne⟩
    have H1 : Hid (J (0, 0) wc) := HJ.out _ _ _ H0.out (.of_below hbl)
    clear hb hb' hne hq1 hq2 hbl H0
    go_wp2
    go_loopw [6] (fun _ wr => ∃ p q : Nat, ItS 2 2 keyPF keyPF 56 56 w0 W.heap.size b b' a1 n1 c1 a2 n2 c2 p q wr ∧ J (p, q) wr) (fun _ wr => leftW b b' wr)
    case atStart => exact ⟨0, 0, HI.out, H1.out⟩
    case round =>
      obtain ⟨p, q, hI, hj⟩ := hrel
      obtain ⟨e1, hrw1, hat1⟩ := hI.r1
      obtain ⟨e2, hrw2, hat2⟩ := hI.r2
      obtain ⟨hp1, hp2, -, -, hbel, hlo, hlo', hne⟩ := hI
      obtain ⟨hl1, hlc1, hs1⟩ := HK1.out.len
      obtain ⟨hl2, hlc2, hs2⟩ := HK2.out.len
      have HKD1 := hide (HK1.out.drop hp1 hat1)
      have HKD2 := hide (HK2.out.drop hp2 hat2)
      obtain ⟨tA, htA⟩ : ∃ t, t = turnA ka kb (p, q) := ⟨_, rfl⟩
      obtain ⟨tB, htB⟩ : ∃ t, t = turnB ka kb (p, q) := ⟨_, rfl⟩
      have HTA := hide htA
      have HTB := hide htB
      have HTT : Hid ((tA = true → p < n1) ∧ (tB = true → q < n2) ∧ (p < n1 ∨ q < n2 → tA = true ∨ tB = true)) := by
        refine ⟨fun h => ?_, fun h => ?_, fun h => ?_⟩
        · have := turnK_some (htA.symm.trans h); simp at this; omega
        · have := turnK_some (htB.symm.trans h); simp at this; omega
        · rw [htA, htB]; refine turnK_one ?_; simp; omega
      have HT1 : Hid (∀ V, Below wr.heap.size wr V → Calls Tryd.prog 50 #[.agg #[.slice e1 (n1 - p) (c1 - p), keyPF], .agg #[.slice e2 (n2 - q) (c2 - q), keyPF]] V fun e w' => e = .returned (.bool tA) ∧ Below V.heap.size V w') := fun V hV => by
        rw [htA]; exact turn_pp _ _ _ _ V (by simp; omega) (by simp; omega) (HKD1.out.below (Below.next hbel hV)) (HKD2.out.below (Below.next hbel hV))
      have HT2 : Hid (∀ V, Below wr.heap.size wr V → Calls Tryd.prog 50 #[.agg #[.slice e2 (n2 - q) (c2 - q), keyPF], .agg #[.slice e1 (n1 - p) (c1 - p), keyPF]] V fun e w' => e = .returned (.bool tB) ∧ Below V.heap.size V w') := fun V hV => by
        rw [htB]; exact turn_pp _ _ _ _ V (by simp; omega) (by simp; omega) (HKD2.out.below (Below.next hbel hV)) (HKD1.out.below (Below.next hbel hV))
      have HTK1 : Hid (∀ V, row2 V b (.slice e1 (n1 - p) (c1 - p)) keyPF 56 → CallsIn Fence.wide (n - 1) Tryd.prog 51 #[.pointer (some ⟨b, 0, none⟩), .bool tA] V fun e W' => e = .returned (ptrIf 2 tA a1 p) ∧ (∃ a', row2 W' b (.slice a' (n1 - (p + tA.toNat)) (c1 - (p + tA.toNat))) keyPF 56 ∧ AtP 2 a1 n1 (p + tA.toNat) a') ∧ p + tA.toNat ≤ n1 ∧ V.heap.size ≤ W'.heap.size ∧ (∀ B, B ≤ b → But B (ofT tK) V W') ∧ ∀ b' x y ty, b' ≠ b → row2 V b' x y ty → row2 W' b' x y ty) := fun V hV => callsIn_wide.2 (tku_p b tA a1 e1 n1 c1 p (by omega) hs1 hp1 HTT.out.1 hat1 V hV)
      have HTK2 : Hid (∀ V, row2 V b' (.slice e2 (n2 - q) (c2 - q)) keyPF 56 → CallsIn Fence.wide (n - 1) Tryd.prog 51 #[.pointer (some ⟨b', 0, none⟩), .bool tB] V fun e W' => e = .returned (ptrIf 2 tB a2 q) ∧ (∃ a', row2 W' b' (.slice a' (n2 - (q + tB.toNat)) (c2 - (q + tB.toNat))) keyPF 56 ∧ AtP 2 a2 n2 (q + tB.toNat) a') ∧ q + tB.toNat ≤ n2 ∧ V.heap.size ≤ W'.heap.size ∧ (∀ B, B ≤ b' → But B (ofT tK) V W') ∧ ∀ b0 x y ty, b0 ≠ b' → row2 V b0 x y ty → row2 W' b0 x y ty) := fun V hV => callsIn_wide.2 (tku_p b' tB a2 e2 n2 c2 q (by omega) hs2 hp2 HTT.out.2.1 hat2 V hV)
      have HRW1 := hide hrw1
      have HRW2 := hide hrw2
      have HJ2 := hide hj
      have HBL := hide hbel
      have c0 := hrw1.c0
      have c1' := hrw1.c1
      have d0 := hrw2.c0
      have d1 := hrw2.c1
      have HMO : Hid (moreS ka kb (p, q) ↔ (p < n1 ∨ q < n2)) := by show _ ↔ _; unfold moreS; simp only; rw [hl1, hl2]
      have HLF : Hid (leftW b b' wr = (n1 - p) + (n2 - q)) := leftW_eq c0 d0
      obtain ⟨m1, hm1'⟩ : ∃ m, m = n1 - p := ⟨_, rfl⟩
      obtain ⟨m2, hm2'⟩ : ∃ m, m = n2 - q := ⟨_, rfl⟩
      obtain ⟨k1, hk1'⟩ : ∃ m, m = c1 - p := ⟨_, rfl⟩
      obtain ⟨k2, hk2'⟩ : ∃ m, m = c2 - q := ⟨_, rfl⟩
      rw [← hm1', ← hk1'] at HT1 HT2 HTK1 HRW1 c0
      rw [← hm2', ← hk2'] at HT1 HT2 HTK2 HRW2 d0
      have HM1 := hide hm1'
      have HM2 := hide hm2'
      have hmm1 : m1 ≤ 140737488355328 := by omega
      have hmm2 : m2 ≤ 140737488355328 := by omega
      have HNE := hide hne
      have HLO := hide hlo
      have HLO' := hide hlo'
      have HPN := hide (And.intro hp1 hp2)
      clear hrw1 hrw2 hat1 hat2 hp1 hp2 hbel hlo hlo' hne hl1 hlc1 hs1 hl2 hlc2 hs2 HKD1 HKD2 htA htB hj hm1' hm2' hk1' hk2' HI H1
      by_cases hz : m1 + m2 = 0
      · obtain rfl : m1 = 0 := by omega
        obtain rfl : m2 = 0 := by omega
        go_wp2
        go_end0
        rw [HR.out]
        refine ⟨⟨_, rfl⟩, .inl ⟨(p, q), fun h => ?_, HJ2.out⟩⟩
        have h1 := HMO.out.1 h
        have h2 := HM1.out
        have h3 := HM2.out
        omega
      · have hpos : (0 : Int) < (m1 : Int) + (m2 : Int) := by omega
        go_upto_region 2 with fail
        go_region_held3 (fun w' => w'.cell? ⟨b, 0, none⟩ = some (.slice e1 m1 k1) ∧ w'.cell? ⟨b, 1, none⟩ = some keyPF ∧ w'.cell? ⟨b', 0, none⟩ = some (.slice e2 m2 k2) ∧ w'.cell? ⟨b', 1, none⟩ = some keyPF) (go_keep)
          (first
            | (have hq := HB6; clear hq; go_at_call 50; refine (HT2.out _ ?_).mono ?_; exact HB6.out; rintro e w6 ⟨rfl, hg⟩; have HB6 : Hid (Below wr.heap.size wr w6) := Below.next HB6.out hg; have z0 := cell_bel HB6.out c0; have z1 := cell_bel HB6.out c1'; have z2 := cell_bel HB6.out d0; have z3 := cell_bel HB6.out d1; clear hg)
            | (go_at_call 50; refine (HT1.out _ ?_).mono ?_; (first | exact Below.refl _ _ | exact (Below.refl _ _).drew | exact below_drewN2 (Below.refl _ _) _); rintro e w6 ⟨rfl, hg⟩; have HB6 : Hid (Below wr.heap.size wr w6) := ⟨hg.os, hg.tape, hg.output, hg.size, hg.block⟩; have z0 := cell_bel HB6.out c0; have z1 := cell_bel HB6.out c1'; have z2 := cell_bel HB6.out d0; have z3 := cell_bel HB6.out d1; clear hg))
        go_upto_region 3 with fail
        refine (wpIn_wide (n := n)).1 ?_
        have HX1 := hide (HRW1.out.bel HB6.out)
        have HX2 := hide (HRW2.out.bel HB6.out)
        have HJ6 := hide (HJ.out _ _ _ HJ2.out (.of_below HB6.out))
        have HB7 := hide (Below.next HBL.out HB6.out)
        gi_wp2_with fail
        refine ⟨trivial, fun h => (by cases h), (HTK1.out _ HX1.out).mono ?_⟩
        rintro e W7 ⟨rfl, ⟨f1, hf1, ha1⟩, hpp, hz7, hB7, ho7⟩
        have HX3 := hide (ho7 _ _ _ _ HNE.out.symm HX2.out)
        have HF1 := hide hf1
        have HA1 := hide ha1
        have HPP := hide hpp
        have HB71 := hide (hB7 _ HLO.out)
        clear hf1 ha1 hpp hz7 hB7 ho7
        gi_wp2_with fail
        refine ⟨trivial, fun h => (by cases h), (HTK2.out _ HX3.out).mono ?_⟩
        rintro e W8 ⟨rfl, ⟨f2, hf2, ha2⟩, hqq, hz8, hB8, ho8⟩
        have HX4 := hide (ho8 _ _ _ _ HNE.out HF1.out)
        have HF2 := hide hf2
        have HA2 := hide ha2
        have HQQ := hide hqq
        have HB72 := hide (HB71.out.trans (hB8 _ HLO'.out))
        clear hf2 ha2 hqq hz8 hB8 ho8
        have HJ8 := hide (HJ.out _ _ _ HJ6.out HB72.out)
        have HLE := hide (HB0.out.size)
        have HB80 : Hid (Below w0.heap.size w0 W8) := Below.trans HB7.out (HB72.out.mono (B' := w0.heap.size) (X' := ofT tK) HLE.out (fun _ h => h) |>.below HB7.out.size)
        obtain ⟨fn, tm, asg, bod, hyr, hR⟩ := HY.out (p, q) W8 HJ8.out (HMO.out.2 (by have := HM1.out; have := HM2.out; omega))
        have hen : encsS 2 2 a1 a2 ka kb (p, q) = #[ptrIf 2 tA a1 p, ptrIf 2 tB a2 q] := by rw [encsS, ← HTA.out, ← HTB.out]
        rw [hen] at hyr
        have HRR := hide hR
        clear hR hen
        gi_wp2_with fail
        refine ⟨fun h => (by cases h), HRR.out.mono ?_⟩
        rintro e W3 ⟨hbut, (⟨rfl, hJ3⟩ | ⟨rfl, hx3⟩)⟩
        · have HG1 : Hid (row2 W3 b (.slice f1 (n1 - (p + tA.toNat)) (c1 - (p + tA.toNat))) keyPF 56) := hbut.same b _ HX4.out (fun hh => Bool.noConfusion (HU.1.symm.trans (hh.2 : U 56 = true)))
          have HG2 : Hid (row2 W3 b' (.slice f2 (n2 - (q + tB.toNat)) (c2 - (q + tB.toNat))) keyPF 56) := hbut.same b' _ HF2.out (fun hh => Bool.noConfusion (HU.1.symm.trans (hh.2 : U 56 = true)))
          have HB9 : Hid (Below w0.heap.size w0 W3) := Below.trans HB80.out (hbut.below HB80.out.size)
          have HJ9 : Hid (J (p + tA.toNat, q + tB.toNat) W3) := by
            have : nxS ka kb (p, q) = (p + tA.toNat, q + tB.toNat) := by rw [nxS, ← HTA.out, ← HTB.out]
            rw [this] at hJ3; exact hJ3
          have HLF9 : Hid (leftW b b' W3 = (n1 - (p + tA.toNat)) + (n2 - (q + tB.toNat))) := leftW_eq HG1.out.c0 HG2.out.c0
          have HDN : Hid ((n1 - (p + tA.toNat)) + (n2 - (q + tB.toNat)) < (n1 - p) + (n2 - q)) := by
            obtain ⟨t1, t2, t3⟩ := HTT.out
            have t4 := t3 (by have := HM1.out; have := HM2.out; omega)
            have := HPP.out
            have := HQQ.out
            show _ < _
            cases tA <;> cases tB <;> simp at t1 t2 t4 this ⊢ <;> omega
          clear hbut hJ3
          gi_wp2
          go_wp2
          go_roundw
          case rel => exact ⟨_, _, ⟨HPP.out, HQQ.out, ⟨f1, HG1.out, HA1.out⟩, ⟨f2, HG2.out, HA2.out⟩, HB9.out, HLO.out, HLO'.out, HNE.out⟩, HJ9.out⟩
          case measure => rw [HLF9.out, HLF.out]; exact HDN.out
        · have HX9 := hide hx3
          clear hbut hx3
          gi_wp2
          go_wp2
          go_end0
          rw [HR.out]
          exact ⟨⟨_, rfl⟩, .inr ⟨_, HX9.out⟩⟩
set_option maxHeartbeats 4000000 in
theorem iter_cc (U : TypeId → Bool) (HU : U 56 = false ∧ U 69 = false) (n : Nat) (ka kb : List ByteArray) (a1 a2 : Option Addr) (n1 c1 n2 c2 : Nat) (b1 b2 : Nat) (w0 w : World) (hbel : Below w0.heap.size w0 w)
    (hk1 : KeyR 5 w0 (.slice a1 n1 c1) ka) (hk2 : KeyR 5 w0 (.slice a2 n2 c2) kb) (hm1 : n1 ≤ 140737488355328) (hm2 : n2 ≤ 140737488355328)
    (hr1 : row2 w b1 (.slice a1 n1 c1) keyCF 69) (hr2 : row2 w b2 (.slice a2 n2 c2) keyCF 69) :
    IterS Fence.wide n Tryd.prog 55 #[.pointer (some ⟨b1, 0, none⟩), .pointer (some ⟨b2, 0, none⟩)] (encsS 5 5 a1 a2 ka kb) (nxS ka kb) (moreS ka kb) (0, 0) tK U w0.heap.size w := by
  intro l J Jx W hbW hJ hJx hy h0
  refine (callsIn_wide (n := n)).2 ?_
  have HB0 : Hid (Below w0.heap.size w0 W) := Below.next hbel hbW
  have HK1 := hide hk1
  have HK2 := hide hk2
  have HR1 := hide (hr1.bel hbW)
  have HR2 := hide (hr2.bel hbW)
  have x0 := (hr1.bel hbW).c0
  have x1 := (hr1.bel hbW).c1
  have y0 := (hr2.bel hbW).c0
  have y1 := (hr2.bel hbW).c1
  have hlt1 : b1 < W.heap.size := (Array.getElem?_eq_some_iff.1 (hr1.bel hbW)).1
  have hlt2 : b2 < W.heap.size := (Array.getElem?_eq_some_iff.1 (hr2.bel hbW)).1
  have ral : ∀ (b k : Nat) (v : Value), b < W.heap.size → W.cell? ⟨b, k, none⟩ = some v → (∀ o, (W.alloc o).cell? ⟨b, k, none⟩ = some v) ∧ ∀ o o', ((W.alloc o).alloc o').cell? ⟨b, k, none⟩ = some v := fun b k v hb hc =>
    ⟨fun o => (World.cell?_of_block (Below.heap_alloc W o b hb)).trans hc, fun o o' => (World.cell?_of_block ((Below.heap_alloc (W.alloc o) o' b (by simp; omega)).trans (Below.heap_alloc W o b hb))).trans hc⟩
  obtain ⟨x0a, x0b⟩ := ral _ _ _ hlt1 x0
  obtain ⟨x1a, x1b⟩ := ral _ _ _ hlt1 x1
  obtain ⟨y0a, y0b⟩ := ral _ _ _ hlt2 y0
  obtain ⟨y1a, y1b⟩ := ral _ _ _ hlt2 y1
  clear ral hlt1 hlt2
  have HJ := hide hJ
  have HJX := hide hJx
  have HY := hide hy
  have H0 := hide h0
  obtain ⟨Q, hQ⟩ : ∃ Q : Ending → World → Prop, Q = fun e W' => (∃ v, e = .returned v) ∧ ((∃ s, ¬ moreS ka kb s ∧ J s W') ∨ (∃ s, Jx s W')) := ⟨_, rfl⟩
  rw [← hQ]
  have HR := hide hQ
  clear hQ hbel hbW hr1 hr2 hJ hJx hy h0 hk1 hk2
  show Calls Tryd.prog 55 #[.func (.yield l) #[] #[], .pointer (some ⟨b1, 0, none⟩), .pointer (some ⟨b2, 0, none⟩)] W Q
  go_enter Tryd.func55, Tryd.ntmps55
  go_upto_region 0 with fail
  go_cut [4, 5] (fun v4 v5 wx => ∃ b b', v4 = .pointer (some ⟨b, 0, none⟩) ∧ v5 = .pointer (some ⟨b', 0, none⟩) ∧ W.heap.size ≤ b ∧ W.heap.size ≤ b' ∧ b ≠ b' ∧ row2 wx b (.slice a1 n1 c1) keyCF 69 ∧ row2 wx b' (.slice a2 n2 c2) keyCF 69 ∧ Below W.heap.size W wx)
  case first =>
    go_region
    all_goals (go_wp2_with fail)
    all_goals go_meet
    · refine ⟨_, _, rfl, rfl, Nat.le_refl _, Nat.le_succ _, by omega, ?_, ?_, ?_⟩
      · exact (Below.heap_alloc _ _ _ (by simp)).trans (World.alloc_heap_new W _)
      · have := World.alloc_heap_new (W.alloc (Obj.cells #[Value.slice a1 n1 c1, keyCF] 69)) (Obj.cells #[Value.slice a2 n2 c2, keyCF] 69)
        rwa [World.size_alloc] at this
      · exact (((Below.refl _ W).alloc (Nat.le_refl _) _).alloc (by simp) _).drew
    · refine ⟨_, _, rfl, rfl, Nat.le_succ _, Nat.le_refl _, by omega, ?_, ?_, ?_⟩
      · have := World.alloc_heap_new (W.alloc (Obj.cells #[Value.slice a2 n2 c2, keyCF] 69)) (Obj.cells #[Value.slice a1 n1 c1, keyCF] 69)
        rwa [World.size_alloc] at this
      · exact (Below.heap_alloc _ _ _ (by simp)).trans (World.alloc_heap_new W _)
      · exact (((Below.refl _ W).alloc (Nat.le_refl _) _).alloc (by simp) _).drew
  case rest =>
    obtain ⟨b, b', rfl, rfl, hb, hb', hne, hq1, hq2, hbl⟩ := hcut
    clear x0 x1 y0 y1 HR1 HR2 x0a x0b x1a x1b y0a y0b y1a y1b
    have HI : Hid (ItS 5 5 keyCF keyCF 69 69 w0 W.heap.size b b' a1 n1 c1 a2 n2 c2 0 0 wc) := ⟨Nat.zero_le _, Nat.zero_le _, ⟨a1, by simpa using hq1, .zero (HK1.out.len).2.2⟩, ⟨a2, by simpa using hq2, .zero (HK2.out.len).2.2⟩, Below.next HB0.out hbl, hb, hb', hne⟩
    have H1 : Hid (J (0, 0) wc) := HJ.out _ _ _ H0.out (.of_below hbl)
    clear hb hb' hne hq1 hq2 hbl H0
    go_wp2
    go_loopw [6] (fun _ wr => ∃ p q : Nat, ItS 5 5 keyCF keyCF 69 69 w0 W.heap.size b b' a1 n1 c1 a2 n2 c2 p q wr ∧ J (p, q) wr) (fun _ wr => leftW b b' wr)
    case atStart => exact ⟨0, 0, HI.out, H1.out⟩
    case round =>
      obtain ⟨p, q, hI, hj⟩ := hrel
      obtain ⟨e1, hrw1, hat1⟩ := hI.r1
      obtain ⟨e2, hrw2, hat2⟩ := hI.r2
      obtain ⟨hp1, hp2, -, -, hbel, hlo, hlo', hne⟩ := hI
      obtain ⟨hl1, hlc1, hs1⟩ := HK1.out.len
      obtain ⟨hl2, hlc2, hs2⟩ := HK2.out.len
      have HKD1 := hide (HK1.out.drop hp1 hat1)
      have HKD2 := hide (HK2.out.drop hp2 hat2)
      obtain ⟨tA, htA⟩ : ∃ t, t = turnA ka kb (p, q) := ⟨_, rfl⟩
      obtain ⟨tB, htB⟩ : ∃ t, t = turnB ka kb (p, q) := ⟨_, rfl⟩
      have HTA := hide htA
      have HTB := hide htB
      have HTT : Hid ((tA = true → p < n1) ∧ (tB = true → q < n2) ∧ (p < n1 ∨ q < n2 → tA = true ∨ tB = true)) := by
        refine ⟨fun h => ?_, fun h => ?_, fun h => ?_⟩
        · have := turnK_some (htA.symm.trans h); simp at this; omega
        · have := turnK_some (htB.symm.trans h); simp at this; omega
        · rw [htA, htB]; refine turnK_one ?_; simp; omega
      have HT1 : Hid (∀ V, Below wr.heap.size wr V → Calls Tryd.prog 56 #[.agg #[.slice e1 (n1 - p) (c1 - p), keyCF], .agg #[.slice e2 (n2 - q) (c2 - q), keyCF]] V fun e w' => e = .returned (.bool tA) ∧ Below V.heap.size V w') := fun V hV => by
        rw [htA]; exact turn_cc _ _ _ _ V (by simp; omega) (by simp; omega) (HKD1.out.below (Below.next hbel hV)) (HKD2.out.below (Below.next hbel hV))
      have HT2 : Hid (∀ V, Below wr.heap.size wr V → Calls Tryd.prog 56 #[.agg #[.slice e2 (n2 - q) (c2 - q), keyCF], .agg #[.slice e1 (n1 - p) (c1 - p), keyCF]] V fun e w' => e = .returned (.bool tB) ∧ Below V.heap.size V w') := fun V hV => by
        rw [htB]; exact turn_cc _ _ _ _ V (by simp; omega) (by simp; omega) (HKD2.out.below (Below.next hbel hV)) (HKD1.out.below (Below.next hbel hV))
      have HTK1 : Hid (∀ V, row2 V b (.slice e1 (n1 - p) (c1 - p)) keyCF 69 → CallsIn Fence.wide (n - 1) Tryd.prog 57 #[.pointer (some ⟨b, 0, none⟩), .bool tA] V fun e W' => e = .returned (ptrIf 5 tA a1 p) ∧ (∃ a', row2 W' b (.slice a' (n1 - (p + tA.toNat)) (c1 - (p + tA.toNat))) keyCF 69 ∧ AtP 5 a1 n1 (p + tA.toNat) a') ∧ p + tA.toNat ≤ n1 ∧ V.heap.size ≤ W'.heap.size ∧ (∀ B, B ≤ b → But B (ofT tK) V W') ∧ ∀ b' x y ty, b' ≠ b → row2 V b' x y ty → row2 W' b' x y ty) := fun V hV => callsIn_wide.2 (tku_c b tA a1 e1 n1 c1 p (by omega) hs1 hp1 HTT.out.1 hat1 V hV)
      have HTK2 : Hid (∀ V, row2 V b' (.slice e2 (n2 - q) (c2 - q)) keyCF 69 → CallsIn Fence.wide (n - 1) Tryd.prog 57 #[.pointer (some ⟨b', 0, none⟩), .bool tB] V fun e W' => e = .returned (ptrIf 5 tB a2 q) ∧ (∃ a', row2 W' b' (.slice a' (n2 - (q + tB.toNat)) (c2 - (q + tB.toNat))) keyCF 69 ∧ AtP 5 a2 n2 (q + tB.toNat) a') ∧ q + tB.toNat ≤ n2 ∧ V.heap.size ≤ W'.heap.size ∧ (∀ B, B ≤ b' → But B (ofT tK) V W') ∧ ∀ b0 x y ty, b0 ≠ b' → row2 V b0 x y ty → row2 W' b0 x y ty) := fun V hV => callsIn_wide.2 (tku_c b' tB a2 e2 n2 c2 q (by omega) hs2 hp2 HTT.out.2.1 hat2 V hV)
      have HRW1 := hide hrw1
      have HRW2 := hide hrw2
      have HJ2 := hide hj
      have HBL := hide hbel
      have c0 := hrw1.c0
      have c1' := hrw1.c1
      have d0 := hrw2.c0
      have d1 := hrw2.c1
      have HMO : Hid (moreS ka kb (p, q) ↔ (p < n1 ∨ q < n2)) := by show _ ↔ _; unfold moreS; simp only; rw [hl1, hl2]
      have HLF : Hid (leftW b b' wr = (n1 - p) + (n2 - q)) := leftW_eq c0 d0
      obtain ⟨m1, hm1'⟩ : ∃ m, m = n1 - p := ⟨_, rfl⟩
      obtain ⟨m2, hm2'⟩ : ∃ m, m = n2 - q := ⟨_, rfl⟩
      obtain ⟨k1, hk1'⟩ : ∃ m, m = c1 - p := ⟨_, rfl⟩
      obtain ⟨k2, hk2'⟩ : ∃ m, m = c2 - q := ⟨_, rfl⟩
      rw [← hm1', ← hk1'] at HT1 HT2 HTK1 HRW1 c0
      rw [← hm2', ← hk2'] at HT1 HT2 HTK2 HRW2 d0
      have HM1 := hide hm1'
      have HM2 := hide hm2'
      have hmm1 : m1 ≤ 140737488355328 := by omega
      have hmm2 : m2 ≤ 140737488355328 := by omega
      have HNE := hide hne
      have HLO := hide hlo
      have HLO' := hide hlo'
      have HPN := hide (And.intro hp1 hp2)
      clear hrw1 hrw2 hat1 hat2 hp1 hp2 hbel hlo hlo' hne hl1 hlc1 hs1 hl2 hlc2 hs2 HKD1 HKD2 htA htB hj hm1' hm2' hk1' hk2' HI H1
      by_cases hz : m1 + m2 = 0
      · obtain rfl : m1 = 0 := by omega
        obtain rfl : m2 = 0 := by omega
        go_wp2
        go_end0
        rw [HR.out]
        refine ⟨⟨_, rfl⟩, .inl ⟨(p, q), fun h => ?_, HJ2.out⟩⟩
        have h1 := HMO.out.1 h
        have h2 := HM1.out
        have h3 := HM2.out
        omega
      · have hpos : (0 : Int) < (m1 : Int) + (m2 : Int) := by omega
        go_upto_region 2 with fail
        go_region_held3 (fun w' => w'.cell? ⟨b, 0, none⟩ = some (.slice e1 m1 k1) ∧ w'.cell? ⟨b, 1, none⟩ = some keyCF ∧ w'.cell? ⟨b', 0, none⟩ = some (.slice e2 m2 k2) ∧ w'.cell? ⟨b', 1, none⟩ = some keyCF) (go_keep)
          (first
            | (have hq := HB6; clear hq; go_at_call 56; refine (HT2.out _ ?_).mono ?_; exact HB6.out; rintro e w6 ⟨rfl, hg⟩; have HB6 : Hid (Below wr.heap.size wr w6) := Below.next HB6.out hg; have z0 := cell_bel HB6.out c0; have z1 := cell_bel HB6.out c1'; have z2 := cell_bel HB6.out d0; have z3 := cell_bel HB6.out d1; clear hg)
            | (go_at_call 56; refine (HT1.out _ ?_).mono ?_; (first | exact Below.refl _ _ | exact (Below.refl _ _).drew | exact below_drewN2 (Below.refl _ _) _); rintro e w6 ⟨rfl, hg⟩; have HB6 : Hid (Below wr.heap.size wr w6) := ⟨hg.os, hg.tape, hg.output, hg.size, hg.block⟩; have z0 := cell_bel HB6.out c0; have z1 := cell_bel HB6.out c1'; have z2 := cell_bel HB6.out d0; have z3 := cell_bel HB6.out d1; clear hg))
        go_upto_region 3 with fail
        refine (wpIn_wide (n := n)).1 ?_
        have HX1 := hide (HRW1.out.bel HB6.out)
        have HX2 := hide (HRW2.out.bel HB6.out)
        have HJ6 := hide (HJ.out _ _ _ HJ2.out (.of_below HB6.out))
        have HB7 := hide (Below.next HBL.out HB6.out)
        gi_wp2_with fail
        refine ⟨trivial, fun h => (by cases h), (HTK1.out _ HX1.out).mono ?_⟩
        rintro e W7 ⟨rfl, ⟨f1, hf1, ha1⟩, hpp, hz7, hB7, ho7⟩
        have HX3 := hide (ho7 _ _ _ _ HNE.out.symm HX2.out)
        have HF1 := hide hf1
        have HA1 := hide ha1
        have HPP := hide hpp
        have HB71 := hide (hB7 _ HLO.out)
        clear hf1 ha1 hpp hz7 hB7 ho7
        gi_wp2_with fail
        refine ⟨trivial, fun h => (by cases h), (HTK2.out _ HX3.out).mono ?_⟩
        rintro e W8 ⟨rfl, ⟨f2, hf2, ha2⟩, hqq, hz8, hB8, ho8⟩
        have HX4 := hide (ho8 _ _ _ _ HNE.out HF1.out)
        have HF2 := hide hf2
        have HA2 := hide ha2
        have HQQ := hide hqq
        have HB72 := hide (HB71.out.trans (hB8 _ HLO'.out))
        clear hf2 ha2 hqq hz8 hB8 ho8
        have HJ8 := hide (HJ.out _ _ _ HJ6.out HB72.out)
        have HLE := hide (HB0.out.size)
        have HB80 : Hid (Below w0.heap.size w0 W8) := Below.trans HB7.out (HB72.out.mono (B' := w0.heap.size) (X' := ofT tK) HLE.out (fun _ h => h) |>.below HB7.out.size)
        obtain ⟨fn, tm, asg, bod, hyr, hR⟩ := HY.out (p, q) W8 HJ8.out (HMO.out.2 (by have := HM1.out; have := HM2.out; omega))
        have hen : encsS 5 5 a1 a2 ka kb (p, q) = #[ptrIf 5 tA a1 p, ptrIf 5 tB a2 q] := by rw [encsS, ← HTA.out, ← HTB.out]
        rw [hen] at hyr
        have HRR := hide hR
        clear hR hen
        gi_wp2_with fail
        refine ⟨fun h => (by cases h), HRR.out.mono ?_⟩
        rintro e W3 ⟨hbut, (⟨rfl, hJ3⟩ | ⟨rfl, hx3⟩)⟩
        · have HG1 : Hid (row2 W3 b (.slice f1 (n1 - (p + tA.toNat)) (c1 - (p + tA.toNat))) keyCF 69) := hbut.same b _ HX4.out (fun hh => Bool.noConfusion (HU.2.symm.trans (hh.2 : U 69 = true)))
          have HG2 : Hid (row2 W3 b' (.slice f2 (n2 - (q + tB.toNat)) (c2 - (q + tB.toNat))) keyCF 69) := hbut.same b' _ HF2.out (fun hh => Bool.noConfusion (HU.2.symm.trans (hh.2 : U 69 = true)))
          have HB9 : Hid (Below w0.heap.size w0 W3) := Below.trans HB80.out (hbut.below HB80.out.size)
          have HJ9 : Hid (J (p + tA.toNat, q + tB.toNat) W3) := by
            have : nxS ka kb (p, q) = (p + tA.toNat, q + tB.toNat) := by rw [nxS, ← HTA.out, ← HTB.out]
            rw [this] at hJ3; exact hJ3
          have HLF9 : Hid (leftW b b' W3 = (n1 - (p + tA.toNat)) + (n2 - (q + tB.toNat))) := leftW_eq HG1.out.c0 HG2.out.c0
          have HDN : Hid ((n1 - (p + tA.toNat)) + (n2 - (q + tB.toNat)) < (n1 - p) + (n2 - q)) := by
            obtain ⟨t1, t2, t3⟩ := HTT.out
            have t4 := t3 (by have := HM1.out; have := HM2.out; omega)
            have := HPP.out
            have := HQQ.out
            show _ < _
            cases tA <;> cases tB <;> simp at t1 t2 t4 this ⊢ <;> omega
          clear hbut hJ3
          gi_wp2
          go_wp2
          go_roundw
          case rel => exact ⟨_, _, ⟨HPP.out, HQQ.out, ⟨f1, HG1.out, HA1.out⟩, ⟨f2, HG2.out, HA2.out⟩, HB9.out, HLO.out, HLO'.out, HNE.out⟩, HJ9.out⟩
          case measure => rw [HLF9.out, HLF.out]; exact HDN.out
        · have HX9 := hide hx3
          clear hbut hx3
          gi_wp2
          go_wp2
          go_end0
          rw [HR.out]
          exact ⟨⟨_, rfl⟩, .inr ⟨_, HX9.out⟩⟩
set_option maxHeartbeats 4000000 in
theorem iter_pc (U : TypeId → Bool) (HU : U 56 = false ∧ U 69 = false) (n : Nat) (ka kb : List ByteArray) (a1 a2 : Option Addr) (n1 c1 n2 c2 : Nat) (b1 b2 : Nat) (w0 w : World) (hbel : Below w0.heap.size w0 w)
    (hk1 : KeyR 2 w0 (.slice a1 n1 c1) ka) (hk2 : KeyR 5 w0 (.slice a2 n2 c2) kb) (hm1 : n1 ≤ 140737488355328) (hm2 : n2 ≤ 140737488355328)
    (hr1 : row2 w b1 (.slice a1 n1 c1) keyPF 56) (hr2 : row2 w b2 (.slice a2 n2 c2) keyCF 69) :
    IterS Fence.wide n Tryd.prog 60 #[.pointer (some ⟨b1, 0, none⟩), .pointer (some ⟨b2, 0, none⟩)] (encsS 2 5 a1 a2 ka kb) (nxS ka kb) (moreS ka kb) (0, 0) tK U w0.heap.size w := by
  intro l J Jx W hbW hJ hJx hy h0
  refine (callsIn_wide (n := n)).2 ?_
  have HB0 : Hid (Below w0.heap.size w0 W) := Below.next hbel hbW
  have HK1 := hide hk1
  have HK2 := hide hk2
  have HR1 := hide (hr1.bel hbW)
  have HR2 := hide (hr2.bel hbW)
  have x0 := (hr1.bel hbW).c0
  have x1 := (hr1.bel hbW).c1
  have y0 := (hr2.bel hbW).c0
  have y1 := (hr2.bel hbW).c1
  have hlt1 : b1 < W.heap.size := (Array.getElem?_eq_some_iff.1 (hr1.bel hbW)).1
  have hlt2 : b2 < W.heap.size := (Array.getElem?_eq_some_iff.1 (hr2.bel hbW)).1
  have ral : ∀ (b k : Nat) (v : Value), b < W.heap.size → W.cell? ⟨b, k, none⟩ = some v → (∀ o, (W.alloc o).cell? ⟨b, k, none⟩ = some v) ∧ ∀ o o', ((W.alloc o).alloc o').cell? ⟨b, k, none⟩ = some v := fun b k v hb hc =>
    ⟨fun o => (World.cell?_of_block (Below.heap_alloc W o b hb)).trans hc, fun o o' => (World.cell?_of_block ((Below.heap_alloc (W.alloc o) o' b (by simp; omega)).trans (Below.heap_alloc W o b hb))).trans hc⟩
  obtain ⟨x0a, x0b⟩ := ral _ _ _ hlt1 x0
  obtain ⟨x1a, x1b⟩ := ral _ _ _ hlt1 x1
  obtain ⟨y0a, y0b⟩ := ral _ _ _ hlt2 y0
  obtain ⟨y1a, y1b⟩ := ral _ _ _ hlt2 y1
  clear ral hlt1 hlt2
  have HJ := hide hJ
  have HJX := hide hJx
  have HY := hide hy
  have H0 := hide h0
  obtain ⟨Q, hQ⟩ : ∃ Q : Ending → World → Prop, Q = fun e W' => (∃ v, e = .returned v) ∧ ((∃ s, ¬ moreS ka kb s ∧ J s W') ∨ (∃ s, Jx s W')) := ⟨_, rfl⟩
  rw [← hQ]
  have HR := hide hQ
  clear hQ hbel hbW hr1 hr2 hJ hJx hy h0 hk1 hk2
  show Calls Tryd.prog 60 #[.func (.yield l) #[] #[], .pointer (some ⟨b1, 0, none⟩), .pointer (some ⟨b2, 0, none⟩)] W Q
  go_enter Tryd.func60, Tryd.ntmps60
  go_upto_region 0 with fail
  go_cut [4, 5] (fun v4 v5 wx => ∃ b b', v4 = .pointer (some ⟨b, 0, none⟩) ∧ v5 = .pointer (some ⟨b', 0, none⟩) ∧ W.heap.size ≤ b ∧ W.heap.size ≤ b' ∧ b ≠ b' ∧ row2 wx b (.slice a1 n1 c1) keyPF 56 ∧ row2 wx b' (.slice a2 n2 c2) keyCF 69 ∧ Below W.heap.size W wx)
  case first =>
    go_region
    all_goals (go_wp2_with fail)
    all_goals go_meet
    · refine ⟨_, _, rfl, rfl, Nat.le_refl _, Nat.le_succ _, by omega, ?_, ?_, ?_⟩
      · exact (Below.heap_alloc _ _ _ (by simp)).trans (World.alloc_heap_new W _)
      · have := World.alloc_heap_new (W.alloc (Obj.cells #[Value.slice a1 n1 c1, keyPF] 56)) (Obj.cells #[Value.slice a2 n2 c2, keyCF] 69)
        rwa [World.size_alloc] at this
      · exact (((Below.refl _ W).alloc (Nat.le_refl _) _).alloc (by simp) _).drew
    · refine ⟨_, _, rfl, rfl, Nat.le_succ _, Nat.le_refl _, by omega, ?_, ?_, ?_⟩
      · have := World.alloc_heap_new (W.alloc (Obj.cells #[Value.slice a2 n2 c2, keyCF] 69)) (Obj.cells #[Value.slice a1 n1 c1, keyPF] 56)
        rwa [World.size_alloc] at this
      · exact (Below.heap_alloc _ _ _ (by simp)).trans (World.alloc_heap_new W _)
      · exact (((Below.refl _ W).alloc (Nat.le_refl _) _).alloc (by simp) _).drew
  case rest =>
    obtain ⟨b, b', rfl, rfl, hb, hb', hne, hq1, hq2, hbl⟩ := hcut
    clear x0 x1 y0 y1 HR1 HR2 x0a x0b x1a x1b y0a y0b y1a y1b
    have HI : Hid (ItS 2 5 keyPF keyCF 56 69 w0 W.heap.size b b' a1 n1 c1 a2 n2 c2 0 0 wc) := ⟨Nat.zero_le _, Nat.zero_le _, ⟨a1, by simpa using hq1, .zero (HK1.out.len).2.2⟩, ⟨a2, by simpa using hq2, .zero (HK2.out.len).2.2⟩, Below.next HB0.out hbl, hb, hb', hne⟩
    have H1 : Hid (J (0, 0) wc) := HJ.out _ _ _ H0.out (.of_below hbl)
    clear hb hb' hne hq1 hq2 hbl H0
    go_wp2
    go_loopw [6] (fun _ wr => ∃ p q : Nat, ItS 2 5 keyPF keyCF 56 69 w0 W.heap.size b b' a1 n1 c1 a2 n2 c2 p q wr ∧ J (p, q) wr) (fun _ wr => leftW b b' wr)
    case atStart => exact ⟨0, 0, HI.out, H1.out⟩
    case round =>
      obtain ⟨p, q, hI, hj⟩ := hrel
      obtain ⟨e1, hrw1, hat1⟩ := hI.r1
      obtain ⟨e2, hrw2, hat2⟩ := hI.r2
      obtain ⟨hp1, hp2, -, -, hbel, hlo, hlo', hne⟩ := hI
      obtain ⟨hl1, hlc1, hs1⟩ := HK1.out.len
      obtain ⟨hl2, hlc2, hs2⟩ := HK2.out.len
      have HKD1 := hide (HK1.out.drop hp1 hat1)
      have HKD2 := hide (HK2.out.drop hp2 hat2)
      obtain ⟨tA, htA⟩ : ∃ t, t = turnA ka kb (p, q) := ⟨_, rfl⟩
      obtain ⟨tB, htB⟩ : ∃ t, t = turnB ka kb (p, q) := ⟨_, rfl⟩
      have HTA := hide htA
      have HTB := hide htB
      have HTT : Hid ((tA = true → p < n1) ∧ (tB = true → q < n2) ∧ (p < n1 ∨ q < n2 → tA = true ∨ tB = true)) := by
        refine ⟨fun h => ?_, fun h => ?_, fun h => ?_⟩
        · have := turnK_some (htA.symm.trans h); simp at this; omega
        · have := turnK_some (htB.symm.trans h); simp at this; omega
        · rw [htA, htB]; refine turnK_one ?_; simp; omega
      have HT1 : Hid (∀ V, Below wr.heap.size wr V → Calls Tryd.prog 61 #[.agg #[.slice e1 (n1 - p) (c1 - p), keyPF], .agg #[.slice e2 (n2 - q) (c2 - q), keyCF]] V fun e w' => e = .returned (.bool tA) ∧ Below V.heap.size V w') := fun V hV => by
        rw [htA]; exact turn_pc _ _ _ _ V (by simp; omega) (by simp; omega) (HKD1.out.below (Below.next hbel hV)) (HKD2.out.below (Below.next hbel hV))
      have HT2 : Hid (∀ V, Below wr.heap.size wr V → Calls Tryd.prog 62 #[.agg #[.slice e2 (n2 - q) (c2 - q), keyCF], .agg #[.slice e1 (n1 - p) (c1 - p), keyPF]] V fun e w' => e = .returned (.bool tB) ∧ Below V.heap.size V w') := fun V hV => by
        rw [htB]; exact turn_cp _ _ _ _ V (by simp; omega) (by simp; omega) (HKD2.out.below (Below.next hbel hV)) (HKD1.out.below (Below.next hbel hV))
      have HTK1 : Hid (∀ V, row2 V b (.slice e1 (n1 - p) (c1 - p)) keyPF 56 → CallsIn Fence.wide (n - 1) Tryd.prog 51 #[.pointer (some ⟨b, 0, none⟩), .bool tA] V fun e W' => e = .returned (ptrIf 2 tA a1 p) ∧ (∃ a', row2 W' b (.slice a' (n1 - (p + tA.toNat)) (c1 - (p + tA.toNat))) keyPF 56 ∧ AtP 2 a1 n1 (p + tA.toNat) a') ∧ p + tA.toNat ≤ n1 ∧ V.heap.size ≤ W'.heap.size ∧ (∀ B, B ≤ b → But B (ofT tK) V W') ∧ ∀ b' x y ty, b' ≠ b → row2 V b' x y ty → row2 W' b' x y ty) := fun V hV => callsIn_wide.2 (tku_p b tA a1 e1 n1 c1 p (by omega) hs1 hp1 HTT.out.1 hat1 V hV)
      have HTK2 : Hid (∀ V, row2 V b' (.slice e2 (n2 - q) (c2 - q)) keyCF 69 → CallsIn Fence.wide (n - 1) Tryd.prog 57 #[.pointer (some ⟨b', 0, none⟩), .bool tB] V fun e W' => e = .returned (ptrIf 5 tB a2 q) ∧ (∃ a', row2 W' b' (.slice a' (n2 - (q + tB.toNat)) (c2 - (q + tB.toNat))) keyCF 69 ∧ AtP 5 a2 n2 (q + tB.toNat) a') ∧ q + tB.toNat ≤ n2 ∧ V.heap.size ≤ W'.heap.size ∧ (∀ B, B ≤ b' → But B (ofT tK) V W') ∧ ∀ b0 x y ty, b0 ≠ b' → row2 V b0 x y ty → row2 W' b0 x y ty) := fun V hV => callsIn_wide.2 (tku_c b' tB a2 e2 n2 c2 q (by omega) hs2 hp2 HTT.out.2.1 hat2 V hV)
      have HRW1 := hide hrw1
      have HRW2 := hide hrw2
      have HJ2 := hide hj
      have HBL := hide hbel
      have c0 := hrw1.c0
      have c1' := hrw1.c1
      have d0 := hrw2.c0
      have d1 := hrw2.c1
      have HMO : Hid (moreS ka kb (p, q) ↔ (p < n1 ∨ q < n2)) := by show _ ↔ _; unfold moreS; simp only; rw [hl1, hl2]
      have HLF : Hid (leftW b b' wr = (n1 - p) + (n2 - q)) := leftW_eq c0 d0
      obtain ⟨m1, hm1'⟩ : ∃ m, m = n1 - p := ⟨_, rfl⟩
      obtain ⟨m2, hm2'⟩ : ∃ m, m = n2 - q := ⟨_, rfl⟩
      obtain ⟨k1, hk1'⟩ : ∃ m, m = c1 - p := ⟨_, rfl⟩
      obtain ⟨k2, hk2'⟩ : ∃ m, m = c2 - q := ⟨_, rfl⟩
      rw [← hm1', ← hk1'] at HT1 HT2 HTK1 HRW1 c0
      rw [← hm2', ← hk2'] at HT1 HT2 HTK2 HRW2 d0
      have HM1 := hide hm1'
      have HM2 := hide hm2'
      have hmm1 : m1 ≤ 140737488355328 := by omega
      have hmm2 : m2 ≤ 140737488355328 := by omega
      have HNE := hide hne
      have HLO := hide hlo
      have HLO' := hide hlo'
      have HPN := hide (And.intro hp1 hp2)
      clear hrw1 hrw2 hat1 hat2 hp1 hp2 hbel hlo hlo' hne hl1 hlc1 hs1 hl2 hlc2 hs2 HKD1 HKD2 htA htB hj hm1' hm2' hk1' hk2' HI H1
      by_cases hz : m1 + m2 = 0
      · obtain rfl : m1 = 0 := by omega
        obtain rfl : m2 = 0 := by omega
        go_wp2
        go_end0
        rw [HR.out]
        refine ⟨⟨_, rfl⟩, .inl ⟨(p, q), fun h => ?_, HJ2.out⟩⟩
        have h1 := HMO.out.1 h
        have h2 := HM1.out
        have h3 := HM2.out
        omega
      · have hpos : (0 : Int) < (m1 : Int) + (m2 : Int) := by omega
        go_upto_region 2 with fail
        go_region_held3 (fun w' => w'.cell? ⟨b, 0, none⟩ = some (.slice e1 m1 k1) ∧ w'.cell? ⟨b, 1, none⟩ = some keyPF ∧ w'.cell? ⟨b', 0, none⟩ = some (.slice e2 m2 k2) ∧ w'.cell? ⟨b', 1, none⟩ = some keyCF) (go_keep)
          (first
            | (have hq := HB6; clear hq; go_at_call 62; refine (HT2.out _ ?_).mono ?_; exact HB6.out; rintro e w6 ⟨rfl, hg⟩; have HB6 : Hid (Below wr.heap.size wr w6) := Below.next HB6.out hg; have z0 := cell_bel HB6.out c0; have z1 := cell_bel HB6.out c1'; have z2 := cell_bel HB6.out d0; have z3 := cell_bel HB6.out d1; clear hg)
            | (go_at_call 61; refine (HT1.out _ ?_).mono ?_; (first | exact Below.refl _ _ | exact (Below.refl _ _).drew | exact below_drewN2 (Below.refl _ _) _); rintro e w6 ⟨rfl, hg⟩; have HB6 : Hid (Below wr.heap.size wr w6) := ⟨hg.os, hg.tape, hg.output, hg.size, hg.block⟩; have z0 := cell_bel HB6.out c0; have z1 := cell_bel HB6.out c1'; have z2 := cell_bel HB6.out d0; have z3 := cell_bel HB6.out d1; clear hg))
        go_upto_region 3 with fail
        refine (wpIn_wide (n := n)).1 ?_
        have HX1 := hide (HRW1.out.bel HB6.out)
        have HX2 := hide (HRW2.out.bel HB6.out)
        have HJ6 := hide (HJ.out _ _ _ HJ2.out (.of_below HB6.out))
        have HB7 := hide (Below.next HBL.out HB6.out)
        gi_wp2_with fail
        refine ⟨trivial, fun h => (by cases h), (HTK1.out _ HX1.out).mono ?_⟩
        rintro e W7 ⟨rfl, ⟨f1, hf1, ha1⟩, hpp, hz7, hB7, ho7⟩
        have HX3 := hide (ho7 _ _ _ _ HNE.out.symm HX2.out)
        have HF1 := hide hf1
        have HA1 := hide ha1
        have HPP := hide hpp
        have HB71 := hide (hB7 _ HLO.out)
        clear hf1 ha1 hpp hz7 hB7 ho7
        gi_wp2_with fail
        refine ⟨trivial, fun h => (by cases h), (HTK2.out _ HX3.out).mono ?_⟩
        rintro e W8 ⟨rfl, ⟨f2, hf2, ha2⟩, hqq, hz8, hB8, ho8⟩
        have HX4 := hide (ho8 _ _ _ _ HNE.out HF1.out)
        have HF2 := hide hf2
        have HA2 := hide ha2
        have HQQ := hide hqq
        have HB72 := hide (HB71.out.trans (hB8 _ HLO'.out))
        clear hf2 ha2 hqq hz8 hB8 ho8
        have HJ8 := hide (HJ.out _ _ _ HJ6.out HB72.out)
        have HLE := hide (HB0.out.size)
        have HB80 : Hid (Below w0.heap.size w0 W8) := Below.trans HB7.out (HB72.out.mono (B' := w0.heap.size) (X' := ofT tK) HLE.out (fun _ h => h) |>.below HB7.out.size)
        obtain ⟨fn, tm, asg, bod, hyr, hR⟩ := HY.out (p, q) W8 HJ8.out (HMO.out.2 (by have := HM1.out; have := HM2.out; omega))
        have hen : encsS 2 5 a1 a2 ka kb (p, q) = #[ptrIf 2 tA a1 p, ptrIf 5 tB a2 q] := by rw [encsS, ← HTA.out, ← HTB.out]
        rw [hen] at hyr
        have HRR := hide hR
        clear hR hen
        gi_wp2_with fail
        refine ⟨fun h => (by cases h), HRR.out.mono ?_⟩
        rintro e W3 ⟨hbut, (⟨rfl, hJ3⟩ | ⟨rfl, hx3⟩)⟩
        · have HG1 : Hid (row2 W3 b (.slice f1 (n1 - (p + tA.toNat)) (c1 - (p + tA.toNat))) keyPF 56) := hbut.same b _ HX4.out (fun hh => Bool.noConfusion (HU.1.symm.trans (hh.2 : U 56 = true)))
          have HG2 : Hid (row2 W3 b' (.slice f2 (n2 - (q + tB.toNat)) (c2 - (q + tB.toNat))) keyCF 69) := hbut.same b' _ HF2.out (fun hh => Bool.noConfusion (HU.2.symm.trans (hh.2 : U 69 = true)))
          have HB9 : Hid (Below w0.heap.size w0 W3) := Below.trans HB80.out (hbut.below HB80.out.size)
          have HJ9 : Hid (J (p + tA.toNat, q + tB.toNat) W3) := by
            have : nxS ka kb (p, q) = (p + tA.toNat, q + tB.toNat) := by rw [nxS, ← HTA.out, ← HTB.out]
            rw [this] at hJ3; exact hJ3
          have HLF9 : Hid (leftW b b' W3 = (n1 - (p + tA.toNat)) + (n2 - (q + tB.toNat))) := leftW_eq HG1.out.c0 HG2.out.c0
          have HDN : Hid ((n1 - (p + tA.toNat)) + (n2 - (q + tB.toNat)) < (n1 - p) + (n2 - q)) := by
            obtain ⟨t1, t2, t3⟩ := HTT.out
            have t4 := t3 (by have := HM1.out; have := HM2.out; omega)
            have := HPP.out
            have := HQQ.out
            show _ < _
            cases tA <;> cases tB <;> simp at t1 t2 t4 this ⊢ <;> omega
          clear hbut hJ3
          gi_wp2
          go_wp2
          go_roundw
          case rel => exact ⟨_, _, ⟨HPP.out, HQQ.out, ⟨f1, HG1.out, HA1.out⟩, ⟨f2, HG2.out, HA2.out⟩, HB9.out, HLO.out, HLO'.out, HNE.out⟩, HJ9.out⟩
          case measure => rw [HLF9.out, HLF.out]; exact HDN.out
        · have HX9 := hide hx3
          clear hbut hx3
          gi_wp2
          go_wp2
          go_end0
          rw [HR.out]
          exact ⟨⟨_, rfl⟩, .inr ⟨_, HX9.out⟩⟩
end Go.Proofs.YthnidlhcpelomaaDoor
