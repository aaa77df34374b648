import Derived.Test.YtgljkgkophaefabDoorRdr3
import Derived.Test.YtgljkgkophaefabDoorUniq
import Derived.Test.YtgljkgkophaefabDoorTidy
namespace Go.Proofs.YtgljkgkophaefabDoor
open Go.RowKit

/-- What a list within which r lists may lie in one another asks of the list of an item. -/
def recF : Nat → List It → Nat
  | 0 => fun _ => 3
  | r + 1 => faultR r
theorem faultR_eq (r : Nat) (l : List It) : faultR r l = if 16 < l.length then 3 else firstF (oneF (recF r)) l := by cases r <;> rfl
/-- An item that may lie in such a list. -/
structure VI (r : Nat) (x : It) : Prop where
  one : oneF (recF r) x = 0
  ok : x.Ok
  list : x.kind = 5 → OkR (r - 1) x.list
structure VL (r : Nat) (l : List It) : Prop where
  len : l.length ≤ 16
  each : ∀ x ∈ l, VI r x
theorem VL.fault {r : Nat} {l : List It} (h : VL r l) : faultR r l = 0 := by
  rw [faultR_eq, if_neg (by have := h.len; omega)]
  exact firstF_none fun x hx => (h.each x hx).one
theorem VI.kind {r : Nat} {x : It} (h : VI r x) : 1 ≤ x.kind ∧ x.kind ≤ 5 := fits_kind (oneF_zero h.one).1
theorem VI.pos {r : Nat} {x : It} (h : VI r x) (hk : x.kind = 5) : ∃ r', r = r' + 1 ∧ faultR r' x.list = 0 ∧ OkR r' x.list := by
  cases r with
  | zero => have := (oneF_zero h.one).2 hk; simp [recF] at this
  | succ r => exact ⟨r, rfl, (oneF_zero h.one).2 hk, h.list hk⟩
theorem fit_list' {x : It} (h : fits x = true) (hk : x.kind ≠ 5) : x.list = [] := by
  unfold fits fitB at h
  have e : ((x.list.length : Int) == 0) = true → x.list = [] := fun e => List.length_eq_zero_iff.1 (by simpa using e)
  split at h
  · simp only [Bool.and_eq_true] at h; exact e h.2
  · split at h
    · simp only [Bool.and_eq_true] at h; exact e h.2
    · split at h
      · simp only [Bool.and_eq_true] at h; exact e h.2
      · split at h
        · simp only [Bool.and_eq_true] at h; exact e h.2
        · first | (rw [if_neg hk] at h; cases h) | (cases h)
theorem okR_nil (r : Nat) : OkR r [] := by cases r <;> (intro x hx; cases hx)
theorem VI.inner {r : Nat} {x : It} (h : VI r x) : OkR (r - 1) x.list := by
  by_cases hk : x.kind = 5
  · exact h.list hk
  · rw [fit_list' (oneF_zero h.one).1 hk]; exact okR_nil _
theorem VL.okR {r : Nat} {l : List It} (h : VL r l) : OkR r l := by
  cases r with
  | zero => exact fun x hx => (h.each x hx).ok
  | succ r => exact fun x hx => ⟨(h.each x hx).ok, (h.each x hx).inner⟩
theorem VL.of {r : Nat} {l : List It} (h : faultR r l = 0) (k : OkR r l) : VL r l := by
  rw [faultR_eq] at h
  split at h
  · cases h
  · refine ⟨by omega, fun x hx => ⟨firstF_zero h x hx, k.each x hx, fun hk => ?_⟩⟩
    cases r with
    | zero => have := (oneF_zero (firstF_zero h x hx)).2 hk; simp [recF] at this
    | succ r => exact (k x hx).2
theorem head_kind {r : Nat} {x : It} {c : UInt8} {b b' : List UInt8} (h : VI r x) (e : c :: b = x.enc ++ b') : (c.toNat : Int) = x.kind ∧ b = bodyOf x.kind x.num x.text.data.toList (encL x.list) ++ b' := by
  rw [x.enc_eq] at e
  simp only [List.cons_append, List.cons.injEq] at e
  refine ⟨?_, e.2⟩
  have k := h.kind
  rw [e.1, byteOf_nat, Int.emod_eq_of_lt (by omega) (by omega)]
theorem fit_flag' {x : It} (h : fits x = true) (hk : x.kind = 2) : x.num = 0 ∨ x.num = 1 := by
  unfold fits fitB at h
  rw [hk] at h
  simp at h
  exact h.1.1
theorem VI.low {r : Nat} {x : It} (h : VI r x) : oneF (faultR (r - 1)) x = 0 ∧ (x.kind = 5 → OkR (r - 1) x.list) := by
  refine ⟨?_, h.list⟩
  cases r with
  | zero =>
    refine oneF_none (oneF_zero h.one).1 fun hk => ?_
    obtain ⟨r', e, _⟩ := h.pos hk
    cases e
  | succ r => exact h.one
theorem enc_uniq {r : Nat} {x y : It} {s t : List UInt8} (hx : VI r x) (hy : VI r y) (h : x.enc ++ s = y.enc ++ t) : x = y ∧ s = t := by
  obtain ⟨h1, h2⟩ := items_zero (r - 1) x y hx.low.1 hy.low.1 hx.ok hy.ok hx.low.2 hy.low.2
  have hc := h1 s t
  rw [← h, cmpB_self] at hc
  have c0 : cmpOne (cmpR (r - 1)) x y = 0 := by
    unfold orElse0 at hc
    split at hc
    · assumption
    · exact hc.symm
  have e := h2 c0
  subst e
  exact ⟨rfl, List.append_cancel_left h⟩
def fin : Nat → List UInt8 → List UInt8
  | 0, _ => []
  | _ + 1, b => 0 :: b

def ItemsC (aT : Addr) (rb d r : Nat) : Prop := ∀ (t : List UInt8) (w : World), TextAt aT w → RdAt w rb (S t) → t.length ≤ 65536 →
    Calls Tryd.prog 28 #[.pointer (some ⟨rb, 0, none⟩), .int .i64 (d : Int)] w fun e w' => (∃ l v b, t = encL l ++ fin d b ∧ VL r l ∧ e = .returned v ∧ ItsOwn w' w.heap.size v l ∧ Rest rb w w' b) ∨ (e = gone aT ∧ Sole rb w w' ∧ ∀ l b, VL r l → t ≠ encL l ++ fin d b)

/-- The block of a struct of the call's own. -/
def Bx (w : World) (H : Nat) (a b c d : Value) : Prop := w.heap[H]? = some (.cells #[a, b, c, d] 43 (0, 0))
theorem Bx.new (w : World) (a b c d : Value) : Bx (w.alloc (.cells #[a, b, c, d] 43)) w.heap.size a b c d := heap_alloc_new w _
theorem Bx.sole {w w' : World} {H rb : Nat} {a b c d : Value} (h : Bx w H a b c d) (hs : Sole rb w w') (hn : H ≠ rb) : Bx w' H a b c d := by
  unfold Bx
  have hlt : H < w.heap.size := by
    rcases Nat.lt_or_ge H w.heap.size with h' | h'
    · exact h'
    · unfold Bx at h; rw [Array.getElem?_eq_none h'] at h; cases h
  rw [hs.block H hlt hn]; exact h
theorem Bx.c0 {w : World} {H : Nat} {a b c d : Value} (h : Bx w H a b c d) : w.cell? ⟨H, 0, none⟩ = some a := by rw [cell_of_row w H 0 _ _ _ h]; rfl
theorem Bx.c1 {w : World} {H : Nat} {a b c d : Value} (h : Bx w H a b c d) : w.cell? ⟨H, 1, none⟩ = some b := by rw [cell_of_row w H 1 _ _ _ h]; rfl
theorem Bx.c2 {w : World} {H : Nat} {a b c d : Value} (h : Bx w H a b c d) : w.cell? ⟨H, 2, none⟩ = some c := by rw [cell_of_row w H 2 _ _ _ h]; rfl
theorem Bx.c3 {w : World} {H : Nat} {a b c d : Value} (h : Bx w H a b c d) : w.cell? ⟨H, 3, none⟩ = some d := by rw [cell_of_row w H 3 _ _ _ h]; rfl
theorem Bx.fr {w : World} {H : Nat} {a b c d : Value} (h : Bx w H a b c d) (o : Nat) : w.frozen? ⟨H, o, none⟩ = false := by
  unfold World.frozen?
  rw [show w.heap[(⟨H, o, none⟩ : Addr).block]? = _ from h]
  rfl
theorem Bx.set0 {w : World} {H : Nat} {a b c d : Value} (h : Bx w H a b c d) (u : Value) : Bx (w.setCell ⟨H, 0, none⟩ u) H u b c d := heap_setCell_same w H 0 _ _ u h
theorem Bx.set1 {w : World} {H : Nat} {a b c d : Value} (h : Bx w H a b c d) (u : Value) : Bx (w.setCell ⟨H, 1, none⟩ u) H a u c d := heap_setCell_same w H 1 _ _ u h
theorem Bx.set2 {w : World} {H : Nat} {a b c d : Value} (h : Bx w H a b c d) (u : Value) : Bx (w.setCell ⟨H, 2, none⟩ u) H a b u d := heap_setCell_same w H 2 _ _ u h
theorem Bx.set3 {w : World} {H : Nat} {a b c d : Value} (h : Bx w H a b c d) (u : Value) : Bx (w.setCell ⟨H, 3, none⟩ u) H a b c u := heap_setCell_same w H 3 _ _ u h
theorem Bx.other {w : World} {H X o : Nat} {a b c d : Value} (h : Bx w H a b c d) (u : Value) (hn : X ≠ H) : Bx (w.setCell ⟨X, o, none⟩ u) H a b c d := by
  unfold Bx; rw [heap_setCell_other w ⟨X, o, none⟩ H u (fun e => hn e.symm)]; exact h
theorem Bx.four {w : World} {H : Nat} {a' b' c' d' : Value} (h : Bx w H a' b' c' d') (a b c d : Value) : Bx ((((w.setCell ⟨H, 0, none⟩ a).setCell ⟨H, 1, none⟩ b).setCell ⟨H, 2, none⟩ c).setCell ⟨H, 3, none⟩ d) H a b c d := (((h.set0 a).set1 b).set2 c).set3 d
theorem Sole.new {rb H o : Nat} {w a : World} (h : Sole rb w a) (u : Value) (hH : w.heap.size ≤ H) : Sole rb w (a.setCell ⟨H, o, none⟩ u) :=
  ⟨h.os, h.tape, h.output, by simpa [World.setCell] using h.size, fun k hk hn => (Below.heap_setCell a ⟨H, o, none⟩ u k (by simp; omega)).trans (h.block k hk hn)⟩
theorem RdAt.set' {w : World} {rb H o : Nat} {t : ByteArray} (h : RdAt w rb t) (u : Value) (hn : H ≠ rb) : RdAt (w.setCell ⟨H, o, none⟩ u) rb t := by
  unfold RdAt
  rw [Below.heap_setCell w ⟨H, o, none⟩ u rb (fun e => hn e.symm)]
  exact h
theorem Rest.new {rb H o : Nat} {w a : World} {t : List UInt8} (h : Rest rb w a t) (u : Value) (hH : w.heap.size ≤ H) (hn : H ≠ rb) : Rest rb w (a.setCell ⟨H, o, none⟩ u) t := ⟨h.at_.set' u hn, h.sole.new u hH⟩
theorem Rest.four {rb H : Nat} {w0 w : World} {t : List UInt8} (h : Rest rb w0 w t) (hH : w0.heap.size ≤ H) (hn : H ≠ rb) (a b c d : Value) : Rest rb w0 ((((w.setCell ⟨H, 0, none⟩ a).setCell ⟨H, 1, none⟩ b).setCell ⟨H, 2, none⟩ c).setCell ⟨H, 3, none⟩ d) t :=
  (((h.new a hH hn).new b hH hn).new c hH hn).new d hH hn
theorem Sole.four {rb H : Nat} {w0 w : World} (h : Sole rb w0 w) (hH : w0.heap.size ≤ H) (a b c d : Value) : Sole rb w0 ((((w.setCell ⟨H, 0, none⟩ a).setCell ⟨H, 1, none⟩ b).setCell ⟨H, 2, none⟩ c).setCell ⟨H, 3, none⟩ d) :=
  (((h.new a hH).new b hH).new c hH).new d hH
theorem plain_item (r : Nat) (k n : Int) (s : ByteArray) (hf : fits (.mk k n s []) = true) (hk : k ≠ 5) (ho : (It.mk k n s []).Ok) : VI r (.mk k n s []) :=
  ⟨oneF_none hf fun e => absurd e hk, ho, fun e => absurd e hk⟩

theorem ok_mk' (k n : Int) (s : ByteArray) (l : List It) (k1 : -9223372036854775808 ≤ k) (k2 : k ≤ 9223372036854775807) (n1 : -9223372036854775808 ≤ n) (n2 : n ≤ 9223372036854775807) (hs : s.size ≤ 140737488351232) : (It.mk k n s l).Ok := ⟨k1, k2, n1, n2, hs⟩
theorem ne_num (c : UInt8) (k : Nat) (hk : k < 256) (h : c ≠ UInt8.ofNat k) : ((c.toNat : Int) == (k : Int)) = false := by
  simp
  intro e
  apply h
  apply UInt8.toNat_inj.1
  rw [UInt8.toNat_ofNat', Nat.mod_eq_of_lt (by omega)]
  omega
theorem list_enc (l : List It) (b' : List UInt8) (d : Nat) : 5 :: (encL l ++ fin (d + 1) b') = (It.mk 5 0 ⟨#[]⟩ l).enc ++ b' := by
  simp only [It.enc, bodyOf]
  simp [fin]
  rfl
theorem list_item (r : Nat) (l : List It) (h : VL r l) : VI (r + 1) (.mk 5 0 ⟨#[]⟩ l) :=
  ⟨oneF_none (by simp [fits, fitB, It.kind, It.num, It.text, ByteArray.toList_eq]) fun _ => h.fault, ok_mk' _ _ _ _ (by decide) (by decide) (by decide) (by decide) (by decide), fun _ => h.okR⟩
theorem its_set {w : World} {F : Nat → Prop} {v : Value} {l : List It} (h : ItsAt w F v l) (X o : Nat) (u : Value) (hf : ∀ g, F g → g ≠ X) : ItsAt (w.setCell ⟨X, o, none⟩ u) F v l :=
  h.but (But.of_set w X o u) (fun g hg e => hf g hg (Option.some.inj e))
theorem its_four {w : World} {X o H B : Nat} {v : Value} {l : List It} {u a b c d : Value} (h : ItsAt w (fun g => B ≤ g) v l) (hX : X < B) (hH : H < B) :
    ItsAt (((((w.setCell ⟨X, o, none⟩ u).setCell ⟨H, 0, none⟩ a).setCell ⟨H, 1, none⟩ b).setCell ⟨H, 2, none⟩ c).setCell ⟨H, 3, none⟩ d) (fun g => B ≤ g) v l :=
  its_set (its_set (its_set (its_set (its_set h X o u (fun g hg => by omega)) H 0 a (fun g hg => by omega)) H 1 b (fun g hg => by omega)) H 2 c (fun g hg => by omega)) H 3 d (fun g hg => by omega)
theorem Rest.alloc {rb : Nat} {w a : World} {t : List UInt8} (h : Rest rb w a t) (o : Obj) : Rest rb w (a.alloc o) t := ⟨h.at_.keep (below_new _ _), h.sole.trans (Sole.of_below (below_new _ _))⟩
theorem flag_fits (c : UInt8) (hc : c.toNat ≤ 1) : fits (.mk 2 (c.toNat : Int) ⟨#[]⟩ []) = true := by
  have : c.toNat = 0 ∨ c.toNat = 1 := by omega
  rcases this with h | h <;> rw [h] <;> simp [fits, fitB, It.kind, It.num, It.text, It.list, ByteArray.toList_eq]
theorem flag_enc (c : UInt8) (b' : List UInt8) : 2 :: c :: b' = (It.mk 2 (c.toNat : Int) ⟨#[]⟩ []).enc ++ b' := by
  have h : byteOf (c.toNat : Int) = c := by
    apply UInt8.toNat_inj.1
    have := byteOf_nat (c.toNat : Int)
    have := UInt8.toNat_lt c
    omega
  simp only [It.enc, bodyOf]
  simp [h]
  rfl
theorem text_ok (s b' : List UInt8) (h : (4 :: (encT s ++ b')).length ≤ 65536) : (It.mk 4 0 (S s) []).text.size ≤ 140737488351232 := by
  show (S s).size ≤ _
  rw [S_size]
  have := escL_len s
  simp only [encT, List.length_cons, List.length_append] at h
  omega
set_option maxHeartbeats 1000000 in
theorem item_any (aT : Addr) (rb d r : Nat) (hd : d + r = 4) (hn : rb ≠ 1) (hI : ∀ r', r = r' + 1 → ItemsC aT rb (d + 1) r') (t : List UInt8) (w : World) (ht : TextAt aT w) (hr : RdAt w rb (S t)) (hs : t.length ≤ 65536) :
    Calls Tryd.prog 39 #[.pointer (some ⟨rb, 0, none⟩), .int .i64 (d : Int)] w fun e w' => (∃ x lv b, t = x.enc ++ b ∧ VI r x ∧ e = .returned (.agg #[.int .i64 x.kind, .int .i64 x.num, .string x.text, lv]) ∧ ItsAt w' (fun g => w.heap.size ≤ g) lv x.list ∧ Rest rb w w' b) ∨ (e = gone aT ∧ Sole rb w w' ∧ ∀ x b, VI r x → t ≠ x.enc ++ b) := by
  have hlt := hr.lt
  cases t with
  | nil =>
    have NO : Hid (∀ (x : It) b, VI r x → [] ≠ x.enc ++ b) := fun x b _ h => by rw [x.enc_eq] at h; cases h
    have b0 := below_new w (.cells #[.int .i64 0, .int .i64 0, .string ⟨#[]⟩, .slice none 0 0] 43)
    have T := next_no aT rb _ (cell_below b0 ht) (hr.keep b0)
    clear ht hr hI hs
    go_enter Tryd.func39, Tryd.ntmps39
    go_wp2_with fail
    refine T.mono ?_
    rintro e w1 ⟨rfl, rfl⟩
    exact ⟨rfl, .inr ⟨rfl, Sole.of_below b0, NO.out⟩⟩
  | cons c b =>
    have b0 := below_new w (.cells #[.int .i64 0, .int .i64 0, .string ⟨#[]⟩, .slice none 0 0] 43)
    have T := next_ok rb c b _ (hr.keep b0)
    have x0 := Bx.new w (.int .i64 0) (.int .i64 0) (.string ⟨#[]⟩) (.slice none 0 0)
    have HT : Hid (TextAt aT w) := ht
    clear hr ht
    go_enter Tryd.func39, Tryd.ntmps39
    go_wp2_with fail
    refine T.mono ?_
    rintro e w1 ⟨rfl, hR⟩
    have hne : w.heap.size ≠ rb := by omega
    have x1 := x0.sole hR.sole hne
    have hS1 : Sole rb w w1 := (Sole.of_below b0).trans hR.sole
    have HR1 : Hid (Rest rb w w1 b) := ⟨hR.at_, hS1⟩
    have hw : IntKind.i64.wrap (c.toNat : Int) = (c.toNat : Int) := wrap_i64 _ (by omega) (by have := UInt8.toNat_lt c; omega)
    have hsz1 := hS1.size
    have b1 := below_new w1 (.cells #[.int .i64 (c.toNat : Int), .int .i64 0, .string ⟨#[]⟩, .slice none 0 0] 43)
    have x2 := Bx.new w1 (.int .i64 (c.toNat : Int)) (.int .i64 0) (.string ⟨#[]⟩) (.slice none 0 0)
    have HT2 := cell_below b1 (HT.out.sole hS1 hn)
    have HR2 : Rest rb w (w1.alloc (.cells #[.int .i64 (c.toNat : Int), .int .i64 0, .string ⟨#[]⟩, .slice none 0 0] 43)) b := ⟨HR1.out.at_.keep b1, hS1.trans (Sole.of_below b1)⟩
    have hne2 : w1.heap.size ≠ rb := by omega
    have y2 := x1.sole (rb := rb) (Sole.of_below b1) hne
    have hHH : w.heap.size < w1.heap.size := by
      rcases Nat.lt_or_ge w.heap.size w1.heap.size with h' | h'
      · exact h'
      · have := x1; unfold Bx at this; rw [Array.getElem?_eq_none h'] at this; cases this
    clear x0 T hR b0 hS1 HT
    by_cases e1 : c = 1
    · subst e1
      have HR3 := HR1
      have Y2 : Hid (Bx w1 w.heap.size (.int .i64 0) (.int .i64 0) (.string ⟨#[]⟩) (.slice none 0 0)) := x1
      have d0 := x1.c0
      have d1 := x1.c1
      have d2 := x1.c2
      have d3 := x1.c3
      have g0 := x1.fr 0
      have g1 := x1.fr 1
      have g2 := x1.fr 2
      have g3 := x1.fr 3
      clear HR2 HT2 x2 b1 y2 x1
      go_wp2_with fail
      (try simp only [Exit.inBlock, Exit.then])
      refine bodyPost_ret (results_cell_row rfl _ _ w.heap.size 43 #[.int .i64 1, .int .i64 0, .string ⟨#[]⟩, .slice none 0 0] (0, 0) _ rfl ((Y2.out.four _ _ _ _).sole (rb := rb) (Sole.of_below (below_new _ _)) hne) Tryd.underlying43 rfl (by kernel_rfl)) rfl ?_
      refine .inl ⟨.mk 1 0 ⟨#[]⟩ [], .slice none 0 0, b, rfl, plain_item r 1 0 _ (by simp [fits, fitB, It.kind, It.num, It.text, It.list, ByteArray.toList_eq]) (by decide) (ok_mk' _ _ _ _ (by decide) (by decide) (by decide) (by decide) (by decide)), rfl, its_nil _ _ _ _, (HR3.out.four (Nat.le_refl _) hne _ _ _ _).alloc _⟩
    · by_cases e2 : c = 2
      · subst e2
        clear e1
        have F := flag_any aT rb b _ HT2 HR2.at_ hn
        have X2 : Hid (Bx (w1.alloc (.cells #[.int .i64 2, .int .i64 0, .string ⟨#[]⟩, .slice none 0 0] 43)) w1.heap.size (.int .i64 2) (.int .i64 0) (.string ⟨#[]⟩) (.slice none 0 0)) := x2
        have Y2 : Hid (Bx (w1.alloc (.cells #[.int .i64 2, .int .i64 0, .string ⟨#[]⟩, .slice none 0 0] 43)) w.heap.size (.int .i64 0) (.int .i64 0) (.string ⟨#[]⟩) (.slice none 0 0)) := y2
        have HR3 : Hid (Rest rb w (w1.alloc (.cells #[.int .i64 2, .int .i64 0, .string ⟨#[]⟩, .slice none 0 0] 43)) b) := HR2
        clear HR2 HT2 x2 b1 y2 x1
        go_wp2_with fail
        refine F.mono ?_
        rintro e w3 (⟨c, b', rfl, hc, rfl, hR⟩ | ⟨rfl, hS, hno⟩)
        · have x3 := X2.out.sole hR.sole hne2
          have y3 := Y2.out.sole hR.sole hne
          have HR4 : Hid (Rest rb w w3 b') := HR3.out.trans hR
          have Y3 : Hid (Bx w3 w.heap.size (.int .i64 0) (.int .i64 0) (.string ⟨#[]⟩) (.slice none 0 0)) := y3
          have c0 := x3.c0
          have c1 := x3.c1
          have c2 := x3.c2
          have c3 := x3.c3
          have f1 := x3.fr 1
          have d0 := y3.c0
          have d1 := y3.c1
          have d2 := y3.c2
          have d3 := y3.c3
          have g0 := y3.fr 0
          have g1 := y3.fr 1
          have g2 := y3.fr 2
          have g3 := y3.fr 3
          clear x3 y3 hR HR3 X2 Y2 F
          go_wp2_with fail
          (try simp only [Exit.inBlock, Exit.then])
          refine bodyPost_ret (results_cell_row rfl _ _ w.heap.size 43 #[.int .i64 2, .int .i64 (c.toNat : Int), .string ⟨#[]⟩, .slice none 0 0] (0, 0) _ rfl ((Y3.out.other _ (by omega)).four _ _ _ _) Tryd.underlying43 rfl (by kernel_rfl)) rfl ?_
          refine .inl ⟨.mk 2 (c.toNat : Int) ⟨#[]⟩ [], .slice none 0 0, b', flag_enc c b', plain_item r 2 _ _ (flag_fits c hc) (by decide) (ok_mk' _ _ _ _ (by decide) (by decide) (by omega) (by have := UInt8.toNat_lt c; omega) (by decide)), rfl, its_nil _ _ _ _, (HR4.out.new _ (by omega) hne2).four (Nat.le_refl _) hne _ _ _ _⟩
        · have NO : Hid (∀ x b', VI r x → 2 :: b ≠ x.enc ++ b') := fun x b' hx h => by
            obtain ⟨k, e⟩ := head_kind hx h
            have hk : x.kind = 2 := k.symm
            rw [hk] at e
            have hf := fit_flag' (oneF_zero hx.one).1 hk
            have e' : b = byteOf x.num :: b' := e
            refine hno _ _ e' ?_
            have := byteOf_nat x.num
            rcases hf with h | h <;> rw [h] at this ⊢ <;> omega
          exact ⟨rfl, .inr ⟨rfl, HR3.out.sole.trans hS, NO.out⟩⟩
      · by_cases e3 : c = 3
        · subst e3
          clear e1 e2
          have F := num_any aT rb b _ HT2 HR2.at_
          have X2 : Hid (Bx (w1.alloc (.cells #[.int .i64 3, .int .i64 0, .string ⟨#[]⟩, .slice none 0 0] 43)) w1.heap.size (.int .i64 3) (.int .i64 0) (.string ⟨#[]⟩) (.slice none 0 0)) := x2
          have Y2 : Hid (Bx (w1.alloc (.cells #[.int .i64 3, .int .i64 0, .string ⟨#[]⟩, .slice none 0 0] 43)) w.heap.size (.int .i64 0) (.int .i64 0) (.string ⟨#[]⟩) (.slice none 0 0)) := y2
          have HR3 : Hid (Rest rb w (w1.alloc (.cells #[.int .i64 3, .int .i64 0, .string ⟨#[]⟩, .slice none 0 0] 43)) b) := HR2
          clear HR2 HT2 x2 b1 y2 x1
          go_wp2_with fail
          refine F.mono ?_
          rintro e w3 (⟨n, b', rfl, hn1, hn2, rfl, hR⟩ | ⟨rfl, hS, hno⟩)
          · have x3 := X2.out.sole hR.sole hne2
            have y3 := Y2.out.sole hR.sole hne
            have HR4 : Hid (Rest rb w w3 b') := HR3.out.trans hR
            have Y3 : Hid (Bx w3 w.heap.size (.int .i64 0) (.int .i64 0) (.string ⟨#[]⟩) (.slice none 0 0)) := y3
            have c0 := x3.c0
            have c1 := x3.c1
            have c2 := x3.c2
            have c3 := x3.c3
            have f1 := x3.fr 1
            have d0 := y3.c0
            have d1 := y3.c1
            have d2 := y3.c2
            have d3 := y3.c3
            have g0 := y3.fr 0
            have g1 := y3.fr 1
            have g2 := y3.fr 2
            have g3 := y3.fr 3
            clear x3 y3 hR HR3 X2 Y2 F
            go_wp2_with fail
            (try simp only [Exit.inBlock, Exit.then])
            refine bodyPost_ret (results_cell_row rfl _ _ w.heap.size 43 #[.int .i64 3, .int .i64 n, .string ⟨#[]⟩, .slice none 0 0] (0, 0) _ rfl ((Y3.out.other _ (by omega)).four _ _ _ _) Tryd.underlying43 rfl (by kernel_rfl)) rfl ?_
            refine .inl ⟨.mk 3 n ⟨#[]⟩ [], .slice none 0 0, b', rfl, plain_item r 3 _ _ (by simp [fits, fitB, It.kind, It.text, It.list, ByteArray.toList_eq]) (by decide) (ok_mk' _ _ _ _ (by decide) (by decide) hn1 hn2 (by decide)), rfl, its_nil _ _ _ _, (HR4.out.new _ (by omega) hne2).four (Nat.le_refl _) hne _ _ _ _⟩
          · have NO : Hid (∀ x b', VI r x → 3 :: b ≠ x.enc ++ b') := fun x b' hx h => by
              obtain ⟨k, e⟩ := head_kind hx h
              have hk : x.kind = 3 := k.symm
              rw [hk] at e
              have e' : b = num8 x.num ++ b' := e
              rw [e', List.length_append] at hno
              have : (num8 x.num).length = 8 := rfl
              omega
            exact ⟨rfl, .inr ⟨rfl, HR3.out.sole.trans hS, NO.out⟩⟩
        · by_cases e4 : c = 4
          · subst e4
            clear e1 e2 e3
            have F := text_any aT rb b _ HT2 HR2.at_ hn (by rw [List.length_cons] at hs; omega)
            have X2 : Hid (Bx (w1.alloc (.cells #[.int .i64 4, .int .i64 0, .string ⟨#[]⟩, .slice none 0 0] 43)) w1.heap.size (.int .i64 4) (.int .i64 0) (.string ⟨#[]⟩) (.slice none 0 0)) := x2
            have Y2 : Hid (Bx (w1.alloc (.cells #[.int .i64 4, .int .i64 0, .string ⟨#[]⟩, .slice none 0 0] 43)) w.heap.size (.int .i64 0) (.int .i64 0) (.string ⟨#[]⟩) (.slice none 0 0)) := y2
            have HR3 : Hid (Rest rb w (w1.alloc (.cells #[.int .i64 4, .int .i64 0, .string ⟨#[]⟩, .slice none 0 0] 43)) b) := HR2
            clear HR2 HT2 x2 b1 y2 x1
            go_wp2_with fail
            refine F.mono ?_
            rintro e w3 (⟨s, b', rfl, rfl, hR⟩ | ⟨rfl, hS, hno⟩)
            · have x3 := X2.out.sole hR.sole hne2
              have y3 := Y2.out.sole hR.sole hne
              have HR4 : Hid (Rest rb w w3 b') := HR3.out.trans hR
              have Y3 : Hid (Bx w3 w.heap.size (.int .i64 0) (.int .i64 0) (.string ⟨#[]⟩) (.slice none 0 0)) := y3
              have c0 := x3.c0
              have c1 := x3.c1
              have c2 := x3.c2
              have c3 := x3.c3
              have f1 := x3.fr 2
              have d0 := y3.c0
              have d1 := y3.c1
              have d2 := y3.c2
              have d3 := y3.c3
              have g0 := y3.fr 0
              have g1 := y3.fr 1
              have g2 := y3.fr 2
              have g3 := y3.fr 3
              clear x3 y3 hR HR3 X2 Y2 F
              go_wp2_with fail
              (try simp only [Exit.inBlock, Exit.then])
              refine bodyPost_ret (results_cell_row rfl _ _ w.heap.size 43 #[.int .i64 4, .int .i64 0, .string (S s), .slice none 0 0] (0, 0) _ rfl ((Y3.out.other _ (by omega)).four _ _ _ _) Tryd.underlying43 rfl (by kernel_rfl)) rfl ?_
              refine .inl ⟨.mk 4 0 (S s) [], .slice none 0 0, b', rfl, plain_item r 4 _ _ (by simp [fits, fitB, It.kind, It.num, It.list]) (by decide) (ok_mk' _ _ _ _ (by decide) (by decide) (by decide) (by decide) (text_ok s b' hs)), rfl, its_nil _ _ _ _, (HR4.out.new _ (by omega) hne2).four (Nat.le_refl _) hne _ _ _ _⟩
            · have NO : Hid (∀ x b', VI r x → 4 :: b ≠ x.enc ++ b') := fun x b' hx h => by
                obtain ⟨k, e⟩ := head_kind hx h
                have hk : x.kind = 4 := k.symm
                rw [hk] at e
                exact hno _ _ e
              exact ⟨rfl, .inr ⟨rfl, HR3.out.sole.trans hS, NO.out⟩⟩
          · by_cases e5 : c = 5
            · subst e5
              clear e1 e2 e3 e4
              cases r with
              | zero =>
                have h4 : ¬ (d : Int) < 4 := by omega
                have G := giveUp_any aT (.pointer (some ⟨rb, 0, none⟩)) _ HT2
                have NO : Hid (∀ x b', VI 0 x → 5 :: b ≠ x.enc ++ b') := fun x b' hx h => by
                  obtain ⟨k, e⟩ := head_kind hx h
                  obtain ⟨r', e, _⟩ := hx.pos k.symm
                  cases e
                have HR3 : Hid (Rest rb w (w1.alloc (.cells #[.int .i64 5, .int .i64 0, .string ⟨#[]⟩, .slice none 0 0] 43)) b) := HR2
                clear HR2 HT2 x2 b1 y2 x1 hI
                go_wp2_with fail
                refine G.mono ?_
                rintro e w3 ⟨rfl, rfl⟩
                exact ⟨rfl, .inr ⟨rfl, HR3.out.sole, NO.out⟩⟩
              | succ r =>
                have h4 : (d : Int) < 4 := by omega
                have F := hI r rfl b _ HT2 HR2.at_ (by rw [List.length_cons] at hs; omega)
                have X2 : Hid (Bx (w1.alloc (.cells #[.int .i64 5, .int .i64 0, .string ⟨#[]⟩, .slice none 0 0] 43)) w1.heap.size (.int .i64 5) (.int .i64 0) (.string ⟨#[]⟩) (.slice none 0 0)) := x2
                have Y2 : Hid (Bx (w1.alloc (.cells #[.int .i64 5, .int .i64 0, .string ⟨#[]⟩, .slice none 0 0] 43)) w.heap.size (.int .i64 0) (.int .i64 0) (.string ⟨#[]⟩) (.slice none 0 0)) := y2
                have HR3 : Hid (Rest rb w (w1.alloc (.cells #[.int .i64 5, .int .i64 0, .string ⟨#[]⟩, .slice none 0 0] 43)) b) := HR2
                have hsz2 : w1.heap.size + 1 = (w1.alloc (.cells #[.int .i64 5, .int .i64 0, .string ⟨#[]⟩, .slice none 0 0] 43)).heap.size := by simp
                have HSZ : Hid (w1.heap.size + 1 = (w1.alloc (.cells #[.int .i64 ((5 : UInt8).toNat : Int), .int .i64 0, .string ⟨#[]⟩, .slice none 0 0] 43)).heap.size) := hsz2
                clear HR2 HT2 x2 b1 y2 x1 hI hsz2
                go_wp2_with fail
                refine F.mono ?_
                rintro e w3 (⟨l, v, b', rfl, hvl, rfl, hown, hR⟩ | ⟨rfl, hS, hno⟩)
                · have x3 := X2.out.sole hR.sole hne2
                  have y3 := Y2.out.sole hR.sole hne
                  have HR4 : Hid (Rest rb w w3 b') := HR3.out.trans hR
                  have Y3 : Hid (Bx w3 w.heap.size (.int .i64 0) (.int .i64 0) (.string ⟨#[]⟩) (.slice none 0 0)) := y3
                  have c0 := x3.c0
                  have c1 := x3.c1
                  have c2 := x3.c2
                  have c3 := x3.c3
                  have f1 := x3.fr 3
                  have d0 := y3.c0
                  have d1 := y3.c1
                  have d2 := y3.c2
                  have d3 := y3.c3
                  have g0 := y3.fr 0
                  have g1 := y3.fr 1
                  have g2 := y3.fr 2
                  have g3 := y3.fr 3
                  obtain ⟨av, cv, rfl⟩ := hown.form
                  have HI3 : Hid (ItsAt w3 (fun g => w1.heap.size + 1 ≤ g) (.slice av l.length cv) l) := by
                    have := hown.at' (by have := hvl.len; omega)
                    rw [← HSZ.out] at this
                    exact this
                  have HV : Hid (VL r l) := hvl
                  clear x3 y3 hR HR3 X2 Y2 F hown hvl
                  go_wp2_with fail
                  (try simp only [Exit.inBlock, Exit.then])
                  refine bodyPost_ret (results_cell_row rfl _ _ w.heap.size 43 #[.int .i64 5, .int .i64 0, .string ⟨#[]⟩, .slice av l.length cv] (0, 0) _ rfl ((Y3.out.other _ (by omega)).four _ _ _ _) Tryd.underlying43 rfl (by kernel_rfl)) rfl ?_
                  refine .inl ⟨.mk 5 0 ⟨#[]⟩ l, .slice av l.length cv, b', list_enc l b' d, list_item r l HV.out, rfl, ?_, (HR4.out.new _ (by omega) hne2).four (Nat.le_refl _) hne _ _ _ _⟩
                  exact (its_four HI3.out (by omega) (by omega)).imp fun g hg => by omega
                · have NO : Hid (∀ x b', VI (r + 1) x → 5 :: b ≠ x.enc ++ b') := fun x b' hx h => by
                    obtain ⟨k, e⟩ := head_kind hx h
                    have hk : x.kind = 5 := k.symm
                    rw [hk] at e
                    obtain ⟨r', e1, e2, e3⟩ := hx.pos hk
                    cases e1
                    refine hno x.list b' (VL.of e2 e3) ?_
                    rw [e]
                    simp [bodyOf, fin]
                  exact ⟨rfl, .inr ⟨rfl, HR3.out.sole.trans hS, NO.out⟩⟩
            · have n1 : ((c.toNat : Int) == 1) = false := ne_num c 1 (by decide) e1
              have n2 : ((c.toNat : Int) == 2) = false := ne_num c 2 (by decide) e2
              have n3 : ((c.toNat : Int) == 3) = false := ne_num c 3 (by decide) e3
              have n4 : ((c.toNat : Int) == 4) = false := ne_num c 4 (by decide) e4
              have n5 : ((c.toNat : Int) == 5) = false := ne_num c 5 (by decide) e5
              have G := giveUp_any aT (.pointer (some ⟨rb, 0, none⟩)) _ HT2
              have NO : Hid (∀ x b', VI r x → c :: b ≠ x.enc ++ b') := fun x b' hx h => by
                obtain ⟨k, e⟩ := head_kind hx h
                have hk := hx.kind
                have m1 : (c.toNat : Int) ≠ 1 := by simpa using n1
                have m2 : (c.toNat : Int) ≠ 2 := by simpa using n2
                have m3 : (c.toNat : Int) ≠ 3 := by simpa using n3
                have m4 : (c.toNat : Int) ≠ 4 := by simpa using n4
                have m5 : (c.toNat : Int) ≠ 5 := by simpa using n5
                omega
              have HR3 : Hid (Rest rb w (w1.alloc (.cells #[.int .i64 (c.toNat : Int), .int .i64 0, .string ⟨#[]⟩, .slice none 0 0] 43)) b) := HR2
              clear HR2 HT2 x2 b1 y2 x1 hI e1 e2 e3 e4 e5
              go_wp2_with fail
              refine G.mono ?_
              rintro e w3 ⟨rfl, rfl⟩
              exact ⟨rfl, .inr ⟨rfl, HR3.out.sole, NO.out⟩⟩

end Go.Proofs.YtgljkgkophaefabDoor
