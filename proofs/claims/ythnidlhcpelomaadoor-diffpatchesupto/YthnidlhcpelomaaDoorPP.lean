import Derived.Test.YthnidlhcpelomaaDoorMT
import Derived.Test.YthnidlhcpelomaaDoorRowR
import Derived.Lib.AppendZeros
namespace Go.Proofs.YthnidlhcpelomaaDoor
open Go.RowKit

/-- The cells of pairs. -/
def prs (l : List Pr) : List Value := l.flatMap fun p => [.string p.1, .string p.2]
theorem prs_cons (p : Pr) (l : List Pr) : prs (p :: l) = .string p.1 :: .string p.2 :: prs l := by simp [prs]
theorem prs_append (a b : List Pr) : prs (a ++ b) = prs a ++ prs b := by simp [prs]
theorem prs_length (l : List Pr) : (prs l).length = l.length * 2 := by
  induction l with
  | nil => rfl
  | cons p l ih => rw [prs_cons]; simp [ih]; omega
theorem prs_get (l : List Pr) : ∀ j (h : j < l.length), (prs l)[j * 2]? = some (.string l[j].1) ∧ (prs l)[j * 2 + 1]? = some (.string l[j].2) := by
  induction l with
  | nil => intro j h; simp at h
  | cons p l ih =>
    intro j h
    rw [prs_cons]
    cases j with
    | zero => exact ⟨rfl, rfl⟩
    | succ j =>
      have := ih j (by simpa using h)
      rw [show (j + 1) * 2 = j * 2 + 1 + 1 by omega]
      simpa using this
theorem prs_one (l : List Pr) : ∀ u ∈ prs l, u.oneCell' = true := by
  intro u hu
  simp only [prs, List.mem_flatMap] at hu
  obtain ⟨p, _, h⟩ := hu
  simp at h
  rcases h with rfl | rfl <;> rfl
theorem infoP : (Tryd.prog.info? 28).map (fun i => (i.zero, i.size, i.bytes)) = some (some (.agg #[.string ByteArray.empty, .string ByteArray.empty]), 2, 32) := by kernel_rfl

/-- The texts of pairs are such as a machine's can be. -/
def OkL (l : List Pr) : Prop := ∀ p ∈ l, p.1.size ≤ 140737488355328 ∧ p.2.size ≤ 140737488355328
/-- The slice value v reads as the pairs l. -/
def PrR (w : World) (v : Value) (l : List Pr) : Prop := ∃ a cap, v = .slice a l.length cap ∧ l.length ≤ cap ∧ (a = none → cap = 0) ∧
  ∀ j (h : j < l.length), ∃ g o, a = some ⟨g, o, none⟩ ∧ w.cell? ⟨g, o + j * 2, none⟩ = some (.string l[j].1) ∧ w.cell? ⟨g, o + j * 2 + 1, none⟩ = some (.string l[j].2)
theorem PrR.below {w w' : World} {v : Value} {l : List Pr} (h : PrR w v l) (hb : Below w.heap.size w w') : PrR w' v l := by
  obtain ⟨a, cap, rfl, hle, hn, hc⟩ := h
  refine ⟨a, cap, rfl, hle, hn, fun j hj => ?_⟩
  obtain ⟨g, o, ha, h1, h2⟩ := hc j hj
  exact ⟨g, o, ha, (hb.cell (p := ⟨g, o + j * 2, none⟩) (World.block_lt_of_cell? w _ h1)).trans h1, (hb.cell (p := ⟨g, o + j * 2 + 1, none⟩) (World.block_lt_of_cell? w _ h2)).trans h2⟩
theorem PrR.form {w : World} {v : Value} {l : List Pr} (h : PrR w v l) : ∃ a c, v = .slice a l.length c := by
  obtain ⟨a, c, rfl, _⟩ := h; exact ⟨a, c, rfl⟩
theorem PrR.of_owns {w : World} {base n : Nat} {v : Value} {l : List Pr} (h : w.ownsRow base 28 2 v n (prs l)) : PrR w v l := by
  have hl := h.1
  rw [prs_length] at hl
  have hl : l.length = n := by omega
  rcases h.2 with ⟨rfl, hn⟩ | ⟨g, cap, cur, rfl, hb, hg, hnc, hcm, hcs, htk⟩
  · have h0 : l.length = 0 := by omega
    exact ⟨none, 0, by rw [h0], by omega, fun _ => rfl, fun j hj => by omega⟩
  · refine ⟨some ⟨g, 0, none⟩, cap, by rw [hl], by omega, fun h => (by cases h), fun j hj => ⟨g, 0, rfl, ?_, ?_⟩⟩
    · rw [Nat.zero_add, h.cellAt (j * 2) (by omega)]; exact (prs_get l j hj).1
    · rw [Nat.zero_add, h.cellAt (j * 2 + 1) (by omega)]; exact (prs_get l j hj).2
theorem PrR.take {w : World} {a : Option Addr} {n m cap : Nat} {l : List Pr} (h : PrR w (.slice a n cap) l) (hm : m ≤ n) : PrR w (.slice a m cap) (l.take m) := by
  obtain ⟨a', cap', he, hle, hn, hc⟩ := h
  cases he
  refine ⟨a, cap, by rw [List.length_take, Nat.min_eq_left hm], by rw [List.length_take]; omega, hn, fun j hj => ?_⟩
  rw [List.length_take] at hj
  obtain ⟨g, o, ha, h1, h2⟩ := hc j (by omega)
  exact ⟨g, o, ha, by rw [List.getElem_take]; exact h1, by rw [List.getElem_take]; exact h2⟩
theorem PrR.nil (w : World) : PrR w (.slice none 0 0) [] := ⟨none, 0, rfl, Nat.le_refl _, fun _ => rfl, fun j h => by simp at h⟩

end Go.Proofs.YthnidlhcpelomaaDoor

namespace Go.Proofs.YthnidlhcpelomaaDoor
open Go.RowKit

/-- A list of the call's own that reads as these pairs. -/
def PrO (w : World) (base : Nat) (v : Value) (l : List Pr) : Prop := w.ownsRow base 28 2 v l.length (prs l)
theorem PrO.at {w : World} {base : Nat} {v : Value} {l : List Pr} (h : PrO w base v l) : PrR w v l := PrR.of_owns h
theorem PrO.form {w : World} {base : Nat} {v : Value} {l : List Pr} (h : PrO w base v l) : ∃ a c, v = .slice a l.length c := h.at.form
theorem PrO.below {w w' : World} {base : Nat} {v : Value} {l : List Pr} (h : PrO w base v l) (hb : Below w.heap.size w w') : PrO w' base v l := by
  refine ⟨h.1, ?_⟩
  rcases h.2 with h' | ⟨g, cap, cur, h', h1, h2, hr⟩
  · exact .inl h'
  · refine .inr ⟨g, cap, cur, h', h1, ?_, hr⟩
    have hg : g < w.heap.size := by
      rcases Nat.lt_or_ge g w.heap.size with h' | h'
      · exact h'
      · rw [Array.getElem?_eq_none h'] at h2; cases h2
    rw [hb.block g hg]; exact h2
theorem PrO.mono {w : World} {b b2 : Nat} {v : Value} {l : List Pr} (h : PrO w b v l) (hb : b2 ≤ b) : PrO w b2 v l := by
  refine ⟨h.1, ?_⟩
  rcases h.2 with h' | ⟨g, cap, cur, h', h1, hr⟩
  · exact .inl h'
  · exact .inr ⟨g, cap, cur, h', Nat.le_trans hb h1, hr⟩
theorem PrO.nil (w : World) (base : Nat) : PrO w base (.slice none 0 0) [] := World.ownsRow_nil _ _ _ _

/-- append(v, s...) of pairs. -/
theorem append_prs (base : Nat) (v s : Value) (xs us : List Pr) (w : World) (hown : PrO w base v xs) (hs : PrR w s us) (hb : (xs.length + us.length) * 32 ≤ 140737488355328) (hbase : base ≤ w.heap.size) :
    ∃ a' cap' w', (Builtin.append_ #[22, 22] 22 #[v, s]).run Tryd.prog w = .ok (.slice a' (xs.length + us.length) cap') w' ∧ PrO w' base (.slice a' (xs.length + us.length) cap') (xs ++ us) ∧ w.grownBy w' v.ownBlock := by
  obtain ⟨i0, hi, hz, hsz, hby⟩ := info_parts infoP
  obtain ⟨a, cap, rfl, hle, hnil, hc⟩ := hs
  have hf0 : ∃ a' c', v = .slice a' xs.length c' := hown.form
  unfold PrO at hown ⊢
  rw [List.length_append, prs_append]
  cases a with
  | none =>
    have h0 : us = [] := by
      cases us with
      | nil => rfl
      | cons u r => obtain ⟨g, o, he, _⟩ := hc 0 (by simp); cases he
    subst h0
    rw [hnil rfl]
    have hr := run_append_owned_none (P := Tryd.prog) w base 22 22 28 i0 2 Tryd.underlying22 hi v xs.length (prs xs) hown
    obtain ⟨a', c', rfl⟩ := hf0
    exact ⟨a', c', w, hr, by simpa [prs] using hown, ⟨rfl, rfl, rfl, Nat.le_refl _, fun _ _ _ => rfl⟩⟩
  | some ad =>
    obtain ⟨v', w', hr, hown', hgr, _⟩ := run_append_own (P := Tryd.prog) w base 22 22 28 i0 _ 2 32 Tryd.underlying22 hi hz hsz hby rfl (by decide) v xs.length (prs xs) hown ad us.length cap (prs us) (prs_length us) (fun j u hj => by
      have hj' := (List.getElem?_eq_some_iff.1 hj).1
      rw [prs_length] at hj'
      obtain ⟨g, o, he, c1, c2⟩ := hc (j / 2) (by omega)
      cases he
      have hg := prs_get us (j / 2) (by omega)
      rw [add_plain']
      rcases Nat.mod_two_eq_zero_or_one j with hm | hm
      · have e : j / 2 * 2 = j := by omega
        rw [e] at hg c1
        rw [hg.1] at hj; cases hj; exact c1
      · have e : j / 2 * 2 + 1 = j := by omega
        rw [Nat.add_assoc, e] at c2
        rw [e] at hg
        rw [hg.2] at hj; cases hj; exact c2) (prs_one us) (by unfold maxLen; omega) hb hbase
    have hf : ∃ a' c', v' = .slice a' (xs.length + us.length) c' := by
      rcases hown'.2 with ⟨rfl, h0⟩ | ⟨g, cap, cur, rfl, _⟩
      · exact ⟨none, 0, by rw [h0]⟩
      · exact ⟨_, _, rfl⟩
    obtain ⟨a', c', rfl⟩ := hf
    exact ⟨a', c', w', hr, hown', hgr⟩

theorem PrO.blk {w : World} {base : Nat} {v : Value} {l : List Pr} (h : PrO w base v l) : ∀ k, v.ownBlock = some k → base ≤ k ∧ k < w.heap.size := World.ownsRow.lt h
theorem prR_lit (w : World) (p : Pr) (t : TypeId) : PrR (w.alloc (.cells #[.string p.1, .string p.2] t)) (.slice (some ⟨w.heap.size, 0, none⟩) 1 1) [p] := by
  have hb := boxed_new w #[.string p.1, .string p.2] t
  refine ⟨_, _, rfl, Nat.le_refl _, fun h => (by cases h), fun j hj => ⟨_, _, rfl, ?_, ?_⟩⟩
  · have : j = 0 := by simpa using hj
    subst this
    exact hb.2 0 (by simp)
  · have : j = 0 := by simpa using hj
    subst this
    exact hb.2 1 (by simp)
/-- v = append(v, p). -/
theorem push_prs (base : Nat) (v : Value) (l : List Pr) (p : Pr) (t : TypeId) (w w0 : World) (B n : Nat) (hn : l.length = n) (hown : PrO w base v l) (hb : (n + 1) * 32 ≤ 140737488355328) (hbase : base ≤ w.heap.size) (hB : B ≤ base) (h0 : Below B w0 w) :
    ∃ a' cap' w', (Builtin.append_ #[22, 22] 22 #[v, .slice (some ⟨w.heap.size, 0, none⟩) 1 1]).run Tryd.prog (w.alloc (.cells #[.string p.1, .string p.2] t)) = .ok (.slice a' (n + 1) cap') w' ∧ PrO w' base (.slice a' (n + 1) cap') (l ++ [p]) ∧ Below B w0 w' ∧ w.heap.size ≤ w'.heap.size := by
  subst hn
  have ho : PrO (w.alloc (.cells #[.string p.1, .string p.2] t)) base v l := World.ownsRow.alloc hown _
  obtain ⟨a', cap', w', hr, hown', hg⟩ := append_prs base v _ l [p] _ ho (prR_lit w p t) (by simpa using hb) (by simp; omega)
  refine ⟨a', cap', w', hr, hown', ?_, ?_⟩
  · refine (h0.alloc (Nat.le_trans hB hbase) _).grown hg (by simp; omega) (fun k hk => Nat.le_trans hB (hown.blk k hk).1)
  · have := hg.size
    simp at this
    omega

end Go.Proofs.YthnidlhcpelomaaDoor
