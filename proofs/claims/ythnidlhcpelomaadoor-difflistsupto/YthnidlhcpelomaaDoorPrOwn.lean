import Derived.Test.YthnidlhcpelomaaDoorPrR
import Derived.Lib.AppendZeros
namespace Go.Proofs.YthnidlhcpelomaaDoor
open Go.RowKit

/-- A list of the call's own that reads as these pairs. -/
def PrO (w : World) (base : Nat) (v : Value) (l : List Pr) : Prop := w.ownsRow base 28 2 v l.length (prs l)
theorem PrO.at {w : World} {base : Nat} {v : Value} {l : List Pr} (h : PrO w base v l) : PrR w v l := PrR.of_owns h
theorem PrO.form {w : World} {base : Nat} {v : Value} {l : List Pr} (h : PrO w base v l) : ∃ a c, v = .slice a l.length c := h.at.form
theorem PrO.below {w w' : World} {base : Nat} {v : Value} {l : List Pr} (h : PrO w base v l) (hb : Below w.heap.size w w') : PrO w' base v l := by
  refine ⟨h.1, ?_⟩
  rcases h.2 with h' | ⟨g, cap, cur, h', h1, h2, hr⟩
  · exact .inl h'
  · refine .inr ⟨g, cap, cur, h', h1, ?_, hr⟩
    have hg : g < w.heap.size := by
      rcases Nat.lt_or_ge g w.heap.size with h' | h'
      · exact h'
      · rw [Array.getElem?_eq_none h'] at h2; cases h2
    rw [hb.block g hg]; exact h2
theorem PrO.mono {w : World} {b b2 : Nat} {v : Value} {l : List Pr} (h : PrO w b v l) (hb : b2 ≤ b) : PrO w b2 v l := by
  refine ⟨h.1, ?_⟩
  rcases h.2 with h' | ⟨g, cap, cur, h', h1, hr⟩
  · exact .inl h'
  · exact .inr ⟨g, cap, cur, h', Nat.le_trans hb h1, hr⟩
theorem PrO.nil (w : World) (base : Nat) : PrO w base (.slice none 0 0) [] := World.ownsRow_nil _ _ _ _

/-- append(v, s...) of pairs. -/
theorem append_prs (base : Nat) (v s : Value) (xs us : List Pr) (w : World) (hown : PrO w base v xs) (hs : PrR w s us) (hb : (xs.length + us.length) * 32 ≤ 140737488355328) (hbase : base ≤ w.heap.size) :
    ∃ a' cap' w', (Builtin.append_ #[22, 22] 22 #[v, s]).run Tryd.prog w = .ok (.slice a' (xs.length + us.length) cap') w' ∧ PrO w' base (.slice a' (xs.length + us.length) cap') (xs ++ us) ∧ w.grownBy w' v.ownBlock := by
  obtain ⟨i0, hi, hz, hsz, hby⟩ := info_parts infoP
  obtain ⟨a, cap, rfl, hle, hnil, hc⟩ := hs
  have hf0 : ∃ a' c', v = .slice a' xs.length c' := hown.form
  unfold PrO at hown ⊢
  rw [List.length_append, prs_append]
  cases a with
  | none =>
    have h0 : us = [] := by
      cases us with
      | nil => rfl
      | cons u r => obtain ⟨g, o, he, _⟩ := hc 0 (by simp); cases he
    subst h0
    rw [hnil rfl]
    have hr := run_append_owned_none (P := Tryd.prog) w base 22 22 28 i0 2 Tryd.underlying22 hi v xs.length (prs xs) hown
    obtain ⟨a', c', rfl⟩ := hf0
    exact ⟨a', c', w, hr, by simpa [prs] using hown, ⟨rfl, rfl, rfl, Nat.le_refl _, fun _ _ _ => rfl⟩⟩
  | some ad =>
    obtain ⟨v', w', hr, hown', hgr, _⟩ := run_append_own (P := Tryd.prog) w base 22 22 28 i0 _ 2 32 Tryd.underlying22 hi hz hsz hby rfl (by decide) v xs.length (prs xs) hown ad us.length cap (prs us) (prs_length us) (fun j u hj => by
      have hj' := (List.getElem?_eq_some_iff.1 hj).1
      rw [prs_length] at hj'
      obtain ⟨g, o, he, c1, c2⟩ := hc (j / 2) (by omega)
      cases he
      have hg := prs_get us (j / 2) (by omega)
      rw [add_plain']
      rcases Nat.mod_two_eq_zero_or_one j with hm | hm
      · have e : j / 2 * 2 = j := by omega
        rw [e] at hg c1
        rw [hg.1] at hj; cases hj; exact c1
      · have e : j / 2 * 2 + 1 = j := by omega
        rw [Nat.add_assoc, e] at c2
        rw [e] at hg
        rw [hg.2] at hj; cases hj; exact c2) (prs_one us) (by unfold maxLen; omega) hb hbase
    have hf : ∃ a' c', v' = .slice a' (xs.length + us.length) c' := by
      rcases hown'.2 with ⟨rfl, h0⟩ | ⟨g, cap, cur, rfl, _⟩
      · exact ⟨none, 0, by rw [h0]⟩
      · exact ⟨_, _, rfl⟩
    obtain ⟨a', c', rfl⟩ := hf
    exact ⟨a', c', w', hr, hown', hgr⟩

theorem PrO.blk {w : World} {base : Nat} {v : Value} {l : List Pr} (h : PrO w base v l) : ∀ k, v.ownBlock = some k → base ≤ k ∧ k < w.heap.size := World.ownsRow.lt h
theorem prR_lit (w : World) (p : Pr) (t : TypeId) : PrR (w.alloc (.cells #[.string p.1, .string p.2] t)) (.slice (some ⟨w.heap.size, 0, none⟩) 1 1) [p] := by
  have hb := boxed_new w #[.string p.1, .string p.2] t
  refine ⟨_, _, rfl, Nat.le_refl _, fun h => (by cases h), fun j hj => ⟨_, _, rfl, ?_, ?_⟩⟩
  · have : j = 0 := by simpa using hj
    subst this
    exact hb.2 0 (by simp)
  · have : j = 0 := by simpa using hj
    subst this
    exact hb.2 1 (by simp)
/-- v = append(v, p). -/
theorem push_prs (base : Nat) (v : Value) (l : List Pr) (p : Pr) (t : TypeId) (w w0 : World) (B n : Nat) (hn : l.length = n) (hown : PrO w base v l) (hb : (n + 1) * 32 ≤ 140737488355328) (hbase : base ≤ w.heap.size) (hB : B ≤ base) (h0 : Below B w0 w) :
    ∃ a' cap' w', (Builtin.append_ #[22, 22] 22 #[v, .slice (some ⟨w.heap.size, 0, none⟩) 1 1]).run Tryd.prog (w.alloc (.cells #[.string p.1, .string p.2] t)) = .ok (.slice a' (n + 1) cap') w' ∧ PrO w' base (.slice a' (n + 1) cap') (l ++ [p]) ∧ Below B w0 w' ∧ w.heap.size ≤ w'.heap.size := by
  subst hn
  have ho : PrO (w.alloc (.cells #[.string p.1, .string p.2] t)) base v l := World.ownsRow.alloc hown _
  obtain ⟨a', cap', w', hr, hown', hg⟩ := append_prs base v _ l [p] _ ho (prR_lit w p t) (by simpa using hb) (by simp; omega)
  refine ⟨a', cap', w', hr, hown', ?_, ?_⟩
  · refine (h0.alloc (Nat.le_trans hB hbase) _).grown hg (by simp; omega) (fun k hk => Nat.le_trans hB (hown.blk k hk).1)
  · have := hg.size
    simp at this
    omega

end Go.Proofs.YthnidlhcpelomaaDoor
