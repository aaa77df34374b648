import Derived.Test.YtlopimdnjookeaaDoorVBall
namespace Go.Proofs.YtlopimdnjookeaaDoor.V
open Go.RowKit Go.Maps

theorem allZ_zsec {t : ByteArray} (h : t.size = 512) (hz : allZ t = true) : t = zsec := by
  apply bl_inj
  rw [zsec, bl_mkb]
  have := of_decide_eq_true hz
  rw [h] at this
  exact this
theorem find_ins {x : Sec} {j : Int} : ∀ {l : List Sec}, (∀ y ∈ l, y.ix ≠ x.ix) → (insD x l).find? (fun y => decide (y.ix = j)) = if x.ix = j then some x else l.find? (fun y => decide (y.ix = j))
  | [], _ => by unfold insD; rw [List.find?_cons]; by_cases hx : x.ix = j <;> simp [hx]
  | y :: r, h => by
    unfold insD
    split
    · rw [List.find?_cons]; by_cases hx : x.ix = j <;> simp [hx]
    · rw [List.find?_cons, find_ins (fun z hz => h z (by simp [hz]))]
      by_cases hx : x.ix = j
      · have hy : y.ix ≠ j := fun e => h y (by simp) (e.trans hx.symm)
        simp [hx, hy]
      · simp [hx, List.find?_cons]
theorem find_drop {i j : Int} : ∀ l : List Sec, (dropD i l).find? (fun y => decide (y.ix = j)) = if i = j then none else l.find? (fun y => decide (y.ix = j))
  | [] => by simp [dropD]
  | y :: r => by
    have ih := find_drop (i := i) (j := j) r
    unfold dropD at ih ⊢
    rw [List.filter_cons]
    by_cases hy : y.ix = i
    · simp only [hy, ne_eq, not_true_eq_false, decide_false, Bool.false_eq_true, if_false, ih, List.find?_cons]
      by_cases hij : i = j <;> simp [hij]
    · simp only [ne_eq, hy, not_false_eq_true, decide_true, if_true, List.find?_cons, ih]
      by_cases hyj : y.ix = j
      · have : i ≠ j := fun e => hy (hyj.trans e.symm)
        simp [hyj, this]
      · simp [hyj]
theorem lasting_set (l : List Sec) (i j : Int) (t : ByteArray) (ht : t.size = 512) : lasting (setD l i t) j = if i = j then t else lasting l j := by
  unfold lasting setD
  cases hz : allZ t
  · rw [if_neg (by simp), find_ins (fun y hy => (dropD_mem hy).2), find_drop]
    by_cases h : i = j <;> simp [h]
  · rw [if_pos rfl, find_drop]
    by_cases h : i = j
    · simp [h, (allZ_zsec ht hz).symm]
    · simp [h]

theorem sync_chunks (dur : List Sec) (a : Int) (p : List UInt8) (hl : p.length = 4096) : ∀ n : Nat, n ≤ 8 → ∀ j : Int, lasting (syncD dur (chunks a p n)) j = if a ≤ j ∧ j < a + n then mkb ((p.drop ((j - a).toNat * 512)).take 512) else lasting dur j := by
  intro n
  induction n with
  | zero =>
    intro _ j
    rw [if_neg (by omega)]; rfl
  | succ n ih =>
    intro hn j
    have hs : (mkb ((p.drop (n * 512)).take 512)).size = 512 := by rw [mkb_size, List.length_take, List.length_drop]; omega
    rw [chunks_succ, syncD_snoc, chunk, lasting_set _ _ _ _ hs, ih (by omega) j]
    by_cases h1 : a + (n : Int) = j
    · subst h1
      rw [if_pos rfl, if_pos ⟨by omega, by omega⟩, show (a + (n : Int) - a).toNat = n by omega]
    · rw [if_neg h1]
      by_cases h2 : a ≤ j ∧ j < a + (n : Int)
      · rw [if_pos h2, if_pos ⟨h2.1, by omega⟩]
      · rw [if_neg h2, if_neg (by omega)]
theorem flat_chunks (p : List UInt8) : ∀ n : Nat, (List.range n).flatMap (fun i : Nat => (p.drop (i * 512)).take 512) = p.take (n * 512) := by
  intro n
  induction n with
  | zero => simp
  | succ n ih =>
    rw [List.range_succ, List.flatMap_append, ih, Nat.succ_mul, List.take_add]
    simp
theorem readB_dur (d : Dev) (hp : d.pend = []) (s : Int) (n : Nat) : readB d s n = (List.range n).flatMap fun i : Nat => bl (lasting d.dur (s + (i : Int))) := by
  unfold readB standing
  rw [hp]; rfl

end Go.Proofs.YtlopimdnjookeaaDoor.V
