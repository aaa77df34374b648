import Derived.Test.YtdghlblgmihbpaaDoorFRef2
namespace Go.Proofs.YtdghlblgmihbpaaDoor
open Go.RowKit

/-- append(v, x), with all that it leaves as it was. -/
theorem push2 (t e : TypeId) (z : Value) (bytes : Nat) (hinfo : (Tryd.prog.info? e).map (fun i => (i.zero, i.size, i.bytes)) = some (some z, 1, bytes)) (ht : Tryd.prog.underlying t = some (.slice e)) (hz1 : z.cells.size = 1)
    {w : World} {base n : Nat} {v : Value} {xs : List Value} (x : Value) (hx : x.oneCell' = true) (hown : w.ownsRow base e 1 v n xs) (hbase : base ≤ w.heap.size) (hn : (n + 1) * bytes ≤ 140737488355328) (hb1 : 1 ≤ bytes) :
    ∃ g cap w', (Builtin.append_ #[t, t] t #[v, .slice (some ⟨w.heap.size, 0, none⟩) 1 1]).run Tryd.prog (w.alloc (.cells #[x] e)) = .ok (.slice (some ⟨g, 0, none⟩) (n + 1) cap) w' ∧ w'.ownsRow base e 1 (.slice (some ⟨g, 0, none⟩) (n + 1) cap) (n + 1) (xs ++ [x]) ∧
      Only (fun k => v.ownBlock = some k) w w' ∧ (v.ownBlock = some g ∨ w.heap.size ≤ g) := by
  obtain ⟨i0, hi, hz, hsz, hby⟩ := info_parts hinfo
  have hB : (n + 1) * 1 ≤ (n + 1) * bytes := Nat.mul_le_mul_left _ hb1
  have hnew : (w.alloc (.cells #[x] e)).heap[w.heap.size]? = some (.cells #[x] e (0, 0)) := heap_alloc_new w _
  obtain ⟨g, cap, w', hr, ho, hg, hat, _⟩ := run_append_lies (P := Tryd.prog) (w.alloc (.cells #[x] e)) t t base e i0 z 1 bytes ht hi hz hsz hby hz1 (by decide) v n xs (owns_below hown (below_new _ _)) ⟨w.heap.size, 0, none⟩ 1 1 [x] rfl
    (fun j u hj => by
      rw [add_plain', Nat.zero_add, cell_of_row _ w.heap.size j _ _ _ hnew]
      simpa using hj) (by intro u hu; simp at hu; subst hu; exact hx) (by decide) (by unfold maxLen; omega) hn (by simp; omega) (w.heap.size + 1) (by simp)
  refine ⟨g, cap, w', hr, ho, ⟨hg.os, hg.tape, hg.output, ?_, fun k hk hne => ?_⟩, hat.imp id (fun h => by omega)⟩
  · have := hg.size; simp at this; omega
  · rw [hg.block k (by simp; omega) (fun h => hne h.symm), Below.heap_alloc _ _ _ hk]
theorem push_i {w : World} {base n : Nat} {v : Value} {xs : List Value} (x : Int) (hown : w.ownsRow base 3 1 v n xs) (hbase : base ≤ w.heap.size) (hn : n ≤ 1000000000) :
    ∃ g cap w', (Builtin.append_ #[28, 28] 28 #[v, .slice (some ⟨w.heap.size, 0, none⟩) 1 1]).run Tryd.prog (w.alloc (.cells #[.int .i64 x] 3)) = .ok (.slice (some ⟨g, 0, none⟩) (n + 1) cap) w' ∧ w'.ownsRow base 3 1 (.slice (some ⟨g, 0, none⟩) (n + 1) cap) (n + 1) (xs ++ [.int .i64 x]) ∧
      Only (fun k => v.ownBlock = some k) w w' ∧ (v.ownBlock = some g ∨ w.heap.size ≤ g) :=
  push2 28 3 _ 8 info3 Tryd.underlying28 rfl (.int .i64 x) rfl hown hbase (by omega) (by decide)
theorem below_only {w0 w w' : World} {base : Nat} {F : Nat → Prop} (hb : Below base w0 w) (ho : Only F w w') (hF : ∀ k, F k → base ≤ k) (hs : base ≤ w.heap.size) : Below base w0 w' := hb.trans (ho.below hF hs)

/-- All from 2 to e. -/
def rng (e : Nat) : List Nat := List.range' 2 (e - 2)
theorem rng_succ {e : Nat} (h : 2 ≤ e) : rng (e + 1) = rng e ++ [e] := by
  unfold rng
  rw [show e + 1 - 2 = (e - 2) + 1 by omega, List.range'_concat]
  congr 2
  omega
theorem rng_len (e : Nat) : (rng e).length = e - 2 := by simp [rng]
theorem tkl_full {T : Nat → Bool} : ∀ e, (∀ j, j < e → 2 ≤ j → T j = true) → tkl T e = rng e
  | 0, _ => rfl
  | e + 1, h => by
    rw [tkl_succ, tkl_full e (fun j hj h2 => h j (by omega) h2)]
    by_cases h2 : 2 ≤ e
    · rw [h e (by omega) h2, rng_succ h2]; simp [h2]
    · have e1 : rng (e + 1) = rng e := by unfold rng; rw [show e + 1 - 2 = e - 2 by omega]
      simp [h2, e1]
/-- The next of the taken ones. -/
theorem tkl_next (T : Nat → Bool) {e P : Nat} (h2 : 2 ≤ e) (hP : e < P) : (T e = true → ∃ h : (tkl T e).length < (tkl T P).length, (tkl T P)[(tkl T e).length] = e) ∧ (T e = false → ∀ h : (tkl T e).length < (tkl T P).length, (tkl T P)[(tkl T e).length] ≠ e) := by
  obtain ⟨R, e1, e2, _⟩ := tkl_cut T (e + 1) P hP
  constructor
  · intro hT
    have e3 : tkl T P = tkl T e ++ e :: R := by rw [e1, tkl_succ, hT]; simp [h2]
    have hl : (tkl T e).length < (tkl T P).length := by rw [e3]; simp
    refine ⟨hl, ?_⟩
    simp [e3]
  · intro hT h
    have e3 : tkl T P = tkl T e ++ R := by rw [e1, tkl_succ, hT]; simp
    have hm : (tkl T P)[(tkl T e).length] ∈ R := by
      have hr : 0 < R.length := by rw [e3] at h; simp at h; exact h
      have : (tkl T P)[(tkl T e).length] = R[0] := by simp [e3]
      rw [this]; exact List.getElem_mem _
    have := e2 _ hm
    omega
theorem frl_two {T : Nat → Bool} (h0 : T 0 = true) (h1 : T 1 = true) : frl T 2 = [] := by simp [frl, h0, h1]
theorem tkl_two (T : Nat → Bool) : tkl T 2 = [] := by simp [tkl, frl, ntT]
/-- What is taken behind a Take. -/
theorem tkl_taken {T : Nat → Bool} {e P : Nat} (hP : e ≤ P) : tkl (updL T (frl T e)) P = rng e ++ (tkl T P).drop (tkl T e).length := by
  obtain ⟨R, e1, e2, e3⟩ := tkl_cut T e P hP
  rw [e3 (updL T (frl T e)) (fun j hj => ?_), tkl_full e (fun j hj h2 => ?_), e1, List.drop_left]
  · unfold updL
    cases hT : T j with
    | true => rfl
    | false =>
      have : j ∈ frl T e := (frl_mem T).2 ⟨hj, hT⟩
      simp [this]
  · unfold updL
    have : j ∉ frl T e := fun h => by have := ((frl_mem T).1 h).1; omega
    simp [this]

end Go.Proofs.YtdghlblgmihbpaaDoor
