import Derived.Test.YtiihnoohodklhaaDoorMT
import Derived.Test.YtiihnoohodklhaaDoorPP
namespace Go.Proofs.YtiihnoohodklhaaDoor
open Go.RowKit

/-- The cells of a change, of changes. -/
def chC (c : Ch) : List Value := [.string c.1, .bool c.2.had, .bool c.2.has, .string c.2.old, .string c.2.new]
def chs (l : List Ch) : List Value := l.flatMap chC
theorem chs_cons (c : Ch) (l : List Ch) : chs (c :: l) = chC c ++ chs l := by simp [chs]
theorem chs_append (a b : List Ch) : chs (a ++ b) = chs a ++ chs b := by simp [chs]
theorem chs_length (l : List Ch) : (chs l).length = l.length * 5 := by
  induction l with
  | nil => rfl
  | cons c l ih => rw [chs_cons]; simp [ih, chC]; omega
theorem chs_get (l : List Ch) : ∀ j (h : j < l.length) i (_ : i < 5), (chs l)[j * 5 + i]? = (chC l[j])[i]? := by
  induction l with
  | nil => intro j h; simp at h
  | cons c l ih =>
    intro j h i hi
    rw [chs_cons]
    cases j with
    | zero =>
      rw [List.getElem?_append_left (by simp [chC]; omega)]
      simp
    | succ j =>
      have := ih j (by simpa using h) i hi
      rw [List.getElem?_append_right (by simp [chC]; omega)]
      rw [show (j + 1) * 5 + i - (chC c).length = j * 5 + i by simp [chC]; omega]
      simpa using this
theorem chs_one (l : List Ch) : ∀ u ∈ chs l, u.oneCell' = true := by
  intro u hu
  simp only [chs, List.mem_flatMap] at hu
  obtain ⟨p, _, h⟩ := hu
  simp [chC] at h
  rcases h with rfl | rfl | rfl | rfl | rfl <;> rfl
theorem infoC : (Tryd.prog.info? 39).map (fun i => (i.zero, i.size, i.bytes)) = some (some (.agg #[.string ByteArray.empty, .bool false, .bool false, .string ByteArray.empty, .string ByteArray.empty]), 5, 56) := by kernel_rfl

/-- The texts of changes are such as a machine's can be. -/
def OkC (l : List Ch) : Prop := ∀ c ∈ l, c.1.size ≤ 140737488355328 ∧ c.2.old.size ≤ 140737488355328 ∧ c.2.new.size ≤ 140737488355328
/-- A change lies from this place on. -/
def ChAt (w : World) (g o : Nat) (c : Ch) : Prop := w.cell? ⟨g, o, none⟩ = some (.string c.1) ∧ w.cell? ⟨g, o + 1, none⟩ = some (.bool c.2.had) ∧ w.cell? ⟨g, o + 2, none⟩ = some (.bool c.2.has) ∧ w.cell? ⟨g, o + 3, none⟩ = some (.string c.2.old) ∧ w.cell? ⟨g, o + 4, none⟩ = some (.string c.2.new)
theorem ChAt.lt {w : World} {g o : Nat} {c : Ch} (h : ChAt w g o c) : g < w.heap.size := World.block_lt_of_cell? w _ h.1
theorem ChAt.block {w w' : World} {g o : Nat} {c : Ch} (h : ChAt w g o c) (hb : w'.heap[g]? = w.heap[g]?) : ChAt w' g o c :=
  ⟨(World.cell?_of_block (a := ⟨g, o, none⟩) hb).trans h.1, (World.cell?_of_block (a := ⟨g, o + 1, none⟩) hb).trans h.2.1, (World.cell?_of_block (a := ⟨g, o + 2, none⟩) hb).trans h.2.2.1, (World.cell?_of_block (a := ⟨g, o + 3, none⟩) hb).trans h.2.2.2.1, (World.cell?_of_block (a := ⟨g, o + 4, none⟩) hb).trans h.2.2.2.2⟩
/-- The slice value v reads as the changes l. -/
def ChR (w : World) (v : Value) (l : List Ch) : Prop := ∃ a cap, v = .slice a l.length cap ∧ l.length ≤ cap ∧ (a = none → cap = 0) ∧
  ∀ j (h : j < l.length), ∃ g o, a = some ⟨g, o, none⟩ ∧ ChAt w g (o + j * 5) l[j]
theorem ChR.below {w w' : World} {v : Value} {l : List Ch} (h : ChR w v l) (hb : Below w.heap.size w w') : ChR w' v l := by
  obtain ⟨a, cap, rfl, hle, hn, hc⟩ := h
  refine ⟨a, cap, rfl, hle, hn, fun j hj => ?_⟩
  obtain ⟨g, o, ha, h1⟩ := hc j hj
  exact ⟨g, o, ha, h1.block (hb.block g h1.lt)⟩
theorem ChR.form {w : World} {v : Value} {l : List Ch} (h : ChR w v l) : ∃ a c, v = .slice a l.length c := by
  obtain ⟨a, c, rfl, _⟩ := h; exact ⟨a, c, rfl⟩
theorem ChR.of_owns {w : World} {base n : Nat} {v : Value} {l : List Ch} (h : w.ownsRow base 39 5 v n (chs l)) : ChR w v l := by
  have hl := h.1
  rw [chs_length] at hl
  have hl : l.length = n := by omega
  rcases h.2 with ⟨rfl, hn⟩ | ⟨g, cap, cur, rfl, hb, hg, hnc, hcm, hcs, htk⟩
  · have h0 : l.length = 0 := by omega
    exact ⟨none, 0, by rw [h0], by omega, fun _ => rfl, fun j hj => by omega⟩
  · refine ⟨some ⟨g, 0, none⟩, cap, by rw [hl], by omega, fun h => (by cases h), fun j hj => ⟨g, 0, rfl, ?_⟩⟩
    have hc := fun i (hi : i < 5) => (h.cellAt (j * 5 + i) (by omega)).trans (chs_get l j hj i hi)
    refine ⟨?_, ?_, ?_, ?_, ?_⟩
    · have := hc 0 (by omega); rw [Nat.zero_add]; exact this
    · have := hc 1 (by omega); rw [Nat.zero_add]; exact this
    · have := hc 2 (by omega); rw [Nat.zero_add]; exact this
    · have := hc 3 (by omega); rw [Nat.zero_add]; exact this
    · have := hc 4 (by omega); rw [Nat.zero_add]; exact this
theorem ChR.take {w : World} {a : Option Addr} {n m cap : Nat} {l : List Ch} (h : ChR w (.slice a n cap) l) (hm : m ≤ n) : ChR w (.slice a m cap) (l.take m) := by
  obtain ⟨a', cap', he, hle, hn, hc⟩ := h
  cases he
  refine ⟨a, cap, by rw [List.length_take, Nat.min_eq_left hm], by rw [List.length_take]; omega, hn, fun j hj => ?_⟩
  rw [List.length_take] at hj
  obtain ⟨g, o, ha, h1⟩ := hc j (by omega)
  exact ⟨g, o, ha, by rw [List.getElem_take]; exact h1⟩
theorem ChR.nil (w : World) : ChR w (.slice none 0 0) [] := ⟨none, 0, rfl, Nat.le_refl _, fun _ => rfl, fun j h => by simp at h⟩

/-- A list of the call's own that reads as these changes. -/
def ChO (w : World) (base : Nat) (v : Value) (l : List Ch) : Prop := w.ownsRow base 39 5 v l.length (chs l)
theorem ChO.at {w : World} {base : Nat} {v : Value} {l : List Ch} (h : ChO w base v l) : ChR w v l := ChR.of_owns h
theorem ChO.form {w : World} {base : Nat} {v : Value} {l : List Ch} (h : ChO w base v l) : ∃ a c, v = .slice a l.length c := h.at.form
/-- What a list owns lies on where its block does. -/
theorem ChO.keep {w w' : World} {base : Nat} {v : Value} {l : List Ch} (h : ChO w base v l) (hb : ∀ g cs, base ≤ g → w.heap[g]? = some (.cells cs 39 (0, 0)) → w'.heap[g]? = some (.cells cs 39 (0, 0))) : ChO w' base v l := by
  refine ⟨h.1, ?_⟩
  rcases h.2 with h' | ⟨g, cap, cur, h', h1, h2, hr⟩
  · exact .inl h'
  · exact .inr ⟨g, cap, cur, h', h1, hb g _ h1 h2, hr⟩
theorem ChO.below {w w' : World} {base : Nat} {v : Value} {l : List Ch} (h : ChO w base v l) (hb : Below w.heap.size w w') : ChO w' base v l :=
  h.keep fun g _ _ h2 => (hb.block g (Array.getElem?_eq_some_iff.1 h2).1).trans h2
theorem ChO.mono {w : World} {b b2 : Nat} {v : Value} {l : List Ch} (h : ChO w b v l) (hb : b2 ≤ b) : ChO w b2 v l := by
  refine ⟨h.1, ?_⟩
  rcases h.2 with h' | ⟨g, cap, cur, h', h1, hr⟩
  · exact .inl h'
  · exact .inr ⟨g, cap, cur, h', Nat.le_trans hb h1, hr⟩
theorem ChO.nil (w : World) (base : Nat) : ChO w base (.slice none 0 0) [] := World.ownsRow_nil _ _ _ _
theorem ChO.blk {w : World} {base : Nat} {v : Value} {l : List Ch} (h : ChO w base v l) : ∀ k, v.ownBlock = some k → base ≤ k ∧ k < w.heap.size := World.ownsRow.lt h
theorem ChO.kind {w : World} {base : Nat} {v : Value} {l : List Ch} (h : ChO w base v l) : ∀ k o, v.ownBlock = some k → w.heap[k]? = some o → ∃ cs, o = .cells cs 39 (0, 0) := by
  intro k o hk ho
  rcases h.2 with ⟨rfl, _⟩ | ⟨g, cap, cur, rfl, h1, h2, hr⟩
  · simp [Value.ownBlock] at hk
  · simp [Value.ownBlock] at hk; subst hk; rw [h2] at ho; cases ho; exact ⟨_, rfl⟩
/-- append(v, s...) of changes. -/
theorem append_chs (base : Nat) (v s : Value) (xs us : List Ch) (w : World) (hown : ChO w base v xs) (hs : ChR w s us) (hb : (xs.length + us.length) * 56 ≤ 140737488355328) (hbase : base ≤ w.heap.size) :
    ∃ a' cap' w', (Builtin.append_ #[23, 23] 23 #[v, s]).run Tryd.prog w = .ok (.slice a' (xs.length + us.length) cap') w' ∧ ChO w' base (.slice a' (xs.length + us.length) cap') (xs ++ us) ∧ w.grownBy w' v.ownBlock := by
  obtain ⟨i0, hi, hz, hsz, hby⟩ := info_parts infoC
  obtain ⟨a, cap, rfl, hle, hnil, hc⟩ := hs
  have hf0 : ∃ a' c', v = .slice a' xs.length c' := hown.form
  unfold ChO at hown ⊢
  rw [List.length_append, chs_append]
  cases a with
  | none =>
    have h0 : us = [] := by
      cases us with
      | nil => rfl
      | cons u r => obtain ⟨g, o, he, _⟩ := hc 0 (by simp); cases he
    subst h0
    rw [hnil rfl]
    have hr := run_append_owned_none (P := Tryd.prog) w base 23 23 39 i0 5 Tryd.underlying23 hi v xs.length (chs xs) hown
    obtain ⟨a', c', rfl⟩ := hf0
    exact ⟨a', c', w, hr, by simpa [chs] using hown, ⟨rfl, rfl, rfl, Nat.le_refl _, fun _ _ _ => rfl⟩⟩
  | some ad =>
    obtain ⟨v', w', hr, hown', hgr, _⟩ := run_append_own (P := Tryd.prog) w base 23 23 39 i0 _ 5 56 Tryd.underlying23 hi hz hsz hby rfl (by decide) v xs.length (chs xs) hown ad us.length cap (chs us) (chs_length us) (fun j u hj => by
      have hj' := (List.getElem?_eq_some_iff.1 hj).1
      rw [chs_length] at hj'
      obtain ⟨q, r, hm, rfl⟩ : ∃ q r, r < 5 ∧ j = q * 5 + r := ⟨j / 5, j % 5, by omega, by omega⟩
      have hq : q < us.length := by omega
      clear hj'
      obtain ⟨g, o, he, c0, c1, c2, c3, c4⟩ := hc q hq
      cases he
      have hg := chs_get us q hq r hm
      rw [hj] at hg
      rw [add_plain', ← Nat.add_assoc]
      match r, hm, hg with
      | 0, _, hg => simp [chC] at hg; subst hg; exact c0
      | 1, _, hg => simp [chC] at hg; subst hg; exact c1
      | 2, _, hg => simp [chC] at hg; subst hg; exact c2
      | 3, _, hg => simp [chC] at hg; subst hg; exact c3
      | 4, _, hg => simp [chC] at hg; subst hg; exact c4) (chs_one us) (by unfold maxLen; omega) hb hbase
    have hf : ∃ a' c', v' = .slice a' (xs.length + us.length) c' := by
      rcases hown'.2 with ⟨rfl, h0⟩ | ⟨g, cap, cur, rfl, _⟩
      · exact ⟨none, 0, by rw [h0]⟩
      · exact ⟨_, _, rfl⟩
    obtain ⟨a', c', rfl⟩ := hf
    exact ⟨a', c', w', hr, hown', hgr⟩
theorem chR_lit (w : World) (c : Ch) (t : TypeId) : ChR (w.alloc (.cells (chC c).toArray t)) (.slice (some ⟨w.heap.size, 0, none⟩) 1 1) [c] := by
  have hb := boxed_new w (chC c).toArray t
  refine ⟨_, _, rfl, Nat.le_refl _, fun h => (by cases h), fun j hj => ⟨_, _, rfl, ?_⟩⟩
  have : j = 0 := by simpa using hj
  subst this
  exact ⟨hb.2 0 (by simp [chC]), hb.2 1 (by simp [chC]), hb.2 2 (by simp [chC]), hb.2 3 (by simp [chC]), hb.2 4 (by simp [chC])⟩
/-- v = append(v, c): the list's own block alone is turned, or there is a new one. -/
theorem push_chs (base : Nat) (v : Value) (l : List Ch) (c : Ch) (t : TypeId) (w : World) (n : Nat) (hn : l.length = n) (hown : ChO w base v l) (hb : (n + 1) * 56 ≤ 140737488355328) (hbase : base ≤ w.heap.size) :
    ∃ a' cap' w', (Builtin.append_ #[23, 23] 23 #[v, .slice (some ⟨w.heap.size, 0, none⟩) 1 1]).run Tryd.prog (w.alloc (.cells (chC c).toArray t)) = .ok (.slice a' (n + 1) cap') w' ∧ ChO w' base (.slice a' (n + 1) cap') (l ++ [c]) ∧ (w.alloc (.cells (chC c).toArray t)).grownBy w' v.ownBlock := by
  subst hn
  have ho : ChO (w.alloc (.cells (chC c).toArray t)) base v l := World.ownsRow.alloc hown _
  exact append_chs base v _ l [c] _ ho (chR_lit w c t) (by simpa using hb) (by simp; omega)
end Go.Proofs.YtiihnoohodklhaaDoor
