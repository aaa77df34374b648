import Derived.Test.YtdieacdkomiooabDoorM10
namespace Go.Proofs.YtdieacdkomiooabDoor
open Go.RowKit Go.Maps

theorem Tryd.info92 : (Tryd.prog.info? 92).map (fun i => (i.zero, i.size, i.bytes)) = some (some (.agg #[.int .i64 0, .int .i64 0, .int .i64 0, .string ⟨#[]⟩]), 4, 40) := by kernel_rfl
theorem secCells_one (l : List Sec) : ∀ u ∈ secCells l, u.oneCell' = true := by
  intro u hu
  simp only [secCells, List.mem_flatMap, List.mem_cons, List.not_mem_nil, or_false] at hu
  obtain ⟨x, _, rfl | rfl⟩ := hu <;> rfl
theorem fateCells_one (l : List Fate) : ∀ u ∈ fateCells l, u.oneCell' = true := by
  intro u hu
  simp only [fateCells, List.mem_flatMap, List.mem_cons, List.not_mem_nil, or_false] at hu
  obtain ⟨x, _, rfl | rfl | rfl | rfl⟩ := hu <;> rfl

set_option maxRecDepth 100000 in
set_option maxHeartbeats 800000 in
theorem clones_any (l : List Sec) (v : Value) (w : World) (hv : w.ownsRow 0 68 2 v l.length (secCells l)) (hb : l.length ≤ 5864062014805) :
    Calls Tryd.prog 49 #[v] w fun e w' => ∃ v', e = .returned v' ∧ w'.ownsRow w.heap.size 68 2 v' l.length (secCells l) ∧ Below w.heap.size w w' := by
  obtain ⟨i0, hi, hz0, hz1, hz2⟩ := info_parts Tryd.info68
  obtain ⟨a, c, rfl, ha⟩ := owns_form hv
  obtain ⟨n, hn⟩ : ∃ n, n = l.length := ⟨_, rfl⟩
  have q22 : ∀ (w : World) (a : Option Addr) (n c n' c' : Nat), (binOp .eql 22 (.slice a n c) (.slice none n' c')).run Tryd.prog w = .ok (.bool a.isNone) w := fun w a n c n' c' => Lib.run_eql_slice_nil w _ _ a n c n' c' Tryd.underlying22
  have HC : Hid (∀ g, a = some ⟨g, 0, none⟩ → ∀ j u, (secCells l)[j]? = some u → w.cell? ⟨g, j, none⟩ = some u) := fun g hg j u hu => by subst hg; exact owns_cell hv rfl j u hu
  have HL : Hid ((secCells l).length = n * 2) := by rw [hn]; exact secCells_len l
  have H1 := secCells_one l
  have HN : Hid (n = l.length) := hn
  have hae : a = none → n = 0 := fun h => by
    rw [hn]
    rcases Nat.eq_zero_or_pos l.length with h0 | h0
    · exact h0
    · obtain ⟨g, hg⟩ := ha h0; rw [h] at hg; cases hg
  have haf : ∀ ad, a = some ad → ∃ g, a = some ⟨g, 0, none⟩ := fun ad h => by
    rcases hv.2 with ⟨h', _⟩ | ⟨g, cap, cur, h', _⟩
    · simp only [Value.slice.injEq] at h'; rw [h'.1] at h; cases h
    · simp only [Value.slice.injEq] at h'; exact ⟨g, h'.1⟩
  have hs0 : Hid (secCells l = [] ∨ 0 < n) := by
    show _ ∨ _
    rcases Nat.eq_zero_or_pos n with h0 | h0
    · left; exact List.length_eq_zero_iff.1 (by rw [HL.out, h0])
    · exact .inr h0
  rw [← hn] at hb ⊢
  generalize secCells l = xs at *
  clear hv ha hn
  go_enter Tryd.func49, Tryd.ntmps49
  cases a with
  | none =>
    have h0 := hae rfl
    subst h0
    obtain rfl : xs = [] := List.length_eq_zero_iff.1 (by simpa using HL.out)
    go_wp2_with fail
    go_ret
    exact ⟨_, rfl, World.ownsRow_nil _ _ _ _, Below.refl _ _⟩
  | some ad =>
    obtain ⟨g, hg⟩ := haf ad rfl
    cases hg
    have hcell := HC.out g rfl
    clear HC haf hae
    go_wp2_with (at_builtin; refine wpList_append_own _ rfl _ _ 22 rfl w.heap.size 68 i0 (.agg #[.int .i64 0, .string ⟨#[]⟩]) 2 24 Tryd.underlying22 hi hz0 hz1 hz2 rfl (by decide) _ _ _ rfl (World.ownsRow_made w #[] 0 (Nat.le_refl _) (Nat.zero_le _) (by simp)) ⟨g, 0, none⟩ n c xs rfl ?qc1 ?qc2 ?qc3 ?qc4 ?qc5 ?qc6 ?_)
    case qc1 => exact HL.out
    case qc2 =>
      intro j u hj
      rw [Addr.add_mid, Nat.zero_add]
      exact Lib.cell?_alloc_some _ (hcell j u hj)
    case qc3 => exact H1
    case qc4 => unfold maxLen; omega
    case qc5 => omega
    case qc6 => simp
    intro v' w1 hown hgrow hnil
    have HR : Hid (w1.ownsRow w.heap.size 68 2 v' n xs ∧ Below w.heap.size w w1) := ⟨by simpa using hown, ((Below.refl _ w).alloc (Nat.le_refl _) _).grown hgrow (by simp) (by intro k hk; simp [Value.ownBlock] at hk; omega)⟩
    clear hown hgrow hnil hcell q22
    go_wp2_with fail
    go_ret
    exact ⟨v', rfl, HR.out⟩

set_option maxRecDepth 100000 in
set_option maxHeartbeats 800000 in
theorem clonef_any (l : List Fate) (v : Value) (w : World) (hv : w.ownsRow 0 92 4 v l.length (fateCells l)) (hb : l.length ≤ 3518437208883) :
    Calls Tryd.prog 94 #[v] w fun e w' => ∃ v', e = .returned v' ∧ w'.ownsRow w.heap.size 92 4 v' l.length (fateCells l) ∧ Below w.heap.size w w' := by
  obtain ⟨i0, hi, hz0, hz1, hz2⟩ := info_parts Tryd.info92
  obtain ⟨a, c, rfl, ha⟩ := owns_form hv
  obtain ⟨n, hn⟩ : ∃ n, n = l.length := ⟨_, rfl⟩
  have q22 : ∀ (w : World) (a : Option Addr) (n c n' c' : Nat), (binOp .eql 26 (.slice a n c) (.slice none n' c')).run Tryd.prog w = .ok (.bool a.isNone) w := fun w a n c n' c' => Lib.run_eql_slice_nil w _ _ a n c n' c' Tryd.underlying26
  have HC : Hid (∀ g, a = some ⟨g, 0, none⟩ → ∀ j u, (fateCells l)[j]? = some u → w.cell? ⟨g, j, none⟩ = some u) := fun g hg j u hu => by subst hg; exact owns_cell hv rfl j u hu
  have HL : Hid ((fateCells l).length = n * 4) := by rw [hn]; exact fateCells_len l
  have H1 := fateCells_one l
  have HN : Hid (n = l.length) := hn
  have hae : a = none → n = 0 := fun h => by
    rw [hn]
    rcases Nat.eq_zero_or_pos l.length with h0 | h0
    · exact h0
    · obtain ⟨g, hg⟩ := ha h0; rw [h] at hg; cases hg
  have haf : ∀ ad, a = some ad → ∃ g, a = some ⟨g, 0, none⟩ := fun ad h => by
    rcases hv.2 with ⟨h', _⟩ | ⟨g, cap, cur, h', _⟩
    · simp only [Value.slice.injEq] at h'; rw [h'.1] at h; cases h
    · simp only [Value.slice.injEq] at h'; exact ⟨g, h'.1⟩
  have hs0 : Hid (fateCells l = [] ∨ 0 < n) := by
    show _ ∨ _
    rcases Nat.eq_zero_or_pos n with h0 | h0
    · left; exact List.length_eq_zero_iff.1 (by rw [HL.out, h0])
    · exact .inr h0
  rw [← hn] at hb ⊢
  generalize fateCells l = xs at *
  clear hv ha hn
  go_enter Tryd.func94, Tryd.ntmps94
  cases a with
  | none =>
    have h0 := hae rfl
    subst h0
    obtain rfl : xs = [] := List.length_eq_zero_iff.1 (by simpa using HL.out)
    go_wp2_with fail
    go_ret
    exact ⟨_, rfl, World.ownsRow_nil _ _ _ _, Below.refl _ _⟩
  | some ad =>
    obtain ⟨g, hg⟩ := haf ad rfl
    cases hg
    have hcell := HC.out g rfl
    clear HC haf hae
    go_wp2_with (at_builtin; refine wpList_append_own _ rfl _ _ 26 rfl w.heap.size 92 i0 (.agg #[.int .i64 0, .int .i64 0, .int .i64 0, .string ⟨#[]⟩]) 4 40 Tryd.underlying26 hi hz0 hz1 hz2 rfl (by decide) _ _ _ rfl (World.ownsRow_made w #[] 0 (Nat.le_refl _) (Nat.zero_le _) (by simp)) ⟨g, 0, none⟩ n c xs rfl ?qc1 ?qc2 ?qc3 ?qc4 ?qc5 ?qc6 ?_)
    case qc1 => exact HL.out
    case qc2 =>
      intro j u hj
      rw [Addr.add_mid, Nat.zero_add]
      exact Lib.cell?_alloc_some _ (hcell j u hj)
    case qc3 => exact H1
    case qc4 => unfold maxLen; omega
    case qc5 => omega
    case qc6 => simp
    intro v' w1 hown hgrow hnil
    have HR : Hid (w1.ownsRow w.heap.size 92 4 v' n xs ∧ Below w.heap.size w w1) := ⟨by simpa using hown, ((Below.refl _ w).alloc (Nat.le_refl _) _).grown hgrow (by simp) (by intro k hk; simp [Value.ownBlock] at hk; omega)⟩
    clear hown hgrow hnil hcell q22
    go_wp2_with fail
    go_ret
    exact ⟨v', rfl, HR.out⟩

set_option maxHeartbeats 400000 in
theorem pending_any (b : Nat) (F : Nat → Prop) (d : Dev) (w : World) (h : DevAt w b F d) (hp : d.pend.length ≤ 5864062014805) :
    Calls Tryd.prog 15 #[.pointer (some ⟨b, 0, none⟩)] w fun e w' => ∃ v', e = .returned v' ∧ w'.ownsRow w.heap.size 68 2 v' d.pend.length (secCells d.pend) ∧ Below w.heap.size w w' := by
  obtain ⟨mb, nb, pv, av, Dn, h⟩ := h
  have c2 : w.cell? ⟨b, 2, none⟩ = some pv := h.cell 2
  have HC : Hid (Calls Tryd.prog 49 #[pv] w fun e w' => ∃ v', e = .returned v' ∧ w'.ownsRow w.heap.size 68 2 v' d.pend.length (secCells d.pend) ∧ Below w.heap.size w w') := clones_any d.pend pv w h.pend hp
  obtain ⟨pa, pc, rfl, -⟩ := owns_form h.pend
  clear h
  go_enter Tryd.func15, Tryd.ntmps15
  go_wp2_with fail
  refine HC.out.mono ?_
  rintro e w1 ⟨v', rfl, h1, h2⟩
  have HR : Hid (w1.ownsRow w.heap.size 68 2 v' d.pend.length (secCells d.pend) ∧ Below w.heap.size w w1) := ⟨h1, h2⟩
  clear HC h1 h2
  go_wp2_with fail
  go_ret
  exact ⟨v', rfl, HR.out⟩

end Go.Proofs.YtdieacdkomiooabDoor
