import Derived.Test.YtdieacdkomiooabDoorLike2B
namespace Go.Proofs.YtdieacdkomiooabDoor
open Go.RowKit Go.Maps

/-- The document's device, as far as it is looked at. -/
structure RBody (w : World) (b : Nat) (F : Nat → Prop) (d : Dev) (tv lv pv av : Value) : Prop where
  blk : w.heap[b]? = some (.cells #[tv, .int .i64 d.size, lv, pv, .bool d.dead, av, .int .i64 d.nr, .int .i64 d.nw, .int .i64 d.ns] 112 (0, 0))
  fb : F b
  last : w.ownsRow 0 68 2 lv d.dur.length (secCells d.dur)
  lf : ∀ g, lv.ownBlock = some g → F g
  pend : w.ownsRow 0 68 2 pv d.pend.length (secCells d.pend)
  pf : ∀ g, pv.ownBlock = some g → F g
  lt : ∀ k, F k → k < w.heap.size
def RAt (w : World) (b : Nat) (F : Nat → Prop) (d : Dev) : Prop := ∃ tv lv pv av, RBody w b F d tv lv pv av
theorem RAt.keep {w w' : World} {b : Nat} {F G G' : Nat → Prop} {d : Dev} (h : RAt w b F d) (hs : Step G G' w w') (hn : ∀ k, F k → ¬ G k) : RAt w' b F d := by
  obtain ⟨tv, lv, pv, av, h⟩ := h
  have hk : ∀ k, F k → w'.heap[k]? = w.heap[k]? := fun k hf => hs.block k (h.lt k hf) (hn k hf)
  exact ⟨tv, lv, pv, av, (hk b h.fb).trans h.blk, h.fb, owns_block h.last (fun g hg => hk g (h.lf g hg)), h.lf, owns_block h.pend (fun g hg => hk g (h.pf g hg)), h.pf, fun k hf => Nat.lt_of_lt_of_le (h.lt k hf) hs.size⟩
theorem RAt.below {w w' : World} {b : Nat} {F : Nat → Prop} {d : Dev} (h : RAt w b F d) (hs : Below w.heap.size w w') : RAt w' b F d := h.keep (Step.of_below (F := fun _ => False) hs) (fun _ _ h => h)
theorem RBody.cell {w : World} {b : Nat} {F : Nat → Prop} {d : Dev} {tv lv pv av : Value} (h : RBody w b F d tv lv pv av) (j : Nat) : w.cell? ⟨b, j, none⟩ = #[tv, .int .i64 d.size, lv, pv, .bool d.dead, av, .int .i64 d.nr, .int .i64 d.nw, .int .i64 d.ns][j]? := cell_of_row w b j _ _ _ h.blk

theorem Hid.mk'' {p : Prop} (h : p) : Hid p := h
set_option maxHeartbeats 400000 in
theorem rclamp_any (n : Int) (w : World) : Calls Tryd.prog 82 #[.int .i64 n, .int .i64 0, .int .i64 8388615] w fun e w' => e = .returned (.int .i64 (clampN n 0 8388615)) ∧ w = w' := by
  have H1 : Hid (n < 0 → clampN n 0 8388615 = 0) := fun h => by unfold clampN; rw [if_pos h]
  have H2 : Hid (¬ n < 0 → 8388615 < n → clampN n 0 8388615 = 8388615) := fun h h' => by unfold clampN; rw [if_neg h, if_pos h']
  have H3 : Hid (¬ n < 0 → ¬ 8388615 < n → clampN n 0 8388615 = n) := fun h h' => by unfold clampN; rw [if_neg h, if_neg h']
  go_enter Tryd.func82, Tryd.ntmps82
  by_cases h : n < 0
  · go_wp2_with fail
    go_ret
    exact ⟨ret_int (H1.out h).symm, rfl⟩
  · by_cases h' : 8388615 < n
    · go_wp2_with fail
      go_ret
      exact ⟨ret_int (H2.out h h').symm, rfl⟩
    · go_wp2_with fail
      go_ret
      exact ⟨ret_int (H3.out h h').symm, rfl⟩
theorem rnew_dev (w : World) (n s : Int) (hs : clampN n 0 8388615 = s) :
    RAt (w.alloc (.cells #[.slice none 0 0, .int .i64 s, .slice none 0 0, .slice none 0 0, .bool false, .slice none 0 0, .int .i64 0, .int .i64 0, .int .i64 0] 112)) w.heap.size (fun k => k = w.heap.size) (newDev n) := by
  refine ⟨.slice none 0 0, .slice none 0 0, .slice none 0 0, .slice none 0 0, ?_, rfl, World.ownsRow_nil _ _ _ _, fun g hg => by simp [Value.ownBlock] at hg, World.ownsRow_nil _ _ _ _, fun g hg => by simp [Value.ownBlock] at hg, fun k hk => by rw [hk]; simp⟩
  rw [← hs]
  exact Array.getElem?_push_size
set_option maxHeartbeats 400000 in
theorem rnew_any (n : Int) (w : World) : Calls Tryd.prog 53 #[.int .i64 n] w fun e w' => ∃ b F, e = .returned (.pointer (some ⟨b, 0, none⟩)) ∧ RAt w' b F (newDev n) ∧ Below w.heap.size w w' ∧ ∀ k, F k → w.heap.size ≤ k := by
  have HC := Hid.mk'' (rclamp_any n w)
  have HN : Hid (RAt (w.alloc (.cells #[.slice none 0 0, .int .i64 (clampN n 0 8388615), .slice none 0 0, .slice none 0 0, .bool false, .slice none 0 0, .int .i64 0, .int .i64 0, .int .i64 0] 112)) w.heap.size (fun k => k = w.heap.size) (newDev n)) := rnew_dev w n _ rfl
  generalize clampN n 0 8388615 = s at *
  go_enter Tryd.func53, Tryd.ntmps53
  go_wp2_with fail
  refine HC.out.mono ?_
  rintro e w' ⟨rfl, rfl⟩
  go_wp2_with fail
  go_ret
  exact ⟨_, _, rfl, HN.out, below_new _ _, fun k hk => by rw [hk]; exact Nat.le_refl _⟩
theorem allZ_iff (s : ByteArray) : allZ s = true ↔ ∀ i (h : i < s.size), s[i] = 0 := by
  unfold allZ
  rw [decide_eq_true_eq]
  constructor
  · intro h i hi
    have : (bl s)[i]'(by rw [bl_len]; exact hi) = (zeros s.size)[i]'(by rw [zeros_len]; exact hi) := by simp only [h]
    rw [show (zeros s.size)[i]'(by rw [zeros_len]; exact hi) = 0 from List.getElem_replicate _] at this
    exact this
  · intro h
    apply List.ext_getElem
    · rw [bl_len, zeros_len]
    · intro i h1 h2
      rw [show (zeros s.size)[i] = 0 from List.getElem_replicate _]
      exact h i (by rw [← bl_len]; exact h1)
set_option maxRecDepth 100000 in
set_option maxHeartbeats 400000 in
theorem rzero_any (s : ByteArray) (w : World) (hs : s.size ≤ 140737488355328) : Calls Tryd.prog 54 #[.string s] w fun e w' => e = .returned (.bool (allZ s)) ∧ w = w' := by
  have HT : Hid ((∀ i (h : i < s.size), s[i] = 0) → allZ s = true) := (allZ_iff s).2
  have HF : Hid (∀ i (h : i < s.size), s[i] ≠ 0 → allZ s = false) := fun i h hn => by
    cases ha : allZ s
    · rfl
    · exact absurd ((allZ_iff s).1 ha i h) hn
  go_enter Tryd.func54, Tryd.ntmps54
  go_wp2_with fail
  go_loopw [3] (fun i wr => ∃ k : Nat, k ≤ s.size ∧ i = .int .i64 (k : Int) ∧ (∀ i (h : i < s.size), i < k → s[i] = 0) ∧ w = wr) (fun i _ => s.size - (intOf i).toNat)
  case atStart => exact ⟨0, Nat.zero_le _, rfl, fun i _ h => by omega, rfl⟩
  case round =>
    obtain ⟨k, hk, rfl, hz, rfl⟩ := hrel
    have HZ : Hid (∀ i (h : i < s.size), i < k → s[i] = 0) := hz
    clear hz
    by_cases hlt : k < s.size
    · have k0 : (0 : Int) ≤ (k : Int) := Int.natCast_nonneg _
      have k1 : (k : Int) < (s.size : Int) := by omega
      by_cases hx : s[k] = 0
      · have HN : Hid (∀ i (h : i < s.size), i < k + 1 → s[i] = 0) := fun i h hik => by
          rcases (show i < k ∨ i = k by omega) with h' | h'
          · exact HZ.out i h h'
          · subst h'; exact hx
        have hx2 : (s[k].toNat : Int) = 0 := by rw [hx]; rfl
        have hx3 : ((s[k].toNat : Int) != 0) = false := by simp [hx2]
        clear HT HF HZ
        go_wp2_with fail
        go_roundw
        case rel => exact ⟨k + 1, by omega, by go_num, HN.out, (by first | rfl | trivial)⟩
        case measure => simp [intOf]; omega
      · have HR : Hid (allZ s = false) := HF.out k hlt hx
        have hx2 : (s[k].toNat : Int) ≠ 0 := fun h => hx (by
          have : s[k].toNat = 0 := by omega
          exact UInt8.toNat_inj.1 this)
        have hx3 : ((s[k].toNat : Int) != 0) = true := by rw [bne_iff_ne]; exact hx2
        clear HT HF HZ
        go_wp2_with fail
        go_ret
        exact ⟨congrArg (fun b => Ending.returned (.bool b)) HR.out.symm, rfl⟩
    · have HR : Hid (allZ s = true) := HT.out (fun i h => HZ.out i h (by omega))
      clear HT HF HZ
      go_wp2_with fail
      go_ret
      exact ⟨congrArg (fun b => Ending.returned (.bool b)) HR.out.symm, rfl⟩

set_option maxRecDepth 100000 in
set_option maxHeartbeats 800000 in
theorem rdurs_any (l : List Sec) (v : Value) (b : Nat) (w : World) (hcell : w.cell? ⟨b, 2, none⟩ = some v) (hv : SecsIn w v l) :
    Calls Tryd.prog 61 #[.pointer (some ⟨b, 0, none⟩)] w fun e w' => ∃ v', e = .returned v' ∧ w'.ownsRow w.heap.size 68 2 v' l.length (secCells l) ∧ Below w.heap.size w w' := by
  obtain ⟨i0, hi, hz0, hz1, hz2⟩ := info_parts Tryd.info68
  obtain ⟨a, cap, g, off, rfl, hb, ha, hc⟩ := hv
  obtain ⟨n, hn⟩ : ∃ n, n = l.length := ⟨_, rfl⟩
  have HL : Hid ((secCells l).length = n * 2) := by rw [hn]; exact secCells_len l
  have H1 := secCells_one l
  rw [← hn] at hb ha hcell ⊢
  have HZ : Hid (n = 0 → secCells l = []) := fun h => List.length_eq_zero_iff.1 (by rw [HL.out, h])
  generalize secCells l = xs at *
  clear hn
  go_enter Tryd.func61, Tryd.ntmps61
  rcases Nat.eq_zero_or_pos n with h0 | h0
  · subst h0
    obtain rfl := HZ.out rfl
    clear HZ ha hc
    cases a with
    | none =>
      go_wp2_with fail
      go_ret
      exact ⟨_, rfl, World.ownsRow_nil _ _ _ _, Below.refl _ _⟩
    | some ad =>
      go_wp2_with fail
      go_ret
      exact ⟨_, rfl, World.ownsRow_nil _ _ _ _, Below.refl _ _⟩
  · obtain rfl := ha h0
    clear HZ ha
    go_wp2_with (at_builtin; refine wpList_append_own _ rfl _ _ 22 rfl w.heap.size 68 i0 (.agg #[.int .i64 0, .string ⟨#[]⟩]) 2 24 Tryd.underlying22 hi hz0 hz1 hz2 rfl (by decide) _ _ _ rfl (World.ownsRow_nil _ _ _ _) ⟨g, off, none⟩ n cap xs rfl ?qc1 ?qc2 ?qc3 ?qc4 ?qc5 ?qc6 ?_)
    case qc1 => exact HL.out
    case qc2 =>
      intro j u hj
      rw [Addr.add_mid]
      exact hc j u hj
    case qc3 => exact H1
    case qc4 => unfold maxLen; omega
    case qc5 => omega
    case qc6 => exact Nat.le_refl _
    intro v' w1 hown hgrow hnil
    have HR : Hid (w1.ownsRow w.heap.size 68 2 v' n xs ∧ Below w.heap.size w w1) := ⟨by simpa using hown, (Below.refl _ w).grown hgrow (Nat.le_refl _) (by intro k hk; simp [Value.ownBlock] at hk)⟩
    clear hown hgrow hnil hc
    go_wp2_with fail
    go_ret
    exact ⟨v', rfl, HR.out⟩


set_option maxRecDepth 100000 in
set_option maxHeartbeats 800000 in
theorem rpends_any (l : List Sec) (v : Value) (b : Nat) (w : World) (hcell : w.cell? ⟨b, 3, none⟩ = some v) (hv : SecsIn w v l) :
    Calls Tryd.prog 62 #[.pointer (some ⟨b, 0, none⟩)] w fun e w' => ∃ v', e = .returned v' ∧ w'.ownsRow w.heap.size 68 2 v' l.length (secCells l) ∧ Below w.heap.size w w' := by
  obtain ⟨i0, hi, hz0, hz1, hz2⟩ := info_parts Tryd.info68
  obtain ⟨a, cap, g, off, rfl, hb, ha, hc⟩ := hv
  obtain ⟨n, hn⟩ : ∃ n, n = l.length := ⟨_, rfl⟩
  have HL : Hid ((secCells l).length = n * 2) := by rw [hn]; exact secCells_len l
  have H1 := secCells_one l
  rw [← hn] at hb ha hcell ⊢
  have HZ : Hid (n = 0 → secCells l = []) := fun h => List.length_eq_zero_iff.1 (by rw [HL.out, h])
  generalize secCells l = xs at *
  clear hn
  go_enter Tryd.func62, Tryd.ntmps62
  rcases Nat.eq_zero_or_pos n with h0 | h0
  · subst h0
    obtain rfl := HZ.out rfl
    clear HZ ha hc
    cases a with
    | none =>
      go_wp2_with fail
      go_ret
      exact ⟨_, rfl, World.ownsRow_nil _ _ _ _, Below.refl _ _⟩
    | some ad =>
      go_wp2_with fail
      go_ret
      exact ⟨_, rfl, World.ownsRow_nil _ _ _ _, Below.refl _ _⟩
  · obtain rfl := ha h0
    clear HZ ha
    go_wp2_with (at_builtin; refine wpList_append_own _ rfl _ _ 22 rfl w.heap.size 68 i0 (.agg #[.int .i64 0, .string ⟨#[]⟩]) 2 24 Tryd.underlying22 hi hz0 hz1 hz2 rfl (by decide) _ _ _ rfl (World.ownsRow_nil _ _ _ _) ⟨g, off, none⟩ n cap xs rfl ?qc1 ?qc2 ?qc3 ?qc4 ?qc5 ?qc6 ?_)
    case qc1 => exact HL.out
    case qc2 =>
      intro j u hj
      rw [Addr.add_mid]
      exact hc j u hj
    case qc3 => exact H1
    case qc4 => unfold maxLen; omega
    case qc5 => omega
    case qc6 => exact Nat.le_refl _
    intro v' w1 hown hgrow hnil
    have HR : Hid (w1.ownsRow w.heap.size 68 2 v' n xs ∧ Below w.heap.size w w1) := ⟨by simpa using hown, (Below.refl _ w).grown hgrow (Nat.le_refl _) (by intro k hk; simp [Value.ownBlock] at hk)⟩
    clear hown hgrow hnil hc
    go_wp2_with fail
    go_ret
    exact ⟨v', rfl, HR.out⟩


theorem rdur_any (b : Nat) (F : Nat → Prop) (d : Dev) (w : World) (h : RAt w b F d) (hl : d.dur.length ≤ 5864062014805) : Calls Tryd.prog 61 #[.pointer (some ⟨b, 0, none⟩)] w fun e w' => ∃ v', e = .returned v' ∧ w'.ownsRow w.heap.size 68 2 v' d.dur.length (secCells d.dur) ∧ Below w.heap.size w w' := by
  obtain ⟨tv, lv, pv, av, h⟩ := h
  exact rdurs_any d.dur lv b w (h.cell 2) (secsIn_own h.last hl)
theorem rpend_any (b : Nat) (F : Nat → Prop) (d : Dev) (w : World) (h : RAt w b F d) (hl : d.pend.length ≤ 5864062014805) : Calls Tryd.prog 62 #[.pointer (some ⟨b, 0, none⟩)] w fun e w' => ∃ v', e = .returned v' ∧ w'.ownsRow w.heap.size 68 2 v' d.pend.length (secCells d.pend) ∧ Below w.heap.size w w' := by
  obtain ⟨tv, lv, pv, av, h⟩ := h
  exact rpends_any d.pend pv b w (h.cell 3) (secsIn_own h.pend hl)
set_option maxHeartbeats 400000 in
theorem rsize_any (b : Nat) (F : Nat → Prop) (d : Dev) (w : World) (h : RAt w b F d) : Calls Tryd.prog 64 #[.pointer (some ⟨b, 0, none⟩)] w fun e w' => e = .returned (.int .i64 d.size) ∧ w = w' := by
  obtain ⟨tv, lv, pv, av, h⟩ := h
  have c1 : w.cell? ⟨b, 1, none⟩ = some (.int .i64 d.size) := h.cell 1
  clear h
  go_enter Tryd.func64, Tryd.ntmps64
  go_wp2
  go_ret
  exact ⟨rfl, rfl⟩
set_option maxHeartbeats 400000 in
theorem rdead_any (b : Nat) (F : Nat → Prop) (d : Dev) (w : World) (h : RAt w b F d) : Calls Tryd.prog 65 #[.pointer (some ⟨b, 0, none⟩)] w fun e w' => e = .returned (.bool d.dead) ∧ w = w' := by
  obtain ⟨tv, lv, pv, av, h⟩ := h
  have c4 : w.cell? ⟨b, 4, none⟩ = some (.bool d.dead) := h.cell 4
  clear h
  go_enter Tryd.func65, Tryd.ntmps65
  go_wp2
  go_ret
  exact ⟨rfl, rfl⟩

end Go.Proofs.YtdieacdkomiooabDoor
