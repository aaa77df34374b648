import Derived.Test.YtdghlblgmihbpaaDoorFPush
import Derived.Deep.DeepAppendRoom
import Derived.ArgAppend
namespace Go.Proofs.YtdghlblgmihbpaaDoor
open Go.RowKit

theorem owns_prefix {w : World} {base m n c g : Nat} {ys : List Value} (h : w.ownsRow base 3 1 (.slice (some ⟨g, 0, none⟩) m c) m ys) (hn : n ≤ m) : w.ownsRow base 3 1 (.slice (some ⟨g, 0, none⟩) n c) n (ys.take n) := by
  have hl := h.1
  rcases h.2 with ⟨h', _⟩ | ⟨g', cap, cur, h', hb, hg, hnc, hcm, hcs, htk⟩
  · cases h'
  · cases h'
    refine ⟨by rw [List.length_take]; omega, .inr ⟨g, c, cur, rfl, hb, hg, by omega, hcm, hcs, ?_⟩⟩
    rw [← htk, List.take_take]
    congr 1
    omega
/-- A list is grown by one: in its own block, or in a new one. -/
theorem grow_i {w : World} {n c : Nat} {a : Option Addr} {xs : List Value} (x : Int) (h : w.ownsRow 0 3 1 (.slice a n c) n xs) (hn : n ≤ 1000000000) :
    ∃ a' c' w', (Builtin.append_ #[28, 28] 28 #[.slice a n c, .slice (some ⟨w.heap.size, 0, none⟩) 1 1]).run Tryd.prog (w.alloc (.cells #[.int .i64 x] 3)) = .ok (.slice a' (n + 1) c') w' ∧ w'.ownsRow 0 3 1 (.slice a' (n + 1) c') (n + 1) (xs ++ [.int .i64 x]) ∧
      ((∃ g, a = some ⟨g, 0, none⟩ ∧ a' = a ∧ c' = c ∧ Only (fun k => k = g) w w') ∨ (Below w.heap.size w w' ∧ ∃ g, a' = some ⟨g, 0, none⟩ ∧ w.heap.size ≤ g)) := by
  obtain ⟨i0, hi, hz, hsz, hby⟩ := info_parts info3
  have hb := below_new w (.cells #[.int .i64 x] 3)
  have h2 := owns_below h hb
  have hnew : (w.alloc (.cells #[.int .i64 x] 3)).heap[w.heap.size]? = some (.cells #[.int .i64 x] 3 (0, 0)) := heap_alloc_new w _
  have hnews : ∀ j u, ([.int .i64 x] : List Value)[j]? = some u → (w.alloc (.cells #[.int .i64 x] 3)).cell? ((⟨w.heap.size, 0, none⟩ : Addr).add j) = some u := fun j u hj => by
    rw [add_plain', Nat.zero_add, cell_of_row _ w.heap.size j _ _ _ hnew]
    simpa using hj
  have h1 : ∀ u ∈ ([.int .i64 x] : List Value), u.oneCell' = true := by intro u hu; simp at hu; subst hu; rfl
  rcases h.2 with ⟨h', h0⟩ | ⟨g, cap, cur, h', hbg, hg, hnc, hcm, hcs, htk⟩
  · simp only [Value.slice.injEq] at h'
    obtain ⟨rfl, -, rfl⟩ := h'
    subst h0
    have hu : xs = [] := List.length_eq_zero_iff.1 (by have := h.1; omega)
    subst hu
    obtain ⟨g', cap', w', hr, ho, hon, hat⟩ := push_i x (World.ownsRow_nil w w.heap.size 3 1) (Nat.le_refl _) (by omega)
    refine ⟨_, cap', w', hr, owns_weak ho (Nat.zero_le _), .inr ⟨hon.below (fun k hk => by simp [Value.ownBlock] at hk) (Nat.le_refl _), g', rfl, ?_⟩⟩
    exact (owns_blk ho g' rfl).1
  · simp only [Value.slice.injEq] at h'
    obtain ⟨rfl, -, rfl⟩ := h'
    by_cases hroom : n + 1 ≤ c
    · obtain ⟨w', hr, ho, hgr⟩ := run_append_own_spare (P := Tryd.prog) (w.alloc (.cells #[.int .i64 x] 3)) 0 28 28 3 i0 1 Tryd.underlying28 hi hsz g n c xs h2 ⟨w.heap.size, 0, none⟩ 1 1 [.int .i64 x] rfl hnews h1 hroom
      exact ⟨_, c, w', hr, ho, .inl ⟨g, rfl, rfl, rfl, hgr.os.trans hb.os, hgr.tape.trans hb.tape, hgr.output.trans hb.output, Nat.le_trans hb.size hgr.size, fun k hk hne => (hgr.block k (Nat.lt_of_lt_of_le hk hb.size) (fun e => hne (by simpa using e))).trans (hb.block k hk)⟩⟩
    · obtain ⟨v', w', hr, ho, hgr⟩ := run_append_arg_grows (P := Tryd.prog) (w.alloc (.cells #[.int .i64 x] 3)) 28 28 3 i0 _ 1 8 Tryd.underlying28 hi hz hsz hby rfl (by decide) ⟨g, 0, none⟩ n c xs h.1 (fun j u hj => by
        have hj' := (List.getElem?_eq_some_iff.1 hj).1
        have := h.1
        rw [add_plain', Nat.zero_add, h2.cellAt j (by omega)]; exact hj) ⟨w.heap.size, 0, none⟩ 1 1 [.int .i64 x] rfl hnews (by omega) (by unfold maxLen; omega) (by omega)
      obtain ⟨g', c', rfl, hb', hl'⟩ := World.ownsRow.form ho (by omega)
      refine ⟨_, c', w', hr, owns_weak ho (Nat.zero_le _), .inr ⟨hb.grown hgr (by simp) (fun j hj => by cases hj), g', rfl, by simp at hb'; omega⟩⟩

set_option maxRecDepth 100000 in
set_option maxHeartbeats 1000000 in
theorem spoil_any (v : Value) (n base : Nat) (xs : List Value) (w : World) (hv : w.ownsRow base 3 1 v n xs) (hn : n ≤ 1048576) :
    Calls Tryd.prog 29 #[v] w fun e w' => e = .returned (.bool true) ∧ Only (fun k => v.ownBlock = some k) w w' := by
  obtain ⟨a, c, rfl, hs⟩ := owns_form hv
  have HS := hide hs
  have HV := hide hv
  clear hs hv
  go_enter Tryd.func29, Tryd.ntmps29
  go_wp2_with fail
  go_loopw [3] (fun i wr => ∃ (k : Nat) (us : List Value), k ≤ n ∧ i = .int .i64 k ∧ wr.ownsRow base 3 1 (.slice a n c) n us ∧ Only (fun k => (Value.slice a n c).ownBlock = some k) w wr) (fun i _ => n - (intOf i).toNat)
  case atStart => exact ⟨0, xs, Nat.zero_le _, rfl, HV.out, Only.refl _ _⟩
  case round =>
    obtain ⟨k, us, hk, rfl, hown, ho⟩ := hrel
    by_cases hlt : k < n
    · obtain ⟨g, rfl⟩ := HS.out (by omega)
      have ce := hown.cellAt k (by omega)
      rw [List.getElem?_eq_getElem (by rw [hown.1]; omega)] at ce
      generalize us[k]'(by rw [hown.1]; omega) = old at ce
      have cz := hown.frozenAt k
      have hkI : (k : Int) < (n : Int) := by omega
      have k0 : (0 : Int) ≤ (k : Int) := by omega
      have HO2 := hide (hown.stored k (.int .i64 (-1))).1
      have HON : Hid (Only (fun k => (Value.slice (some ⟨g, 0, none⟩) n c).ownBlock = some k) w (wr.setCell ⟨g, k, none⟩ (.int .i64 (-1)))) := ho.trans (Only.set (F := fun k => (Value.slice (some ⟨g, 0, none⟩) n c).ownBlock = some k) rfl _ _ _)
      clear hown ho
      go_wp2
      go_roundw
      case rel => exact ⟨k + 1, _, by omega, by go_num, HO2.out, HON.out⟩
      case measure => simp [intOf]; omega
    · have hkI : ¬ (k : Int) < (n : Int) := by omega
      have HOW := hide hown
      have HON := hide ho
      clear hown ho
      generalize wr = w1 at *
      go_wp2_with fail
      go_loopw [4, 5] (fun m i wr => ∃ (q : Nat) (ma : Option Addr) (mc : Nat) (us : List Value), q ≤ 64 ∧ i = .int .i64 q ∧ m = .slice ma (n + q) mc ∧ wr.ownsRow 0 3 1 (.slice ma (n + q) mc) (n + q) us ∧ Hid (∀ k, (Value.slice ma (n + q) mc).ownBlock = some k → (Value.slice a n c).ownBlock = some k ∨ w.heap.size ≤ k) ∧ Only (fun k => (Value.slice a n c).ownBlock = some k) w wr) (fun _ i _ => 64 - (intOf i).toNat)
      case atStart => exact ⟨0, a, c, us, by omega, rfl, rfl, owns_weak HOW.out (Nat.zero_le _), fun k hk => .inl hk, HON.out⟩
      case round =>
        obtain ⟨q, ma, mc, us2, hq, rfl, rfl, hm, HFR, ho⟩ := hrel
        by_cases hlt2 : q < 64
        · obtain ⟨g2, cp2, w2, hrun, ho2, hon2, hat2⟩ := push_i (-2) hm (Nat.zero_le _) (by omega)
          have HO2 := hide ho2
          have HFR2 : Hid (∀ k, (Value.slice (some ⟨g2, 0, none⟩) (n + q + 1) cp2).ownBlock = some k → (Value.slice a n c).ownBlock = some k ∨ w.heap.size ≤ k) := fun k hk => by
            have : g2 = k := by simpa [Value.ownBlock] using hk
            subst this
            rcases hat2 with h | h
            · exact HFR.out g2 h
            · exact .inr (Nat.le_trans ho.size h)
          have HON2 : Hid (Only (fun k => (Value.slice a n c).ownBlock = some k) w w2) := ho.next hon2 (fun i hi hg => (HFR.out i hg).elim id (fun h => by omega))
          obtain ⟨nq, hnq⟩ : ∃ nq, nq = n + q := ⟨_, rfl⟩
          rw [← hnq] at hrun HO2 HFR2 ⊢
          have HNQ := hide hnq
          have hqI : (q : Int) < 64 := by omega
          clear hm HFR ho ho2 hon2 hat2 hnq
          go_wp2_with (first | (at_builtin; refine wpList_append_run 28 rfl (.tmp 20) (.tmp 21) rfl rfl _ _ rfl rfl _ _ hrun ?_))
          go_roundw
          case rel => exact ⟨q + 1, _, cp2, _, by omega, by go_num, by rw [HNQ.out]; rfl, by rw [← Nat.add_assoc, ← HNQ.out]; exact HO2.out, by rw [← Nat.add_assoc, ← HNQ.out]; exact HFR2, HON2.out⟩
          case measure => simp [intOf]; omega
        · have hqI : ¬ (q : Int) < 64 := by omega
          have hqe : q = 64 := by omega
          subst hqe
          have HON2 := hide ho
          clear hm HFR ho
          go_wp2
          go_ret
          first | exact ⟨rfl, HON2.out⟩ | exact ⟨by simp, HON2.out⟩

end Go.Proofs.YtdghlblgmihbpaaDoor
