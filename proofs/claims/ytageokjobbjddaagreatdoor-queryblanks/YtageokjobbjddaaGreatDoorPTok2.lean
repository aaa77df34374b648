import Derived.Test.YtageokjobbjddaaGreatDoorGRH
namespace Go.Proofs.YtageokjobbjddaaGreatDoor
open Go.RowKit

/-! A word, cut off. -/
def wordD (s : ByteArray) (n : Nat) : Pt := if resB (s.extract 0 n) = true then ⟨2, s.extract 0 n, 0⟩ else namedD (s.extract 0 n)
set_option maxHeartbeats 4000000 in
set_option maxRecDepth 100000 in
theorem pcutword_any (s : ByteArray) (w : World) (hs : s.size ≤ 1000000) :
    Calls Tryz.prog 64 #[.string s] w fun e w' => e = .returned (.tuple #[.agg (ptV (wordD s (leadN inwB s))), .string (s.extract (leadN inwB s) s.size)]) ∧ Below w.heap.size w w' := by
  have q1 := below_new w (.cells (ptV pt0) 67)
  have x1 := RowAt.new w (ptV pt0) 67
  unfold pt0 ptV at q1 x1
  obtain ⟨W1, hW1⟩ : ∃ W1, w.alloc (.cells #[.int .i64 0, .string ⟨#[]⟩, .int .i64 0] 67) = W1 := ⟨_, rfl⟩
  rw [hW1] at q1 x1
  have HW := hide hW1
  have HX := hide x1
  have HB := hide q1
  have HL := hide (lenof_any 53 inwB Tryz.call53 (fun c W => pinw_any c W) s W1 (by omega))
  have hle := leadN_le inwB s
  obtain ⟨n, hn⟩ : ∃ n, n = leadN inwB s := ⟨_, rfl⟩
  rw [← hn] at HL hle ⊢
  have n0 : (0 : Int) ≤ (n : Int) := by omega
  have n1 : (n : Int) ≤ (s.size : Int) := by omega
  have n2 : ((n : Int)).toNat = n := by omega
  have n3 : ((s.size : Int)).toNat = s.size := by omega
  have HR := hide (pres_any (s.extract 0 n) W1)
  have hsz : (s.extract 0 n).size ≤ 140737488355328 := by rw [ByteArray.size_extract]; omega
  obtain ⟨t, ht⟩ : ∃ t, t = wordD s n := ⟨_, rfl⟩
  rw [← ht]
  have HT := hide ht
  have HNM := hide (pnamed_any (s.extract 0 n) W1.drew hsz)
  clear ht hn hW1 q1 x1 hsz
  cases hr : resB (s.extract 0 n) with
  | true =>
    rw [hr] at HR
    have HE : Hid (t = ⟨2, s.extract 0 n, 0⟩) := by show _ = _; rw [HT.out, wordD, if_pos hr]
    clear hr HT HNM
    go_enter Tryz.func64, Tryz.ntmps64
    go_wp2_with fail
    rw [HW.out]
    refine HL.out.mono ?_
    rintro e w' ⟨rfl, rfl⟩
    clear HL
    go_wp2_with fail
    refine HR.out.mono ?_
    rintro e w' ⟨rfl, rfl⟩
    clear HR
    obtain ⟨⟨m0, m1, m2⟩, o0, o1, o2⟩ := pt_cells HX.out
    go_wp2_with fail
    go_region
    go_wp2_with fail
    refine bodyPost_ret (results_row_tmp rfl _ _ w.heap.size 67 _ (0, 0) _ rfl (pt_put HX.out _ _ _) Tryz.underlying67 rfl (by kernel_rfl)) rfl ?_
    exact ⟨by rw [HE.out]; rfl, (pt_below HB.out (Nat.le_refl _) _ _ _).drew⟩
  | false =>
    rw [hr] at HR
    have HE : Hid (t = namedD (s.extract 0 n)) := by show _ = _; rw [HT.out, wordD, hr, if_neg (by simp)]
    obtain ⟨u, hu⟩ : ∃ u, u = namedD (s.extract 0 n) := ⟨_, rfl⟩
    rw [← hu] at HNM HE
    obtain ⟨uk, ut, un⟩ := u
    clear hr HT hu
    go_enter Tryz.func64, Tryz.ntmps64
    go_wp2_with fail
    rw [HW.out]
    refine HL.out.mono ?_
    rintro e w' ⟨rfl, rfl⟩
    clear HL
    go_wp2_with fail
    refine HR.out.mono ?_
    rintro e w' ⟨rfl, rfl⟩
    clear HR
    go_wp2_with fail
    go_region_with (
      go_at_call 82
      refine HNM.out.mono ?_
      rintro e w2 ⟨rfl, hb2⟩
      have hx2 := RowAt.below (w := W1.drew) HX.out hb2
      obtain ⟨⟨m0, m1, m2⟩, o0, o1, o2⟩ := pt_cells hx2)
    all_goals
      go_wp2_with fail
      refine bodyPost_ret (results_row_tmp rfl _ _ w.heap.size 67 _ (0, 0) _ rfl (pt_put hx2 _ _ _) Tryz.underlying67 rfl (by kernel_rfl)) rfl ?_
      exact ⟨by rw [HE.out]; rfl, (pt_below (Below.next (Below.drew HB.out) hb2) (Nat.le_refl _) _ _ _)⟩
end Go.Proofs.YtageokjobbjddaaGreatDoor
