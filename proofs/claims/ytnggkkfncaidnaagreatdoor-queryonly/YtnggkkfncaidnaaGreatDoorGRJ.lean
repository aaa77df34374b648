import Derived.Test.YtnggkkfncaidnaaGreatDoorGRI
import Derived.Test.YtnggkkfncaidnaaGreatDoorGRG
namespace Go.Proofs.YtnggkkfncaidnaaGreatDoor
open Go.RowKit

/-! A number, cut off. -/
def AtoP (o : Lib.NumEnd Int) (e : Ending) : Prop := (∃ v, o = .ok v ∧ e = .returned (.tuple #[.int .i64 v, .nilIface])) ∨ ((∀ v, o ≠ .ok v) ∧ ∃ n N, e = .returned (.tuple #[.int .i64 n, .iface 147 (.pointer (some ⟨N, 0, none⟩))]))
/-- The two errors of strconv. -/
def SynAt (w : World) : Prop := (∃ te pe, w.cell? ⟨17, 0, none⟩ = some (.iface te pe)) ∧ ∃ te pe, w.cell? ⟨18, 0, none⟩ = some (.iface te pe)
theorem SynAt.keep {w w' : World} (h : SynAt w) (hb : Below w.heap.size w w') : SynAt w' := by
  obtain ⟨⟨a, b, h1⟩, c, d, h2⟩ := h
  exact ⟨⟨a, b, (hb.cell (p := ⟨17, 0, none⟩) (World.block_lt_of_cell? w _ h1)).trans h1⟩, c, d, (hb.cell (p := ⟨18, 0, none⟩) (World.block_lt_of_cell? w _ h2)).trans h2⟩
theorem patoi_any (s : ByteArray) (w : World) (hs : s.size ≤ 1000000) (hv : SynAt w) :
    Calls Tryz.prog 80 #[.string s] w fun e w' => AtoP (Lib.atoiAll s.data.toList) e ∧ Below w.heap.size w w' := by
  obtain ⟨⟨a, b, h1⟩, c, d, h2⟩ := hv
  cases ho : Lib.atoiAll s.data.toList with
  | ok v =>
    refine (Any.strconv_Atoi_ok Tryz.lays172 s (by omega) v ho w).mono fun e w' h => ?_
    obtain ⟨h3, h4⟩ := h
    refine ⟨.inl ⟨v, rfl, h3⟩, ?_⟩
    rcases h4 with h4 | ⟨t, h4⟩
    · rw [h4]; exact Below.refl _ _
    · rw [h4]; exact Lib.bytesWorld_below _ _ _
  | «syntax» =>
    refine (Any.strconv_Atoi_syntax Tryz.lays172 s (by omega) ho _ w h1 (.inr ⟨a, b, rfl⟩)).mono fun e w' h => ?_
    obtain ⟨N, h3, _, _, h4⟩ := h
    exact ⟨.inr ⟨(fun v h => by cases h), _, N, h3⟩, h4⟩
  | range =>
    refine (Any.strconv_Atoi_range Tryz.lays172 s (by omega) ho _ w h2 (.inr ⟨c, d, rfl⟩)).mono fun e w' h => ?_
    obtain ⟨N, h3, _, _, h4⟩ := h
    exact ⟨.inr ⟨(fun v h => by cases h), _, N, h3⟩, h4⟩
/-- A number as it is written. -/
def numT (t : ByteArray) : Option Int := match Lib.atoiAll t.data.toList with | .ok v => if Lib.itoa v = t.data.toList then some v else none | _ => none
def numD (s : ByteArray) (n : Nat) : Pt × ByteArray := match numT (s.extract 0 n) with | none => (ptBad, ⟨#[]⟩) | some v => (⟨4, ⟨#[]⟩, v⟩, s.extract n s.size)
def numN (s : ByteArray) : Nat := 1 + leadN digitB (s.extract 1 s.size)
set_option maxHeartbeats 4000000 in
set_option maxRecDepth 100000 in
theorem pcutnum_any (s : ByteArray) (w : World) (h0 : 0 < s.size) (hs : s.size ≤ 1000000) (hv : SynAt w) (hi : ItoAt w) :
    Calls Tryz.prog 56 #[.string s] w fun e w' => e = .returned (.tuple #[.agg (ptV (numD s (numN s)).1), .string (numD s (numN s)).2]) ∧ Below w.heap.size w w' := by
  have q1 := below_new w (.cells (ptV pt0) 61)
  have x1 := RowAt.new w (ptV pt0) 61
  unfold pt0 ptV at q1 x1
  obtain ⟨W1, hW1⟩ : ∃ W1, w.alloc (.cells #[.int .i64 0, .string ⟨#[]⟩, .int .i64 0] 61) = W1 := ⟨_, rfl⟩
  rw [hW1] at q1 x1
  have HW := hide hW1
  have HX := hide x1
  have HB := hide q1
  have hz1 : (s.extract 1 s.size).size = s.size - 1 := by rw [ByteArray.size_extract]; omega
  have HL := hide (lenof_any 55 digitB Tryz.call55 (fun c W => pdigit_any c W) (s.extract 1 s.size) W1 (by omega))
  have hle := leadN_le digitB (s.extract 1 s.size)
  unfold numN
  obtain ⟨k, hk⟩ : ∃ k, k = leadN digitB (s.extract 1 s.size) := ⟨_, rfl⟩
  rw [← hk] at HL hle ⊢
  obtain ⟨r, hr⟩ : ∃ r, r = numD s (1 + k) := ⟨_, rfl⟩
  rw [← hr]
  have s1 : (1 : Int) ≤ (s.size : Int) := by omega
  have k0 : (0 : Int) ≤ 1 + (k : Int) := by omega
  have k1 : 1 + (k : Int) ≤ (s.size : Int) := by omega
  have k2 : (1 + (k : Int)).toNat = 1 + k := by omega
  have hz2 : (s.extract 0 (1 + k)).size = 1 + k := by rw [ByteArray.size_extract]; omega
  obtain ⟨t, ht⟩ : ∃ t, t = s.extract 0 (1 + k) := ⟨_, rfl⟩
  obtain ⟨z, hz⟩ : ∃ z, z = s.extract (1 + k) s.size := ⟨_, rfl⟩
  have HAT := hide (patoi_any t W1 (by rw [ht, hz2]; omega) (hv.keep q1))
  have HI := hide (hi.keep q1)
  unfold numD numT at hr
  rw [← ht, ← hz] at hr
  have HR := hide hr
  have htt : s.extract 0 (1 + k) = t := ht.symm
  have hzz : s.extract (1 + k) s.size = z := hz.symm
  clear hr ht hz hk hW1 q1 x1 hv hi hz1 hz2 hle
  go_enter Tryz.func56, Tryz.ntmps56
  go_wp2_with fail
  rw [HW.out]
  refine HL.out.mono ?_
  rintro e w' ⟨rfl, rfl⟩
  clear HL
  go_wp2_with fail
  refine HAT.out.mono ?_
  rintro e W2 ⟨hat, hb2⟩
  have HX2 := hide (HX.out.below hb2)
  have HB2 := hide (Below.next HB.out hb2)
  have HI2 := hide (HI.out.keep hb2)
  clear HAT hb2 HX HI HB HW
  rcases hat with ⟨v, ho, rfl⟩ | ⟨ho, n, N, rfl⟩
  · rw [ho] at HR
    simp only at HR
    have hrg : -9223372036854775808 ≤ v ∧ v ≤ 9223372036854775807 := Lib.atoiAll_bounds ho
    have HIC : Hid (Calls Tryz.prog 81 #[.int .i64 v] W2.drew fun e w' => e = .returned (.string (itoaB v)) ∧ Below W2.heap.size W2 w') := (HI2.out W2.drew v (Below.refl _ W2).drew hrg.1 hrg.2).mono fun e w' h => ⟨h.1, (Below.refl _ W2).drew.trans h.2⟩
    by_cases hit : Lib.itoa v = t.data.toList
    · rw [if_pos hit] at HR
      simp only at HR
      have hq : ((itoaB v).toList == t.toList) = true := by
        have : itoaB v = t := by unfold itoaB; rw [hit]
        rw [this]; exact str_eq _
      clear ho hit hrg HI2
      generalize itoaB v = tv at HIC hq
      go_wp2_with fail
      go_region_with (
        go_at_call 81
        refine HIC.out.mono ?_
        rintro e W3 ⟨rfl, hb3⟩)
      all_goals
        have hx3 := HX2.out.below hb3
        obtain ⟨⟨m0, m1, m2⟩, o0, o1, o2⟩ := pt_cells hx3
        go_wp2_with fail
        go_region
        go_wp2_with fail
        refine bodyPost_ret (results_row_tmp rfl _ _ w.heap.size 61 _ (0, 0) _ rfl (pt_put hx3 _ _ _) Tryz.underlying61 rfl (by kernel_rfl)) rfl ?_
        exact ⟨by rw [HR.out]; rfl, (pt_below (Below.next HB2.out hb3) (Nat.le_refl _) _ _ _).drew⟩
    · rw [if_neg hit] at HR
      simp only at HR
      have hq : ((itoaB v).toList == t.toList) = false := str_ne fun e => hit (by rw [← e]; rfl)
      clear ho hit hrg HI2
      generalize itoaB v = tv at HIC hq
      go_wp2_with fail
      go_region_with (
        go_at_call 81
        refine HIC.out.mono ?_
        rintro e W3 ⟨rfl, hb3⟩)
      all_goals
        have HX3 := hide (HX2.out.below hb3)
        have HST3 := hide (store_row W3 w.heap.size 61 _ #[.int .i64 1, .string ⟨#[]⟩, .int .i64 0] HX3.out (by kernel_rfl) rfl (by simp [Value.oneCell']))
        go_wp2_with (refine wpList_store_eq rfl 61 _ _ rfl _ _ rfl rfl HST3.out ?_)
        refine bodyPost_ret (results_row_tmp rfl _ _ w.heap.size 61 _ (0, 0) _ rfl (row_set _ _ _ _ _ HX3.out) Tryz.underlying61 rfl (by kernel_rfl)) rfl ?_
        exact ⟨by rw [HR.out]; rfl, below_row (Below.next HB2.out hb3) (Nat.le_refl _) _⟩
  · have HE : Hid (r = (ptBad, ⟨#[]⟩)) := by
      show _ = _
      rw [HR.out]
      cases ho2 : Lib.atoiAll t.data.toList with
      | ok v => exact absurd ho2 (ho v)
      | «syntax» => rfl
      | range => rfl
    have HST3 : Hid ((Instr.storeAt 61 (.pointer (some ⟨w.heap.size, 0, none⟩)) (.agg #[.int .i64 1, .string ⟨#[]⟩, .int .i64 0])).run Tryz.prog W2.drew = .ok () (W2.drew.setRow w.heap.size #[.int .i64 1, .string ⟨#[]⟩, .int .i64 0])) := store_row W2.drew w.heap.size 61 _ #[.int .i64 1, .string ⟨#[]⟩, .int .i64 0] HX2.out (by kernel_rfl) rfl (by simp [Value.oneCell'])
    clear HR ho HI2
    go_wp2_with fail
    go_region
    go_wp2_with (refine wpList_store_eq rfl 61 _ _ rfl _ _ rfl rfl HST3.out ?_)
    refine bodyPost_ret (results_row_tmp rfl _ _ w.heap.size 61 _ (0, 0) _ rfl (row_set W2.drew _ _ _ _ HX2.out) Tryz.underlying61 rfl (by kernel_rfl)) rfl ?_
    exact ⟨by rw [HE.out]; rfl, below_row HB2.out.drew (Nat.le_refl _) _⟩
end Go.Proofs.YtnggkkfncaidnaaGreatDoor

namespace Go.Proofs.YtnggkkfncaidnaaGreatDoor
open Go.RowKit

/-! A word, cut off. -/
def wordD (s : ByteArray) (n : Nat) : Pt := if resB (s.extract 0 n) = true then ⟨2, s.extract 0 n, 0⟩ else namedD (s.extract 0 n)
set_option maxHeartbeats 4000000 in
set_option maxRecDepth 100000 in
theorem pcutword_any (s : ByteArray) (w : World) (hs : s.size ≤ 1000000) :
    Calls Tryz.prog 53 #[.string s] w fun e w' => e = .returned (.tuple #[.agg (ptV (wordD s (leadN inwB s))), .string (s.extract (leadN inwB s) s.size)]) ∧ Below w.heap.size w w' := by
  have q1 := below_new w (.cells (ptV pt0) 61)
  have x1 := RowAt.new w (ptV pt0) 61
  unfold pt0 ptV at q1 x1
  obtain ⟨W1, hW1⟩ : ∃ W1, w.alloc (.cells #[.int .i64 0, .string ⟨#[]⟩, .int .i64 0] 61) = W1 := ⟨_, rfl⟩
  rw [hW1] at q1 x1
  have HW := hide hW1
  have HX := hide x1
  have HB := hide q1
  have HL := hide (lenof_any 67 inwB Tryz.call67 (fun c W => pinw_any c W) s W1 (by omega))
  have hle := leadN_le inwB s
  obtain ⟨n, hn⟩ : ∃ n, n = leadN inwB s := ⟨_, rfl⟩
  rw [← hn] at HL hle ⊢
  have n0 : (0 : Int) ≤ (n : Int) := by omega
  have n1 : (n : Int) ≤ (s.size : Int) := by omega
  have n2 : ((n : Int)).toNat = n := by omega
  have n3 : ((s.size : Int)).toNat = s.size := by omega
  have HR := hide (pres_any (s.extract 0 n) W1)
  have hsz : (s.extract 0 n).size ≤ 140737488355328 := by rw [ByteArray.size_extract]; omega
  obtain ⟨t, ht⟩ : ∃ t, t = wordD s n := ⟨_, rfl⟩
  rw [← ht]
  have HT := hide ht
  have HNM := hide (pnamed_any (s.extract 0 n) W1.drew hsz)
  clear ht hn hW1 q1 x1 hsz
  cases hr : resB (s.extract 0 n) with
  | true =>
    rw [hr] at HR
    have HE : Hid (t = ⟨2, s.extract 0 n, 0⟩) := by show _ = _; rw [HT.out, wordD, if_pos hr]
    clear hr HT HNM
    go_enter Tryz.func53, Tryz.ntmps53
    go_wp2_with fail
    rw [HW.out]
    refine HL.out.mono ?_
    rintro e w' ⟨rfl, rfl⟩
    clear HL
    go_wp2_with fail
    refine HR.out.mono ?_
    rintro e w' ⟨rfl, rfl⟩
    clear HR
    obtain ⟨⟨m0, m1, m2⟩, o0, o1, o2⟩ := pt_cells HX.out
    go_wp2_with fail
    go_region
    go_wp2_with fail
    refine bodyPost_ret (results_row_tmp rfl _ _ w.heap.size 61 _ (0, 0) _ rfl (pt_put HX.out _ _ _) Tryz.underlying61 rfl (by kernel_rfl)) rfl ?_
    exact ⟨by rw [HE.out]; rfl, (pt_below HB.out (Nat.le_refl _) _ _ _).drew⟩
  | false =>
    rw [hr] at HR
    have HE : Hid (t = namedD (s.extract 0 n)) := by show _ = _; rw [HT.out, wordD, hr, if_neg (by simp)]
    obtain ⟨u, hu⟩ : ∃ u, u = namedD (s.extract 0 n) := ⟨_, rfl⟩
    rw [← hu] at HNM HE
    obtain ⟨uk, ut, un⟩ := u
    clear hr HT hu
    go_enter Tryz.func53, Tryz.ntmps53
    go_wp2_with fail
    rw [HW.out]
    refine HL.out.mono ?_
    rintro e w' ⟨rfl, rfl⟩
    clear HL
    go_wp2_with fail
    refine HR.out.mono ?_
    rintro e w' ⟨rfl, rfl⟩
    clear HR
    go_wp2_with fail
    go_region_with (
      go_at_call 78
      refine HNM.out.mono ?_
      rintro e w2 ⟨rfl, hb2⟩
      have hx2 := RowAt.below (w := W1.drew) HX.out hb2
      obtain ⟨⟨m0, m1, m2⟩, o0, o1, o2⟩ := pt_cells hx2)
    all_goals
      go_wp2_with fail
      refine bodyPost_ret (results_row_tmp rfl _ _ w.heap.size 61 _ (0, 0) _ rfl (pt_put hx2 _ _ _) Tryz.underlying61 rfl (by kernel_rfl)) rfl ?_
      exact ⟨by rw [HE.out]; rfl, (pt_below (Below.next (Below.drew HB.out) hb2) (Nat.le_refl _) _ _ _)⟩
end Go.Proofs.YtnggkkfncaidnaaGreatDoor
