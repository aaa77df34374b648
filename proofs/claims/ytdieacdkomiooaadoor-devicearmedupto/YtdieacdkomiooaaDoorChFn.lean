import Derived.Test.YtdieacdkomiooaaDoorChMath
namespace Go.Proofs.YtdieacdkomiooaaDoor
open Go.RowKit Go.Maps

theorem torn_full (D J : ByteArray) (f : Fate) (hf : f.junk = J) (c : Nat) (hc : c = cutOf f.cut) (r : ByteArray) (hr : r = mkb ((bl D).take c)) : (r ++ J ++ zsec).extract 0 512 = tornB D f := by
  apply bl_inj
  rw [bl_head, bl_cat, bl_cat, hr, bl_mkb, zsec, bl_mkb, tornB, bl_mkb, hf, hc]

set_option maxRecDepth 100000 in
set_option maxHeartbeats 800000 in
theorem ltorn_any (D : ByteArray) (f : Fate) (w : World) (hD : D.size = 512) (hJ : f.junk.size ≤ 1048576) : Calls Tryd.prog 32 #[.string D, .agg #[.int .i64 f.ix, .int .i64 f.kind, .int .i64 f.cut, .string f.junk]] w fun e w' => e = .returned (.string (tornB D f)) ∧ Below w.heap.size w w' := by
  obtain ⟨fi, fk, fc, J⟩ := f
  have hle := cutOf_le fc
  simp only [] at hJ
  have HC : Hid (cutOf fc = (clampN fc 0 512).toNat) := (rfl : cutOf fc = _)
  have HE : Hid (∀ n, D.extract 0 n = mkb ((bl D).take n)) := fun n => ext_take D n
  have HA : Hid (D = mkb ((bl D).take 512)) := take_all D 512 (by omega)
  have HT : Hid (∀ r, r = mkb ((bl D).take (cutOf fc)) → Ending.returned (.string ((r ++ J ++ zsec).extract 0 512)) = .returned (.string (tornB D ⟨fi, fk, fc, J⟩))) := fun r hr => by rw [torn_full D J ⟨fi, fk, fc, J⟩ rfl _ rfl r hr]
  generalize cutOf fc = c at *
  have hex : (D.extract 0 c).size = c := by rw [← bl_len, bl_head, List.length_take, bl_len]; omega
  have hzs : zsec.size = 512 := zsec_size
  have hb := below_new w (.cells #[.int .i64 fi, .int .i64 fk, .int .i64 fc, .string J] 61)
  have hbx := (boxed_new w #[.int .i64 fi, .int .i64 fk, .int .i64 fc, .string J] 61).2
  have c3 : (w.alloc (.cells #[.int .i64 fi, .int .i64 fk, .int .i64 fc, .string J] 61)).cell? ⟨w.heap.size, 3, none⟩ = some (.string J) := hbx 3 (by simp)
  have hJ1 : (D.extract 0 c ++ J).size = c + J.size := by rw [ByteArray.size_append, hex]
  have hJ2 : (D ++ J).size = 512 + J.size := by rw [ByteArray.size_append, hD]
  clear hbx
  obtain ⟨WB, hWB⟩ : ∃ W, W = w.alloc (.cells #[.int .i64 fi, .int .i64 fk, .int .i64 fc, .string J] 61) := ⟨_, rfl⟩
  have HB : Hid (Below w.heap.size w WB) := by rw [hWB]; exact hb
  have HWB : Hid (WB = w.alloc (.cells #[.int .i64 fi, .int .i64 fk, .int .i64 fc, .string J] 61)) := hWB
  rw [← hWB] at c3
  have i0 : (512 : Int) ≤ (D.size : Int) := by omega
  clear hb hWB
  go_enter Tryd.func32, Tryd.ntmps32
  rcases (show fc < 0 ∨ 0 ≤ fc by omega) with h | h
  · have e0 : c = 0 := by rw [HC.out]; unfold clampN; rw [if_pos h]; rfl
    subst e0
    go_wp2_with fail
    have z1 : ¬ 9223372036854775807 < J.size := by omega
    have z2 : ¬ 9223372036854775807 < J.size + 512 := by omega
    rw [← HWB.out]
    go_region_held (fun w' => w'.cell? ⟨w.heap.size, 3, none⟩ = some (.string J)) (go_keep)
      (first
        | (go_at_call 49; refine (fill_any 0 0 rfl _).mono ?_; rintro e w1 ⟨vz, rfl, hvz, hbd⟩; obtain ⟨va, vc, rfl, hva⟩ := owns_form hvz; obtain ⟨gz, rfl⟩ := hva (by decide); have hb1 := undrew hbd; have hcv : (convert 48 9 (.slice (some ⟨gz, 0, none⟩) 512 vc)).run Tryd.prog w1 = .ok (.string zsec) w1 := chunk0 hvz 0; clear hbd hvz hva; have k3 := cell_below hb1 c3))
    all_goals
      have HR : Hid (Below w.heap.size w w1) := Below.next HB.out hb1
      clear hb1 hcv k3 c3 HB HWB
      go_wp2_with fail
      go_ret
      have hr := HT.out (mkb []) rfl
      rw [show mkb [] ++ J = J from bl_inj (by rw [bl_cat, bl_mkb, List.nil_append])] at hr
      exact ⟨hr, HR.out⟩
  · rcases (show 512 < fc ∨ fc ≤ 512 by omega) with h' | h'
    · have e0 : c = 512 := by rw [HC.out]; unfold clampN; rw [if_neg (by omega), if_pos h']; rfl
      subst e0
      go_wp2_with fail
      have z1 : ¬ 9223372036854775807 < 512 + J.size := by omega
      have z2 : ¬ 9223372036854775807 < 512 + J.size + 512 := by omega
      rw [← HWB.out]
      go_region_held (fun w' => w'.cell? ⟨w.heap.size, 3, none⟩ = some (.string J)) (go_keep)
        (first
          | (go_at_call 49; refine (fill_any 0 0 rfl _).mono ?_; rintro e w1 ⟨vz, rfl, hvz, hbd⟩; obtain ⟨va, vc, rfl, hva⟩ := owns_form hvz; obtain ⟨gz, rfl⟩ := hva (by decide); have hb1 := undrew hbd; have hcv : (convert 48 9 (.slice (some ⟨gz, 0, none⟩) 512 vc)).run Tryd.prog w1 = .ok (.string zsec) w1 := chunk0 hvz 0; clear hbd hvz hva; have k3 := cell_below hb1 c3))
      all_goals
        have HR : Hid (Below w.heap.size w w1) := Below.next HB.out hb1
        clear hb1 hcv k3 c3 HB HWB
        go_wp2_with fail
        go_ret
        exact ⟨HT.out _ (by first | exact HA.out | rw [HE.out]), HR.out⟩
    · have e0 : fc = (c : Int) := by rw [HC.out]; unfold clampN; rw [if_neg (by omega), if_neg (by omega)]; omega
      subst e0
      have i1 : (c : Int) ≤ (D.size : Int) := by omega
      have i2 : (0 : Int) ≤ (c : Int) := by omega
      go_wp2_with fail
      have z1 : ¬ 9223372036854775807 < c + J.size := by omega
      have z2 : ¬ 9223372036854775807 < c + J.size + 512 := by omega
      rw [← HWB.out]
      go_region_held (fun w' => w'.cell? ⟨w.heap.size, 3, none⟩ = some (.string J)) (go_keep)
        (first
          | (go_at_call 49; refine (fill_any 0 0 rfl _).mono ?_; rintro e w1 ⟨vz, rfl, hvz, hbd⟩; obtain ⟨va, vc, rfl, hva⟩ := owns_form hvz; obtain ⟨gz, rfl⟩ := hva (by decide); have hb1 := undrew hbd; have hcv : (convert 48 9 (.slice (some ⟨gz, 0, none⟩) 512 vc)).run Tryd.prog w1 = .ok (.string zsec) w1 := chunk0 hvz 0; clear hbd hvz hva; have k3 := cell_below hb1 c3))
      all_goals
        have HR : Hid (Below w.heap.size w w1) := Below.next HB.out hb1
        clear hb1 hcv k3 c3 HB HWB
        go_wp2_with fail
        go_ret
        exact ⟨HT.out _ (by first | rw [HE.out] | exact HA.out), HR.out⟩

end Go.Proofs.YtdieacdkomiooaaDoor
