import Derived.Test.YtpeobpmooledaaaDoorGH
import Derived.Test.YtpeobpmooledaaaDoorGF
import Derived.Test.YtpeobpmooledaaaDoorSRSeal
import Derived.Deep.DeepCutAuto
namespace Go.Proofs.YtpeobpmooledaaaDoor.S
open Go.RowKit

/-- What the document's Read answers. -/
def rreadV (l : List UInt8) (id : Int) : Array Value := if okRead l id then #[.agg (parse l).cells.toArray, .int .i64 0] else #[.agg #[.int .i64 0, .int .i64 0, .int .u64 0, .int .i64 0, .string ⟨#[]⟩], .int .i64 2]
theorem rreadV_ok {l : List UInt8} {id : Int} (h : okRead l id) : rreadV l id = #[.agg #[.int .i64 (nums l 0 : Int), .int .i64 (nums l 2 : Int), .int .u64 (nums l 3 : Int), .int .i64 (nums l 1 : Int), .string ⟨(l.drop 24).toArray⟩], .int .i64 0] := by unfold rreadV; rw [if_pos h]; rfl
theorem rreadV_no {l : List UInt8} {id : Int} (h : ¬ okRead l id) : rreadV l id = #[.agg #[.int .i64 0, .int .i64 0, .int .u64 0, .int .i64 0, .string ⟨#[]⟩], .int .i64 2] := by unfold rreadV; rw [if_neg h]
theorem num0_get (l : List UInt8) (hl : l.length = 4096) : (l[0]'(by omega)).toNat = nums l 0 := by
  match l, hl with
  | x :: r, _ => simp [nums, place, width, sub, beNat]

set_option maxRecDepth 100000 in
set_option maxHeartbeats 4000000 in
theorem rread_len (g cap : Nat) (l : List UInt8) (id : Int) (w : World) (hl : l.length = 4096) (hcap : 4096 ≤ cap) (hcm : cap ≤ 9223372036854775807)
    (hc : ∀ j (h : j < l.length), w.cell? ⟨g, j, none⟩ = some (.int .u8 (l[j].toNat : Int))) :
    Calls Tryd.prog 40 #[.slice (some ⟨g, 0, none⟩) 4096 cap, .int .i64 id] w fun e w' => e = .returned (.tuple (rreadV l id)) ∧ Below w.heap.size w w' := by
  have hgl : g < w.heap.size := World.block_lt_of_cell? w _ (hc 0 (by omega))
  have hcapI : (4096 : Int) ≤ (cap : Int) := by omega
  have b0 := wrap_n (nums l 0) (by have := nums0 l; omega)
  have b1 := wrap_n (nums l 1) (by have := nums1 l; omega)
  have b2 := wrap_n (nums l 2) (by have := nums2 l; omega)
  have HB3 : Hid (nums l 3 < 18446744073709551616) := nums3 l
  have HB0 : Hid (Below w.heap.size w (w.alloc (.cells #[.int .i64 0, .int .i64 0, .int .u64 0, .int .i64 0, .string ⟨#[]⟩] 70))) := below_new w _
  have HR0 : Hid ((w.alloc (.cells #[.int .i64 0, .int .i64 0, .int .u64 0, .int .i64 0, .string ⟨#[]⟩] 70)).heap[w.heap.size]? = some (.cells #[.int .i64 0, .int .i64 0, .int .u64 0, .int .i64 0, .string ⟨#[]⟩] 70 (0, 0))) := heap_alloc_new w _
  have HC : Hid (∀ j (h : j < l.length), (w.alloc (.cells #[.int .i64 0, .int .i64 0, .int .u64 0, .int .i64 0, .string ⟨#[]⟩] 70)).cell? ⟨g, j, none⟩ = some (.int .u8 (l[j].toNat : Int))) := fun j hj => (HB0.out.cell (p := ⟨g, j, none⟩) hgl).trans (hc j hj)
  have HLEN := hide hl
  have HSZ : Hid (w.heap.size < (w.alloc (.cells #[.int .i64 0, .int .i64 0, .int .u64 0, .int .i64 0, .string ⟨#[]⟩] 70)).heap.size) := by show _ < _; simp
  clear hc hl
  go_enter Tryd.func40, Tryd.ntmps40
  go_wp2_with fail
  generalize (w.alloc (.cells #[.int .i64 0, .int .i64 0, .int .u64 0, .int .i64 0, .string ⟨#[]⟩] 70)) = W0 at *
  have hgW : g < W0.heap.size := by have := HSZ.out; omega
  have cz : W0.cell? ⟨g, 0, none⟩ = some (.int .u8 (nums l 0 : Int)) := by
    have h := HC.out 0 (by rw [HLEN.out]; decide)
    rw [num0_get l HLEN.out] at h; exact h
  have hcv : (convert 41 9 (.slice (some ⟨g, 24, none⟩) 4072 (cap - 24))).run Tryd.prog W0.drew = .ok (.string ⟨(l.drop 24).toArray⟩) W0.drew := conv_body g cap l _ HLEN.out HC.out
  have hcv2 : ∀ o, (convert 41 9 (.slice (some ⟨g, 24, none⟩) 4072 (cap - 24))).run Tryd.prog (W0.alloc o).drew = .ok (.string ⟨(l.drop 24).toArray⟩) (W0.alloc o).drew := fun o => conv_body g cap l _ HLEN.out (fun j hj => ((below_new W0 o).cell (p := ⟨g, j, none⟩) (World.block_lt_of_cell? W0 _ (HC.out j hj))).trans (HC.out j hj))
  have HN4 : Hid (∀ W, (∀ j (h : j < l.length), W.cell? ⟨g, j, none⟩ = some (.int .u8 (l[j].toNat : Int))) → Calls Tryd.prog 48 #[.slice (some ⟨g, 0, none⟩) 4096 cap, .int .i64 4, .int .i64 8] W fun e w' => e = .returned (.int .u64 (nums l 2 : Int)) ∧ W = w') := fun W hW => rnum4 g cap l W HLEN.out hcap hcm hW
  have HN8 : Hid (∀ W, (∀ j (h : j < l.length), W.cell? ⟨g, j, none⟩ = some (.int .u8 (l[j].toNat : Int))) → Calls Tryd.prog 48 #[.slice (some ⟨g, 0, none⟩) 4096 cap, .int .i64 8, .int .i64 16] W fun e w' => e = .returned (.int .u64 (nums l 3 : Int)) ∧ W = w') := fun W hW => rnum8 g cap l W HLEN.out hcap hcm hW
  have HN2 : Hid (∀ W, (∀ j (h : j < l.length), W.cell? ⟨g, j, none⟩ = some (.int .u8 (l[j].toNat : Int))) → Calls Tryd.prog 48 #[.slice (some ⟨g, 0, none⟩) 4096 cap, .int .i64 2, .int .i64 4] W fun e w' => e = .returned (.int .u64 (nums l 1 : Int)) ∧ W = w') := fun W hW => rnum2 g cap l W HLEN.out hcap hcm hW
  have HCA : Hid (∀ o, ∀ j (h : j < l.length), (W0.alloc o).cell? ⟨g, j, none⟩ = some (.int .u8 (l[j].toNat : Int))) := fun o j hj => ((below_new W0 o).cell (p := ⟨g, j, none⟩) (World.block_lt_of_cell? W0 _ (HC.out j hj))).trans (HC.out j hj)
  go_cut [6] (fun u6 wx => u6 = .pointer (some ⟨W0.heap.size, 0, none⟩) ∧ wx = (W0.alloc (.cells #[.int .i64 (nums l 0 : Int), .int .i64 (nums l 2 : Int), .int .u64 (nums l 3 : Int), .int .i64 (nums l 1 : Int), .string ⟨(l.drop 24).toArray⟩] 70)).drew)
  case first =>
    go_region_held (fun w' => w'.cell? ⟨g, 0, none⟩ = some (.int .u8 (nums l 0 : Int))) (go_keep)
      (first
        | (go_at_call_of 48 (Value.int IntKind.i64 16); refine (HN8.out _ ?_).mono ?_; (first | exact HC.out | exact HCA.out _); rintro e w' ⟨rfl, rfl⟩)
        | (go_at_call_of 48 (Value.int IntKind.i64 2); refine (HN2.out _ ?_).mono ?_; (first | exact HC.out | exact HCA.out _); rintro e w' ⟨rfl, rfl⟩)
        | (go_at_call_of 48 (Value.int IntKind.i64 8); refine (HN4.out _ ?_).mono ?_; (first | exact HC.out | exact HCA.out _); rintro e w' ⟨rfl, rfl⟩))
    all_goals
      go_wp2_with fail
      go_meet
      case rel => exact ⟨rfl, rfl⟩
  case rest =>
    obtain ⟨rfl, rfl⟩ := hcut
    have HX3 : Hid (Boxed W0.heap.size [.int .i64 (nums l 0 : Int), .int .i64 (nums l 2 : Int), .int .u64 (nums l 3 : Int), .int .i64 (nums l 1 : Int), .string ⟨(l.drop 24).toArray⟩] (W0.alloc (.cells #[.int .i64 (nums l 0 : Int), .int .i64 (nums l 2 : Int), .int .u64 (nums l 3 : Int), .int .i64 (nums l 1 : Int), .string ⟨(l.drop 24).toArray⟩] 70)).drew) := boxed_new W0 _ _
    have HB3' : Hid (Below W0.heap.size W0 (W0.alloc (.cells #[.int .i64 (nums l 0 : Int), .int .i64 (nums l 2 : Int), .int .u64 (nums l 3 : Int), .int .i64 (nums l 1 : Int), .string ⟨(l.drop 24).toArray⟩] 70)).drew) := (below_new W0 (.cells #[.int .i64 (nums l 0 : Int), .int .i64 (nums l 2 : Int), .int .u64 (nums l 3 : Int), .int .i64 (nums l 1 : Int), .string ⟨(l.drop 24).toArray⟩] 70)).drew
    clear hcv hcv2 cz HN4 HN8 HN2 HCA
    generalize (W0.alloc (.cells #[.int .i64 (nums l 0 : Int), .int .i64 (nums l 2 : Int), .int .u64 (nums l 3 : Int), .int .i64 (nums l 1 : Int), .string ⟨(l.drop 24).toArray⟩] 70)).drew = w3 at *
    have c0 : w3.cell? ⟨W0.heap.size, 0, none⟩ = some (.int .i64 (nums l 0 : Int)) := HX3.out.2 0 (by simp)
    have c1 : w3.cell? ⟨W0.heap.size, 1, none⟩ = some (.int .i64 (nums l 2 : Int)) := HX3.out.2 1 (by simp)
    have c2 : w3.cell? ⟨W0.heap.size, 2, none⟩ = some (.int .u64 (nums l 3 : Int)) := HX3.out.2 2 (by simp)
    have c3 : w3.cell? ⟨W0.heap.size, 3, none⟩ = some (.int .i64 (nums l 1 : Int)) := HX3.out.2 3 (by simp)
    have c4 : w3.cell? ⟨W0.heap.size, 4, none⟩ = some (.string ⟨(l.drop 24).toArray⟩) := HX3.out.2 4 (by simp)
    by_cases hm : May (parse l)
    · have HP : Hid (∀ w, Calls Tryd.prog 49 #[.agg #[.int .i64 (nums l 0 : Int), .int .i64 (nums l 2 : Int), .int .u64 (nums l 3 : Int), .int .i64 (nums l 1 : Int), .string ⟨(l.drop 24).toArray⟩]] w fun e w' => ∃ g cap, e = .returned (.tuple #[.slice (some ⟨g, 0, none⟩) 4096 cap, .int .i64 0]) ∧ w'.ownsRow w.heap.size 5 1 (.slice (some ⟨g, 0, none⟩) 4096 cap) 4096 (u8s (page (parse l))) ∧ Below w.heap.size w w') := fun w => rseal_ok (parse l) w hm HB3.out
      have HPL : Hid ((page (parse l)).length = 4096) := page_len _ hm
      have HMY := hide hm
      clear hm
      go_wp2_with fail
      refine (HP.out _).mono ?_
      rintro e w4 ⟨g4, cap4, rfl, hown4, hb4⟩
      have HX4 := hide (HX3.out.below hb4)
      have HB4 := hide (Below.next HB3'.out hb4)
      have RA := hide (rd_of_owns hown4).any
      have RB : Hid (RdA w4 (.slice (some ⟨g, 0, none⟩) 4096 cap) l) := ⟨_, cap, by rw [HLEN.out], fun j hj => ⟨g, 0, rfl, by rw [Nat.zero_add, HB4.out.cell (p := ⟨g, j, none⟩) hgW]; exact HC.out j hj⟩⟩
      clear c0 c1 c2 c3 c4 hb4 hown4
      go_wp2_with fail
      refine (same_any _ _ (page (parse l)) l _ (by rw [HPL.out]; decide) (by rw [HLEN.out]; decide) RA.out RB.out).mono ?_
      rintro e w5 ⟨rfl, hb5⟩
      have HX5 := hide (HX4.out.below hb5)
      have HB5 := hide (Below.next HB4.out hb5)
      have hr5 : w5.heap[w.heap.size]? = some (.cells #[.int .i64 0, .int .i64 0, .int .u64 0, .int .i64 0, .string ⟨#[]⟩] 70 (0, 0)) := by rw [HB5.out.block w.heap.size HSZ.out]; exact HR0.out
      have c0 : w5.cell? ⟨W0.heap.size, 0, none⟩ = some (.int .i64 (nums l 0 : Int)) := HX5.out.2 0 (by simp)
      have c1 : w5.cell? ⟨W0.heap.size, 1, none⟩ = some (.int .i64 (nums l 2 : Int)) := HX5.out.2 1 (by simp)
      have c2 : w5.cell? ⟨W0.heap.size, 2, none⟩ = some (.int .u64 (nums l 3 : Int)) := HX5.out.2 2 (by simp)
      have c3 : w5.cell? ⟨W0.heap.size, 3, none⟩ = some (.int .i64 (nums l 1 : Int)) := HX5.out.2 3 (by simp)
      have c4 : w5.cell? ⟨W0.heap.size, 4, none⟩ = some (.string ⟨(l.drop 24).toArray⟩) := HX5.out.2 4 (by simp)
      have z0 : w5.cell? ⟨w.heap.size, 0, none⟩ = some (.int .i64 0) := by rw [cell_of_row _ _ _ _ _ _ hr5]; rfl
      have z1 : w5.cell? ⟨w.heap.size, 1, none⟩ = some (.int .i64 0) := by rw [cell_of_row _ _ _ _ _ _ hr5]; rfl
      have z2 : w5.cell? ⟨w.heap.size, 2, none⟩ = some (.int .u64 0) := by rw [cell_of_row _ _ _ _ _ _ hr5]; rfl
      have z3 : w5.cell? ⟨w.heap.size, 3, none⟩ = some (.int .i64 0) := by rw [cell_of_row _ _ _ _ _ _ hr5]; rfl
      have z4 : w5.cell? ⟨w.heap.size, 4, none⟩ = some (.string ⟨#[]⟩) := by rw [cell_of_row _ _ _ _ _ _ hr5]; rfl
      have y0 : w5.frozen? ⟨w.heap.size, 0, none⟩ = false := frozen_of_row _ _ _ _ _ hr5
      have y1 : w5.frozen? ⟨w.heap.size, 1, none⟩ = false := frozen_of_row _ _ _ _ _ hr5
      have y2 : w5.frozen? ⟨w.heap.size, 2, none⟩ = false := frozen_of_row _ _ _ _ _ hr5
      have y3 : w5.frozen? ⟨w.heap.size, 3, none⟩ = false := frozen_of_row _ _ _ _ _ hr5
      have y4 : w5.frozen? ⟨w.heap.size, 4, none⟩ = false := frozen_of_row _ _ _ _ _ hr5
      have HROW := hide hr5
      have HBF : Hid (Below w.heap.size w w5) := HB0.out.trans (HB5.out.mono (Nat.le_of_lt HSZ.out))
      clear hb5 hr5 HX4 HB4 RA RB
      by_cases hp : page (parse l) = l
      · rw [decide_eq_true hp]
        by_cases hid : (nums l 2 : Int) = id
        · subst hid
          have HOK : Hid (okRead l (nums l 2 : Int)) := ⟨HLEN.out, rfl, HMY.out, hp⟩
          have hd0 : ((nums l 2 : Int) != (nums l 2 : Int)) = false := by simp
          clear hp
          go_wp2_with fail
          (try simp only [Exit.inBlock, Exit.then])
          refine bodyPost_ret (results_row_tmp rfl _ _ w.heap.size 70 #[.int .i64 (nums l 0 : Int), .int .i64 (nums l 2 : Int), .int .u64 (nums l 3 : Int), .int .i64 (nums l 1 : Int), .string ⟨(l.drop 24).toArray⟩] (0, 0) _ rfl (set_five HROW.out) Tryd.underlying70 rfl (by kernel_rfl)) rfl ⟨?_, below_five HBF.out (Nat.le_refl _)⟩
          rw [rreadV_ok HOK.out]; rfl
        · have hd0 : ((nums l 2 : Int) != id) = true := by rw [bne_iff_ne]; exact hid
          have HOK : Hid (¬ okRead l id) := fun h => hid h.2.1
          clear hp hid
          go_wp2_with fail
          (try simp only [Exit.inBlock, Exit.then])
          refine bodyPost_ret (results_row_tmp rfl _ _ w.heap.size 70 #[.int .i64 0, .int .i64 0, .int .u64 0, .int .i64 0, .string ⟨#[]⟩] (0, 0) _ rfl (set_five HROW.out) Tryd.underlying70 rfl (by kernel_rfl)) rfl ⟨?_, below_five HBF.out (Nat.le_refl _)⟩
          rw [rreadV_no HOK.out]; rfl
      · rw [decide_eq_false hp]
        have HOK : Hid (¬ okRead l id) := fun h => hp h.2.2.2
        clear hp
        go_wp2_with fail
        (try simp only [Exit.inBlock, Exit.then])
        refine bodyPost_ret (results_row_tmp rfl _ _ w.heap.size 70 #[.int .i64 0, .int .i64 0, .int .u64 0, .int .i64 0, .string ⟨#[]⟩] (0, 0) _ rfl (set_five HROW.out) Tryd.underlying70 rfl (by kernel_rfl)) rfl ⟨?_, below_five HBF.out (Nat.le_refl _)⟩
        rw [rreadV_no HOK.out]; rfl
    · have hbs : (parse l).body.size ≤ 140737488355328 := by
        show (ByteArray.mk (l.drop 24).toArray).size ≤ _
        have h1 : (ByteArray.mk (l.drop 24).toArray).size = (l.drop 24).length := by simp [ByteArray.size]
        have h2 := HLEN.out
        rw [h1, List.length_drop]; omega
      have HP : Hid (∀ w, Calls Tryd.prog 49 #[.agg #[.int .i64 (nums l 0 : Int), .int .i64 (nums l 2 : Int), .int .u64 (nums l 3 : Int), .int .i64 (nums l 1 : Int), .string ⟨(l.drop 24).toArray⟩]] w fun e w' => e = .returned (.tuple #[.slice none 0 0, .int .i64 1]) ∧ Below w.heap.size w w') := fun w => rseal_no (parse l) w hbs hm
      have HOK : Hid (¬ okRead l id) := fun h => hm h.2.2.1
      clear hm hbs
      go_wp2_with fail
      refine (HP.out _).mono ?_
      rintro e w4 ⟨rfl, hb4⟩
      have HB4 := hide (Below.next HB3'.out hb4)
      have RA : Hid (RdA w4 (.slice none 0 0) []) := ⟨none, 0, rfl, fun j h => by simp at h⟩
      have RB : Hid (RdA w4 (.slice (some ⟨g, 0, none⟩) 4096 cap) l) := ⟨_, cap, by rw [HLEN.out], fun j hj => ⟨g, 0, rfl, by rw [Nat.zero_add, HB4.out.cell (p := ⟨g, j, none⟩) hgW]; exact HC.out j hj⟩⟩
      clear c0 c1 c2 c3 c4 hb4
      go_wp2_with fail
      refine (same_any _ _ [] l _ (by decide) (by rw [HLEN.out]; decide) RA.out RB.out).mono ?_
      rintro e w5 ⟨rfl, hb5⟩
      have HB5 := hide (Below.next HB4.out hb5)
      have hr5 : w5.heap[w.heap.size]? = some (.cells #[.int .i64 0, .int .i64 0, .int .u64 0, .int .i64 0, .string ⟨#[]⟩] 70 (0, 0)) := by rw [HB5.out.block w.heap.size HSZ.out]; exact HR0.out
      have z0 : w5.cell? ⟨w.heap.size, 0, none⟩ = some (.int .i64 0) := by rw [cell_of_row _ _ _ _ _ _ hr5]; rfl
      have z1 : w5.cell? ⟨w.heap.size, 1, none⟩ = some (.int .i64 0) := by rw [cell_of_row _ _ _ _ _ _ hr5]; rfl
      have z2 : w5.cell? ⟨w.heap.size, 2, none⟩ = some (.int .u64 0) := by rw [cell_of_row _ _ _ _ _ _ hr5]; rfl
      have z3 : w5.cell? ⟨w.heap.size, 3, none⟩ = some (.int .i64 0) := by rw [cell_of_row _ _ _ _ _ _ hr5]; rfl
      have z4 : w5.cell? ⟨w.heap.size, 4, none⟩ = some (.string ⟨#[]⟩) := by rw [cell_of_row _ _ _ _ _ _ hr5]; rfl
      have y0 : w5.frozen? ⟨w.heap.size, 0, none⟩ = false := frozen_of_row _ _ _ _ _ hr5
      have y1 : w5.frozen? ⟨w.heap.size, 1, none⟩ = false := frozen_of_row _ _ _ _ _ hr5
      have y2 : w5.frozen? ⟨w.heap.size, 2, none⟩ = false := frozen_of_row _ _ _ _ _ hr5
      have y3 : w5.frozen? ⟨w.heap.size, 3, none⟩ = false := frozen_of_row _ _ _ _ _ hr5
      have y4 : w5.frozen? ⟨w.heap.size, 4, none⟩ = false := frozen_of_row _ _ _ _ _ hr5
      have HROW := hide hr5
      have HBF : Hid (Below w.heap.size w w5) := HB0.out.trans (HB5.out.mono (Nat.le_of_lt HSZ.out))
      clear hb5 hr5 HB4 RA RB
      rw [decide_eq_false (show ¬ [] = l from fun h => by have := HLEN.out; rw [← h] at this; simp at this)]
      go_wp2_with fail
      (try simp only [Exit.inBlock, Exit.then])
      refine bodyPost_ret (results_row_tmp rfl _ _ w.heap.size 70 #[.int .i64 0, .int .i64 0, .int .u64 0, .int .i64 0, .string ⟨#[]⟩] (0, 0) _ rfl (set_five HROW.out) Tryd.underlying70 rfl (by kernel_rfl)) rfl ⟨?_, below_five HBF.out (Nat.le_refl _)⟩
      rw [rreadV_no HOK.out]; rfl

set_option maxRecDepth 100000 in
set_option maxHeartbeats 1000000 in
theorem rread_short (a0 : Option Addr) (n cap : Nat) (l : List UInt8) (id : Int) (w : World) (hl : l.length = n) (hn : n ≠ 4096) :
    Calls Tryd.prog 40 #[.slice a0 n cap, .int .i64 id] w fun e w' => e = .returned (.tuple (rreadV l id)) ∧ Below w.heap.size w w' := by
  have HOK : Hid (¬ okRead l id) := fun h => hn (hl.symm.trans h.1)
  have hd0 : ((n : Int) != 4096) = true := by rw [bne_iff_ne]; omega
  have HBF : Hid (Below w.heap.size w (w.alloc (.cells #[.int .i64 0, .int .i64 0, .int .u64 0, .int .i64 0, .string ⟨#[]⟩] 70))) := below_new w _
  have HROW : Hid ((w.alloc (.cells #[.int .i64 0, .int .i64 0, .int .u64 0, .int .i64 0, .string ⟨#[]⟩] 70)).heap[w.heap.size]? = some (.cells #[.int .i64 0, .int .i64 0, .int .u64 0, .int .i64 0, .string ⟨#[]⟩] 70 (0, 0))) := heap_alloc_new w _
  clear hl hn
  go_enter Tryd.func40, Tryd.ntmps40
  go_wp2_with fail
  (try simp only [Exit.inBlock, Exit.then])
  refine bodyPost_ret (results_row_tmp rfl _ _ w.heap.size 70 #[.int .i64 0, .int .i64 0, .int .u64 0, .int .i64 0, .string ⟨#[]⟩] (0, 0) _ rfl HROW.out Tryd.underlying70 rfl (by kernel_rfl)) rfl ⟨?_, HBF.out⟩
  rw [rreadV_no HOK.out]; rfl

theorem rread_any (v : Value) (l : List UInt8) (id : Int) (w : World) (hr : RdB w v l) :
    Calls Tryd.prog 40 #[v, .int .i64 id] w fun e w' => e = .returned (.tuple (rreadV l id)) ∧ Below w.heap.size w w' := by
  rcases hr with ⟨rfl, rfl⟩ | ⟨g, cap, rfl, h1, h2, h3, h4⟩
  · exact rread_short none 0 0 [] id w rfl (by decide)
  · by_cases hl : l.length = 4096
    · rw [hl] at h1 ⊢
      exact rread_len g cap l id w hl h1 h2 h4
    · exact rread_short _ l.length cap l id w rfl hl

end Go.Proofs.YtpeobpmooledaaaDoor.S
