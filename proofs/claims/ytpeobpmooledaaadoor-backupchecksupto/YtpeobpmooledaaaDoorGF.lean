import Derived.Test.YtpeobpmooledaaaDoorSReadL
namespace Go.Proofs.YtpeobpmooledaaaDoor.S
open Go.RowKit

set_option maxRecDepth 100000 in
set_option maxHeartbeats 4000000 in
theorem read_len (a : Addr) (g cap : Nat) (l : List UInt8) (id : Int) (w : World) (hl : l.length = 4096) (hcap : 4096 ≤ cap) (hcm : cap ≤ 9223372036854775807) (hL : Lay w) (hT : Tab w) (hE : w.cell? ⟨0, 0, none⟩ = some (.iface 101 (.pointer (some a))))
    (hc : ∀ j (h : j < l.length), w.cell? ⟨g, j, none⟩ = some (.int .u8 (l[j].toNat : Int))) :
    Calls Tryd.prog 44 #[.slice (some ⟨g, 0, none⟩) 4096 cap, .int .i64 id] w fun e w' => e = .returned (.tuple (readV a l id)) ∧ Below w.heap.size w w' := by
  have hgl : g < w.heap.size := World.block_lt_of_cell? w _ (hc 0 (by omega))
  have hcapI : (4096 : Int) ≤ (cap : Int) := by omega
  have b0 := wrap_n (nums l 0) (by have := nums0 l; omega)
  have b1 := wrap_n (nums l 1) (by have := nums1 l; omega)
  have b2 := wrap_n (nums l 2) (by have := nums2 l; omega)
  have HB3 : Hid (nums l 3 < 18446744073709551616) := nums3 l
  have HB0 : Hid (Below w.heap.size w (w.alloc (.cells #[.int .i64 0, .int .i64 0, .int .u64 0, .int .i64 0, .string ⟨#[]⟩] 70))) := below_new w _
  have HR0 : Hid ((w.alloc (.cells #[.int .i64 0, .int .i64 0, .int .u64 0, .int .i64 0, .string ⟨#[]⟩] 70)).heap[w.heap.size]? = some (.cells #[.int .i64 0, .int .i64 0, .int .u64 0, .int .i64 0, .string ⟨#[]⟩] 70 (0, 0))) := heap_alloc_new w _
  have HEL : Hid (0 < (w.alloc (.cells #[.int .i64 0, .int .i64 0, .int .u64 0, .int .i64 0, .string ⟨#[]⟩] 70)).heap.size) := by have hx : 0 < w.heap.size := World.block_lt_of_cell? w _ hE; show _ < _; simp <;> omega
  have HE0 : Hid ((w.alloc (.cells #[.int .i64 0, .int .i64 0, .int .u64 0, .int .i64 0, .string ⟨#[]⟩] 70)).cell? ⟨0, 0, none⟩ = some (.iface 101 (.pointer (some a)))) := ((below_new w (.cells #[.int .i64 0, .int .i64 0, .int .u64 0, .int .i64 0, .string ⟨#[]⟩] 70)).cell (p := ⟨0, 0, none⟩) (World.block_lt_of_cell? w _ hE)).trans hE
  have HL := hide (hL.below HB0.out)
  have HT := hide (hT.below HB0.out)
  have HC : Hid (∀ j (h : j < l.length), (w.alloc (.cells #[.int .i64 0, .int .i64 0, .int .u64 0, .int .i64 0, .string ⟨#[]⟩] 70)).cell? ⟨g, j, none⟩ = some (.int .u8 (l[j].toNat : Int))) := fun j hj => (HB0.out.cell (p := ⟨g, j, none⟩) hgl).trans (hc j hj)
  have HLEN := hide hl
  have HSZ : Hid (w.heap.size < (w.alloc (.cells #[.int .i64 0, .int .i64 0, .int .u64 0, .int .i64 0, .string ⟨#[]⟩] 70)).heap.size) := by show _ < _; simp
  have HG1 : Hid (0 < w.heap.size) := World.block_lt_of_cell? w _ hE
  clear hL hT hc hl hE
  go_enter Tryd.func44, Tryd.ntmps44
  go_wp2_with fail
  generalize (w.alloc (.cells #[.int .i64 0, .int .i64 0, .int .u64 0, .int .i64 0, .string ⟨#[]⟩] 70)) = W0 at *
  refine (readHead_any g cap l W0 HLEN.out hcap hcm HL.out HC.out).mono ?_
  rintro e w1 ⟨rfl, hb1⟩
  have HB1 := hide hb1
  clear hb1
  go_wp2_with fail
  have HH : Hid (HeadAt (w1.alloc (.cells #[.int .u64 (nums l 0 : Int), .int .u64 (nums l 1 : Int), .int .u64 (nums l 2 : Int), .int .u64 (nums l 3 : Int), .int .u64 (nums l 4 : Int)] 83)) w1.heap.size (nums l)) := heap_alloc_new w1 _
  have HB2 := hide (Below.next HB1.out (below_new w1 (.cells #[.int .u64 (nums l 0 : Int), .int .u64 (nums l 1 : Int), .int .u64 (nums l 2 : Int), .int .u64 (nums l 3 : Int), .int .u64 (nums l 4 : Int)] 83)))
  generalize (w1.alloc (.cells #[.int .u64 (nums l 0 : Int), .int .u64 (nums l 1 : Int), .int .u64 (nums l 2 : Int), .int .u64 (nums l 3 : Int), .int .u64 (nums l 4 : Int)] 83)) = w2 at *
  have d0 := HH.out.cell 0 (by decide)
  have d1 := HH.out.cell 1 (by decide)
  have d2 := HH.out.cell 2 (by decide)
  have d3 := HH.out.cell 3 (by decide)
  have hgW : g < W0.heap.size := by have := HSZ.out; omega
  have HC2 : Hid (∀ j (h : j < l.length), w2.cell? ⟨g, j, none⟩ = some (.int .u8 (l[j].toNat : Int))) := fun j hj => (HB2.out.cell (p := ⟨g, j, none⟩) hgW).trans (HC.out j hj)
  have hcv : (convert 41 9 (.slice (some ⟨g, 24, none⟩) 4072 (cap - 24))).run Tryd.prog w2.drew = .ok (.string ⟨(l.drop 24).toArray⟩) w2.drew := conv_body g cap l _ HLEN.out HC2.out
  have hcv2 : ∀ o, (convert 41 9 (.slice (some ⟨g, 24, none⟩) 4072 (cap - 24))).run Tryd.prog (w2.alloc o).drew = .ok (.string ⟨(l.drop 24).toArray⟩) (w2.alloc o).drew := fun o => conv_body g cap l _ HLEN.out (fun j hj => ((below_new w2 o).cell (p := ⟨g, j, none⟩) (World.block_lt_of_cell? w2 _ (HC2.out j hj))).trans (HC2.out j hj))
  clear HB1
  go_region_held (fun w' => w'.cell? ⟨w1.heap.size, 0, none⟩ = some (.int .u64 (nums l 0 : Int)) ∧ w'.cell? ⟨w1.heap.size, 1, none⟩ = some (.int .u64 (nums l 1 : Int)) ∧ w'.cell? ⟨w1.heap.size, 2, none⟩ = some (.int .u64 (nums l 2 : Int)) ∧ w'.cell? ⟨w1.heap.size, 3, none⟩ = some (.int .u64 (nums l 3 : Int))) (go_keep) (fail)
  all_goals
    have HX3 : Hid (Boxed w2.heap.size [.int .i64 (nums l 0 : Int), .int .i64 (nums l 2 : Int), .int .u64 (nums l 3 : Int), .int .i64 (nums l 1 : Int), .string ⟨(l.drop 24).toArray⟩] (w2.alloc (.cells #[.int .i64 (nums l 0 : Int), .int .i64 (nums l 2 : Int), .int .u64 (nums l 3 : Int), .int .i64 (nums l 1 : Int), .string ⟨(l.drop 24).toArray⟩] 70)).drew) := boxed_new w2 _ _
    have HB3' : Hid (Below W0.heap.size W0 (w2.alloc (.cells #[.int .i64 (nums l 0 : Int), .int .i64 (nums l 2 : Int), .int .u64 (nums l 3 : Int), .int .i64 (nums l 1 : Int), .string ⟨(l.drop 24).toArray⟩] 70)).drew) := (Below.next HB2.out (below_new w2 (.cells #[.int .i64 (nums l 0 : Int), .int .i64 (nums l 2 : Int), .int .u64 (nums l 3 : Int), .int .i64 (nums l 1 : Int), .string ⟨(l.drop 24).toArray⟩] 70))).drew
    clear hcv hcv2 d0 d1 d2 d3 HH HC2 HB2
    generalize (w2.alloc (.cells #[.int .i64 (nums l 0 : Int), .int .i64 (nums l 2 : Int), .int .u64 (nums l 3 : Int), .int .i64 (nums l 1 : Int), .string ⟨(l.drop 24).toArray⟩] 70)).drew = w3 at *
    have hr3 : w3.heap[w.heap.size]? = some (.cells #[.int .i64 0, .int .i64 0, .int .u64 0, .int .i64 0, .string ⟨#[]⟩] 70 (0, 0)) := by rw [HB3'.out.block w.heap.size HSZ.out]; exact HR0.out
    by_cases hid : (nums l 2 : Int) = id
    · subst hid
      have hd0 : ((nums l 2 : Int) != (nums l 2 : Int)) = false := by simp
      have c0 : w3.cell? ⟨w2.heap.size, 0, none⟩ = some (.int .i64 (nums l 0 : Int)) := HX3.out.2 0 (by simp)
      have c1 : w3.cell? ⟨w2.heap.size, 1, none⟩ = some (.int .i64 (nums l 2 : Int)) := HX3.out.2 1 (by simp)
      have c2 : w3.cell? ⟨w2.heap.size, 2, none⟩ = some (.int .u64 (nums l 3 : Int)) := HX3.out.2 2 (by simp)
      have c3 : w3.cell? ⟨w2.heap.size, 3, none⟩ = some (.int .i64 (nums l 1 : Int)) := HX3.out.2 3 (by simp)
      have c4 : w3.cell? ⟨w2.heap.size, 4, none⟩ = some (.string ⟨(l.drop 24).toArray⟩) := HX3.out.2 4 (by simp)
      by_cases hm : May (parse l)
      · have hbs : (parse l).body.size ≤ 140737488355328 := by rw [hm.2.2.2]; decide
        have HM : Hid (∀ w, Calls Tryd.prog 52 #[.agg #[.int .i64 (nums l 0 : Int), .int .i64 (nums l 2 : Int), .int .u64 (nums l 3 : Int), .int .i64 (nums l 1 : Int), .string ⟨(l.drop 24).toArray⟩]] w fun e w' => e = .returned (.bool true) ∧ Below w.heap.size w w') := fun w => by
          have h := mayBe_any (parse l) w hbs
          rw [decide_eq_true hm] at h
          exact h
        have HP : Hid (∀ w, Lay w → Tab w → Calls Tryd.prog 54 #[.agg #[.int .i64 (nums l 0 : Int), .int .i64 (nums l 2 : Int), .int .u64 (nums l 3 : Int), .int .i64 (nums l 1 : Int), .string ⟨(l.drop 24).toArray⟩]] w fun e w' => ∃ g, e = .returned (.slice (some ⟨g, 0, none⟩) 4096 4096) ∧ RowB w' g (page (parse l)) ∧ w.heap.size ≤ g ∧ Below w.heap.size w w') := fun w h1 h2 => pageOf_any (parse l) w hm HB3.out h1 h2
        have HPL : Hid ((page (parse l)).length = 4096) := page_len _ hm
        have HMY := hide hm
        clear hm hbs
        go_wp2_with fail
        refine (HM.out _).mono ?_
        rintro e w4 ⟨rfl, hb4⟩
        have HX4 := hide (HX3.out.below hb4)
        have HB4 := hide (Below.next HB3'.out hb4)
        clear c0 c1 c2 c3 c4 hb4 hr3
        have c0 : w4.cell? ⟨w2.heap.size, 0, none⟩ = some (.int .i64 (nums l 0 : Int)) := HX4.out.2 0 (by simp)
        have c1 : w4.cell? ⟨w2.heap.size, 1, none⟩ = some (.int .i64 (nums l 2 : Int)) := HX4.out.2 1 (by simp)
        have c2 : w4.cell? ⟨w2.heap.size, 2, none⟩ = some (.int .u64 (nums l 3 : Int)) := HX4.out.2 2 (by simp)
        have c3 : w4.cell? ⟨w2.heap.size, 3, none⟩ = some (.int .i64 (nums l 1 : Int)) := HX4.out.2 3 (by simp)
        have c4 : w4.cell? ⟨w2.heap.size, 4, none⟩ = some (.string ⟨(l.drop 24).toArray⟩) := HX4.out.2 4 (by simp)
        go_wp2_with fail
        refine (HP.out _ (HL.out.below HB4.out) (HT.out.below HB4.out)).mono ?_
        rintro e w5 ⟨g5, rfl, hr5, hg5, hb5⟩
        have HX5 := hide (HX4.out.below hb5)
        have HB5 := hide (Below.next HB4.out hb5)
        have RA : Hid (RdA w5 (.slice (some ⟨g5, 0, none⟩) 4096 4096) (page (parse l))) := (rd_row hr5 HPL.out (by decide)).any
        have RB : Hid (RdA w5 (.slice (some ⟨g, 0, none⟩) 4096 cap) l) := ⟨_, cap, by rw [HLEN.out], fun j hj => ⟨g, 0, rfl, by rw [Nat.zero_add, HB5.out.cell (p := ⟨g, j, none⟩) hgW]; exact HC.out j hj⟩⟩
        have hr5' : w5.heap[w.heap.size]? = some (.cells #[.int .i64 0, .int .i64 0, .int .u64 0, .int .i64 0, .string ⟨#[]⟩] 70 (0, 0)) := by rw [HB5.out.block w.heap.size HSZ.out]; exact HR0.out
        clear c0 c1 c2 c3 c4 hb5 hr5 hg5
        go_wp2_with fail
        refine (equal_any _ _ (page (parse l)) l _ RA.out RB.out (by rw [HPL.out]; decide) (by rw [HLEN.out]; decide)).mono ?_
        rintro e w5' ⟨rfl, rfl⟩
        by_cases hp : page (parse l) = l
        · have HOK : Hid (okRead l (nums l 2 : Int)) := ⟨HLEN.out, rfl, HMY.out, hp⟩
          rw [decide_eq_true hp]
          have c0 : w5.cell? ⟨w2.heap.size, 0, none⟩ = some (.int .i64 (nums l 0 : Int)) := HX5.out.2 0 (by simp)
          have c1 : w5.cell? ⟨w2.heap.size, 1, none⟩ = some (.int .i64 (nums l 2 : Int)) := HX5.out.2 1 (by simp)
          have c2 : w5.cell? ⟨w2.heap.size, 2, none⟩ = some (.int .u64 (nums l 3 : Int)) := HX5.out.2 2 (by simp)
          have c3 : w5.cell? ⟨w2.heap.size, 3, none⟩ = some (.int .i64 (nums l 1 : Int)) := HX5.out.2 3 (by simp)
          have c4 : w5.cell? ⟨w2.heap.size, 4, none⟩ = some (.string ⟨(l.drop 24).toArray⟩) := HX5.out.2 4 (by simp)
          have z0 : w5.cell? ⟨w.heap.size, 0, none⟩ = some (.int .i64 0) := by rw [cell_of_row _ _ _ _ _ _ hr5']; rfl
          have z1 : w5.cell? ⟨w.heap.size, 1, none⟩ = some (.int .i64 0) := by rw [cell_of_row _ _ _ _ _ _ hr5']; rfl
          have z2 : w5.cell? ⟨w.heap.size, 2, none⟩ = some (.int .u64 0) := by rw [cell_of_row _ _ _ _ _ _ hr5']; rfl
          have z3 : w5.cell? ⟨w.heap.size, 3, none⟩ = some (.int .i64 0) := by rw [cell_of_row _ _ _ _ _ _ hr5']; rfl
          have z4 : w5.cell? ⟨w.heap.size, 4, none⟩ = some (.string ⟨#[]⟩) := by rw [cell_of_row _ _ _ _ _ _ hr5']; rfl
          have y0 : w5.frozen? ⟨w.heap.size, 0, none⟩ = false := frozen_of_row _ _ _ _ _ hr5'
          have y1 : w5.frozen? ⟨w.heap.size, 1, none⟩ = false := frozen_of_row _ _ _ _ _ hr5'
          have y2 : w5.frozen? ⟨w.heap.size, 2, none⟩ = false := frozen_of_row _ _ _ _ _ hr5'
          have y3 : w5.frozen? ⟨w.heap.size, 3, none⟩ = false := frozen_of_row _ _ _ _ _ hr5'
          have y4 : w5.frozen? ⟨w.heap.size, 4, none⟩ = false := frozen_of_row _ _ _ _ _ hr5'
          have HROW := hide hr5'
          have HBF : Hid (Below w.heap.size w w5) := HB0.out.trans (HB5.out.mono (Nat.le_of_lt HSZ.out))
          clear hp hr5'
          go_wp2_with fail
          (try simp only [Exit.inBlock, Exit.then])
          refine bodyPost_ret (results_row_tmp rfl _ _ w.heap.size 70 #[.int .i64 (nums l 0 : Int), .int .i64 (nums l 2 : Int), .int .u64 (nums l 3 : Int), .int .i64 (nums l 1 : Int), .string ⟨(l.drop 24).toArray⟩] (0, 0) _ rfl (set_five HROW.out) Tryd.underlying70 rfl (by kernel_rfl)) rfl ⟨?_, below_five HBF.out (Nat.le_refl _)⟩
          rw [readV_ok HOK.out]; rfl
        · rw [decide_eq_false hp]
          have HOK : Hid (¬ okRead l (nums l 2 : Int)) := fun h => hp h.2.2.2
          have cE : w5.cell? ⟨0, 0, none⟩ = some (.iface 101 (.pointer (some a))) := (HB5.out.cell (p := ⟨0, 0, none⟩) HEL.out).trans HE0.out
          have z0 : w5.cell? ⟨w.heap.size, 0, none⟩ = some (.int .i64 0) := by rw [cell_of_row _ _ _ _ _ _ hr5']; rfl
          have z1 : w5.cell? ⟨w.heap.size, 1, none⟩ = some (.int .i64 0) := by rw [cell_of_row _ _ _ _ _ _ hr5']; rfl
          have z2 : w5.cell? ⟨w.heap.size, 2, none⟩ = some (.int .u64 0) := by rw [cell_of_row _ _ _ _ _ _ hr5']; rfl
          have z3 : w5.cell? ⟨w.heap.size, 3, none⟩ = some (.int .i64 0) := by rw [cell_of_row _ _ _ _ _ _ hr5']; rfl
          have z4 : w5.cell? ⟨w.heap.size, 4, none⟩ = some (.string ⟨#[]⟩) := by rw [cell_of_row _ _ _ _ _ _ hr5']; rfl
          have y0 : w5.frozen? ⟨w.heap.size, 0, none⟩ = false := frozen_of_row _ _ _ _ _ hr5'
          have y1 : w5.frozen? ⟨w.heap.size, 1, none⟩ = false := frozen_of_row _ _ _ _ _ hr5'
          have y2 : w5.frozen? ⟨w.heap.size, 2, none⟩ = false := frozen_of_row _ _ _ _ _ hr5'
          have y3 : w5.frozen? ⟨w.heap.size, 3, none⟩ = false := frozen_of_row _ _ _ _ _ hr5'
          have y4 : w5.frozen? ⟨w.heap.size, 4, none⟩ = false := frozen_of_row _ _ _ _ _ hr5'
          have HROW := hide hr5'
          have HBF : Hid (Below w.heap.size w w5) := HB0.out.trans (HB5.out.mono (Nat.le_of_lt HSZ.out))
          clear hr5'
          clear hp
          go_wp2_with fail
          have hne : ¬ w.heap.size = 0 := by have := HG1.out; omega
          go_region_held3 (fun w' => w'.cell? ⟨0, 0, none⟩ = some (.iface 101 (.pointer (some a)))) (go_keep) (fail)
          go_wp2_with fail
          (try simp only [Exit.inBlock, Exit.then])
          refine bodyPost_ret (results_row_tmp rfl _ _ w.heap.size 70 #[.int .i64 0, .int .i64 0, .int .u64 0, .int .i64 0, .string ⟨#[]⟩] (0, 0) _ rfl (set_five_drew HROW.out) Tryd.underlying70 rfl (by kernel_rfl)) rfl ⟨?_, (below_five HBF.out (Nat.le_refl _)).drew⟩
          rw [readV_no HOK.out]; rfl
      · have hbs : (parse l).body.size ≤ 140737488355328 := by
          show (ByteArray.mk (l.drop 24).toArray).size ≤ _
          have h1 : (ByteArray.mk (l.drop 24).toArray).size = (l.drop 24).length := by simp [ByteArray.size]
          have h2 := HLEN.out
          rw [h1, List.length_drop]; omega
        have HM : Hid (∀ w, Calls Tryd.prog 52 #[.agg #[.int .i64 (nums l 0 : Int), .int .i64 (nums l 2 : Int), .int .u64 (nums l 3 : Int), .int .i64 (nums l 1 : Int), .string ⟨(l.drop 24).toArray⟩]] w fun e w' => e = .returned (.bool false) ∧ Below w.heap.size w w') := fun w => by
          have h := mayBe_any (parse l) w hbs
          rw [decide_eq_false hm] at h
          exact h
        have HMY := hide hm
        clear hm hbs
        go_wp2_with fail
        refine (HM.out _).mono ?_
        rintro e w4 ⟨rfl, hb4⟩
        have HB4 := hide (Below.next HB3'.out hb4)
        have hr4 : w4.heap[w.heap.size]? = some (.cells #[.int .i64 0, .int .i64 0, .int .u64 0, .int .i64 0, .string ⟨#[]⟩] 70 (0, 0)) := by rw [HB4.out.block w.heap.size HSZ.out]; exact HR0.out
        clear c0 c1 c2 c3 c4 hb4 hr3
        have HOK : Hid (¬ okRead l (nums l 2 : Int)) := fun h => HMY.out h.2.2.1
        have cE : w4.cell? ⟨0, 0, none⟩ = some (.iface 101 (.pointer (some a))) := (HB4.out.cell (p := ⟨0, 0, none⟩) HEL.out).trans HE0.out
        have z0 : w4.cell? ⟨w.heap.size, 0, none⟩ = some (.int .i64 0) := by rw [cell_of_row _ _ _ _ _ _ hr4]; rfl
        have z1 : w4.cell? ⟨w.heap.size, 1, none⟩ = some (.int .i64 0) := by rw [cell_of_row _ _ _ _ _ _ hr4]; rfl
        have z2 : w4.cell? ⟨w.heap.size, 2, none⟩ = some (.int .u64 0) := by rw [cell_of_row _ _ _ _ _ _ hr4]; rfl
        have z3 : w4.cell? ⟨w.heap.size, 3, none⟩ = some (.int .i64 0) := by rw [cell_of_row _ _ _ _ _ _ hr4]; rfl
        have z4 : w4.cell? ⟨w.heap.size, 4, none⟩ = some (.string ⟨#[]⟩) := by rw [cell_of_row _ _ _ _ _ _ hr4]; rfl
        have y0 : w4.frozen? ⟨w.heap.size, 0, none⟩ = false := frozen_of_row _ _ _ _ _ hr4
        have y1 : w4.frozen? ⟨w.heap.size, 1, none⟩ = false := frozen_of_row _ _ _ _ _ hr4
        have y2 : w4.frozen? ⟨w.heap.size, 2, none⟩ = false := frozen_of_row _ _ _ _ _ hr4
        have y3 : w4.frozen? ⟨w.heap.size, 3, none⟩ = false := frozen_of_row _ _ _ _ _ hr4
        have y4 : w4.frozen? ⟨w.heap.size, 4, none⟩ = false := frozen_of_row _ _ _ _ _ hr4
        have HROW := hide hr4
        have HBF : Hid (Below w.heap.size w w4) := HB0.out.trans (HB4.out.mono (Nat.le_of_lt HSZ.out))
        clear hr4
        go_wp2_with fail
        have hne : ¬ w.heap.size = 0 := by have := HG1.out; omega
        go_region_held3 (fun w' => w'.cell? ⟨0, 0, none⟩ = some (.iface 101 (.pointer (some a)))) (go_keep) (fail)
        go_wp2_with fail
        (try simp only [Exit.inBlock, Exit.then])
        refine bodyPost_ret (results_row_tmp rfl _ _ w.heap.size 70 #[.int .i64 0, .int .i64 0, .int .u64 0, .int .i64 0, .string ⟨#[]⟩] (0, 0) _ rfl (set_five_drew HROW.out) Tryd.underlying70 rfl (by kernel_rfl)) rfl ⟨?_, (below_five HBF.out (Nat.le_refl _)).drew⟩
        rw [readV_no HOK.out]; rfl
    · have hd0 : ((nums l 2 : Int) != id) = true := by rw [bne_iff_ne]; exact hid
      have c1 : w3.cell? ⟨w2.heap.size, 1, none⟩ = some (.int .i64 (nums l 2 : Int)) := HX3.out.2 1 (by simp)
      have HOK : Hid (¬ okRead l id) := fun h => hid h.2.1
      have cE : w3.cell? ⟨0, 0, none⟩ = some (.iface 101 (.pointer (some a))) := (HB3'.out.cell (p := ⟨0, 0, none⟩) HEL.out).trans HE0.out
      have z0 : w3.cell? ⟨w.heap.size, 0, none⟩ = some (.int .i64 0) := by rw [cell_of_row _ _ _ _ _ _ hr3]; rfl
      have z1 : w3.cell? ⟨w.heap.size, 1, none⟩ = some (.int .i64 0) := by rw [cell_of_row _ _ _ _ _ _ hr3]; rfl
      have z2 : w3.cell? ⟨w.heap.size, 2, none⟩ = some (.int .u64 0) := by rw [cell_of_row _ _ _ _ _ _ hr3]; rfl
      have z3 : w3.cell? ⟨w.heap.size, 3, none⟩ = some (.int .i64 0) := by rw [cell_of_row _ _ _ _ _ _ hr3]; rfl
      have z4 : w3.cell? ⟨w.heap.size, 4, none⟩ = some (.string ⟨#[]⟩) := by rw [cell_of_row _ _ _ _ _ _ hr3]; rfl
      have y0 : w3.frozen? ⟨w.heap.size, 0, none⟩ = false := frozen_of_row _ _ _ _ _ hr3
      have y1 : w3.frozen? ⟨w.heap.size, 1, none⟩ = false := frozen_of_row _ _ _ _ _ hr3
      have y2 : w3.frozen? ⟨w.heap.size, 2, none⟩ = false := frozen_of_row _ _ _ _ _ hr3
      have y3 : w3.frozen? ⟨w.heap.size, 3, none⟩ = false := frozen_of_row _ _ _ _ _ hr3
      have y4 : w3.frozen? ⟨w.heap.size, 4, none⟩ = false := frozen_of_row _ _ _ _ _ hr3
      have HROW := hide hr3
      have HBF : Hid (Below w.heap.size w w3) := HB0.out.trans (HB3'.out.mono (Nat.le_of_lt HSZ.out))
      clear hr3
      clear hid
      go_wp2_with fail
      have hne : ¬ w.heap.size = 0 := by have := HG1.out; omega
      go_region_held3 (fun w' => w'.cell? ⟨0, 0, none⟩ = some (.iface 101 (.pointer (some a)))) (go_keep) (fail)
      go_wp2_with fail
      (try simp only [Exit.inBlock, Exit.then])
      refine bodyPost_ret (results_row_tmp rfl _ _ w.heap.size 70 #[.int .i64 0, .int .i64 0, .int .u64 0, .int .i64 0, .string ⟨#[]⟩] (0, 0) _ rfl (set_five_drew HROW.out) Tryd.underlying70 rfl (by kernel_rfl)) rfl ⟨?_, (below_five HBF.out (Nat.le_refl _)).drew⟩
      rw [readV_no HOK.out]; rfl

end Go.Proofs.YtpeobpmooledaaaDoor.S

namespace Go.Proofs.YtpeobpmooledaaaDoor.S
open Go.RowKit

set_option maxRecDepth 100000 in
set_option maxHeartbeats 1000000 in
theorem read_short (a : Addr) (a0 : Option Addr) (n cap : Nat) (l : List UInt8) (id : Int) (w : World) (hl : l.length = n) (hn : n ≠ 4096) (hE : w.cell? ⟨0, 0, none⟩ = some (.iface 101 (.pointer (some a)))) :
    Calls Tryd.prog 44 #[.slice a0 n cap, .int .i64 id] w fun e w' => e = .returned (.tuple (readV a l id)) ∧ Below w.heap.size w w' := by
  have HOK : Hid (¬ okRead l id) := fun h => hn (hl.symm.trans h.1)
  have hd0 : ((n : Int) != 4096) = true := by rw [bne_iff_ne]; omega
  have HBF : Hid (Below w.heap.size w (w.alloc (.cells #[.int .i64 0, .int .i64 0, .int .u64 0, .int .i64 0, .string ⟨#[]⟩] 70))) := below_new w _
  have HROW : Hid ((w.alloc (.cells #[.int .i64 0, .int .i64 0, .int .u64 0, .int .i64 0, .string ⟨#[]⟩] 70)).heap[w.heap.size]? = some (.cells #[.int .i64 0, .int .i64 0, .int .u64 0, .int .i64 0, .string ⟨#[]⟩] 70 (0, 0))) := heap_alloc_new w _
  have hlt : 0 < w.heap.size := World.block_lt_of_cell? w _ hE
  have cE : (w.alloc (.cells #[.int .i64 0, .int .i64 0, .int .u64 0, .int .i64 0, .string ⟨#[]⟩] 70)).cell? ⟨0, 0, none⟩ = some (.iface 101 (.pointer (some a))) := (HBF.out.cell (p := ⟨0, 0, none⟩) hlt).trans hE
  have hne : ¬ w.heap.size = 0 := by omega
  clear hl hn hE
  go_enter Tryd.func44, Tryd.ntmps44
  go_wp2_with fail
  generalize hW : (w.alloc (.cells #[.int .i64 0, .int .i64 0, .int .u64 0, .int .i64 0, .string ⟨#[]⟩] 70)) = W0 at *
  have hr := HROW.out
  have z0 : W0.cell? ⟨w.heap.size, 0, none⟩ = some (.int .i64 0) := by rw [cell_of_row _ _ _ _ _ _ hr]; rfl
  have z1 : W0.cell? ⟨w.heap.size, 1, none⟩ = some (.int .i64 0) := by rw [cell_of_row _ _ _ _ _ _ hr]; rfl
  have z2 : W0.cell? ⟨w.heap.size, 2, none⟩ = some (.int .u64 0) := by rw [cell_of_row _ _ _ _ _ _ hr]; rfl
  have z3 : W0.cell? ⟨w.heap.size, 3, none⟩ = some (.int .i64 0) := by rw [cell_of_row _ _ _ _ _ _ hr]; rfl
  have z4 : W0.cell? ⟨w.heap.size, 4, none⟩ = some (.string ⟨#[]⟩) := by rw [cell_of_row _ _ _ _ _ _ hr]; rfl
  have y0 : W0.frozen? ⟨w.heap.size, 0, none⟩ = false := frozen_of_row _ _ _ _ _ hr
  have y1 : W0.frozen? ⟨w.heap.size, 1, none⟩ = false := frozen_of_row _ _ _ _ _ hr
  have y2 : W0.frozen? ⟨w.heap.size, 2, none⟩ = false := frozen_of_row _ _ _ _ _ hr
  have y3 : W0.frozen? ⟨w.heap.size, 3, none⟩ = false := frozen_of_row _ _ _ _ _ hr
  have y4 : W0.frozen? ⟨w.heap.size, 4, none⟩ = false := frozen_of_row _ _ _ _ _ hr
  clear hW hr
  go_region_held3 (fun w' => w'.cell? ⟨0, 0, none⟩ = some (.iface 101 (.pointer (some a)))) (go_keep) (fail)
  go_wp2_with fail
  (try simp only [Exit.inBlock, Exit.then])
  refine bodyPost_ret (results_row_tmp rfl _ _ w.heap.size 70 #[.int .i64 0, .int .i64 0, .int .u64 0, .int .i64 0, .string ⟨#[]⟩] (0, 0) _ rfl (set_five_drew HROW.out) Tryd.underlying70 rfl (by kernel_rfl)) rfl ⟨?_, (below_five HBF.out (Nat.le_refl _)).drew⟩
  rw [readV_no HOK.out]; rfl

/-- The slice value v, that begins its block, reads as the bytes l. -/
def RdB (w : World) (v : Value) (l : List UInt8) : Prop :=
  (v = .slice none 0 0 ∧ l = []) ∨ ∃ g cap, v = .slice (some ⟨g, 0, none⟩) l.length cap ∧ l.length ≤ cap ∧ cap ≤ 9223372036854775807 ∧ g < w.heap.size ∧ (∀ j (h : j < l.length), w.cell? ⟨g, j, none⟩ = some (.int .u8 (l[j].toNat : Int)))
theorem RdB.below {w w' : World} {v : Value} {l : List UInt8} (h : RdB w v l) (hb : Below w.heap.size w w') : RdB w' v l := by
  rcases h with h | ⟨g, cap, hv, h1, h2, h3, h4⟩
  · exact .inl h
  · exact .inr ⟨g, cap, hv, h1, h2, Nat.lt_of_lt_of_le h3 hb.size, fun j hj => (hb.cell (p := ⟨g, j, none⟩) h3).trans (h4 j hj)⟩

theorem read_any (a : Addr) (v : Value) (l : List UInt8) (id : Int) (w : World) (hr : RdB w v l) (hL : Lay w) (hT : Tab w) (hE : w.cell? ⟨0, 0, none⟩ = some (.iface 101 (.pointer (some a)))) :
    Calls Tryd.prog 44 #[v, .int .i64 id] w fun e w' => e = .returned (.tuple (readV a l id)) ∧ Below w.heap.size w w' := by
  rcases hr with ⟨rfl, rfl⟩ | ⟨g, cap, rfl, h1, h2, h3, h4⟩
  · exact read_short a none 0 0 [] id w rfl (by decide) hE
  · by_cases hl : l.length = 4096
    · rw [hl] at h1 ⊢
      exact read_len a g cap l id w hl h1 h2 hL hT hE h4
    · exact read_short a _ l.length cap l id w rfl hl hE

end Go.Proofs.YtpeobpmooledaaaDoor.S
