import Derived.Test.YtagldlchamlpdabDoorBDec1
import Derived.Test.YtagldlchamlpdabDoorCRead
import Derived.Test.YtagldlchamlpdabDoorBCheck
namespace Go.Proofs.YtagldlchamlpdabDoor
open Go.RowKit

set_option maxRecDepth 20000 in
theorem slStr1 (g n : Nat) (h1 : 1 ≤ n) : ∃ a', (1 < n → a' = some ⟨g, 1, none⟩) ∧ ∀ w, (Instr.sliceAt 25 (.slice (some ⟨g, 0, none⟩) n n) (some (.int .i64 1)) none none).run Tryd.prog w = .ok (.slice a' (n - 1) (n - 1)) w := by
  refine ⟨if n = 1 then some ⟨g, 0, none⟩ else some ⟨g, 1, none⟩, fun h => by rw [if_neg (by omega)], fun w => ?_⟩
  rw [run_sliceAt_slice (h := Tryd.underlying25), run_slice_l (ht := Tryd.underlying25) (h0 := by omega) (h1 := by omega)]
  have hz : (sizeOf (Tryd.prog.elem 25)).run Tryd.prog w = .ok 1 w := by kernel_rfl
  rw [hz]
  simp [Result.andThen, sliced, add_plain']
theorem ErrK.four {A : Nat → Addr} {w : World} (h : ErrK A w) : ErrsG 4 gAll A w := h.1.weak (by decide)

set_option maxRecDepth 20000 in
set_option maxHeartbeats 2000000 in
theorem branchof_any (g n : Nat) (L : List ByteArray) (w : World) (hn : n = L.length) (hnb : n ≤ 2036) (hcs : ∀ c ∈ L, c.size ≤ 4072) (hc : ∀ j (h : j < L.length), w.cell? ⟨g, j, none⟩ = some (.string L[j])) :
    Calls Tryd.prog 28 #[.slice (some ⟨g, 0, none⟩) n n] w fun e w' => ∃ (x : Int) (ua : Option Addr) (un uc : Nat), e = .returned (.tuple #[.agg #[.int .i64 x, .slice ua un uc], .bool (okBr L)]) ∧ (okBr L = true → x = brF L ∧ LkO w' w.heap.size (.slice ua un uc) (brL L)) ∧ Below w.heap.size w w' := by
  have q0 := below_new w (.cells #[.int .i64 0, .slice none 0 0] 30)
  have x0 := RowAt.new w #[.int .i64 0, .slice none 0 0] 30
  have HQ := hide q0
  have HX := hide x0
  cases L with
  | nil =>
    subst hn
    have hno : okBr [] = false := rfl
    have HNO := hide hno
    clear q0 x0 hcs hc hno
    rw [List.length_nil]
    go_enter Tryd.func28, Tryd.ntmps28
    go_wp2
    exact bodyPost_ret (results_row_tmp rfl _ _ w.heap.size 30 _ (0, 0) _ rfl HX.out Tryd.underlying30 rfl (by kernel_rfl)) rfl ⟨_, _, _, _, by rw [HNO.out]; rfl, fun h => (by rw [HNO.out] at h; cases h), HQ.out⟩
  | cons c cs =>
    have hn1 : n = cs.length + 1 := by rw [hn]; rfl
    have hd0 : ((n : Int) == 0) = false := by rw [beq_eq_false_iff_ne]; omega
    have c0 : (w.alloc (.cells #[.int .i64 0, .slice none 0 0] 30)).cell? ⟨g, 0, none⟩ = some (.string c) := by
      have := hc 0 (by simp)
      simp only [List.getElem_cons_zero] at this
      exact (q0.cell (p := ⟨g, 0, none⟩) (World.block_lt_of_cell? w _ this)).trans this
    have hcc : ∀ j (h : j < cs.length), (w.alloc (.cells #[.int .i64 0, .slice none 0 0] 30)).cell? ⟨g, 1 + j, none⟩ = some (.string cs[j]) := fun j h => by
      have := hc (j + 1) (by simpa using h)
      simp only [List.getElem_cons_succ] at this
      rw [Nat.add_comm 1 j]
      exact (q0.cell (p := ⟨g, j + 1, none⟩) (World.block_lt_of_cell? w _ this)).trans this
    generalize hW0 : w.alloc (.cells #[.int .i64 0, .slice none 0 0] 30) = W0 at *
    obtain ⟨a', ha', hsl⟩ := slStr1 g n (by omega)
    have HCO := hide (childof_any c W0)
    have HLS : Hid (∀ W, Below W0.heap.size W0 W → Calls Tryd.prog 55 #[.slice a' (n - 1) (n - 1)] W fun e w' => ((cs.all okK = true ∧ ∃ u, e = .returned (.tuple #[u, .bool true]) ∧ LkO w' W.heap.size u (cs.map linkC)) ∨ (cs.all okK = false ∧ e = .returned (.tuple #[.slice none 0 0, .bool false]))) ∧ Below W.heap.size W w') := fun W h =>
      linksof_any g 1 (n - 1) (n - 1) cs W (by omega) (by omega) (fun d hd => hcs d (List.mem_cons_of_mem _ hd)) (fun j hj => (h.cell (p := ⟨g, 1 + j, none⟩) (World.block_lt_of_cell? W0 _ (hcc j hj))).trans (hcc j hj)) a' (fun h => ha' (by omega))
    have n1 : (1 : Int) ≤ (n : Int) := by omega
    have HOB : Hid (okBr (c :: cs) = (decide (c.size = 4) && cs.all okK)) := by show _ = _; rfl
    have HF : Hid (c.size = 4 → kidC c = brF (c :: cs)) := fun h => by unfold kidC brF; rw [if_pos h]
    have HL : Hid (brL (c :: cs) = cs.map linkC) := by show _ = _; simp [brL]
    obtain ⟨kc, hkc⟩ : ∃ kc, kc = kidC c := ⟨_, rfl⟩
    rw [← hkc] at HCO HF
    generalize n - 1 = nm at *
    have HX0 := hide HX.out
    clear hn hn1 hc hcs hcc ha' hkc x0 q0
    go_enter Tryd.func28, Tryd.ntmps28
    go_wp2_with fail
    refine HCO.out.mono ?_
    rintro e w1 ⟨rfl, hb1⟩
    have HB1 := hide hb1
    have HLS1 := hide (HLS.out _ hb1)
    clear hb1 HCO HLS c0
    go_wp2_with fail
    refine HLS1.out.mono ?_
    rintro e w2 ⟨hv, hb2⟩
    have hx := HX.out.below (Below.next HB1.out hb2)
    have r0 := hx.c0
    have r1 := hx.c1
    have z0 := hx.free 0
    have z1 := hx.free 1
    have HXX := hide hx
    have HB2 := hide (Below.next HQ.out (Below.next HB1.out hb2))
    have HSZ : Hid (w.heap.size < w1.heap.size ∧ w.heap.size ≤ w1.heap.size) := by
      have h1 := HX.out.lt
      have h2 := HB1.out.size
      exact ⟨by omega, by omega⟩
    clear hb2 hx HLS1 hsl
    rcases hv with ⟨hall, u, rfl, ho⟩ | ⟨hall, rfl⟩
    · obtain ⟨ua, uc, hu⟩ := ho.form
      subst hu
      rw [hall] at HOB
      have HO := hide ho
      generalize (cs.map linkC).length = un at *
      clear ho hall
      cases h4 : decide (c.size = 4) with
      | true =>
        rw [h4] at HOB
        have H4 := hide (of_decide_eq_true h4)
        clear h4
        go_wp2_with fail
        refine bodyPost_ret (results_row_tmp rfl _ _ w.heap.size 30 _ (0, 0) _ rfl (HXX.out.two _ _) Tryd.underlying30 rfl (by kernel_rfl)) rfl ⟨kc, ua, un, uc, by rw [HOB.out]; rfl, fun _ => ⟨HF.out H4.out, ?_⟩, below_two HB2.out (Nat.le_refl _)⟩
        rw [HL.out]
        exact (HO.out.put2 HSZ.out.1 _ _).mono HSZ.out.2
      | false =>
        rw [h4] at HOB
        clear h4
        go_wp2_with fail
        exact bodyPost_ret (results_row_tmp rfl _ _ w.heap.size 30 _ (0, 0) _ rfl (HXX.out.two _ _) Tryd.underlying30 rfl (by kernel_rfl)) rfl ⟨kc, ua, un, uc, by rw [HOB.out]; rfl, fun h => (by rw [HOB.out] at h; cases h), below_two HB2.out (Nat.le_refl _)⟩
    · rw [hall, Bool.and_false] at HOB
      clear hall
      cases h4 : decide (c.size = 4) with
      | true =>
        clear h4
        go_wp2_with fail
        exact bodyPost_ret (results_row_tmp rfl _ _ w.heap.size 30 _ (0, 0) _ rfl (HXX.out.two _ _) Tryd.underlying30 rfl (by kernel_rfl)) rfl ⟨kc, none, 0, 0, by rw [HOB.out]; rfl, fun h => (by rw [HOB.out] at h; cases h), below_two HB2.out (Nat.le_refl _)⟩
      | false =>
        clear h4
        go_wp2_with fail
        exact bodyPost_ret (results_row_tmp rfl _ _ w.heap.size 30 _ (0, 0) _ rfl (HXX.out.two _ _) Tryd.underlying30 rfl (by kernel_rfl)) rfl ⟨kc, none, 0, 0, by rw [HOB.out]; rfl, fun h => (by rw [HOB.out] at h; cases h), below_two HB2.out (Nat.le_refl _)⟩

end Go.Proofs.YtagldlchamlpdabDoor
