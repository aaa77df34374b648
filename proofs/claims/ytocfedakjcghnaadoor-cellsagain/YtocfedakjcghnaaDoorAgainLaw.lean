import Derived.Test.YtocfedakjcghnaaDoorCBegun
namespace Go.Proofs.YtocfedakjcghnaaDoor
open Go.RowKit

theorem below_box {b : Nat} {cs : List Value} {w w' : World} (h : Boxed b cs w) (hb : Below w.heap.size w w') : Boxed b cs w' := h.below hb

set_option maxRecDepth 100000 in
set_option maxHeartbeats 4000000 in
theorem again_any (A : Nat → Addr) (c : Int) (s : ByteArray) (w : World) (hE : ErrsG 4 gAll A w) :
    Calls Tryd.prog 4 #[.agg #[.int .i64 c, .string s]] w fun e w' => e = .returned (.bool true) ∧ Below w.heap.size w w' := by
  have HE := hide hE
  have HX := hide (boxed_new w #[.int .i64 c, .string s] 23)
  have HB := hide (below_new w (.cells #[.int .i64 c, .string s] 23))
  clear hE
  go_enter Tryd.func4, Tryd.ntmps4
  go_wp2_with fail
  refine (begun_any A _ (ErrsG.keep HE.out HB.out)).mono ?_
  rintro e w1 ⟨rfl, hb1⟩
  have hx1 := HX.out.below hb1
  have c0 := hx1.2 0 (by simp)
  have c1 := hx1.2 1 (by simp)
  simp only [List.getElem_cons_zero, List.getElem_cons_succ] at c0 c1
  have HX1 := hide hx1
  have HB1 := hide (Below.next HB.out hb1)
  clear hb1 HB HX hx1
  go_wp2_with fail
  refine (read_any A c s w1 (ErrsG.keep HE.out HB1.out)).mono ?_
  rintro e w2 ⟨hv, hb2⟩
  have HB2 := hide (Below.next HB1.out hb2)
  have hx2 := HX1.out.below hb2
  have e0 := hx2.2 0 (by simp)
  have e1 := hx2.2 1 (by simp)
  simp only [List.getElem_cons_zero, List.getElem_cons_succ] at e0 e1
  clear hb2 HB1 hx2 c0 c1
  rcases hv with ⟨h0, hok, g, rfl, hown⟩ | ⟨_, rfl⟩
  · obtain ⟨n, rfl⟩ := Int.eq_ofNat_of_zero_le h0
    rw [Int.toNat_natCast] at hok hown ⊢
    have hsz : sizeL (cellsB s.data.toList n) ≤ 4072 := by rw [size_cells hok]; exact endB_le hok n (Nat.le_refl _)
    have hly : (⟨(layL (cellsB s.data.toList n)).toArray⟩ : ByteArray) = s := ba_ext (by rw [lay_cells hok])
    have HLA := hide (lay_any A _ (cellsB s.data.toList n) w2 (by omega) (rowR_of_owns hown).strs (ErrsG.keep HE.out HB2.out))
    have HSZ := hide hsz
    have HLY := hide hly
    clear hok hown hsz hly h0 HX1
    go_wp2_with fail
    refine HLA.out.mono ?_
    rintro e w3 ⟨hv, hb3⟩
    rcases hv with ⟨_, rfl⟩ | ⟨hbad, _⟩
    case inr => exact absurd HSZ.out hbad
    rw [HLY.out]
    have f0 := (hb3.cell (World.block_lt_of_cell? w2 _ e0)).trans e0
    have f1 := (hb3.cell (World.block_lt_of_cell? w2 _ e1)).trans e1
    have HB3 := hide (Below.next HB2.out hb3)
    have d1 : ((n : Int) == (n : Int)) = true := by simp
    clear hb3 e0 e1 HLA HLY
    go_wp2
    go_ret
    exact ⟨rfl, HB3.out⟩
  · have hE2 := ErrsG.keep HE.out HB2.out
    have g0 : w2.cell? ⟨0, 0, none⟩ = some (.iface 86 (.pointer (some (A 1)))) := (hE2.1 1 (by decide)).1
    have q0 := eq_same A 1
    clear hE2 HX1
    go_wp2
    go_ret
    exact ⟨rfl, HB2.out⟩

end Go.Proofs.YtocfedakjcghnaaDoor
