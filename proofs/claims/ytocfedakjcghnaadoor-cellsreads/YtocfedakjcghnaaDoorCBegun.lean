import Derived.Test.YtocfedakjcghnaaDoorCLay
import Derived.Test.YtocfedakjcghnaaDoorCRead
import Derived.Test.YtocfedakjcghnaaDoorCutAns
namespace Go.Proofs.YtocfedakjcghnaaDoor
open Go.RowKit

theorem owns_below {w w' : World} {base e n : Nat} {v : Value} {us : List Value} (h : w.ownsRow base e 1 v n us) (hb : Below w.heap.size w w') : w'.ownsRow base e 1 v n us := by
  refine ⟨h.1, ?_⟩
  rcases h.2 with h' | ⟨g', cap, cur, rfl, hbg, hg, hnc, hcm, hcs, htk⟩
  · exact .inl h'
  · have hlt : g' < w.heap.size := by
      rcases Nat.lt_or_ge g' w.heap.size with h' | h'
      · exact h'
      · rw [Array.getElem?_eq_none h'] at hg; cases hg
    exact .inr ⟨g', cap, cur, rfl, hbg, (hb.block g' hlt).trans hg, hnc, hcm, hcs, htk⟩
def L3 : List ByteArray := [⟨#[97, 98]⟩, ⟨#[]⟩, ⟨#[99]⟩]
theorem L3_size : sizeL L3 = 9 := by decide
theorem L3_head : (ByteArray.mk (layL L3).toArray).extract 0 10 = ⟨#[0, 8, 0, 8, 0, 9, 97, 98, 99, 0]⟩ := by
  refine ba_ext ?_
  rw [ext_toList]
  rfl
def C3 : List Int := [1, 1, 9]
def P5 : List Int := [3, 1, 2, 2, 2]
theorem fine_of_all (l : List Int) (h : l.all (fun x => decide (1 ≤ x ∧ x ≤ 4072)) = true) : FineL l := fun i hi => by
  have := List.all_eq_true.1 h l[i] (List.getElem_mem hi)
  exact of_decide_eq_true this
theorem C3_fine : FineL C3 := fine_of_all _ (by decide)
theorem P5_fine : FineL P5 := fine_of_all _ (by decide)
theorem C3_best (i : Nat) (h : IsBest (gapC C3) 2 i) : i = 2 := by
  refine h.unique ⟨⟨by decide, by decide⟩, fun j h1 h2 => ?_⟩
  match j, h1, h2 with
  | 1, _, _ => decide
  | 2, _, _ => decide
theorem P5_best (i : Nat) (h : IsBest (gapP P5) 3 i) : i = 2 := by
  refine h.unique ⟨⟨by decide, by decide⟩, fun j h1 h2 => ?_⟩
  match j, h1, h2 with
  | 1, _, _ => decide
  | 2, _, _ => decide
  | 3, _, _ => decide
theorem lit_row (w : World) (us : List Value) (e : TypeId) (n : Nat) (hn : us.length = n) (hm : n ≤ maxLen) : RowR (w.alloc (.cells us.toArray e)) (.slice (some ⟨w.heap.size, 0, none⟩) n n) us :=
  rowR_of_owns (World.ownsRow_lit (base := 0) (e := e) (size := 1) w us.toArray n (Nat.zero_le _) hm (by simpa using hn))

set_option maxRecDepth 100000 in
set_option maxHeartbeats 8000000 in
theorem begun_any (A : Nat → Addr) (w : World) (hE : ErrsG 4 gAll A w) : Calls Tryd.prog 14 #[] w fun e w' => e = .returned (.bool true) ∧ Below w.heap.size w w' := by
  have HE := hide hE
  obtain ⟨s, hs⟩ : ∃ s, s = ByteArray.mk (layL L3).toArray := ⟨_, rfl⟩
  have hll := layL_len L3 (by rw [L3_size]; decide)
  have hs4 : s.size = 4072 := by rw [hs]; show (layL L3).toArray.size = 4072; rw [List.size_toArray]; exact hll
  have hst : s.data.toList = layL L3 := by rw [hs]
  have hx : s.extract 0 10 = ⟨#[0, 8, 0, 8, 0, 9, 97, 98, 99, 0]⟩ := by rw [hs]; exact L3_head
  have d1 : ((s.size : Int) != 4072) = false := by rw [hs4]; rfl
  have s10 : (10 : Int) ≤ (s.size : Int) := by rw [hs4]; decide
  have hok : OkR s.data.toList 3 := by rw [hst]; exact lay_ok L3 (by rw [L3_size]; decide)
  have hcl : cellsB s.data.toList 3 = L3 := by rw [hst]; exact cells_lay L3 (by rw [L3_size]; decide)
  have HOK : Hid (OkR s.data.toList 3 ∧ cellsB s.data.toList 3 = L3) := ⟨hok, hcl⟩
  have HS := hide hs
  have hbn := below_new w (.cells #[.string ⟨#[97, 98]⟩, .string ⟨#[]⟩, .string ⟨#[99]⟩] 9)
  have HL := hide (lay_any A _ L3 (w.alloc (.cells #[.string ⟨#[97, 98]⟩, .string ⟨#[]⟩, .string ⟨#[99]⟩] 9)) (by rw [L3_size]; decide) (lit_row w (strs L3) 9 3 rfl (by decide)).strs (ErrsG.keep hE hbn))
  have HB := hide hbn
  clear hE hs hll hs4 hst hok hcl hbn
  go_enter Tryd.func14, Tryd.ntmps14
  go_wp2_with fail
  refine HL.out.mono ?_
  rintro e w1 ⟨hv, hb1⟩
  rcases hv with ⟨_, rfl⟩ | ⟨hbad, _⟩
  case inr => exact absurd (by rw [L3_size]; decide) hbad
  rw [← HS.out]
  have HB1 := hide (Below.next HB.out hb1)
  clear hb1 HL HB
  go_wp2_with fail
  refine (read_any A 3 s w1 (ErrsG.keep HE.out HB1.out)).mono ?_
  rintro e w2 ⟨hv, hb2⟩
  rcases hv with ⟨_, _, g, rfl, hown⟩ | ⟨hbad, _⟩
  case inr => exact absurd ⟨by decide, HOK.out.1⟩ hbad
  rw [show ((3 : Int).toNat) = 3 from rfl, HOK.out.2] at hown
  rw [show ((3 : Int).toNat) = 3 from rfl]
  have HO2 := hide hown
  have HB2 := hide (Below.next HB1.out hb2)
  have HB2' := hide (below_new w2 (.cells #[.int .i64 1, .int .i64 1, .int .i64 9] 3))
  have HCU := hide (cut_any A _ C3 (w2.alloc (.cells #[.int .i64 1, .int .i64 1, .int .i64 9] 3)) (by decide) (lit_row w2 (ints C3) 3 3 rfl (by decide)).ints (ErrsG.keep HE.out (Below.next HB2.out HB2'.out)))
  clear hb2 hown HB1 d1 s10 hx
  go_wp2_with fail
  refine HCU.out.mono ?_
  rintro e w3 ⟨hv, hb3⟩
  rcases hv with ⟨hbad, _⟩ | ⟨_, hbad, _⟩ | ⟨_, _, i1, rfl, hi1⟩
  case inl => exact absurd hbad (by decide)
  case inr.inl => exact absurd C3_fine hbad
  obtain rfl := C3_best i1 hi1
  have HB3 := hide (Below.next (Below.next HB2.out HB2'.out) hb3)
  have HO3 := hide (owns_below (owns_below HO2.out HB2'.out) hb3)
  have HB3' := hide (below_new w3 (.cells #[.int .i64 3, .int .i64 1, .int .i64 2, .int .i64 2, .int .i64 2] 3))
  have HPI := hide (pivot_any A _ P5 (w3.alloc (.cells #[.int .i64 3, .int .i64 1, .int .i64 2, .int .i64 2, .int .i64 2] 3)) (by decide) (lit_row w3 (ints P5) 3 5 rfl (by decide)).ints (ErrsG.keep HE.out (Below.next HB3.out HB3'.out)))
  clear hb3 hi1 HB2 HB2' HO2 HCU
  go_wp2_with fail
  refine HPI.out.mono ?_
  rintro e w4 ⟨hv, hb4⟩
  rcases hv with ⟨hbad, _⟩ | ⟨_, hbad, _⟩ | ⟨_, _, i2, rfl, hi2⟩
  case inl => exact absurd hbad (by decide)
  case inr.inl => exact absurd P5_fine hbad
  obtain rfl := P5_best i2 hi2
  have HB4 := hide (Below.next (Below.next HB3.out HB3'.out) hb4)
  have ho4 := owns_below (owns_below HO3.out HB3'.out) hb4
  have c0 : w4.cell? ⟨g, 0, none⟩ = some (.string ⟨#[97, 98]⟩) := ho4.cellAt 0 (by decide)
  have c1 : w4.cell? ⟨g, 1, none⟩ = some (.string ⟨#[]⟩) := ho4.cellAt 1 (by decide)
  have c2 : w4.cell? ⟨g, 2, none⟩ = some (.string ⟨#[99]⟩) := ho4.cellAt 2 (by decide)
  have HSI := hide (size_any _ L3 w4 (by rw [L3_size]; decide) (rowR_of_owns ho4).strs)
  rw [L3_size] at HSI
  clear hb4 hi2 HB3 HB3' HO3 HPI ho4
  go_wp2_with fail
  refine HSI.out.mono ?_
  rintro e w5 ⟨rfl, rfl⟩
  go_wp2
  go_ret
  exact ⟨rfl, HB4.out⟩

end Go.Proofs.YtocfedakjcghnaaDoor
