import Derived.Test.YtmifadjgmjnkgaaGreatDoorLStore
import Derived.Test.YtmifadjgmjnkgaaGreatDoorA4
namespace Go.Proofs.YtmifadjgmjnkgaaGreatDoor
open Go.RowKit

/-- What Store does to a device, with its refusal's number. -/
def storeD (d : V.Dev) (s : Sh) : V.Dev × Nat := if May s ∧ (s.id + 1) * 8 ≤ d.size then d.write (s.id * 8) (page s) else (d, 1)

set_option maxRecDepth 100000 in
set_option maxHeartbeats 1000000 in
theorem storeG_any (base : Nat) (A : Nat → Addr) (db : Nat) (F : Nat → Prop) (d : V.Dev) (s : Sh) (w : World) (hs : s.body.size ≤ 140737488355328) (hx : s.txid < 18446744073709551616) (hd : V.DevAt w db F d) (hE : Env base A w) (hF : ∀ k, F k → base ≤ k)
    (hp : d.pend.length + 8 ≤ 5864062014805) :
    Calls Tryz.prog 6 #[.pointer (some ⟨db, 0, none⟩), .agg s.cells.toArray] w fun e w' =>
      e = .returned (V.errV A (storeD d s).2) ∧ V.DevPost w db F (storeD d s).1 w' := by
  have HE := hide hE
  have HD := hide hd
  have HFB := hide hF
  obtain ⟨k, i, t, c, b⟩ := s
  have HX : Hid (Boxed w.heap.size [.int .i64 k, .int .i64 i, .int .u64 (t : Int), .int .i64 c, .string b] (w.alloc (.cells #[.int .i64 k, .int .i64 i, .int .u64 (t : Int), .int .i64 c, .string b] 31))) := boxed_new w _ _
  have HB := hide (below_new w (.cells #[.int .i64 k, .int .i64 i, .int .u64 (t : Int), .int .i64 c, .string b] 31))
  by_cases hm : May ⟨k, i, t, c, b⟩
  · have HS : Hid (∀ w, Lay w → Tab w → Calls Tryz.prog 30 #[.agg #[.int .i64 k, .int .i64 i, .int .u64 (t : Int), .int .i64 c, .string b]] w fun e w' => ∃ g, e = .returned (.tuple #[.slice (some ⟨g, 0, none⟩) 4096 4096, .nilIface]) ∧ RowB w' g (page ⟨k, i, t, c, b⟩) ∧ w.heap.size ≤ g ∧ Below w.heap.size w w') := fun w h1 h2 => seal_ok ⟨k, i, t, c, b⟩ w hm hx h1 h2
    have HPL : Hid ((page ⟨k, i, t, c, b⟩).length = 4096) := page_len _ hm
    have hi1 : 0 ≤ i := by have := hm.2.2.1; simp only at this; omega
    have hi2 : i < 1048576 := hm.2.2.1.2
    have HSD : Hid (storeD d ⟨k, i, t, c, b⟩ = if (i + 1) * 8 ≤ d.size then d.write (i * 8) (page ⟨k, i, t, c, b⟩) else (d, 1)) := by
      show storeD d _ = _
      unfold storeD
      by_cases h : (i + 1) * 8 ≤ d.size
      · rw [if_pos ⟨hm, h⟩, if_pos h]
      · rw [if_neg (fun h' => h h'.2), if_neg h]
    have HPN := hide hp
    clear hE hd hF hs hx hm hp
    generalize hpg : page ⟨k, i, t, c, b⟩ = pg at *
    clear hpg
    show Calls Tryz.prog 6 #[.pointer (some ⟨db, 0, none⟩), .agg #[.int .i64 k, .int .i64 i, .int .u64 (t : Int), .int .i64 c, .string b]] w _
    go_enter Tryz.func6, Tryz.ntmps6
    go_wp2_with fail
    refine (HS.out _ (HE.out.up HB.out).lay (HE.out.up HB.out).tab).mono ?_
    rintro e w1 ⟨g, rfl, hrow, hg, hb1⟩
    have HX1 := hide (HX.out.below hb1)
    have HB1 := hide (Below.next HB.out hb1)
    have HROW := hide hrow
    have HG : Hid (w.heap.size < g) := by have := HX.out.1; show _ < _; omega
    have c1 : w1.cell? ⟨w.heap.size, 1, none⟩ = some (.int .i64 i) := HX1.out.2 1 (by simp)
    clear hrow hg hb1 HX HB
    have HDV := hide (HD.out.below HB1.out)
    by_cases hfit : (i + 1) * 8 ≤ d.size
    · go_wp2_with fail
      refine (sholds_any db F d i _ HDV.out hi1 hi2).mono ?_
      rintro e w1' ⟨rfl, rfl⟩
      rw [decide_eq_true hfit]
      go_wp2_with fail
      refine (first_any i _ hi1 (by omega)).mono ?_
      rintro e w1' ⟨rfl, rfl⟩
      have W := V.write_any base A db F d w1 HDV.out (HE.out.up HB1.out).errs HFB.out (i * 8) (.slice (some ⟨g, 0, none⟩) 4096 4096) pg ⟨some ⟨g, 0, none⟩, 4096, g, by rw [HPL.out], by rw [HPL.out]; decide, by rw [HPL.out]; decide, fun _ => ⟨rfl, fun hf => by have := HD.out.lt g hf; have := HG.out; omega⟩, HROW.out.cell⟩ (by rw [HPL.out]; exact HPN.out) (V.opdone_any base A db d.arms)
      have HR : Hid (storeD d ⟨k, i, t, c, b⟩ = d.write (i * 8) pg) := by show storeD d _ = _; rw [HSD.out, if_pos hfit]
      have HW : Hid (Calls Tryz.prog 11 #[.pointer (some ⟨db, 0, none⟩), .int .i64 (i * 8), .slice (some ⟨g, 0, none⟩) 4096 4096] w1 fun e w' => e = .returned (V.errV A (storeD d ⟨k, i, t, c, b⟩).2) ∧ V.DevPost w1 db F (storeD d ⟨k, i, t, c, b⟩).1 w') := by rw [HR.out]; exact W
      clear W
      go_wp2_with fail
      refine Calls.mono HW.out ?_
      rintro e w2 ⟨rfl, F', hd2, hs2⟩
      have HFIN : Hid (V.DevPost w db F (storeD d ⟨k, i, t, c, b⟩).1 w2) := ⟨F', hd2, (V.Step.of_below HB1.out).trans hs2⟩
      obtain ⟨ev, hev⟩ : ∃ ev, ev = V.errV A (storeD d ⟨k, i, t, c, b⟩).2 := ⟨_, rfl⟩
      have HEV := hide hev
      rw [← hev]
      clear hd2 hs2 hev
      go_wp2_with fail
      go_ret
      obtain rfl := HEV.out
      exact ⟨rfl, HFIN.out⟩
    · have cE : w1.cell? ⟨0, 0, none⟩ = some (.iface 158 (.pointer (some (A 0)))) := (HE.out.up HB1.out).errs.arg
      have HDF : Hid (decide ((i + 1) * 8 ≤ d.size) = false) := decide_eq_false hfit
      have HR : Hid (storeD d ⟨k, i, t, c, b⟩ = (d, 1)) := by show storeD d _ = _; rw [HSD.out, if_neg hfit]
      clear hfit
      go_wp2_with fail
      refine (sholds_any db F d i _ HDV.out hi1 hi2).mono ?_
      rintro e w1' ⟨rfl, rfl⟩
      rw [HDF.out]
      go_wp2_with fail
      go_ret
      rw [HR.out]
      exact ⟨rfl, F, HD.out.below HB1.out, V.Step.of_below HB1.out⟩
  · have HS : Hid (∀ w, w.cell? ⟨0, 0, none⟩ = some (.iface 158 (.pointer (some (A 0)))) → Calls Tryz.prog 30 #[.agg #[.int .i64 k, .int .i64 i, .int .u64 (t : Int), .int .i64 c, .string b]] w fun e w' => e = .returned (.tuple #[.slice none 0 0, .iface 158 (.pointer (some (A 0)))]) ∧ Below w.heap.size w w') := fun w hc => seal_no (A 0) ⟨k, i, t, c, b⟩ w hs hm hc
    have HR : Hid (storeD d ⟨k, i, t, c, b⟩ = (d, 1)) := by show storeD d _ = _; unfold storeD; rw [if_neg (fun h' => hm h'.1)]
    clear hE hd hF hs hx hm hp
    show Calls Tryz.prog 6 #[.pointer (some ⟨db, 0, none⟩), .agg #[.int .i64 k, .int .i64 i, .int .u64 (t : Int), .int .i64 c, .string b]] w _
    go_enter Tryz.func6, Tryz.ntmps6
    go_wp2_with fail
    refine (HS.out _ (HE.out.up HB.out).errs.arg).mono ?_
    rintro e w1 ⟨rfl, hb1⟩
    have HB1 := hide (Below.next HB.out hb1)
    clear hb1
    go_wp2_with fail
    go_ret
    rw [HR.out]
    exact ⟨rfl, F, HD.out.below HB1.out, V.Step.of_below HB1.out⟩

end Go.Proofs.YtmifadjgmjnkgaaGreatDoor
