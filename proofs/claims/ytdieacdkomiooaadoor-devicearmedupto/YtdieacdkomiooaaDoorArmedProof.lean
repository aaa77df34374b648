import Derived.Test.YtdieacdkomiooaaDoorArmedLt
import Derived.Test.YtdieacdkomiooaaDoorArmedGe
import Derived.Test.YtdieacdkomiooaaDoorLaid3
import Derived.Test.YtdieacdkomiooaaDoorTie
import Derived.Test.YtdieacdkomiooaaDoorCards
import Derived.SevenTiedAt
import Derived.Deep.DeepHandedRow
import Derived.Deep.DeepWitnessRowRef
namespace Go.Proofs.YtdieacdkomiooaaDoor
open Go.RowKit Go.Maps
theorem armed_any (base : Nat) (A : Nat → Addr) (X : Int) (fv sv afv ffv : Value) (first : List Sec) (steps : List Stp) (afs : List Int) (fss : List (List Fate)) (w : World) (hE : ErrsB base A w) (hfv : SecsIn w fv first) (hfl : first.length ≤ 1048576) (hsv : StepsIn w sv steps) (haf : IntsIn w afv afs) (hff : FatessIn w ffv fss) :
    Calls Tryd.prog 7 #[.agg #[.int .i64 X, fv, sv, afv, ffv]] w fun e w' => e = .returned (.bool true) ∧ Below w.heap.size w w' := by
  by_cases h : fss.length < afs.length
  · exact armed_lt base A X fv sv afv ffv first steps afs fss w hE hfv hfl hsv haf hff h
  · exact armed_ge base A X fv sv afv ffv first steps afs fss w hE hfv hfl hsv haf hff h
end Go.Proofs.YtdieacdkomiooaaDoor

namespace Go.Proofs.YtdieacdkomiooaaDoor
open Go.ChangeShapes Go.WideShapes Go.ChangeAt Go.WideMaps Go.WideElems Go.RowKit

theorem cellsInts : Tryd.prog.cellsOf 66 = 1 := by kernel_rfl
theorem cellsFatess : Tryd.prog.cellsOf 67 = 1 := by kernel_rfl
theorem cellsArms : Tryd.prog.cellsOf 69 = 5 := by kernel_rfl
instance : Inhabited (List Fate × Value) := ⟨([], .bool false)⟩

set_option maxRecDepth 100000 in
theorem open_ints {H : Type} {enc : TypeId × Value → H} {W : World} (fuel : Nat) (v : Value) (x : DataW H × List MemPlace)
    (h : DataW.trod enc Tryd.prog W 0 (fun _ => true) true fuel 66 [v] = some x) (hb : Rows.uptoBulk x.1 ≤ 1048576) : ∃ l, IntsIn W v l := by
  obtain ⟨l, a, cap, g, off, css, hv, hl, ha, hc⟩ := open_row (T := Int) Tryd.underlying66 cellsInt (by decide) 1048576 (fun q cs => cs = [.int .i64 q] ∧ q < 9223372036854775808) fuel v x h hb (by
    intro k cs y hy hcl _
    match cs, hcl with
    | [v0], _ =>
      obtain ⟨k0, d0, _, w0⟩ := DataW.trod_int Tryd.underlying3 hy
      simp only [List.cons.injEq, and_true] at d0
      exact ⟨k0, by rw [d0], by have := (bounds_i64 w0).2; omega⟩)
  refine ⟨l, a, cap, g, off, hv, hl, ha, fun i hi => ?_⟩
  obtain ⟨⟨hR, hn⟩, _, hcell⟩ := hc i hi
  rw [hR] at hcell
  have := hcell 0 (by omega)
  rw [Nat.mul_one, Nat.add_zero] at this
  exact ⟨this, hn⟩

set_option maxRecDepth 100000 in
theorem open_fatess {H : Type} {enc : TypeId × Value → H} {W : World} (fuel : Nat) (v : Value) (x : DataW H × List MemPlace)
    (h : DataW.trod enc Tryd.prog W 0 (fun _ => true) true fuel 67 [v] = some x) (hb : Rows.uptoBulk x.1 ≤ 1048576) : ∃ l, FatessIn W v l := by
  obtain ⟨l, a, cap, g, off, css, hv, hl, ha, hc⟩ := open_row (T := List Fate × Value) Tryd.underlying67 cellsFates (by decide) 1048576 (fun q cs => cs = [q.2] ∧ FatesIn W q.2 q.1) fuel v x h hb (by
    intro k cs y hy hcl hby
    match cs, hcl with
    | [v0], _ =>
      obtain ⟨lf, hlf, _, _⟩ := open_fates k v0 y hy hby
      exact ⟨(lf, v0), rfl, hlf⟩)
  refine ⟨l.map (·.1), a, cap, g, off, l.map (·.2), by rw [List.length_map]; exact hv, by rw [List.length_map]; exact hl, by rw [List.length_map]; exact ha, by simp, fun i hi hi' => ?_⟩
  rw [List.length_map] at hi
  obtain ⟨⟨hR, h1⟩, _, hcell⟩ := hc i hi
  simp only [List.getElem_map]
  rw [hR] at hcell
  have := hcell 0 (by omega)
  rw [Nat.mul_one, Nat.add_zero] at this
  exact ⟨this, h1⟩

set_option maxRecDepth 100000 in
theorem open_arms {H : Type} {enc : TypeId × Value → H} {W : World} {r : Reach} {b0 : Nat} {v : Value} {d : DataW H} {p : List MemPlace} (hv : Value.okWide Tryd.prog W r b0 69 v)
    (h : DataW.Trod enc Tryd.prog W 0 (fun _ => true) true 69 v d p) (hb : Rows.uptoBulk d ≤ 1048576) :
    ∃ X fv sv afv ffv first steps afs fss, v = .agg #[.int .i64 X, fv, sv, afv, ffv] ∧ ScrIn W X fv sv first steps ∧ IntsIn W afv afs ∧ FatessIn W ffv fss := by
  obtain ⟨cs, rfl, hsz⟩ := okWide_struct Tryd.underlying69 hv
  rw [cellsArms] at hsz
  obtain ⟨fuel, hf0⟩ := h
  obtain ⟨xs, k', _, hxy, hcl, hxl, hf⟩ := DataW.trod_struct Tryd.underlying69 hf0
  obtain ⟨cl⟩ := cs
  simp only [Value.cells] at hf
  simp only [Prod.mk.injEq] at hxy
  match xs, hxl, cl, hsz with
  | [y0, y1, y2], _, [v0, v1, v2, v3, v4], _ =>
    have g0 := hf 0 _ rfl
    have g1 := hf 1 _ rfl
    have g2 := hf 2 _ rfl
    simp [cellsScript, cellsInts, cellsFatess] at g0 g1 g2
    rw [hxy.1] at hb
    simp only [List.map_cons, List.map_nil, Rows.uptoBulk, Rows.uptoBulkAll] at hb
    obtain ⟨X, fv, sv, first, steps, he, hs⟩ := open_scr g0 (by omega)
    simp only [List.cons.injEq, and_true] at he
    obtain ⟨rfl, rfl, rfl⟩ := he
    obtain ⟨afs, hl1⟩ := open_ints k' v3 y1 g1 (by omega)
    obtain ⟨fss, hl2⟩ := open_fatess k' v4 y2 g2 (by omega)
    exact ⟨X, _, _, v3, v4, first, steps, afs, fss, rfl, hs, hl1, hl2⟩

end Go.Proofs.YtdieacdkomiooaaDoor

namespace Go.Proofs.YtdieacdkomiooaaDoor
open Go.ChangeShapes Go.WideShapes Go.ChangeAt Go.WideMaps Go.WideElems Go.RowKit Go.Joins

def armed_errL : List (String × List UInt8) := Rows.deviceArmedUptoRow.laid.map fun x => (x.1, errText x.2)
theorem armed_errL_eq : armed_errL.map mkErr = Rows.deviceArmedUptoRow.laid := rfl
theorem armed_errL_len : armed_errL.length = 13 := rfl
theorem armed_errL_all : ((List.range 13).all fun i => match armed_errL[i]? with
    | some x => (Tryd.prog.globalNamed x.1 == some (gAll i)) && ((Tryd.prog.globals[gAll i]?).map (·.type) == some 31)
    | none => false) = true := by kernel_rfl
theorem armed_errL_glob : ∀ i x, armed_errL[i]? = some x → Tryd.prog.globalNamed x.1 = some (gAll i) ∧ (Tryd.prog.globals[gAll i]?).map (·.type) = some 31 := by
  intro i x hx
  have hi : i < 13 := by
    rcases Nat.lt_or_ge i 13 with h | h
    · exact h
    · rw [List.getElem?_eq_none (by rw [armed_errL_len]; exact h)] at hx; cases hx
  have h := List.all_eq_true.1 armed_errL_all i (List.mem_range.2 hi)
  rw [hx] at h
  simpa using h
theorem armed_errs {W : World} (h : laidMetH Tryd.prog Rows.deviceArmedUptoRow.laid W) : ∃ A, ErrsAt 13 gAll A W := by
  rw [MakeChecks.laidMetH_plain _ _ _ (by kernel_rfl)] at h
  exact errs_of (rest := []) gAll armed_errL_len armed_errL_glob (by rw [List.append_nil, armed_errL_eq]; exact h)

set_option maxRecDepth 100000 in
theorem armed_contract (H : Type) (enc : TypeId × Value → H) (W : World) (base : Nat) (args : Array Value) (ds gs : List (DataW H)) (before : List MemPlace)
    (hval : ∀ (j : Nat) t v, Tryd.f7.params[j]? = some t → args[j]? = some v → Value.okWide Tryd.prog W .any base t v)
    (hW : DataW.Whole enc Tryd.prog Tryd.f7.params.toList Rows.deviceArmedSpec.vars false W args.toList ds gs before) (hL : laidMetH Tryd.prog Rows.deviceArmedUptoRow.laid W) (hk : Rows.uptoSmall H (ds ++ gs) = true) :
    Calls Tryd.prog 7 args W fun e W' => ∃ v, e = .returned v ∧ Rows.deviceArmedSpec.post enc Tryd.prog Tryd.f7 false true false false W args v W' := by
  have hW' := hW
  obtain ⟨p, q, hA0, hV, rfl, hfz, hnd⟩ := hW
  have hA : DataW.TrodAll enc Tryd.prog W 0 (fun _ => true) true Tryd.f7.params.toList args.toList ds p := hA0
  rw [Tryd.params7] at hA hval
  obtain ⟨v0, d0, rfl, rfl, h0⟩ := trodAll_one hA
  obtain ⟨rfl, rfl⟩ := trodVars_none hV
  have h0k := h0
  have hlt := hA.lt
  have hbulk := of_decide_eq_true hk
  simp only [List.append_nil, Rows.uptoBulkAll, Nat.add_zero] at hbulk
  obtain ⟨X, fv, sv, afv, ffv, first, steps, afs, fss, rfl, hs, haf, hff⟩ := open_arms (hval 0 69 v0 rfl rfl) h0 (by omega)
  clear hA0
  simp only [List.append_nil] at hW'
  obtain ⟨A, hE⟩ := armed_errs hL
  have hEB := errsB_of hE
  refine (armed_any _ A X fv sv afv ffv first steps afs fss W hEB hs.secs hs.len hs.steps haf hff).mono fun e W' ⟨he, hb⟩ => ?_
  subst he
  refine ⟨_, rfl, _, _, _, _, _, _, hW', trodAll_mk1 (shut_bool Tryd.underlying4 _), trodAll_mk1 (Below.trod laidOut (by kernel_rfl) (of_decide_eq_true (by kernel_rfl)) h0k hb hlt), rfl, hb.frame _, fun h => by cases h⟩

theorem armed_reads (os : Os) {H : Type} (enc : TypeId × Value → H) : ∃ places, DataW.whole enc Tryd.prog ((World.doorLaid Tryd.prog 248 os).forCall (fun _ _ => 0) ⟨#[], #[.agg #[.int .i64 0, .slice none 0 0, .slice none 0 0, .slice none 0 0, .slice none 0 0]], []⟩).memory Tryd.f7.params.toList Rows.deviceArmedSpec.vars false #[.agg #[.int .i64 0, .slice none 0 0, .slice none 0 0, .slice none 0 0, .slice none 0 0]].toList 8 = some ([.agg [.agg [.lit (.int .i64 0), .nil, .nil], .nil, .nil]], [], places) :=
  ⟨[], by kernel_rfl⟩

theorem armed_laid (os : Os) : laidMet Tryd.prog Rows.deviceArmedUptoRow.laid ((World.doorLaid Tryd.prog 248 os).forCall (fun _ _ => 0) ⟨#[], #[.agg #[.int .i64 0, .slice none 0 0, .slice none 0 0, .slice none 0 0, .slice none 0 0]], []⟩).memory :=
  laidMet_of_run' 8 (by kernel_rfl) (by kernel_rfl)

set_option maxRecDepth 100000 in
theorem armed_lifted (os : Os) (started : os.Started) (H : Type) (enc : TypeId × Value → H) (F : Stop.Interp) :
    ReturnsInHanded {} Tryd.checked os 7 .any ((Rows.OpenSpec.upto Rows.deviceArmedSpec).preRow enc Tryd.prog Tryd.f7 Rows.deviceArmedUptoRow.domain false Rows.deviceArmedUptoRow.laid) (((Rows.OpenSpec.upto Rows.deviceArmedSpec).at F).post enc Tryd.prog Tryd.f7 false true false false) := by
  obtain ⟨places, hx⟩ := armed_reads os enc
  refine returnsInHanded_of_row (C := Tryd.checked) (s := Rows.OpenSpec.upto Rows.deviceArmedSpec) own started (by kernel_rfl) Tryd.func7
    (witness_row_atRef (enc := enc) (C := Tryd.checked) false (World.doorLaid Tryd.prog 248 os) #[.agg #[.int .i64 0, .slice none 0 0, .slice none 0 0, .slice none 0 0, .slice none 0 0]] rfl (by kernel_rfl) (by kernel_rfl) (by kernel_rfl)
      (OpenSpec.preRow_of_cond 8 hx (by kernel_rfl) (fun k hk => by cases hk; kernel_rfl) (by kernel_rfl) (armed_laid os))) ?_
  intro W base args ds gs before hval hW _ hcond _ hL _ _
  exact armed_contract H enc W base args ds gs before hval hW hL (hcond _ rfl)

theorem armed_holds : Rows.DeviceArmedUptoSaid :=
  OpenClaim.holds_of_cond 7 Tryd.f7 rfl rfl rfl rfl rfl rfl rfl ⟨rfl, rfl, rfl, rfl, rfl⟩ rfl rfl rfl rfl rfl (by kernel_rfl) Tryd.func7 (by kernel_rfl)
    (of_decide_eq_true (by kernel_rfl)) (by unfold Func.isWrapper; first | (rw [if_pos (by decide +kernel)]; kernel_rfl) | (rw [if_neg (by decide +kernel)]; exact ⟨rfl, rfl⟩))
    (fun os started H enc _ F => by rw [OpenClaim.pre_eq_preRow]; exact armed_lifted os started H enc F)

theorem armed_card_holds : Rows.DeviceArmedUptoCardSaid :=
  Claim7.holds_tied_plain_at .later [] _ _ _ _
    armed_holds (fun _ h => by cases h) (by kernel_rfl) (fun _ h => by cases h) deviceArmedUpto_row_tie rfl ⟨rfl, rfl⟩ (by kernel_rfl) rfl
    (fun f fn hf hfn => by
      obtain rfl : f = 7 := Option.some.inj ((show Tryd.prog.funcNamed "copse/copselaw3.DeviceArmed" = some 7 by kernel_rfl).symm.trans hf) |>.symm
      obtain rfl : fn = Tryd.f7 := (Option.some.inj (Tryd.func7.symm.trans hfn)).symm
      exact ⟨by kernel_rfl, fun j t ht => by
        rw [Tryd.params7] at ht
        have hm : t ∈ [69] := by simpa using Array.mem_of_getElem? ht
        have hall : ([69].all fun u => !Tryd.prog.wantsStandIn u) = true := by kernel_rfl
        exact (show Tryd.prog.wantsStandIn t = false by simpa using List.all_eq_true.1 hall t hm)⟩)
    (by kernel_rfl)
#print axioms armed_card_holds

end Go.Proofs.YtdieacdkomiooaaDoor
