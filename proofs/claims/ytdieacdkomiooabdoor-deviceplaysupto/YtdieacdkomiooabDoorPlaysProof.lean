import Derived.Test.YtdieacdkomiooabDoorDPlays
import Derived.Test.YtdieacdkomiooabDoorOpen5
import Derived.Test.YtdieacdkomiooabDoorTie
import Derived.Test.YtdieacdkomiooabDoorCards
import Derived.SevenTiedAt
import Derived.Deep.DeepHandedRow
import Derived.Deep.DeepWitnessRowRef
namespace Go.Proofs.YtdieacdkomiooabDoor
open Go.ChangeShapes Go.WideShapes Go.ChangeAt Go.WideMaps Go.WideElems Go.RowKit Go.Joins

def dplays_errL : List (String × List UInt8) := Rows.devicePlaysUptoRow.laid.map fun x => (x.1, errText x.2)
theorem dplays_errL_eq : dplays_errL.map mkErr = Rows.devicePlaysUptoRow.laid := rfl
theorem dplays_errL_len : dplays_errL.length = 13 := rfl
theorem dplays_errL_all : ((List.range 13).all fun i => match dplays_errL[i]? with
    | some x => (Tryd.prog.globalNamed x.1 == some (gAll i)) && ((Tryd.prog.globals[gAll i]?).map (·.type) == some 41)
    | none => false) = true := by kernel_rfl
theorem dplays_errL_glob : ∀ i x, dplays_errL[i]? = some x → Tryd.prog.globalNamed x.1 = some (gAll i) ∧ (Tryd.prog.globals[gAll i]?).map (·.type) = some 41 := by
  intro i x hx
  have hi : i < 13 := by
    rcases Nat.lt_or_ge i 13 with h | h
    · exact h
    · rw [List.getElem?_eq_none (by rw [dplays_errL_len]; exact h)] at hx; cases hx
  have h := List.all_eq_true.1 dplays_errL_all i (List.mem_range.2 hi)
  rw [hx] at h
  simpa using h
theorem dplays_errs {W : World} (h : laidMetH Tryd.prog Rows.devicePlaysUptoRow.laid W) : ∃ A, ErrsAt 13 gAll A W := by
  rw [MakeChecks.laidMetH_plain _ _ _ (by kernel_rfl)] at h
  exact errs_of (rest := []) gAll dplays_errL_len dplays_errL_glob (by rw [List.append_nil, dplays_errL_eq]; exact h)

set_option maxRecDepth 100000 in
theorem dplays_contract (H : Type) (enc : TypeId × Value → H) (W : World) (base : Nat) (args : Array Value) (ds gs : List (DataW H)) (before : List MemPlace)
    (hval : ∀ (j : Nat) t v, Tryd.f4.params[j]? = some t → args[j]? = some v → Value.okWide Tryd.prog W .any base t v)
    (hW : DataW.Whole enc Tryd.prog Tryd.f4.params.toList Rows.devicePlaysSpec.vars false W args.toList ds gs before) (hL : laidMetH Tryd.prog Rows.devicePlaysUptoRow.laid W) (hk : Rows.uptoSmall H (ds ++ gs) = true) :
    Calls Tryd.prog 4 args W fun e W' => ∃ v, e = .returned v ∧ Rows.devicePlaysSpec.post enc Tryd.prog Tryd.f4 false true false false W args v W' := by
  have hW' := hW
  obtain ⟨p, q, hA0, hV, rfl, hfz, hnd⟩ := hW
  have hA : DataW.TrodAll enc Tryd.prog W 0 (fun _ => true) true Tryd.f4.params.toList args.toList ds p := hA0
  rw [Tryd.params4] at hA hval
  obtain ⟨v0, d0, rfl, rfl, h0⟩ := trodAll_one hA
  obtain ⟨rfl, rfl⟩ := trodVars_none hV
  have h0k := h0
  have hlt := hA.lt
  have hbulk := of_decide_eq_true hk
  simp only [List.append_nil, Rows.uptoBulkAll, Nat.add_zero] at hbulk
  obtain ⟨X, fv, sv, first, steps, rfl, hs, hst⟩ := open_scrm (hval 0 25 v0 rfl rfl) h0 (by omega)
  clear hA0
  simp only [List.append_nil] at hW'
  obtain ⟨A, hE⟩ := dplays_errs hL
  have hEB := errsB_of hE
  refine (dplays_any _ A X fv sv first steps W hEB hs.secs hs.len hs.steps hst).mono fun e W' ⟨he, hb⟩ => ?_
  subst he
  refine ⟨_, rfl, _, _, _, _, _, _, hW', trodAll_mk1 (shut_bool Tryd.underlying4 _), trodAll_mk1 (Below.trod laidOut (by kernel_rfl) (of_decide_eq_true (by kernel_rfl)) h0k hb hlt), rfl, hb.frame _, fun h => by cases h⟩

theorem dplays_reads (os : Os) {H : Type} (enc : TypeId × Value → H) : ∃ places, DataW.whole enc Tryd.prog ((World.doorLaid Tryd.prog 248 os).forCall (fun _ _ => 0) ⟨#[], #[.agg #[.int .i64 0, .slice none 0 0, .slice none 0 0]], []⟩).memory Tryd.f4.params.toList Rows.devicePlaysSpec.vars false #[.agg #[.int .i64 0, .slice none 0 0, .slice none 0 0]].toList 8 = some ([.agg [.lit (.int .i64 0), .nil, .nil]], [], places) :=
  ⟨[], by kernel_rfl⟩

theorem dplays_laid (os : Os) : laidMet Tryd.prog Rows.devicePlaysUptoRow.laid ((World.doorLaid Tryd.prog 248 os).forCall (fun _ _ => 0) ⟨#[], #[.agg #[.int .i64 0, .slice none 0 0, .slice none 0 0]], []⟩).memory :=
  laidMet_of_run' 8 (by kernel_rfl) (by kernel_rfl)

set_option maxRecDepth 100000 in
theorem dplays_lifted (os : Os) (started : os.Started) (H : Type) (enc : TypeId × Value → H) (F : Stop.Interp) :
    ReturnsInHanded {} Tryd.checked os 4 .any ((Rows.OpenSpec.upto Rows.devicePlaysSpec).preRow enc Tryd.prog Tryd.f4 Rows.devicePlaysUptoRow.domain false Rows.devicePlaysUptoRow.laid) (((Rows.OpenSpec.upto Rows.devicePlaysSpec).at F).post enc Tryd.prog Tryd.f4 false true false false) := by
  obtain ⟨places, hx⟩ := dplays_reads os enc
  refine returnsInHanded_of_row (C := Tryd.checked) (s := Rows.OpenSpec.upto Rows.devicePlaysSpec) own started (by kernel_rfl) Tryd.func4
    (witness_row_atRef (enc := enc) (C := Tryd.checked) false (World.doorLaid Tryd.prog 248 os) #[.agg #[.int .i64 0, .slice none 0 0, .slice none 0 0]] rfl (by kernel_rfl) (by kernel_rfl) (by kernel_rfl)
      (OpenSpec.preRow_of_cond 8 hx (by kernel_rfl) (fun k hk => by cases hk; kernel_rfl) (by kernel_rfl) (dplays_laid os))) ?_
  intro W base args ds gs before hval hW _ hcond _ hL _ _
  exact dplays_contract H enc W base args ds gs before hval hW hL (hcond _ rfl)

theorem dplays_holds : Rows.DevicePlaysUptoSaid :=
  OpenClaim.holds_of_cond 4 Tryd.f4 rfl rfl rfl rfl rfl rfl rfl ⟨rfl, rfl, rfl, rfl, rfl⟩ rfl rfl rfl rfl rfl (by kernel_rfl) Tryd.func4 (by kernel_rfl)
    (of_decide_eq_true (by kernel_rfl)) (by unfold Func.isWrapper; first | (rw [if_pos (by decide +kernel)]; kernel_rfl) | (rw [if_neg (by decide +kernel)]; exact ⟨rfl, rfl⟩))
    (fun os started H enc _ F => by rw [OpenClaim.pre_eq_preRow]; exact dplays_lifted os started H enc F)

theorem dplays_card_holds : Rows.DevicePlaysUptoCardSaid :=
  Claim7.holds_tied_plain_at .later [] _ _ _ _
    dplays_holds (fun _ h => by cases h) (by kernel_rfl) (fun _ h => by cases h) devicePlaysUpto_row_tie rfl ⟨rfl, rfl⟩ (by kernel_rfl) rfl
    (fun f fn hf hfn => by
      obtain rfl : f = 4 := Option.some.inj ((show Tryd.prog.funcNamed "copse/copselaw3.DevicePlays" = some 4 by kernel_rfl).symm.trans hf) |>.symm
      obtain rfl : fn = Tryd.f4 := (Option.some.inj (Tryd.func4.symm.trans hfn)).symm
      exact ⟨by kernel_rfl, fun j t ht => by
        rw [Tryd.params4] at ht
        have hm : t ∈ [25] := by simpa using Array.mem_of_getElem? ht
        have hall : ([25].all fun u => !Tryd.prog.wantsStandIn u) = true := by kernel_rfl
        exact (show Tryd.prog.wantsStandIn t = false by simpa using List.all_eq_true.1 hall t hm)⟩)
    (by kernel_rfl)
#print axioms dplays_card_holds

end Go.Proofs.YtdieacdkomiooabDoor
