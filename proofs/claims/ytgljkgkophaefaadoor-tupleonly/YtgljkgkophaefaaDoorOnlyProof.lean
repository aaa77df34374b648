import Derived.Test.YtgljkgkophaefaaDoorOnlyLaw
import Derived.Test.YtgljkgkophaefaaDoorLaid2
import Derived.Test.YtgljkgkophaefaaDoorTie
import Derived.Test.YtgljkgkophaefaaDoorCards
import Derived.SevenTiedAt
namespace Go.Proofs.YtgljkgkophaefaaDoor
open Go.ChangeShapes Go.WideShapes Go.ChangeAt Go.WideMaps Go.WideElems Go.RowKit Go.Joins

def only_errL : List (String × List UInt8) := Rows.tupleOnlyRow.laid.map fun x => (x.1, errText x.2)
theorem only_errL_eq : only_errL.map mkErr = Rows.tupleOnlyRow.laid := rfl
theorem only_errL_len : only_errL.length = 13 := rfl
theorem only_errL_all : ((List.range 13).all fun i => match only_errL[i]? with
    | some x => (Tryd.prog.globalNamed x.1 == some (gAll i)) && ((Tryd.prog.globals[gAll i]?).map (·.type) == some 24)
    | none => false) = true := by kernel_rfl
theorem only_errL_glob : ∀ i x, only_errL[i]? = some x → Tryd.prog.globalNamed x.1 = some (gAll i) ∧ (Tryd.prog.globals[gAll i]?).map (·.type) = some 24 := by
  intro i x hx
  have hi : i < 13 := by
    rcases Nat.lt_or_ge i 13 with h | h
    · exact h
    · rw [List.getElem?_eq_none (by rw [only_errL_len]; exact h)] at hx; cases hx
  have h := List.all_eq_true.1 only_errL_all i (List.mem_range.2 hi)
  rw [hx] at h
  simpa using h
theorem only_errs {W : World} (h : laidMetH Tryd.prog Rows.tupleOnlyRow.laid W) : ∃ A, ErrsAt 13 gAll A W := by
  rw [MakeChecks.laidMetH_plain _ _ _ (by kernel_rfl)] at h
  exact errs_of (rest := []) gAll only_errL_len only_errL_glob (by rw [List.append_nil, only_errL_eq]; exact h)
theorem only_door (os : Os) (args : Array Value) : laidMetH Tryd.prog Rows.tupleOnlyRow.laid ((World.doorLaid Tryd.prog 248 os).forCall (fun _ _ => 0) ⟨#[], args, []⟩).memory :=
  laidMetH_of_parts3 (fuel := 8) (laidMet_of_run' 8 (by kernel_rfl) (by kernel_rfl)) (by kernel_rfl) (by kernel_rfl)

set_option maxRecDepth 100000 in
theorem only_lifted (os : Os) (started : os.Started) (H : Type) (enc : TypeId × Value → H) :
    ReturnsInHanded {} Tryd.checked os 5 .any (fun w args => (Rows.tupleOnlySpec.pre enc Tryd.prog Tryd.f5 [] false w args ∧ laidMetH Tryd.prog Rows.tupleOnlyRow.laid w) ∧ sizedMet enc Tryd.prog Tryd.f5 (OpenSpec.ofChange Rows.tupleOnlySpec) false w args)
      (Rows.tupleOnlySpec.post enc Tryd.prog Tryd.f5 false true false false) := by
  refine returnsInHanded_of_change_and (C := Tryd.checked) (X := fun w _ => laidMetH Tryd.prog Rows.tupleOnlyRow.laid w) (fun _ _ _ hh h => h.of_heap hh) own started (by kernel_rfl) Tryd.func5
    (ChangeSpec.witness_shaped (enc := enc) (C := Tryd.checked) (os := os) (X := fun w _ => laidMetH Tryd.prog Rows.tupleOnlyRow.laid w) false (World.doorLaid Tryd.prog 248 os) #[.string ⟨#[]⟩] 8 rfl (World.shaped_of_RefB (by kernel_rfl) (by kernel_rfl)) (by kernel_rfl) (by kernel_rfl) (by kernel_rfl) (only_door os _)) ?_
  intro W base args ds gs before hval0 hW _ hsz0 hL _
  have hval : ∀ (j : Nat) t v, Tryd.f5.params[j]? = some t → args[j]? = some v → Value.okWide Tryd.prog W .any base t v := hval0
  have hsz : (DataW.weightsEach Tryd.prog (Tryd.f5.params.toList ++ Rows.tupleOnlySpec.plain.varTypes Tryd.prog) (ds ++ gs)).all (· ≤ reachBytes) = true := hsz0
  have hW' := hW
  obtain ⟨p, q, hA0, hV, rfl, hfz, hnd⟩ := hW
  have hA : DataW.TrodAll enc Tryd.prog W 0 (fun _ => true) true Tryd.f5.params.toList args.toList ds p := hA0
  rw [Tryd.params5] at hA hval hsz
  obtain ⟨v0, d0, rfl, rfl, h0⟩ := trodAll_one hA
  obtain ⟨rfl, rfl⟩ := trodVars_none hV
  have h0k := h0
  have hlt := hA.lt
  obtain ⟨s, rfl, rfl, hp0, hs⟩ := Go.ChangeMaps.open_string Tryd.underlying9 (hval 0 9 v0 rfl rfl) h0
  have zs : s.size ≤ 140737488351232 := of_decide_eq_true (List.all_eq_true.1 hsz s.size (by simp [DataW.weightsEach, DataW.weights]))
  clear hA0 hval0 hsz0
  simp only [List.append_nil] at hW'
  obtain ⟨A, hE⟩ := only_errs hL
  refine (onlylaw_any A s W hE).mono fun e W' ⟨he, hb⟩ => ?_
  subst he
  refine ⟨_, rfl, _, _, _, _, _, _, hW', trodAll_mk1 (shut_bool Tryd.underlying4 _), trodAll_mk1 (Below.trod laidOut (by kernel_rfl) (of_decide_eq_true (by kernel_rfl)) h0k hb hlt), rfl, hb.frame _, fun h => by cases h⟩

theorem only_holds : Rows.TupleOnlySaid :=
  OpenClaim.holds_of_wide 5 Tryd.f5 rfl rfl rfl rfl rfl rfl rfl ⟨rfl, rfl, rfl, rfl, rfl⟩ rfl rfl rfl rfl rfl (by kernel_rfl) Tryd.func5 (by kernel_rfl)
    (of_decide_eq_true (by kernel_rfl)) (by unfold Func.isWrapper; first | (rw [if_pos (by decide +kernel)]; kernel_rfl) | (rw [if_neg (by decide +kernel)]; exact ⟨rfl, rfl⟩))
    (fun os started H enc _ => only_lifted os started H enc)

theorem only_card_holds : Rows.TupleOnlyCardSaid :=
  Claim7.holds_tied_plain_at .later [] [.sentinel, .sentinel, .sentinel, .sentinel, .sentinel, .sentinel, .sentinel, .sentinel, .sentinel, .sentinel, .sentinel, .sentinel, .sentinel] true (true, "8d0a5feaeef8fc7e4f2878674765fb568e2793fa87cf123ea76755624be3ca33") true
    only_holds (fun _ h => by cases h) (by kernel_rfl) (fun _ h => by cases h) tupleOnly_row_tie rfl ⟨rfl, rfl⟩ (by kernel_rfl) rfl
    (fun f fn hf hfn => by
      obtain rfl : f = 5 := Option.some.inj ((show Tryd.prog.funcNamed "copse/copselaw2.TupleOnly" = some 5 by kernel_rfl).symm.trans hf) |>.symm
      obtain rfl : fn = Tryd.f5 := (Option.some.inj (Tryd.func5.symm.trans hfn)).symm
      exact ⟨by kernel_rfl, fun j t ht => by
        rw [Tryd.params5] at ht
        have hm : t ∈ [9] := by simpa using Array.mem_of_getElem? ht
        have hall : ([9].all fun u => !Tryd.prog.wantsStandIn u) = true := by kernel_rfl
        exact (show Tryd.prog.wantsStandIn t = false by simpa using List.all_eq_true.1 hall t hm)⟩)
    (by kernel_rfl)
#print axioms only_card_holds

end Go.Proofs.YtgljkgkophaefaaDoor
