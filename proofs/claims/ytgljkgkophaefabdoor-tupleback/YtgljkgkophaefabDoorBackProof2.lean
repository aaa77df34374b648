import Derived.Test.YtgljkgkophaefabDoorBackLaw2
import Derived.Test.YtgljkgkophaefabDoorLaid2
import Derived.Test.YtgljkgkophaefabDoorTie
import Derived.Test.YtgljkgkophaefabDoorCards
import Derived.SevenTiedAt
namespace Go.Proofs.YtgljkgkophaefabDoor
open Go.ChangeShapes Go.WideShapes Go.ChangeAt Go.WideMaps Go.WideElems Go.RowKit Go.Joins

def back_errL : List (String × List UInt8) := Rows.tupleBackRow.laid.map fun x => (x.1, errText x.2)
theorem back_errL_eq : back_errL.map mkErr = Rows.tupleBackRow.laid := rfl
theorem back_errL_len : back_errL.length = 3 := rfl
theorem back_errL_all : ((List.range 3).all fun i => match back_errL[i]? with
    | some x => (Tryd.prog.globalNamed x.1 == some (gAll i)) && ((Tryd.prog.globals[gAll i]?).map (·.type) == some 25)
    | none => false) = true := by kernel_rfl
theorem back_errL_glob : ∀ i x, back_errL[i]? = some x → Tryd.prog.globalNamed x.1 = some (gAll i) ∧ (Tryd.prog.globals[gAll i]?).map (·.type) = some 25 := by
  intro i x hx
  have hi : i < 3 := by
    rcases Nat.lt_or_ge i 3 with h | h
    · exact h
    · rw [List.getElem?_eq_none (by rw [back_errL_len]; exact h)] at hx; cases hx
  have h := List.all_eq_true.1 back_errL_all i (List.mem_range.2 hi)
  rw [hx] at h
  simpa using h
theorem back_errs {W : World} (h : laidMetH Tryd.prog Rows.tupleBackRow.laid W) : ∃ A, ErrsAt 3 gAll A W := by
  rw [MakeChecks.laidMetH_plain _ _ _ (by kernel_rfl)] at h
  exact errs_of (rest := []) gAll back_errL_len back_errL_glob (by rw [List.append_nil, back_errL_eq]; exact h)
theorem back_door (os : Os) (args : Array Value) : laidMetH Tryd.prog Rows.tupleBackRow.laid ((World.doorLaid Tryd.prog 248 os).forCall (fun _ _ => 0) ⟨#[], args, []⟩).memory :=
  laidMetH_of_parts3 (fuel := 8) (laidMet_of_run' 8 (by kernel_rfl) (by kernel_rfl)) (by kernel_rfl) (by kernel_rfl)

set_option maxRecDepth 100000 in
theorem back_lifted (os : Os) (started : os.Started) (H : Type) (enc : TypeId × Value → H) :
    ReturnsInHanded {} Tryd.checked os 3 .any (fun w args => (Rows.tupleBackSpec.pre enc Tryd.prog Tryd.f3 [] false w args ∧ laidMetH Tryd.prog Rows.tupleBackRow.laid w) ∧ sizedMet enc Tryd.prog Tryd.f3 (OpenSpec.ofChange Rows.tupleBackSpec) false w args)
      (Rows.tupleBackSpec.post enc Tryd.prog Tryd.f3 false true false false) := by
  refine returnsInHanded_of_change_and (C := Tryd.checked) (X := fun w _ => laidMetH Tryd.prog Rows.tupleBackRow.laid w) (fun _ _ _ hh h => h.of_heap hh) own started (by kernel_rfl) Tryd.func3
    (ChangeSpec.witness_shaped (enc := enc) (C := Tryd.checked) (os := os) (X := fun w _ => laidMetH Tryd.prog Rows.tupleBackRow.laid w) false (World.doorLaid Tryd.prog 248 os) #[.slice none 0 0] 8 rfl (World.shaped_of_RefB (by kernel_rfl) (by kernel_rfl)) (by kernel_rfl) (by kernel_rfl) (by kernel_rfl) (back_door os _)) ?_
  intro W base args ds gs before hval0 hW _ hsz0 hL _
  have hval : ∀ (j : Nat) t v, Tryd.f3.params[j]? = some t → args[j]? = some v → Value.okWide Tryd.prog W .any base t v := hval0
  have hsz : (DataW.weightsEach Tryd.prog (Tryd.f3.params.toList ++ Rows.tupleBackSpec.plain.varTypes Tryd.prog) (ds ++ gs)).all (· ≤ reachBytes) = true := hsz0
  have hW' := hW
  obtain ⟨p, q, hA0, hV, rfl, hfz, hnd⟩ := hW
  have hA : DataW.TrodAll enc Tryd.prog W 0 (fun _ => true) true Tryd.f3.params.toList args.toList ds p := hA0
  rw [Tryd.params3] at hA hval hsz
  obtain ⟨v0, d0, rfl, rfl, h0⟩ := trodAll_one hA
  obtain ⟨rfl, rfl⟩ := trodVars_none hV
  have h0k := h0
  have hlt := hA.lt
  obtain ⟨fuel, h0f⟩ := h0
  obtain ⟨oa, ol, oc, rfl⟩ := okWide_slice Tryd.underlying22 (hval 0 22 v0 rfl rfl)
  obtain ⟨l, hl⟩ := open_its fuel _ _ h0f (fun z hz => of_decide_eq_true (List.all_eq_true.1 hsz z (by
    simp only [List.cons_append, List.nil_append, DataW.weightsEach, List.mem_append]
    exact .inl hz)))
  clear hA0 hval0 hsz0
  simp only [List.append_nil] at hW'
  obtain ⟨A, hE⟩ := back_errs hL
  refine (backlaw_any (A 0) (A 1) (A 2) l _ W hl ⟨(hE.1 0 (by decide)).1, (hE.1 2 (by decide)).1⟩ (hE.1 1 (by decide)).1).mono fun e W' ⟨he, hb⟩ => ?_
  subst he
  refine ⟨_, rfl, _, _, _, _, _, _, hW', trodAll_mk1 (shut_bool Tryd.underlying4 _), trodAll_mk1 (Below.trod laidOut (by kernel_rfl) (of_decide_eq_true (by kernel_rfl)) h0k hb hlt), rfl, hb.frame _, fun h => by cases h⟩

theorem back_holds : Rows.TupleBackSaid :=
  OpenClaim.holds_of_wide 3 Tryd.f3 rfl rfl rfl rfl rfl rfl rfl ⟨rfl, rfl, rfl, rfl, rfl⟩ rfl rfl rfl rfl rfl (by kernel_rfl) Tryd.func3 (by kernel_rfl)
    (of_decide_eq_true (by kernel_rfl)) (by unfold Func.isWrapper; first | (rw [if_pos (by decide +kernel)]; kernel_rfl) | (rw [if_neg (by decide +kernel)]; exact ⟨rfl, rfl⟩))
    (fun os started H enc _ => back_lifted os started H enc)

theorem back_card_holds : Rows.TupleBackCardSaid :=
  Claim7.holds_tied_plain_at .later [] [.sentinel, .sentinel, .sentinel] true (true, "af2cee3752a3fb76f97c9647cd17bf9e77d39c01b79f47afa524fe46fa721a0c") true
    back_holds (fun _ h => by cases h) (by kernel_rfl) (fun _ h => by cases h) tupleBack_row_tie rfl ⟨rfl, rfl⟩ (by kernel_rfl) rfl
    (fun f fn hf hfn => by
      obtain rfl : f = 3 := Option.some.inj ((show Tryd.prog.funcNamed "copse/copselaw2.TupleBack" = some 3 by kernel_rfl).symm.trans hf) |>.symm
      obtain rfl : fn = Tryd.f3 := (Option.some.inj (Tryd.func3.symm.trans hfn)).symm
      exact ⟨by kernel_rfl, fun j t ht => by
        rw [Tryd.params3] at ht
        have hm : t ∈ [22] := by simpa using Array.mem_of_getElem? ht
        have hall : ([22].all fun u => !Tryd.prog.wantsStandIn u) = true := by kernel_rfl
        exact (show Tryd.prog.wantsStandIn t = false by simpa using List.all_eq_true.1 hall t hm)⟩)
    (by kernel_rfl)
#print axioms back_card_holds

end Go.Proofs.YtgljkgkophaefabDoor
