import Derived.Test.YtgljkgkophaefabDoorOrderLaw
import Derived.Test.YtgljkgkophaefabDoorLaid2
import Derived.Test.YtgljkgkophaefabDoorTie
import Derived.Test.YtgljkgkophaefabDoorCards
import Derived.SevenTiedAt
namespace Go.Proofs.YtgljkgkophaefabDoor
open Go.ChangeShapes Go.WideShapes Go.ChangeAt Go.WideMaps Go.WideElems Go.RowKit Go.Joins

def gTwo (i : Nat) : Nat := if i = 0 then 2 else 0
theorem ErrsAt.pair {A : Nat → Addr} {w : World} (h : ErrsAt 2 gTwo A w) : Errs2 (A 0) (A 1) w := ⟨(h.1 0 (by decide)).1, (h.1 1 (by decide)).1⟩
def order_errL : List (String × List UInt8) := Rows.tupleOrderRow.laid.map fun x => (x.1, errText x.2)
theorem order_errL_eq : order_errL.map mkErr = Rows.tupleOrderRow.laid := rfl
theorem order_errL_len : order_errL.length = 2 := rfl
theorem order_errL_all : ((List.range 2).all fun i => match order_errL[i]? with
    | some x => (Tryd.prog.globalNamed x.1 == some (gTwo i)) && ((Tryd.prog.globals[gTwo i]?).map (·.type) == some 25)
    | none => false) = true := by kernel_rfl
theorem order_errL_glob : ∀ i x, order_errL[i]? = some x → Tryd.prog.globalNamed x.1 = some (gTwo i) ∧ (Tryd.prog.globals[gTwo i]?).map (·.type) = some 25 := by
  intro i x hx
  have hi : i < 2 := by
    rcases Nat.lt_or_ge i 2 with h | h
    · exact h
    · rw [List.getElem?_eq_none (by rw [order_errL_len]; exact h)] at hx; cases hx
  have h := List.all_eq_true.1 order_errL_all i (List.mem_range.2 hi)
  rw [hx] at h
  simpa using h
theorem order_errs {W : World} (h : laidMetH Tryd.prog Rows.tupleOrderRow.laid W) : ∃ A, ErrsAt 2 gTwo A W := by
  rw [MakeChecks.laidMetH_plain _ _ _ (by kernel_rfl)] at h
  exact errs_of (rest := []) gTwo order_errL_len order_errL_glob (by rw [List.append_nil, order_errL_eq]; exact h)
theorem order_door (os : Os) (args : Array Value) : laidMetH Tryd.prog Rows.tupleOrderRow.laid ((World.doorLaid Tryd.prog 248 os).forCall (fun _ _ => 0) ⟨#[], args, []⟩).memory :=
  laidMetH_of_parts3 (fuel := 8) (laidMet_of_run' 8 (by kernel_rfl) (by kernel_rfl)) (by kernel_rfl) (by kernel_rfl)

set_option maxRecDepth 100000 in
theorem order_lifted (os : Os) (started : os.Started) (H : Type) (enc : TypeId × Value → H) :
    ReturnsInHanded {} Tryd.checked os 5 .any (fun w args => (Rows.tupleOrderSpec.pre enc Tryd.prog Tryd.f5 [] false w args ∧ laidMetH Tryd.prog Rows.tupleOrderRow.laid w) ∧ sizedMet enc Tryd.prog Tryd.f5 (OpenSpec.ofChange Rows.tupleOrderSpec) false w args)
      (Rows.tupleOrderSpec.post enc Tryd.prog Tryd.f5 false true false false) := by
  refine returnsInHanded_of_change_and (C := Tryd.checked) (X := fun w _ => laidMetH Tryd.prog Rows.tupleOrderRow.laid w) (fun _ _ _ hh h => h.of_heap hh) own started (by kernel_rfl) Tryd.func5
    (ChangeSpec.witness_shaped (enc := enc) (C := Tryd.checked) (os := os) (X := fun w _ => laidMetH Tryd.prog Rows.tupleOrderRow.laid w) false (World.doorLaid Tryd.prog 248 os) #[.agg #[.slice none 0 0, .slice none 0 0]] 8 rfl (World.shaped_of_RefB (by kernel_rfl) (by kernel_rfl)) (by kernel_rfl) (by kernel_rfl) (by kernel_rfl) (order_door os _)) ?_
  intro W base args ds gs before hval0 hW _ hsz0 hL _
  have hval : ∀ (j : Nat) t v, Tryd.f5.params[j]? = some t → args[j]? = some v → Value.okWide Tryd.prog W .any base t v := hval0
  have hsz : (DataW.weightsEach Tryd.prog (Tryd.f5.params.toList ++ Rows.tupleOrderSpec.plain.varTypes Tryd.prog) (ds ++ gs)).all (· ≤ reachBytes) = true := hsz0
  have hW' := hW
  obtain ⟨p, q, hA0, hV, rfl, hfz, hnd⟩ := hW
  have hA : DataW.TrodAll enc Tryd.prog W 0 (fun _ => true) true Tryd.f5.params.toList args.toList ds p := hA0
  rw [Tryd.params5] at hA hval hsz
  obtain ⟨v0, d0, rfl, rfl, h0⟩ := trodAll_one hA
  obtain ⟨rfl, rfl⟩ := trodVars_none hV
  have h0k := h0
  have hlt := hA.lt
  obtain ⟨c0, c1, y0, y1, m, rfl, rfl, hpl, hy0, hy1⟩ := open_agg2 Tryd.underlying39 (by kernel_rfl) (show Tryd.prog.cellsOf 39 = 2 by kernel_rfl) (hval 0 39 v0 rfl rfl) h0
  obtain ⟨a1, l1, q1, e0⟩ := slice_form Tryd.underlying22 hy0
  obtain ⟨a2, l2, q2, e1⟩ := slice_form Tryd.underlying22 hy1
  simp only [List.cons.injEq, and_true] at e0 e1
  subst e0 e1
  have hwts : ∀ z ∈ (DataW.agg [y0.1, y1.1] : DataW H).weights Tryd.prog 39, z ≤ reachBytes := fun z hz => of_decide_eq_true (List.all_eq_true.1 hsz z (by
    simp only [List.cons_append, List.nil_append, DataW.weightsEach, List.mem_append]
    exact .inl hz))
  simp only [DataW.weights, Tryd.underlying39, List.map_cons, List.map_nil, DataW.weightsEach, List.append_nil, List.mem_append] at hwts
  obtain ⟨la, hla⟩ := open_its m _ _ hy0 (fun z hz => hwts z (.inl hz))
  obtain ⟨lb, hlb⟩ := open_its m _ _ hy1 (fun z hz => hwts z (.inr hz))
  clear hA0 hval0 hsz0
  simp only [List.append_nil] at hW'
  obtain ⟨A, hE⟩ := order_errs hL
  refine (orderlaw_any (A 0) (A 1) la lb _ _ W hla hlb hE.pair).mono fun e W' ⟨he, hb⟩ => ?_
  subst he
  refine ⟨_, rfl, _, _, _, _, _, _, hW', trodAll_mk1 (shut_bool Tryd.underlying4 _), trodAll_mk1 (Below.trod laidOut (by kernel_rfl) (of_decide_eq_true (by kernel_rfl)) h0k hb hlt), rfl, hb.frame _, fun h => by cases h⟩

theorem order_holds : Rows.TupleOrderSaid :=
  OpenClaim.holds_of_wide 5 Tryd.f5 rfl rfl rfl rfl rfl rfl rfl ⟨rfl, rfl, rfl, rfl, rfl⟩ rfl rfl rfl rfl rfl (by kernel_rfl) Tryd.func5 (by kernel_rfl)
    (of_decide_eq_true (by kernel_rfl)) (by unfold Func.isWrapper; first | (rw [if_pos (by decide +kernel)]; kernel_rfl) | (rw [if_neg (by decide +kernel)]; exact ⟨rfl, rfl⟩))
    (fun os started H enc _ => order_lifted os started H enc)

theorem order_card_holds : Rows.TupleOrderCardSaid :=
  Claim7.holds_tied_plain_at .later [] [.sentinel, .sentinel] true (true, "af2cee3752a3fb76f97c9647cd17bf9e77d39c01b79f47afa524fe46fa721a0c") true
    order_holds (fun _ h => by cases h) (by kernel_rfl) (fun _ h => by cases h) tupleOrder_row_tie rfl ⟨rfl, rfl⟩ (by kernel_rfl) rfl
    (fun f fn hf hfn => by
      obtain rfl : f = 5 := Option.some.inj ((show Tryd.prog.funcNamed "copse/copselaw2.TupleOrder" = some 5 by kernel_rfl).symm.trans hf) |>.symm
      obtain rfl : fn = Tryd.f5 := (Option.some.inj (Tryd.func5.symm.trans hfn)).symm
      exact ⟨by kernel_rfl, fun j t ht => by
        rw [Tryd.params5] at ht
        have hm : t ∈ [39] := by simpa using Array.mem_of_getElem? ht
        have hall : ([39].all fun u => !Tryd.prog.wantsStandIn u) = true := by kernel_rfl
        exact (show Tryd.prog.wantsStandIn t = false by simpa using List.all_eq_true.1 hall t hm)⟩)
    (by kernel_rfl)
#print axioms order_card_holds

end Go.Proofs.YtgljkgkophaefabDoor
