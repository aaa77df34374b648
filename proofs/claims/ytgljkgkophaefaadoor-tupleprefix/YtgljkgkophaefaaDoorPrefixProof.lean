import Derived.Test.YtgljkgkophaefaaDoorPrefixLaw
import Derived.Test.YtgljkgkophaefaaDoorLaid2
import Derived.Test.YtgljkgkophaefaaDoorTie
import Derived.Test.YtgljkgkophaefaaDoorCards
import Derived.SevenTiedAt
namespace Go.Proofs.YtgljkgkophaefaaDoor
open Go.ChangeShapes Go.WideShapes Go.ChangeAt Go.WideMaps Go.WideElems Go.RowKit Go.Joins

def gTwo (i : Nat) : Nat := if i = 0 then 1 else 2
theorem ErrsAt.pair {A : Nat → Addr} {w : World} (h : ErrsAt 2 gTwo A w) : Errs2 (A 0) (A 1) w := ⟨(h.1 0 (by decide)).1, (h.1 1 (by decide)).1⟩
def prefix_errL : List (String × List UInt8) := Rows.tuplePrefixRow.laid.map fun x => (x.1, errText x.2)
theorem prefix_errL_eq : prefix_errL.map mkErr = Rows.tuplePrefixRow.laid := rfl
theorem prefix_errL_len : prefix_errL.length = 2 := rfl
theorem prefix_errL_all : ((List.range 2).all fun i => match prefix_errL[i]? with
    | some x => (Tryd.prog.globalNamed x.1 == some (gTwo i)) && ((Tryd.prog.globals[gTwo i]?).map (·.type) == some 24)
    | none => false) = true := by kernel_rfl
theorem prefix_errL_glob : ∀ i x, prefix_errL[i]? = some x → Tryd.prog.globalNamed x.1 = some (gTwo i) ∧ (Tryd.prog.globals[gTwo i]?).map (·.type) = some 24 := by
  intro i x hx
  have hi : i < 2 := by
    rcases Nat.lt_or_ge i 2 with h | h
    · exact h
    · rw [List.getElem?_eq_none (by rw [prefix_errL_len]; exact h)] at hx; cases hx
  have h := List.all_eq_true.1 prefix_errL_all i (List.mem_range.2 hi)
  rw [hx] at h
  simpa using h
theorem prefix_errs {W : World} (h : laidMetH Tryd.prog Rows.tuplePrefixRow.laid W) : ∃ A, ErrsAt 2 gTwo A W := by
  rw [MakeChecks.laidMetH_plain _ _ _ (by kernel_rfl)] at h
  exact errs_of (rest := []) gTwo prefix_errL_len prefix_errL_glob (by rw [List.append_nil, prefix_errL_eq]; exact h)
theorem prefix_door (os : Os) (args : Array Value) : laidMetH Tryd.prog Rows.tuplePrefixRow.laid ((World.doorLaid Tryd.prog 248 os).forCall (fun _ _ => 0) ⟨#[], args, []⟩).memory :=
  laidMetH_of_parts3 (fuel := 8) (laidMet_of_run' 8 (by kernel_rfl) (by kernel_rfl)) (by kernel_rfl) (by kernel_rfl)

set_option maxRecDepth 100000 in
theorem prefix_lifted (os : Os) (started : os.Started) (H : Type) (enc : TypeId × Value → H) :
    ReturnsInHanded {} Tryd.checked os 6 .any (fun w args => (Rows.tuplePrefixSpec.pre enc Tryd.prog Tryd.f6 [] false w args ∧ laidMetH Tryd.prog Rows.tuplePrefixRow.laid w) ∧ sizedMet enc Tryd.prog Tryd.f6 (OpenSpec.ofChange Rows.tuplePrefixSpec) false w args)
      (Rows.tuplePrefixSpec.post enc Tryd.prog Tryd.f6 false true false false) := by
  refine returnsInHanded_of_change_and (C := Tryd.checked) (X := fun w _ => laidMetH Tryd.prog Rows.tuplePrefixRow.laid w) (fun _ _ _ hh h => h.of_heap hh) own started (by kernel_rfl) Tryd.func6
    (ChangeSpec.witness_shaped (enc := enc) (C := Tryd.checked) (os := os) (X := fun w _ => laidMetH Tryd.prog Rows.tuplePrefixRow.laid w) false (World.doorLaid Tryd.prog 248 os) #[.agg #[.slice none 0 0, .slice none 0 0]] 8 rfl (World.shaped_of_RefB (by kernel_rfl) (by kernel_rfl)) (by kernel_rfl) (by kernel_rfl) (by kernel_rfl) (prefix_door os _)) ?_
  intro W base args ds gs before hval0 hW _ hsz0 hL _
  have hval : ∀ (j : Nat) t v, Tryd.f6.params[j]? = some t → args[j]? = some v → Value.okWide Tryd.prog W .any base t v := hval0
  have hsz : (DataW.weightsEach Tryd.prog (Tryd.f6.params.toList ++ Rows.tuplePrefixSpec.plain.varTypes Tryd.prog) (ds ++ gs)).all (· ≤ reachBytes) = true := hsz0
  have hW' := hW
  obtain ⟨p, q, hA0, hV, rfl, hfz, hnd⟩ := hW
  have hA : DataW.TrodAll enc Tryd.prog W 0 (fun _ => true) true Tryd.f6.params.toList args.toList ds p := hA0
  rw [Tryd.params6] at hA hval hsz
  obtain ⟨v0, d0, rfl, rfl, h0⟩ := trodAll_one hA
  obtain ⟨rfl, rfl⟩ := trodVars_none hV
  have h0k := h0
  have hlt := hA.lt
  obtain ⟨c0, c1, y0, y1, m, rfl, rfl, hpl, hy0, hy1⟩ := open_agg2 Tryd.underlying33 (by kernel_rfl) (show Tryd.prog.cellsOf 33 = 2 by kernel_rfl) (hval 0 33 v0 rfl rfl) h0
  obtain ⟨a1, l1, q1, e0⟩ := slice_form Tryd.underlying22 hy0
  obtain ⟨a2, l2, q2, e1⟩ := slice_form Tryd.underlying22 hy1
  simp only [List.cons.injEq, and_true] at e0 e1
  subst e0 e1
  have hwts : ∀ z ∈ (DataW.agg [y0.1, y1.1] : DataW H).weights Tryd.prog 33, z ≤ reachBytes := fun z hz => of_decide_eq_true (List.all_eq_true.1 hsz z (by
    simp only [List.cons_append, List.nil_append, DataW.weightsEach, List.mem_append]
    exact .inl hz))
  simp only [DataW.weights, Tryd.underlying33, List.map_cons, List.map_nil, DataW.weightsEach, List.append_nil, List.mem_append] at hwts
  obtain ⟨la, hla⟩ := open_its m _ _ hy0 (fun z hz => hwts z (.inl hz))
  obtain ⟨lb, hlb⟩ := open_its m _ _ hy1 (fun z hz => hwts z (.inr hz))
  clear hA0 hval0 hsz0
  simp only [List.append_nil] at hW'
  obtain ⟨A, hE⟩ := prefix_errs hL
  refine (prefixlaw_any (A 0) (A 1) la lb _ _ W hla hlb hE.pair).mono fun e W' ⟨he, hb⟩ => ?_
  subst he
  refine ⟨_, rfl, _, _, _, _, _, _, hW', trodAll_mk1 (shut_bool Tryd.underlying4 _), trodAll_mk1 (Below.trod laidOut (by kernel_rfl) (of_decide_eq_true (by kernel_rfl)) h0k hb hlt), rfl, hb.frame _, fun h => by cases h⟩

theorem prefix_holds : Rows.TuplePrefixSaid :=
  OpenClaim.holds_of_wide 6 Tryd.f6 rfl rfl rfl rfl rfl rfl rfl ⟨rfl, rfl, rfl, rfl, rfl⟩ rfl rfl rfl rfl rfl (by kernel_rfl) Tryd.func6 (by kernel_rfl)
    (of_decide_eq_true (by kernel_rfl)) (by unfold Func.isWrapper; first | (rw [if_pos (by decide +kernel)]; kernel_rfl) | (rw [if_neg (by decide +kernel)]; exact ⟨rfl, rfl⟩))
    (fun os started H enc _ => prefix_lifted os started H enc)

theorem prefix_card_holds : Rows.TuplePrefixCardSaid :=
  Claim7.holds_tied_plain_at .later [] [.sentinel, .sentinel] true (true, "8d0a5feaeef8fc7e4f2878674765fb568e2793fa87cf123ea76755624be3ca33") true
    prefix_holds (fun _ h => by cases h) (by kernel_rfl) (fun _ h => by cases h) tuplePrefix_row_tie rfl ⟨rfl, rfl⟩ (by kernel_rfl) rfl
    (fun f fn hf hfn => by
      obtain rfl : f = 6 := Option.some.inj ((show Tryd.prog.funcNamed "copse/copselaw2.TuplePrefix" = some 6 by kernel_rfl).symm.trans hf) |>.symm
      obtain rfl : fn = Tryd.f6 := (Option.some.inj (Tryd.func6.symm.trans hfn)).symm
      exact ⟨by kernel_rfl, fun j t ht => by
        rw [Tryd.params6] at ht
        have hm : t ∈ [33] := by simpa using Array.mem_of_getElem? ht
        have hall : ([33].all fun u => !Tryd.prog.wantsStandIn u) = true := by kernel_rfl
        exact (show Tryd.prog.wantsStandIn t = false by simpa using List.all_eq_true.1 hall t hm)⟩)
    (by kernel_rfl)
#print axioms prefix_card_holds

end Go.Proofs.YtgljkgkophaefaaDoor
