import Derived.Test.YtoedmapcnalhjabDoorNamesLaw
import Derived.Test.YtoedmapcnalhjabDoorLaid
import Derived.Test.YtoedmapcnalhjabDoorTie
import Derived.Test.YtoedmapcnalhjabDoorCards
import Derived.SevenTiedAt
import Derived.Stop.LaidErr
namespace Go.Proofs.YtoedmapcnalhjabDoor
open Go.ChangeShapes Go.WideShapes Go.ChangeAt Go.WideMaps Go.WideElems Go.RowKit Go.Joins

def errLn : List (String × List UInt8) := (Rows.namesRow.laid.take 13).map fun x => (x.1, errText x.2)
theorem errLn_eq : errLn.map mkErr ++ Rows.namesRow.laid.drop 13 = Rows.namesRow.laid := rfl
theorem errLn_len : errLn.length = 13 := rfl
theorem errLn_all : ((List.range 13).all fun i => match errLn[i]? with
    | some x => (Tryd.prog.globalNamed x.1 == some (5 + i)) && ((Tryd.prog.globals[5 + i]?).map (·.type) == some 33)
    | none => false) = true := by kernel_rfl
theorem errLn_glob : ∀ i x, errLn[i]? = some x → Tryd.prog.globalNamed x.1 = some (5 + i) ∧ (Tryd.prog.globals[5 + i]?).map (·.type) = some 33 := by
  intro i x hx
  have hi : i < 13 := by
    rcases Nat.lt_or_ge i 13 with h | h
    · exact h
    · rw [List.getElem?_eq_none (by rw [errLn_len]; exact h)] at hx; cases hx
  have h := List.all_eq_true.1 errLn_all i (List.mem_range.2 hi)
  rw [hx] at h
  simpa using h

def intsOf : DataW Unit → List Int
  | .agg parts => parts.map fun
    | .lit (.int _ n) => n
    | _ => 0
  | _ => []
def limL : List Int := intsOf Rows.laid_copse_copselaw0_limits
def kinL : List Int := intsOf Rows.laid_copse_copselaw0_kinds
theorem lim1 : (Rows.laid_copse_copselaw0_limits : DataW Unit) = Lib.tabData .i64 limL := rfl
theorem lim2 : (Rows.laid_copse_copselaw0_wanted : DataW Unit) = Lib.tabData .i64 limL := rfl
theorem kin1 : (Rows.laid_copse_copselaw0_kinds : DataW Unit) = Lib.tabData .i64 kinL := rfl
theorem kin2 : (Rows.laid_copse_copselaw0_numbers : DataW Unit) = Lib.tabData .i64 kinL := rfl
theorem limN : limL.length = 27 := rfl
theorem kinN : kinL.length = 45 := rfl

theorem row_of {W : World} {name : String} {g n : Nat} {zs : List Int} (hg : Tryd.prog.globalNamed name = some g) (h : Lib.TabIs Tryd.prog W name .i64 zs) (hn : zs.length = n) : ∀ k, k < n → W.cell? ⟨g, k, none⟩ = some (.int .i64 (zs.getD k 0)) := by
  intro k hk
  have h1 := World.var?_cell hg h k
  rw [h1]
  have hk2 : k < zs.length := by omega
  simp [List.getD, hk2]

theorem c3 : Tryd.prog.cellsOf 3 = 1 := by kernel_rfl
theorem c41 : Tryd.prog.cellsOf 41 = 27 := by kernel_rfl
theorem c42 : Tryd.prog.cellsOf 42 = 45 := by kernel_rfl

theorem all_of_laid {W : World} (h : laidMetH Tryd.prog Rows.namesRow.laid W) : (∃ A, ErrsAt A W) ∧ TwoRows 0 1 27 (fun k => limL.getD k 0) W ∧ TwoRows 2 3 45 (fun k => kinL.getD k 0) W := by
  rw [MakeChecks.laidMetH_plain _ _ _ (by kernel_rfl)] at h
  have hE := errs_of (rest := Rows.namesRow.laid.drop 13) errLn_len errLn_glob (by rw [errLn_eq]; exact h)
  have h13 : laidMet Tryd.prog [("copse/copselaw0.limits", Rows.laid_copse_copselaw0_limits), ("copse/copselaw0.wanted", Rows.laid_copse_copselaw0_wanted), ("copse/copselaw0.kinds", Rows.laid_copse_copselaw0_kinds), ("copse/copselaw0.numbers", Rows.laid_copse_copselaw0_numbers)] W :=
    h.tail.tail.tail.tail.tail.tail.tail.tail.tail.tail.tail.tail.tail
  rw [lim1, lim2, kin1, kin2] at h13
  have g0 : Tryd.prog.globalNamed "copse/copselaw0.limits" = some 0 := by kernel_rfl
  have g1 : Tryd.prog.globalNamed "copse/copselaw0.wanted" = some 1 := by kernel_rfl
  have g2 : Tryd.prog.globalNamed "copse/copselaw0.kinds" = some 2 := by kernel_rfl
  have g3 : Tryd.prog.globalNamed "copse/copselaw0.numbers" = some 3 := by kernel_rfl
  have r0 := row_of g0 (Lib.tabIs_of_head g0 (by kernel_rfl) Tryd.underlying41 Tryd.underlying3 c3 c41 h13) limN
  have r1 := row_of g1 (Lib.tabIs_of_head g1 (by kernel_rfl) Tryd.underlying41 Tryd.underlying3 c3 c41 h13.tail) limN
  have r2 := row_of g2 (Lib.tabIs_of_head g2 (by kernel_rfl) Tryd.underlying42 Tryd.underlying3 c3 c42 h13.tail.tail) kinN
  have r3 := row_of g3 (Lib.tabIs_of_head g3 (by kernel_rfl) Tryd.underlying42 Tryd.underlying3 c3 c42 h13.tail.tail.tail) kinN
  exact ⟨hE, fun k hk => ⟨r0 k hk, r1 k hk⟩, fun k hk => ⟨r2 k hk, r3 k hk⟩⟩

theorem door_met_names (os : Os) (args : Array Value) : laidMetH Tryd.prog Rows.namesRow.laid ((World.doorLaid Tryd.prog 281 os).forCall (fun _ _ => 0) ⟨#[], args, []⟩).memory :=
  laidMetH_of_parts3 (fuel := 8) (laidMet_of_run' 8 (by kernel_rfl) (by kernel_rfl)) (by kernel_rfl) (by kernel_rfl)

set_option maxRecDepth 100000 in
theorem names_lifted (os : Os) (started : os.Started) (H : Type) (enc : TypeId × Value → H) :
    ReturnsInHanded {} Tryd.checked os 5 .any (fun w args => (Rows.namesSpec.pre enc Tryd.prog Tryd.f5 [] false w args ∧ laidMetH Tryd.prog Rows.namesRow.laid w) ∧ sizedMet enc Tryd.prog Tryd.f5 (OpenSpec.ofChange Rows.namesSpec) false w args)
      (Rows.namesSpec.post enc Tryd.prog Tryd.f5 false true false false) := by
  refine returnsInHanded_of_change_and (C := Tryd.checked) (X := fun w _ => laidMetH Tryd.prog Rows.namesRow.laid w) (fun _ _ _ hh h => h.of_heap hh) own started (by kernel_rfl) Tryd.func5
    (ChangeSpec.witness_shaped (enc := enc) (C := Tryd.checked) (os := os) (X := fun w _ => laidMetH Tryd.prog Rows.namesRow.laid w) false (World.doorLaid Tryd.prog 281 os) #[] 8 rfl (World.shaped_of_RefB (by kernel_rfl) (by kernel_rfl)) (by kernel_rfl) (by kernel_rfl) (by kernel_rfl) (door_met_names os _)) ?_
  intro W base args ds gs before hval0 hW _ _ hL _
  have hW' := hW
  obtain ⟨p, q, hA0, hV, rfl, hfz, hnd⟩ := hW
  have hA : DataW.TrodAll enc Tryd.prog W 0 (fun _ => true) true Tryd.f5.params.toList args.toList ds p := hA0
  rw [Tryd.params5] at hA
  obtain ⟨rfl, rfl, rfl⟩ := trodAll_none hA
  obtain ⟨rfl, rfl⟩ := trodVars_none hV
  clear hA0 hval0
  simp only [List.append_nil] at hW'
  obtain ⟨⟨A, hE⟩, t1, t2⟩ := all_of_laid hL
  have h4 : 4 < W.heap.size := by
    have := World.block_lt_of_cell? W _ (hE.1 0 (by decide)).1
    simp only at this
    omega
  refine (names_any A _ _ W hE h4 t1 t2).mono fun e W' ⟨he, hb⟩ => ?_
  subst he
  refine ⟨_, rfl, _, _, _, [], [], [], hW', ?_, rfl, rfl, hb.frame _, fun h => by cases h⟩
  exact trodAll_mk1 (shut_bool Tryd.underlying4 _)

theorem names_holds : Rows.NamesSaid :=
  OpenClaim.holds_of_wide 5 Tryd.f5 rfl rfl rfl rfl rfl rfl rfl ⟨rfl, rfl, rfl, rfl, rfl⟩ rfl rfl rfl rfl rfl (by kernel_rfl) Tryd.func5 (by kernel_rfl)
    (of_decide_eq_true (by kernel_rfl)) (by unfold Func.isWrapper; first | (rw [if_pos (by decide +kernel)]; kernel_rfl) | (rw [if_neg (by decide +kernel)]; exact ⟨rfl, rfl⟩))
    (fun os started H enc _ => names_lifted os started H enc)

theorem names_card_holds : Rows.NamesCardSaid :=
  Claim7.holds_tied_plain_at .later [] [.sentinel, .sentinel, .sentinel, .sentinel, .sentinel, .sentinel, .sentinel, .sentinel, .sentinel, .sentinel, .sentinel, .sentinel, .sentinel, .data, .data, .data, .data] true (true, "fd7dc0d641e273b197f5e78fd06d526c4f012edd6f7fca4e34d54e493f38a0ce") true
    names_holds (fun _ h => by cases h) (by kernel_rfl) (fun _ h => by cases h) names_row_tie rfl ⟨rfl, rfl⟩ (by kernel_rfl) rfl
    (fun f fn hf hfn => by
      obtain rfl : f = 5 := Option.some.inj ((show Tryd.prog.funcNamed "copse/copselaw0.Names" = some 5 by kernel_rfl).symm.trans hf) |>.symm
      obtain rfl : fn = Tryd.f5 := (Option.some.inj (Tryd.func5.symm.trans hfn)).symm
      exact ⟨by kernel_rfl, fun j t ht => by
        rw [Tryd.params5] at ht
        simp at ht⟩)
    (by kernel_rfl)
#print axioms names_card_holds

end Go.Proofs.YtoedmapcnalhjabDoor
