import Derived.Test.YtlopimdnjookeabGreatDoorMPOpen
import Derived.Test.YtlopimdnjookeabGreatDoorTie
import Derived.Test.YtlopimdnjookeabGreatDoorCards
import Derived.SevenTiedAt
import Derived.Deep.DeepHandedRow
import Derived.Deep.DeepWitnessRowRef
namespace Go.Proofs.YtlopimdnjookeabGreatDoor
open Go.ChangeShapes Go.WideShapes Go.ChangeAt Go.WideMaps Go.WideElems Go.RowKit Go.Joins

theorem menv_of {A : Nat → Addr} {W : World} (h : ErrsAt A W) (hT : Tab W) : EnvT W.heap.size A (A 8) W :=
  ⟨⟨(h.1 0 (by decide)).1, (h.1 2 (by decide)).1, (h.1 7 (by decide)).1, ⟨World.block_lt_of_cell? W _ (h.1 0 (by decide)).1, World.block_lt_of_cell? W _ (h.1 2 (by decide)).1, World.block_lt_of_cell? W _ (h.1 7 (by decide)).1⟩, Nat.le_refl _⟩, (h.1 8 (by decide)).1, ⟨World.block_lt_of_cell? W _ (h.1 8 (by decide)).1, hT.2⟩, hT⟩

set_option maxRecDepth 100000 in
theorem mplays_contract (H : Type) (enc : TypeId × Value → H) (W : World) (base : Nat) (args : Array Value) (ds gs : List (DataW H)) (before : List MemPlace)
    (hval : ∀ (j : Nat) t v, Tryz.f3.params[j]? = some t → args[j]? = some v → Value.okWide Tryz.prog W .any base t v)
    (hW : DataW.Whole enc Tryz.prog Tryz.f3.params.toList Rows.metaPlaysSpec.vars false W args.toList ds gs before) (hL : laidMetH Tryz.prog Rows.metaPlaysUptoRow.laid W) (hk : Rows.uptoSmall H (ds ++ gs) = true) :
    Calls Tryz.prog 3 args W fun e W' => ∃ v, e = .returned v ∧ Rows.metaPlaysSpec.post enc Tryz.prog Tryz.f3 false true false false W args v W' := by
  have hW' := hW
  obtain ⟨p, q, hA0, hV, rfl, hfz, hnd⟩ := hW
  have hA : DataW.TrodAll enc Tryz.prog W 0 (fun _ => true) true Tryz.f3.params.toList args.toList ds p := hA0
  rw [Tryz.params3] at hA hval
  obtain ⟨v0, d0, rfl, rfl, h0⟩ := trodAll_one hA
  obtain ⟨rfl, rfl⟩ := trodVars_none hV
  have h0k := h0
  have hlt := hA.lt
  have hbulk := of_decide_eq_true hk
  simp only [List.append_nil, Rows.uptoBulkAll, Nat.add_zero] at hbulk
  obtain ⟨X, sv, steps, rfl, hs, hst⟩ := open_sscript (hval 0 24 v0 rfl rfl) h0 (by omega)
  clear hA0
  simp only [List.append_nil] at hW'
  obtain ⟨A, hE, hTab⟩ := all_of_laid hL
  have hEB := menv_of hE hTab
  refine (mplays_any A X sv steps W hEB hE hs hst).mono fun e W' ⟨he, hb⟩ => ?_
  subst he
  refine ⟨_, rfl, _, _, _, _, _, _, hW', trodAll_mk1 (shut_bool Tryz.underlying4 _), trodAll_mk1 (Below.trod laidOut (by kernel_rfl) (of_decide_eq_true (by kernel_rfl)) h0k hb hlt), rfl, hb.frame _, fun h => by cases h⟩

theorem mplays_reads (os : Os) {H : Type} (enc : TypeId × Value → H) : ∃ places, DataW.whole enc Tryz.prog ((World.doorLaid Tryz.prog 261 os).forCall (fun _ _ => 0) ⟨#[], #[.agg #[.int .i64 0, .slice none 0 0]], []⟩).memory Tryz.f3.params.toList Rows.metaPlaysSpec.vars false #[.agg #[.int .i64 0, .slice none 0 0]].toList 8 = some ([.agg [.lit (.int .i64 0), .nil]], [], places) :=
  ⟨[], by kernel_rfl⟩

theorem mplays_laid (os : Os) : laidMet Tryz.prog Rows.metaPlaysUptoRow.laid ((World.doorLaid Tryz.prog 261 os).forCall (fun _ _ => 0) ⟨#[], #[.agg #[.int .i64 0, .slice none 0 0]], []⟩).memory :=
  laidMet_of_run' 8 (by kernel_rfl) (by kernel_rfl)

set_option maxRecDepth 100000 in
theorem mplays_lifted (os : Os) (started : os.Started) (H : Type) (enc : TypeId × Value → H) (F : Stop.Interp) :
    ReturnsInHanded {} Tryz.checked os 3 .any ((Rows.OpenSpec.upto Rows.metaPlaysSpec).preRow enc Tryz.prog Tryz.f3 Rows.metaPlaysUptoRow.domain false Rows.metaPlaysUptoRow.laid) (((Rows.OpenSpec.upto Rows.metaPlaysSpec).at F).post enc Tryz.prog Tryz.f3 false true false false) := by
  obtain ⟨places, hx⟩ := mplays_reads os enc
  refine returnsInHanded_of_row (C := Tryz.checked) (s := Rows.OpenSpec.upto Rows.metaPlaysSpec) own started (by kernel_rfl) Tryz.func3
    (witness_row_atRef (enc := enc) (C := Tryz.checked) false (World.doorLaid Tryz.prog 261 os) #[.agg #[.int .i64 0, .slice none 0 0]] rfl (by kernel_rfl) (by kernel_rfl) (by kernel_rfl)
      (OpenSpec.preRow_of_cond 8 hx (by kernel_rfl) (fun k hk => by cases hk; kernel_rfl) (by kernel_rfl) (mplays_laid os))) ?_
  intro W base args ds gs before hval hW _ hcond _ hL _ _
  exact mplays_contract H enc W base args ds gs before hval hW hL (hcond _ rfl)

theorem mplays_holds : Rows.MetaPlaysUptoSaid :=
  OpenClaim.holds_of_cond 3 Tryz.f3 rfl rfl rfl rfl rfl rfl rfl ⟨rfl, rfl, rfl, rfl, rfl⟩ rfl rfl rfl rfl rfl (by kernel_rfl) Tryz.func3 (by kernel_rfl)
    (of_decide_eq_true (by kernel_rfl)) (by unfold Func.isWrapper; first | (rw [if_pos (by decide +kernel)]; kernel_rfl) | (rw [if_neg (by decide +kernel)]; exact ⟨rfl, rfl⟩))
    (fun os started H enc _ F => by rw [OpenClaim.pre_eq_preRow]; exact mplays_lifted os started H enc F)

theorem mplays_card_holds : Rows.MetaPlaysUptoCardSaid :=
  Claim7.holds_tied_plain_at .later [] _ _ _ _
    mplays_holds (fun _ h => by cases h) (by kernel_rfl) (fun _ h => by cases h) metaPlaysUpto_row_tie rfl ⟨rfl, rfl⟩ (by kernel_rfl) rfl
    (fun f fn hf hfn => by
      obtain rfl : f = 3 := Option.some.inj ((show Tryz.prog.funcNamed "copse/copselaw5.MetaPlays" = some 3 by kernel_rfl).symm.trans hf) |>.symm
      obtain rfl : fn = Tryz.f3 := (Option.some.inj (Tryz.func3.symm.trans hfn)).symm
      exact ⟨by kernel_rfl, fun j t ht => by
        rw [Tryz.params3] at ht
        have hm : t ∈ [24] := by simpa using Array.mem_of_getElem? ht
        have hall : ([24].all fun u => !Tryz.prog.wantsStandIn u) = true := by kernel_rfl
        exact (show Tryz.prog.wantsStandIn t = false by simpa using List.all_eq_true.1 hall t hm)⟩)
    (by kernel_rfl)
#print axioms mplays_card_holds

end Go.Proofs.YtlopimdnjookeabGreatDoor
