import Derived.Test.YtoedmapcnalhjaaDoorBackLaw
import Derived.Test.YtoedmapcnalhjaaDoorLaid
import Derived.Test.YtoedmapcnalhjaaDoorTie
import Derived.Test.YtoedmapcnalhjaaDoorCards
import Derived.SevenTiedAt
namespace Go.Proofs.YtoedmapcnalhjaaDoor
open Go.ChangeShapes Go.WideShapes Go.ChangeAt Go.WideMaps Go.WideElems Go.RowKit Go.Joins

theorem back_cells : Tryd.prog.cellsOf 37 = 3 := by kernel_rfl
theorem back_cells35 : Tryd.prog.cellsOf 35 = 2 := by kernel_rfl
theorem back_cells33 : Tryd.prog.cellsOf 33 = 1 := by kernel_rfl
theorem back_cells3 : Tryd.prog.cellsOf 3 = 1 := by kernel_rfl
theorem back_cells9 : Tryd.prog.cellsOf 9 = 1 := by kernel_rfl

theorem back_err {W : World} (h : laidMetH Tryd.prog Rows.codecBackRow.laid W) : ∃ a, W.cell? ⟨1, 0, none⟩ = some (.iface 61 (.pointer (some a))) := by
  rw [MakeChecks.laidMetH_plain _ _ _ (by kernel_rfl)] at h
  obtain ⟨ps, hv, hnd, hrows⟩ := h
  have hg : Tryd.prog.globalNamed "copse/api.ErrArg" = some 1 := by kernel_rfl
  have hty : (Tryd.prog.globals[1]?).map (·.type) = some 39 := by kernel_rfl
  obtain ⟨xs, h1, h2, _⟩ := sents (W := W) [("copse/api.ErrArg", errText Rows.laid_copse_api_ErrArg)] [] 1 ps (fun i x hx => by
    cases i with
    | zero => simp at hx; subst hx; exact ⟨hg, hty⟩
    | succ i => simp at hx) hv hnd hrows
  match xs, h1, h2 with
  | [a], _, h2 => exact ⟨a, (h2 0 a rfl).1⟩

theorem door_met_back (os : Os) (args : Array Value) : laidMetH Tryd.prog Rows.codecBackRow.laid ((World.doorLaid Tryd.prog 261 os).forCall (fun _ _ => 0) ⟨#[], args, []⟩).memory :=
  laidMetH_of_parts3 (fuel := 8) (laidMet_of_run' 8 (by kernel_rfl) (by kernel_rfl)) (by kernel_rfl) (by kernel_rfl)

/-- The argument, written out. -/
theorem back_open {H : Type} {enc : TypeId × Value → H} {W : World} {base b0 : Nat} {sp : Nat → Bool} {held : Bool} {v : Value} {d : DataW H} {p : List MemPlace}
    (hv : Value.okWide Tryd.prog W .any b0 37 v) (h : DataW.Trod enc Tryd.prog W base sp held 37 v d p) :
    ∃ (n i : Int) (s : ByteArray), v = .agg #[.int .u64 n, .int .i64 i, .string s] ∧ d = .agg [.agg [.lit (.int .u64 n), .lit (.int .i64 i)], .lit (.string s.data.toList)] ∧ p = [] ∧ (Lit.int .u64 n).wf = true ∧ (Lit.int .i64 i).wf = true := by
  obtain ⟨cs, rfl, hsz⟩ := okWide_struct Tryd.underlying37 hv
  obtain ⟨c0, c1, c2, rfl⟩ := array3 (hsz.trans back_cells)
  obtain ⟨fuel, hf⟩ := h
  obtain ⟨y0, y1, m, hx, _, h0, h1⟩ := trod_struct2 Tryd.underlying37 hf
  have h0' : DataW.trod enc Tryd.prog W base sp held m 35 [c0, c1] = some y0 := by simpa [Value.cells, back_cells35] using h0
  have h1' : DataW.trod enc Tryd.prog W base sp held m 9 [c2] = some y1 := by simpa [Value.cells, back_cells9] using h1
  obtain ⟨z0, z1, m2, hz, _, g0, g1⟩ := trod_struct2 Tryd.underlying35 h0'
  have g0' : DataW.trod enc Tryd.prog W base sp held m2 33 [c0] = some z0 := by simpa [back_cells33] using g0
  have g1' : DataW.trod enc Tryd.prog W base sp held m2 3 [c1] = some z1 := by simpa [back_cells3] using g1
  obtain ⟨n, e0, rfl, fn⟩ := DataW.trod_int Tryd.underlying33 g0'
  obtain ⟨i, e1, rfl, fi⟩ := DataW.trod_int Tryd.underlying3 g1'
  obtain ⟨s, e2, rfl, fs⟩ := DataW.trod_string Tryd.underlying9 h1'
  simp only [List.cons.injEq, and_true] at e0 e1 e2
  subst e0 e1 e2
  subst hz
  simp only [Prod.mk.injEq] at hx
  exact ⟨n, i, s, rfl, hx.1, by simpa using hx.2, fn, fi⟩

set_option maxRecDepth 100000 in
theorem back_lifted (os : Os) (started : os.Started) (H : Type) (enc : TypeId × Value → H) :
    ReturnsInHanded {} Tryd.checked os 5 .any (fun w args => (Rows.codecBackSpec.pre enc Tryd.prog Tryd.f5 [] false w args ∧ laidMetH Tryd.prog Rows.codecBackRow.laid w) ∧ sizedMet enc Tryd.prog Tryd.f5 (OpenSpec.ofChange Rows.codecBackSpec) false w args)
      (Rows.codecBackSpec.post enc Tryd.prog Tryd.f5 false true false false) := by
  refine returnsInHanded_of_change_and (C := Tryd.checked) (X := fun w _ => laidMetH Tryd.prog Rows.codecBackRow.laid w) (fun _ _ _ hh h => h.of_heap hh) own started (by kernel_rfl) Tryd.func5
    (ChangeSpec.witness_shaped (enc := enc) (C := Tryd.checked) (os := os) (X := fun w _ => laidMetH Tryd.prog Rows.codecBackRow.laid w) false (World.doorLaid Tryd.prog 261 os) #[.agg #[.int .u64 0, .int .i64 0, .string ByteArray.empty]] 8 rfl (World.shaped_of_RefB (by kernel_rfl) (by kernel_rfl)) (by kernel_rfl) (by kernel_rfl) (by kernel_rfl) (door_met_back os _)) ?_
  intro W base args ds gs before hval0 hW _ hsz0 hL _
  have hval : ∀ (j : Nat) t v, Tryd.f5.params[j]? = some t → args[j]? = some v → Value.okWide Tryd.prog W .any base t v := hval0
  have hsz : (DataW.weightsEach Tryd.prog (Tryd.f5.params.toList ++ Rows.codecBackSpec.plain.varTypes Tryd.prog) (ds ++ gs)).all (· ≤ reachBytes) = true := hsz0
  have hW' := hW
  obtain ⟨p, q, hA0, hV, rfl, hfz, hnd⟩ := hW
  have hA : DataW.TrodAll enc Tryd.prog W 0 (fun _ => true) true Tryd.f5.params.toList args.toList ds p := hA0
  rw [Tryd.params5] at hA hval hsz
  obtain ⟨v0, d0, rfl, rfl, h0⟩ := trodAll_one hA
  obtain ⟨rfl, rfl⟩ := trodVars_none hV
  have h0k := h0
  obtain ⟨n, i, s, rfl, rfl, rfl, fn, fi⟩ := back_open (hval 0 37 v0 rfl rfl) h0
  clear hA0 hval0 hsz0
  simp only [List.append_nil] at hW'
  have hall : (DataW.weightsEach Tryd.prog [37] [DataW.agg (H := H) [.agg [.lit (.int .u64 n), .lit (.int .i64 i)], .lit (.string s.data.toList)]]).all (· ≤ reachBytes) = true := hsz
  have zs : s.size ≤ 140737488351232 := of_decide_eq_true (List.all_eq_true.1 hall s.size (by simp [DataW.weightsEach, DataW.weights, Tryd.underlying37, Tryd.underlying35]))
  obtain ⟨n1, n2⟩ := bounds_u64 fn
  obtain ⟨nn, rfl⟩ := Int.eq_ofNat_of_zero_le n1
  obtain ⟨i1, i2⟩ := bounds_i64 fi
  have hlt : ∀ x ∈ ([] : List MemPlace), x.block < W.heap.size := fun x hx => by cases hx
  obtain ⟨a, ha⟩ := back_err hL
  refine (back_any a nn i s W (by omega) i1 i2 zs ha).mono fun e W' ⟨he, hb⟩ => ?_
  subst he
  refine ⟨_, rfl, _, _, _, [], [], [], hW', ?_, ?_, rfl, hb.frame _, fun h => by cases h⟩
  · exact trodAll_mk1 (shut_bool Tryd.underlying4 _)
  · exact trodAll_mk1 (Below.trod laidOut (by kernel_rfl) (of_decide_eq_true (by kernel_rfl)) h0k hb hlt)

theorem back_holds : Rows.CodecBackSaid :=
  OpenClaim.holds_of_wide 5 Tryd.f5 rfl rfl rfl rfl rfl rfl rfl ⟨rfl, rfl, rfl, rfl, rfl⟩ rfl rfl rfl rfl rfl (by kernel_rfl) Tryd.func5 (by kernel_rfl)
    (of_decide_eq_true (by kernel_rfl)) (by unfold Func.isWrapper; first | (rw [if_pos (by decide +kernel)]; kernel_rfl) | (rw [if_neg (by decide +kernel)]; exact ⟨rfl, rfl⟩))
    (fun os started H enc _ => back_lifted os started H enc)

theorem back_card_holds : Rows.CodecBackCardSaid :=
  Claim7.holds_tied_plain_at .later [] _ _ _ _
    back_holds (fun _ h => by cases h) (by kernel_rfl) (fun _ h => by cases h) codecBack_row_tie rfl ⟨rfl, rfl⟩ (by kernel_rfl) rfl
    (fun f fn hf hfn => by
      obtain rfl : f = 5 := Option.some.inj ((show Tryd.prog.funcNamed "copse/copselaw1.CodecBack" = some 5 by kernel_rfl).symm.trans hf) |>.symm
      obtain rfl : fn = Tryd.f5 := (Option.some.inj (Tryd.func5.symm.trans hfn)).symm
      exact ⟨by kernel_rfl, fun j t ht => by
        rw [Tryd.params5] at ht
        have hm : t ∈ [37] := by simpa using Array.mem_of_getElem? ht
        have hall : ([37].all fun u => !Tryd.prog.wantsStandIn u) = true := by kernel_rfl
        exact (show Tryd.prog.wantsStandIn t = false by simpa using List.all_eq_true.1 hall t hm)⟩)
    (by kernel_rfl)
#print axioms back_card_holds

end Go.Proofs.YtoedmapcnalhjaaDoor
