import Derived.Test.YtnggkkfncaidnaaGreatDoorPBa5
import Derived.Test.YtnggkkfncaidnaaGreatDoorErrsG
import Derived.ProofKit
import Derived.LaidMore
import Derived.LaidSub
import Derived.Lay
import Derived.OpenShut
import Derived.Stop.Joined
import Derived.Lib.SmallJoins
import Derived.SizedLaws
import Derived.Test.YtnggkkfncaidnaaGreatDoorGRN
import Derived.Lib.LaidTab
import Derived.HandedShaped
import Derived.Shelf.Vars
import Derived.Handed
import Derived.Test.YtnggkkfncaidnaaGreatDoorOwn
import Derived.Deep.Slices
import Derived.Test.YtnggkkfncaidnaaGreatDoorGRF
import Derived.Lib.ItoaLen
import Derived.Shelf.Strconv.Itoa3
import Derived.Test.YtnggkkfncaidnaaGreatDoorTie
import Derived.Test.YtnggkkfncaidnaaGreatDoorCards
import Derived.SevenTiedAt
import Derived.Deep.DeepHandedRow
import Derived.Deep.DeepWitnessRowRef
namespace Go.Proofs.YtnggkkfncaidnaaGreatDoor
open Go.RowKit

/-! The law QueryBack. -/
set_option maxHeartbeats 8000000 in
set_option maxRecDepth 100000 in
theorem lback_any (A : Nat → Addr) (q : Qd) (cv : Value) (w : World) (hc : CsAt w anyB cv q.cs) (ht : q.table.size ≤ 140737488355328) (ho : q.order.size ≤ 140737488355328) (hm2 : q.limit ≤ 9223372036854775807) (hv : LEnv A w) :
    Calls Tryz.prog 4 #[.agg (qV q cv)] w fun e w' => e = .returned (.bool true) ∧ Below w.heap.size w w' := by
  obtain ⟨ca, cc, hcv⟩ := hc.form
  subst hcv
  have HTI := hide (fun W (hW : Below w.heap.size w W) => tidy_any q (.slice ca q.cs.length cc) W (hc.keep hW) ht ho hm2)
  have HV := hide hv
  obtain ⟨qt, qc, qo, qf, ql⟩ := q
  simp only [qV] at HTI ⊢
  have q0 := below_new w (.cells #[.string qt, .slice ca qc.length cc, .string qo, .bool qf, .int .i64 ql] 24)
  have x0 := RowAt.new w #[.string qt, .slice ca qc.length cc, .string qo, .bool qf, .int .i64 ql] 24
  obtain ⟨b0, b1, b2, b3, b4⟩ := x0.q5
  obtain ⟨W0, hW0⟩ : ∃ W0, w.alloc (.cells #[.string qt, .slice ca qc.length cc, .string qo, .bool qf, .int .i64 ql] 24) = W0 := ⟨_, rfl⟩
  have HW := hide hW0
  rw [hW0] at q0
  have HT0 := hide (HTI.out W0 q0)
  have HB0 := hide q0
  clear hc ht ho hm2 hv q0 x0 hW0 HTI
  go_enter Tryz.func4, Tryz.ntmps4
  go_wp2_with fail
  rw [HW.out]
  refine HT0.out.mono ?_
  rintro e W1 ⟨p, la, k, rfl, hty, hCS, hb1⟩
  have hnums : QNums p := ⟨hCS.nums, hty.m2⟩
  have hpr := hty.print hnums
  have HPB := hide (print_back p hpr.1 hnums)
  have HPS := hide hpr.2
  have y1 := RowAt.new W1 #[.string ⟨#[]⟩, .slice none 0 0, .string ⟨#[]⟩, .bool false, .int .i64 0] 24
  have HST := hide (store_q _ W1.heap.size _ _ _ _ _ p la p.cs.length k y1)
  obtain ⟨V, hV⟩ : ∃ V, (W1.alloc (.cells #[.string ⟨#[]⟩, .slice none 0 0, .string ⟨#[]⟩, .bool false, .int .i64 0] 24)).setRow W1.heap.size (qV p (.slice la p.cs.length k)) = V := ⟨_, rfl⟩
  have hB : Below W1.heap.size W1 V := by rw [← hV]; exact below_setRow (below_new W1 _) (Nat.le_refl _) _
  have yV : RowAt V W1.heap.size (qV p (.slice la p.cs.length k)) 24 := by rw [← hV]; exact row_set _ _ _ _ _ y1
  rw [hV] at HST
  have HBV := hide (Below.next (Below.next HB0.out hb1) hB)
  have HVV := hide (HV.out.keep HBV.out)
  have HCV := hide (hCS.keep hB).any
  have HYV := hide yV
  have hos : p.order.size ≤ 140737488355328 := by
    rcases hty.o with h | h
    · rw [h]; show 0 ≤ _; omega
    · have := nm_size h; omega
  have HPR := hide (pprint_any A p (.slice la p.cs.length k) V HCV.out HVV.out.errs hty.cnt (by have := nm_size hty.t; omega) hos hty.m2 HVV.out.pow)
  rw [hpr.1] at HPR
  have HPA := hide (fun W (hW : Below V.heap.size V W) => pparse_any A (printT p) W (HVV.out.keep hW).errs (HVV.out.keep hW).tok (by have := hpr.2; omega))
  have HSM := hide (fun W va vb h1 h2 => sameQ_same p va vb W h1 h2)
  have HFI := hide (fun W (hW : Below V.heap.size V W) => first_any A W (HVV.out.keep hW))
  rw [HPB.out] at HPA
  generalize printT p = pt at *
  obtain ⟨pt0', pc, po, pf, pl⟩ := p
  simp only [qV] at HST HYV HPR HSM
  obtain ⟨d0, d1, d2, d3, d4⟩ := HYV.out.q5
  clear HT0 hty hCS hb1 hnums hpr hos y1 hV hB yV b0 b1 b2 b3 b4
  go_wp2_with (first
    | (refine wpList_store_eq rfl 24 _ _ rfl _ _ rfl rfl HST.out ?_))
  refine HPR.out.mono ?_
  rintro e W2 ⟨rfl, hb2⟩
  have HB2 := hide hb2
  have HPA2 := hide (HPA.out W2 hb2)
  have e0 : errQ A 0 = .nilIface := rfl
  rw [e0]
  clear HPR HST hb2 HPA d0 d1 d2 d3 d4 e0
  go_wp2_with fail
  refine HPA2.out.mono ?_
  rintro e W4 ⟨⟨la4, k4, rfl, hC4⟩, hb4⟩
  have y4 := RowAt.new W4 #[.string ⟨#[]⟩, .slice none 0 0, .string ⟨#[]⟩, .bool false, .int .i64 0] 24
  have HST4 := hide (store_q _ W4.heap.size _ _ _ _ _ ⟨pt0', pc, po, pf, pl⟩ la4 pc.length k4 y4)
  obtain ⟨V4, hV4⟩ : ∃ V4, (W4.alloc (.cells #[.string ⟨#[]⟩, .slice none 0 0, .string ⟨#[]⟩, .bool false, .int .i64 0] 24)).setRow W4.heap.size (qV ⟨pt0', pc, po, pf, pl⟩ (.slice la4 pc.length k4)) = V4 := ⟨_, rfl⟩
  have hB4 : Below W4.heap.size W4 V4 := by rw [← hV4]; exact below_setRow (below_new W4 _) (Nat.le_refl _) _
  have yV4 : RowAt V4 W4.heap.size (qV ⟨pt0', pc, po, pf, pl⟩ (.slice la4 pc.length k4)) 24 := by rw [← hV4]; exact row_set _ _ _ _ _ y4
  rw [hV4] at HST4
  have hb24 := Below.next (Below.next HB2.out hb4) hB4
  have HSM4 := hide (HSM.out V4 (.slice la pc.length k) (.slice la4 pc.length k4) (HCV.out.keep hb24) (hC4.keep hB4).any)
  have HB24 := hide hb24
  obtain ⟨d0, d1, d2, d3, d4⟩ := (HYV.out.below hb24).q5
  obtain ⟨f0, f1, f2, f3, f4⟩ := yV4.q5
  simp only [qV] at HST4 f0 f1 f2 f3 f4
  clear HPA2 hC4 hb4 y4 hV4 hB4 yV4 hb24 HSM HB2
  go_wp2_with (first
    | (refine wpList_store_eq rfl 24 _ _ rfl _ _ rfl rfl HST4.out ?_))
  refine HSM4.out.mono ?_
  rintro e W5 ⟨rfl, hb5⟩
  have HB5 := hide (Below.next HB24.out hb5)
  have HFI5 := hide (HFI.out W5 HB5.out)
  clear HSM4 hb5 HST4 d0 d1 d2 d3 d4 f0 f1 f2 f3 f4
  go_wp2_with fail
  refine HFI5.out.mono ?_
  rintro e W6 ⟨rfl, hb6⟩
  have HE6 := hide (Below.next (Below.next HBV.out HB5.out) hb6)
  clear HFI5 hb6
  go_wp2_with fail
  go_ret
  exact ⟨rfl, HE6.out⟩
end Go.Proofs.YtnggkkfncaidnaaGreatDoor

namespace Go.Proofs.YtnggkkfncaidnaaGreatDoor
open Go.ChangeShapes Go.WideShapes Go.ChangeAt Go.WideMaps Go.WideElems Go.RowKit Go.Joins

theorem own : ownKnob Tryz.prog.godebug = none := by kernel_rfl
theorem laidOut : laidOutB Tryz.prog = true := by kernel_rfl
def err13L : List (String × List UInt8) := [("copse/api.ErrArg", errText Rows.laid_copse_api_ErrArg), ("copse/api.ErrText", errText Rows.laid_copse_api_ErrText), ("copse/api.ErrMany", errText Rows.laid_copse_api_ErrMany), ("copse/api.ErrShort", errText Rows.laid_copse_api_ErrShort), ("copse/api.ErrTwice", errText Rows.laid_copse_api_ErrTwice), ("copse/api.ErrLost", errText Rows.laid_copse_api_ErrLost), ("copse/api.ErrFull", errText Rows.laid_copse_api_ErrFull), ("copse/api.ErrDead", errText Rows.laid_copse_api_ErrDead), ("copse/api.ErrCorrupt", errText Rows.laid_copse_api_ErrCorrupt), ("copse/api.ErrStatus", errText Rows.laid_copse_api_ErrStatus), ("copse/api.ErrTxid", errText Rows.laid_copse_api_ErrTxid), ("copse/api.ErrOrder", errText Rows.laid_copse_api_ErrOrder), ("copse/api.ErrKind", errText Rows.laid_copse_api_ErrKind)]
theorem err13L_eq : err13L.map mkErr ++ [] = [("copse/api.ErrArg", Rows.laid_copse_api_ErrArg), ("copse/api.ErrText", Rows.laid_copse_api_ErrText), ("copse/api.ErrMany", Rows.laid_copse_api_ErrMany), ("copse/api.ErrShort", Rows.laid_copse_api_ErrShort), ("copse/api.ErrTwice", Rows.laid_copse_api_ErrTwice), ("copse/api.ErrLost", Rows.laid_copse_api_ErrLost), ("copse/api.ErrFull", Rows.laid_copse_api_ErrFull), ("copse/api.ErrDead", Rows.laid_copse_api_ErrDead), ("copse/api.ErrCorrupt", Rows.laid_copse_api_ErrCorrupt), ("copse/api.ErrStatus", Rows.laid_copse_api_ErrStatus), ("copse/api.ErrTxid", Rows.laid_copse_api_ErrTxid), ("copse/api.ErrOrder", Rows.laid_copse_api_ErrOrder), ("copse/api.ErrKind", Rows.laid_copse_api_ErrKind)] := rfl
theorem err13L_all : ((List.range 13).all fun i => match err13L[i]? with
    | some x => (Tryz.prog.globalNamed x.1 == some (gAll i)) && ((Tryz.prog.globals[gAll i]?).map (·.type) == some 26)
    | none => false) = true := by kernel_rfl
theorem err13L_glob : ∀ i x, err13L[i]? = some x → Tryz.prog.globalNamed x.1 = some (gAll i) ∧ (Tryz.prog.globals[gAll i]?).map (·.type) = some 26 := by
  intro i x hx
  have hi : i < 13 := by
    rcases Nat.lt_or_ge i 13 with h | h
    · exact h
    · rw [List.getElem?_eq_none (by exact h)] at hx; cases hx
  have h := List.all_eq_true.1 err13L_all i (List.mem_range.2 hi)
  rw [hx] at h
  simpa using h
def isErr13 (x : String × DataW Unit) : Bool := x.1 == "copse/api.ErrArg" || x.1 == "copse/api.ErrText" || x.1 == "copse/api.ErrMany" || x.1 == "copse/api.ErrShort" || x.1 == "copse/api.ErrTwice" || x.1 == "copse/api.ErrLost" || x.1 == "copse/api.ErrFull" || x.1 == "copse/api.ErrDead" || x.1 == "copse/api.ErrCorrupt" || x.1 == "copse/api.ErrStatus" || x.1 == "copse/api.ErrTxid" || x.1 == "copse/api.ErrOrder" || x.1 == "copse/api.ErrKind"
set_option maxRecDepth 100000 in
theorem err13_of_laid {W : World} (h : laidMet Tryz.prog [("copse/api.ErrArg", Rows.laid_copse_api_ErrArg), ("copse/api.ErrText", Rows.laid_copse_api_ErrText), ("copse/api.ErrMany", Rows.laid_copse_api_ErrMany), ("copse/api.ErrShort", Rows.laid_copse_api_ErrShort), ("copse/api.ErrTwice", Rows.laid_copse_api_ErrTwice), ("copse/api.ErrLost", Rows.laid_copse_api_ErrLost), ("copse/api.ErrFull", Rows.laid_copse_api_ErrFull), ("copse/api.ErrDead", Rows.laid_copse_api_ErrDead), ("copse/api.ErrCorrupt", Rows.laid_copse_api_ErrCorrupt), ("copse/api.ErrStatus", Rows.laid_copse_api_ErrStatus), ("copse/api.ErrTxid", Rows.laid_copse_api_ErrTxid), ("copse/api.ErrOrder", Rows.laid_copse_api_ErrOrder), ("copse/api.ErrKind", Rows.laid_copse_api_ErrKind)] W) : ∃ A, ErrsAt 13 gAll A W := by
  exact errs_of (rest := []) gAll (show err13L.length = 13 from rfl) err13L_glob (by rw [err13L_eq]; exact h)

end Go.Proofs.YtnggkkfncaidnaaGreatDoor

namespace Go.Proofs.YtnggkkfncaidnaaGreatDoor
open Go.ChangeShapes Go.WideShapes Go.ChangeAt Go.WideMaps Go.WideElems Go.RowKit Go.Joins

theorem gPowR : Tryz.prog.globalNamed "internal/strconv.uint64pow10" = some 13 := by kernel_rfl
theorem tPowR : (Tryz.prog.globals[(13 : Nat)]?).map (·.type) = some 140 := by kernel_rfl
theorem cellsU64R : Tryz.prog.cellsOf 109 = 1 := by kernel_rfl
theorem cellsPowR : Tryz.prog.cellsOf 140 = 20 := by kernel_rfl
def isPowR (x : String × DataW Unit) : Bool := x.1 == "internal/strconv.uint64pow10"
set_option maxRecDepth 100000 in
theorem powR_of_laid {W : World} (h : laidMet Tryz.prog [("internal/strconv.uint64pow10", Rows.laid_internal_strconv_uint64pow10)] W) : Lib.TabIs Tryz.prog W "internal/strconv.uint64pow10" .u64 Lib.pow10Tab := by
  have e : (Rows.laid_internal_strconv_uint64pow10 : DataW Unit) = Lib.tabData .u64 Lib.pow10Tab := by rfl
  rw [e] at h
  exact Lib.tabIs_of_head gPowR tPowR Tryz.underlying140 Tryz.underlying109 cellsU64R cellsPowR h
theorem below_growR (W : World) (k : Nat) (os : Array Obj) : Below W.heap.size W (Sort.grow (W.drewN k) os) := by
  refine ⟨rfl, rfl, rfl, ?_, fun j hj => ?_⟩
  · show W.heap.size ≤ (W.heap ++ os).size
    simp
  · show (W.heap ++ os)[j]? = W.heap[j]?
    exact Array.getElem?_append_left hj
theorem itoR_of {w : World} (hp : Lib.TabIs Tryz.prog w "internal/strconv.uint64pow10" .u64 Lib.pow10Tab) : ItoAt w := fun W n hW h1 h2 => by
  refine (Any.strconv_Itoa Tryz.lays171 n h1 h2 W (Lib.tabBelow_of_tabIs hp W hW)).mono ?_
  rintro e w' ⟨rfl, k, os, rfl⟩
  exact ⟨rfl, below_growR W k os⟩
/-! strconv's two refusals. -/
def gTwoS (i : Nat) : Nat := ([18, 17] : List Nat).getD i 0
def err2L : List (String × List UInt8) := [("strconv.ErrRange", errText Rows.laid_strconv_ErrRange), ("strconv.ErrSyntax", errText Rows.laid_strconv_ErrSyntax)]
theorem err2L_eq : err2L.map mkErr ++ [] = [("strconv.ErrRange", Rows.laid_strconv_ErrRange), ("strconv.ErrSyntax", Rows.laid_strconv_ErrSyntax)] := rfl
theorem err2L_all : ((List.range 2).all fun i => match err2L[i]? with
    | some x => (Tryz.prog.globalNamed x.1 == some (gTwoS i)) && ((Tryz.prog.globals[gTwoS i]?).map (·.type) == some 26)
    | none => false) = true := by kernel_rfl
theorem err2L_glob : ∀ i x, err2L[i]? = some x → Tryz.prog.globalNamed x.1 = some (gTwoS i) ∧ (Tryz.prog.globals[gTwoS i]?).map (·.type) = some 26 := by
  intro i x hx
  have hi : i < 2 := by
    rcases Nat.lt_or_ge i 2 with h | h
    · exact h
    · rw [List.getElem?_eq_none (by exact h)] at hx; cases hx
  have h := List.all_eq_true.1 err2L_all i (List.mem_range.2 hi)
  rw [hx] at h
  simpa using h
def isErr2S (x : String × DataW Unit) : Bool := x.1 == "strconv.ErrRange" || x.1 == "strconv.ErrSyntax"
set_option maxRecDepth 100000 in
theorem synAt_of_laid {W : World} (h : laidMet Tryz.prog [("strconv.ErrRange", Rows.laid_strconv_ErrRange), ("strconv.ErrSyntax", Rows.laid_strconv_ErrSyntax)] W) : SynAt W := by
  obtain ⟨A, hA⟩ := errs_of (rest := []) gTwoS (show err2L.length = 2 from rfl) err2L_glob (by rw [err2L_eq]; exact h)
  exact ⟨⟨_, _, (hA.1 1 (by decide)).1⟩, ⟨_, _, (hA.1 0 (by decide)).1⟩⟩
/-! internal/bytealg.MaxLen holds an int. -/
theorem max_of {W : World} (h : W.ShapedOpen Tryz.prog) : ∃ m : Int, W.cell? ⟨14, 0, none⟩ = some (.int .i64 m) :=
  cell_of_shapedOpen_int (g := 14) (t := 3) (zero := #[.int .i64 0]) (k := .i64) h (of_decide_eq_true (by kernel_rfl)) (by kernel_rfl) (by kernel_rfl) (by kernel_rfl) (by kernel_rfl) Tryz.underlying3
/-- The wrap of a row with laid variables, the world's shape kept. -/
theorem wrap_shaped {H : Type} {enc : TypeId × Value → H} {a : Assume} {C : Checked} {os : Os} {f : FuncId} {fn : Func} {s : ChangeSpec} {conds : List PathCond} {apart fresh handsOn again : Bool} {X : World → Array Value → Prop}
    (hX : ∀ (w w' : World) (args : Array Value), w.heap = w'.heap → X w args → X w' args)
    (own : ownKnob C.prog.godebug = none) (started : os.Started) (noInit : C.prog.inits.idxOf? f = none) (hfn : C.prog.funcs[f]? = some fn)
    (witness : ∃ (w : World) (tape : Tape) (i : Input), w.os = os ∧ (w.forCall tape i).Shaped C.prog ∧ i.vars = [] ∧ Input.okWide C.prog (w.forCall tape i) .any w.heap.size f i ∧
      ((s.pre enc C.prog fn conds apart (w.forCall tape i).memory i.args ∧ X (w.forCall tape i).memory i.args) ∧ sizedMet enc C.prog fn (OpenSpec.ofChange s) apart (w.forCall tape i).memory i.args) ∧ a.holds C.prog (lone (Frame.enter C.prog f i.args .normal) [] (w.forCall tape i)))
    (contract : ∀ (W : World) (base : Nat) (args : Array Value) (ds gs : List (DataW H)) (before : List MemPlace),
      (∀ (j : Nat) t v, fn.params[j]? = some t → args[j]? = some v → Value.okWide C.prog W .any base t v) →
      DataW.Whole enc C.prog fn.params.toList s.vars apart W args.toList ds gs before →
      (DataW.weightsEach C.prog (fn.params.toList ++ s.plain.varTypes C.prog) (ds ++ gs)).all (· ≤ reachBytes) = true → X W args → W.ShapedOpen C.prog →
      Calls C.prog f args W fun e W' => ∃ v, e = .returned v ∧ s.post enc C.prog fn apart fresh handsOn again W args v W') :
    ReturnsInHanded a C os f .any (fun w args => (s.pre enc C.prog fn conds apart w args ∧ X w args) ∧ sizedMet enc C.prog fn (OpenSpec.ofChange s) apart w args) (s.post enc C.prog fn apart fresh handsOn again) := by
  refine returnsInHanded_of_calls own started noInit witness ?_
  intro w tape i _ hsh _ hok hpre _
  obtain ⟨_, _, _, fn', hfn', _, _, _, _, hval⟩ := hok
  obtain rfl : fn' = fn := Option.some.inj (hfn'.symm.trans hfn)
  obtain ⟨⟨⟨ds, gs, before, hw, _⟩, hx⟩, hz⟩ := hpre
  have hw' := DataW.Whole.of_heap (w' := w.forCall tape i) (by rfl) hw
  refine (contract (w.forCall tape i) w.heap.size i.args ds gs before hval hw' (hz.weights hw) (hX _ _ _ (by rfl) hx) hsh).mono fun e W' ⟨v, he, hp⟩ => ?_
  subst he
  exact ChangeSpec.post_blind hp
end Go.Proofs.YtnggkkfncaidnaaGreatDoor

namespace Go.Proofs.YtnggkkfncaidnaaGreatDoor
open Go.RowKit

theorem cells3 : Tryz.prog.cellsOf 3 = 1 := by kernel_rfl
theorem cells9 : Tryz.prog.cellsOf 9 = 1 := by kernel_rfl
theorem cellsIts : Tryz.prog.cellsOf 41 = 1 := by kernel_rfl
theorem cellsIt : Tryz.prog.cellsOf 43 = 4 := by kernel_rfl
theorem bytesIt : Tryz.prog.bytesOf 43 = 56 := by kernel_rfl

theorem mem_weightsAll {H : Type} (P : Program) (e : TypeId) : ∀ (l : List (DataW H)) (d : DataW H) (z : Nat), d ∈ l → z ∈ d.weights P e → z ∈ DataW.weightsAll P e l
  | [], d, z, h, _ => by simp at h
  | x :: r, d, z, h, hz => by
    simp only [DataW.weightsAll, List.mem_append]
    rcases List.mem_cons.1 h with rfl | h
    · exact .inl hz
    · exact .inr (mem_weightsAll P e r d z h hz)

set_option maxRecDepth 100000 in
set_option maxHeartbeats 1000000 in
theorem open_its {H : Type} {enc : TypeId × Value → H} {W : World} : ∀ (fuel : Nat) (v : Value) (x : DataW H × List MemPlace),
    DataW.trod enc Tryz.prog W 0 (fun _ => true) true fuel 41 [v] = some x → (∀ z ∈ x.1.weights Tryz.prog 41, z ≤ reachBytes) → ∃ l, ItsAt W anyB v l := by
  intro fuel
  induction fuel using Nat.strongRecOn with
  | _ fuel ih =>
    intro v x h hw
    rcases DataW.trod_slice Tryz.underlying41 h with ⟨h0, _⟩ | ⟨a, len, cap, elems, rest, n, hn, hv, hx, hb, hl, hm, hlen, hel, _⟩
    · simp only [List.cons.injEq, and_true] at h0
      subst h0
      exact ⟨[], its_nil W anyB none 0⟩
    · simp only [List.cons.injEq, and_true] at hv
      subst hv hx hn
      have hwt : (elems.length + rest.length) * 56 ≤ reachBytes := hw _ (by
        simp only [DataW.weights, Tryz.underlying41, bytesIt, List.length_map]
        exact List.mem_cons_self)
      have hlen2 : len ≤ 2513169434843 := by
        have : reachBytes = 140737488351232 := rfl
        omega
      have each : ∀ i, i < len → ∃ q : It × Value, q.1.Ok ∧ W.cell? (a.add (i * 4)) = some (.int .i64 q.1.kind) ∧ W.cell? ((a.add (i * 4)).add 1) = some (.int .i64 q.1.num) ∧ W.cell? ((a.add (i * 4)).add 2) = some (.string q.1.text) ∧ W.cell? ((a.add (i * 4)).add 3) = some q.2 ∧ ItsAt W anyB q.2 q.1.list := by
        intro i hi
        have h1 := hel i hi
        rw [cellsIt, List.getElem?_eq_getElem (by omega)] at h1
        obtain ⟨cs', h2, h3⟩ := Option.bind_eq_some_iff.1 h1
        obtain ⟨_, hcl, hcell⟩ := World.cells?_some h2
        obtain ⟨xs, k, hk, hxy, _, hxl, hf⟩ := DataW.trod_struct Tryz.underlying43 h3
        have hk' : k < n + 1 := by omega
        match xs, hxl, cs', hcl with
        | [y0, y1, y2, y3], _, [v0, v1, v2, v3], _ =>
          have g0 := hf 0 _ rfl
          have g1 := hf 1 _ rfl
          have g2 := hf 2 _ rfl
          have g3 := hf 3 _ rfl
          simp [cells3, cells9, cellsIts] at g0 g1 g2 g3
          have e0 := hcell 0 (by omega)
          have e1 := hcell 1 (by omega)
          have e2 := hcell 2 (by omega)
          have e3 := hcell 3 (by omega)
          obtain ⟨k0, d0, rfl, w0⟩ := DataW.trod_int Tryz.underlying3 g0
          obtain ⟨n0, d1, rfl, w1⟩ := DataW.trod_int Tryz.underlying3 g1
          obtain ⟨t0, d2, rfl, w2⟩ := DataW.trod_string Tryz.underlying9 g2
          simp only [List.cons.injEq, and_true] at d0 d1 d2
          subst d0 d1 d2
          have hmem : ∀ z ∈ (elems[i]'(by omega)).1.weights Tryz.prog 43, z ≤ reachBytes := fun z hz => hw z (by
            simp only [DataW.weights, Tryz.underlying41]
            refine List.mem_cons_of_mem _ (List.mem_append_left _ (mem_weightsAll _ _ _ _ z (List.mem_map.2 ⟨_, List.getElem_mem (by omega), rfl⟩) hz)))
          rw [hxy] at hmem
          obtain ⟨li, hli⟩ := ih k hk' v3 y3 g3 (fun z hz => hmem z (by
            simp only [DataW.weights, Tryz.underlying43, List.map_cons, List.map_nil, DataW.weightsEach]
            simp [hz]))
          have ht : t0.size ≤ reachBytes := hmem t0.size (by
            simp only [DataW.weights, Tryz.underlying43, List.map_cons, List.map_nil, DataW.weightsEach]
            simp)
          obtain ⟨ka, kb⟩ := bounds_i64 w0
          obtain ⟨na, nb⟩ := bounds_i64 w1
          exact ⟨(.mk k0 n0 t0 li, v3), ⟨ka, kb, na, nb, ht⟩, by simpa [Addr.add, It.kind] using e0, by simpa [It.num] using e1, by simpa [It.text] using e2, by simpa using e3, hli⟩
      obtain ⟨q, hq⟩ := Deep.choose_lt (α := It × Value) each
      refine ⟨(List.range len).map fun i => (q i).1, ?_⟩
      have hll : ((List.range len).map fun i => (q i).1).length = len := by simp
      have hget : ∀ i (h : i < ((List.range len).map fun i => (q i).1).length), ((List.range len).map fun i => (q i).1)[i] = (q i).1 := fun i h => by simp
      generalize (List.range len).map (fun i => (q i).1) = L at *
      have hadd : ∀ i, i < len → a = ⟨a.block, a.off, none⟩ ∧ a.add (i * 4) = ⟨a.block, a.off + i * 4, none⟩ := fun i hi => by
        have hz := (hq 0 (by omega)).2.1
        have hsp : a.spot = none := by
          rw [Nat.zero_mul] at hz
          have e : a.add 0 = a := rfl
          rw [e] at hz
          unfold World.cell? at hz
          split at hz
          · split at hz
            · cases hz
            · rename_i hs; simpa using hs
          · cases hz
        have ea : a = ⟨a.block, a.off, none⟩ := by cases a; simp at hsp; rw [hsp]
        refine ⟨ea, ?_⟩
        unfold Addr.add
        split
        · rename_i h0; rw [h0, Nat.add_zero]; exact ea
        · rfl
      have hplus : ∀ (b o c : Nat), 0 < c → (⟨b, o, none⟩ : Addr).add c = ⟨b, o + c, none⟩ := fun b o c hc => by
        unfold Addr.add; rw [if_neg (by omega)]
      have res : ItsAt W anyB (.slice (some a) L.length cap) L := by
        refine .mk (some a) a.block a.off cap L (fun i => (q i).2) (by omega) (fun h => ⟨by rw [← (hadd 0 (by omega)).1], trivial⟩) (fun i h => ?_) (fun i h => ?_) (fun i h => ?_) (fun i h => ?_) (fun i h => ?_) (fun i h => ?_)
        · rw [hget i h]; exact (hq i (by omega)).1
        · rw [hget i h, ← (hadd i (by omega)).2]; exact (hq i (by omega)).2.1
        · rw [hget i h]
          have := (hq i (by omega)).2.2.1
          rw [(hadd i (by omega)).2, hplus _ _ _ (by omega)] at this
          exact this
        · rw [hget i h]
          have := (hq i (by omega)).2.2.2.1
          rw [(hadd i (by omega)).2, hplus _ _ _ (by omega)] at this
          exact this
        · have := (hq i (by omega)).2.2.2.2.1
          rw [(hadd i (by omega)).2, hplus _ _ _ (by omega)] at this
          exact this
        · rw [hget i h]; exact (hq i (by omega)).2.2.2.2.2
      rw [hll] at res
      exact res

end Go.Proofs.YtnggkkfncaidnaaGreatDoor

namespace Go.Proofs.YtnggkkfncaidnaaGreatDoor
open Go.RowKit

/-! The document's Choose. -/
def InsAt (w : World) (v : Value) (l : List Int) : Prop :=
  ∃ (a : Option Addr) (g off cap : Nat), v = .slice a l.length cap ∧ l.length ≤ 17592186044416 ∧ (0 < l.length → a = some ⟨g, off, none⟩) ∧ ∀ i (h : i < l.length), w.cell? ⟨g, off + i, none⟩ = some (.int .i64 l[i])
def IxsAt (w : World) (v : Value) (l : List (List Int)) : Prop :=
  ∃ (a : Option Addr) (g off cap : Nat) (vs : Nat → Value), v = .slice a l.length cap ∧ l.length ≤ 17592186044416 ∧ (0 < l.length → a = some ⟨g, off, none⟩) ∧ ∀ i (h : i < l.length), w.cell? ⟨g, off + i, none⟩ = some (vs i) ∧ InsAt w (vs i) l[i]
theorem InsAt.keep {w w' : World} {v : Value} {l : List Int} (h : InsAt w v l) (hb : Below w.heap.size w w') : InsAt w' v l := by
  obtain ⟨a, g, off, cap, h1, h2, h3, h4⟩ := h
  exact ⟨a, g, off, cap, h1, h2, h3, fun i hi => cell_below hb (h4 i hi)⟩
theorem IxsAt.keep {w w' : World} {v : Value} {l : List (List Int)} (h : IxsAt w v l) (hb : Below w.heap.size w w') : IxsAt w' v l := by
  obtain ⟨a, g, off, cap, vs, h1, h2, h3, h4⟩ := h
  exact ⟨a, g, off, cap, vs, h1, h2, h3, fun i hi => ⟨cell_below hb (h4 i hi).1, (h4 i hi).2.keep hb⟩⟩
theorem IxsAt.form {w : World} {v : Value} {l : List (List Int)} (h : IxsAt w v l) : ∃ a c, v = .slice a l.length c := by
  obtain ⟨a, g, off, cap, vs, h, _⟩ := h
  exact ⟨a, cap, h⟩
theorem IxsAt.len {w : World} {v : Value} {l : List (List Int)} (h : IxsAt w v l) : l.length ≤ 17592186044416 := by
  obtain ⟨a, g, off, cap, vs, _, h, _⟩ := h
  exact h
theorem InsAt.form {w : World} {v : Value} {l : List Int} (h : InsAt w v l) : ∃ a c, v = .slice a l.length c := by
  obtain ⟨a, g, off, cap, h, _⟩ := h
  exact ⟨a, cap, h⟩
theorem IxsAt.get {w : World} {a : Option Addr} {n cap : Nat} {l : List (List Int)} (h : IxsAt w (.slice a n cap) l) (i : Nat) (hi : i < l.length) : ∃ g off u, a = some ⟨g, off, none⟩ ∧ w.cell? ⟨g, off + i, none⟩ = some u ∧ InsAt w u (l[i]'hi) := by
  obtain ⟨a', g, off, cap', vs, h1, h2, h3, h4⟩ := h
  cases h1
  obtain rfl := h3 (by omega)
  exact ⟨g, off, vs i, rfl, h4 i hi⟩
theorem InsAt.get {w : World} {a : Option Addr} {n cap : Nat} {l : List Int} (h : InsAt w (.slice a n cap) l) (i : Nat) (hi : i < l.length) : ∃ g off, a = some ⟨g, off, none⟩ ∧ w.cell? ⟨g, off + i, none⟩ = some (.int .i64 (l[i]'hi)) := by
  obtain ⟨a', g, off, cap', h1, h2, h3, h4⟩ := h
  cases h1
  obtain rfl := h3 (by omega)
  exact ⟨g, off, rfl, h4 i hi⟩
def lead (fs : List Fd) (cs : List Cd) (ix : List Int) : Nat := (ix.takeWhile (boundB fs cs)).length
def bestP (fs : List Fd) (cs : List Cd) : List (List Int) → Nat → Int × Int → Int × Int
  | [], _, p => p
  | ix :: r, i, p => bestP fs cs r (i + 1) (if p.2 < (lead fs cs ix : Int) then ((i : Int), (lead fs cs ix : Int)) else p)
def lostB (fs : List Fd) (q : Qd) : Bool := q.cs.any (fun c => decide (fieldI fs c.field < 0)) || (decide (q.order ≠ ⟨#[]⟩) && decide (fieldI fs q.order < 0))
def chooseD (tn : ByteArray) (fs : List Fd) (ixs : List (List Int)) (q : Qd) : (Int × Int) × Nat :=
  if q.table = tn then (if qfaultD q = 0 then (if lostB fs q = true then ((0, 0), 6) else (bestP fs q.cs ixs 0 (-1, 0), 0)) else ((0, 0), qfaultD q)) else ((0, 0), 1)
theorem lead_stop (fs : List Fd) (cs : List Cd) (ix : List Int) (k : Nat) (hk : k ≤ ix.length) (h0 : ∀ j (h : j < ix.length), j < k → boundB fs cs ix[j] = true) (h : ∀ h : k < ix.length, boundB fs cs ix[k] = false) : lead fs cs ix = k := by
  unfold lead
  have h1 : (ix.take k).all (boundB fs cs) = true := by
    rw [List.all_eq_true]
    intro x hx
    obtain ⟨j, hj, rfl⟩ := List.getElem_of_mem hx
    rw [List.length_take] at hj
    rw [List.getElem_take]
    exact h0 j (by omega) (by omega)
  have h2 : ix.takeWhile (boundB fs cs) = ix.take k := by
    rw [← List.take_append_drop k ix, List.takeWhile_append_of_pos (by simpa using h1)]
    by_cases hl : k < ix.length
    · rw [List.drop_eq_getElem_cons hl, List.takeWhile_cons, h hl]
      simp
    · rw [List.drop_eq_nil_of_le (by omega)]
      simp [List.take_take]
  rw [h2, List.length_take]
  omega
theorem bestP_drop (fs : List Fd) (cs : List Cd) (l : List (List Int)) (i : Nat) (hi : i < l.length) (p : Int × Int) : bestP fs cs (l.drop i) i p = bestP fs cs (l.drop (i + 1)) (i + 1) (if p.2 < (lead fs cs (l[i]'hi) : Int) then ((i : Int), (lead fs cs (l[i]'hi) : Int)) else p) := by
  rw [List.drop_eq_getElem_cons hi, bestP]
end Go.Proofs.YtnggkkfncaidnaaGreatDoor

namespace Go.Proofs.YtnggkkfncaidnaaGreatDoor
open Go.ChangeShapes Go.WideShapes Go.ChangeAt Go.WideMaps Go.WideElems Go.RowKit

/-! The arguments of layer 18: conditions, fields, indexes, tables, records, queries. -/
theorem addr_zero {a : Addr} {W : World} {u : Value} (h : W.cell? (a.add 0) = some u) : a = ⟨a.block, a.off, none⟩ := by
  have e : a.add 0 = a := rfl
  rw [e] at h
  have hsp : a.spot = none := by
    unfold World.cell? at h
    split at h
    · split at h
      · cases h
      · rename_i hs; simpa using hs
    · cases h
  cases a; simp at hsp; rw [hsp]
theorem addr_add (b o c : Nat) : (⟨b, o, none⟩ : Addr).add c = ⟨b, o + c, none⟩ := by
  unfold Addr.add
  split
  · rename_i h; rw [h, Nat.add_zero]
  · rfl
set_option maxRecDepth 100000 in
set_option maxHeartbeats 1000000 in
/-- A slice whose elements have n cells: the cells of each, and how it reads. -/
theorem open_slice {H : Type} {enc : TypeId × Value → H} {W : World} {T E : TypeId} {n m : Nat} (hT : Tryz.prog.underlying T = some (.slice E)) (hn : Tryz.prog.cellsOf E = n) (hn0 : 0 < n) (hm : Tryz.prog.bytesOf E = m) (fuel : Nat) (v : Value) (x : DataW H × List MemPlace)
    (h : DataW.trod enc Tryz.prog W 0 (fun _ => true) true fuel T [v] = some x) (hw : ∀ z ∈ x.1.weights Tryz.prog T, z ≤ reachBytes) :
    ∃ (a : Option Addr) (g off len cap k : Nat), v = .slice a len cap ∧ k < fuel ∧ len * m ≤ reachBytes ∧ (0 < len → a = some ⟨g, off, none⟩) ∧
      ∀ i, i < len → ∃ (cs : List Value) (y : DataW H × List MemPlace), cs.length = n ∧ (∀ j u, cs[j]? = some u → W.cell? ⟨g, off + i * n + j, none⟩ = some u) ∧ DataW.trod enc Tryz.prog W 0 (fun _ => true) true k E cs = some y ∧ ∀ z ∈ y.1.weights Tryz.prog E, z ≤ reachBytes := by
  rcases DataW.trod_slice hT h with ⟨h0, _⟩ | ⟨a, len, cap, elems, rest, k, hk, hv, hx, hb, hl, hmm, hlen, hel, _⟩
  · simp only [List.cons.injEq, and_true] at h0
    subst h0
    match fuel, h with
    | f + 1, _ => exact ⟨none, 0, 0, 0, 0, 0, rfl, by omega, by omega, fun h => by omega, fun i hi => by omega⟩
    | 0, h => simp [DataW.trod] at h
  · simp only [List.cons.injEq, and_true] at hv
    subst hv hx hk
    have hwt : (elems.length + rest.length) * m ≤ reachBytes := hw _ (by
      simp only [DataW.weights, hT, hm, List.length_map]
      exact List.mem_cons_self)
    have hlm : len * m ≤ reachBytes := by
      rw [Nat.add_mul] at hwt
      have : len * m ≤ elems.length * m := Nat.mul_le_mul_right _ (by omega)
      omega
    have each : ∀ i, i < len → ∃ (cs : List Value) (y : DataW H × List MemPlace), cs.length = n ∧ (∀ j, (hj : j < cs.length) → W.cell? ((a.add (i * n)).add j) = some cs[j]) ∧ DataW.trod enc Tryz.prog W 0 (fun _ => true) true k E cs = some y ∧ ∀ z ∈ y.1.weights Tryz.prog E, z ≤ reachBytes := by
      intro i hi
      have h1 := hel i hi
      rw [hn, List.getElem?_eq_getElem (by omega)] at h1
      obtain ⟨cs', h2, h3⟩ := Option.bind_eq_some_iff.1 h1
      obtain ⟨_, hcl, hcell⟩ := World.cells?_some h2
      refine ⟨cs', _, hcl, fun j hj => (hcell j (by omega)).trans (List.getElem?_eq_getElem hj), h3, fun z hz => hw z ?_⟩
      simp only [DataW.weights, hT]
      exact List.mem_cons_of_mem _ (List.mem_append_left _ (mem_weightsAll _ _ _ _ z (List.mem_map.2 ⟨_, List.getElem_mem (by omega), rfl⟩) hz))
    refine ⟨some a, a.block, a.off, len, cap, k, rfl, by omega, hlm, fun h0 => ?_, fun i hi => ?_⟩
    · obtain ⟨cs, y, hc, hcell, _⟩ := each 0 h0
      have := hcell 0 (by omega)
      rw [Nat.zero_mul] at this
      rw [← addr_zero (a := a) (by exact this)]
    · obtain ⟨cs, y, hc, hcell, h3, h4⟩ := each i hi
      obtain ⟨cs0, y0, hc0, hcell0, _⟩ := each 0 (by omega)
      have e0 := hcell0 0 (by omega)
      rw [Nat.zero_mul] at e0
      have ea := addr_zero (a := a) (by exact e0)
      refine ⟨cs, y, hc, fun j u hu => ?_, h3, h4⟩
      obtain ⟨hj, rfl⟩ := List.getElem?_eq_some_iff.1 hu
      have := hcell j hj
      rw [ea, addr_add, addr_add] at this
      exact this
theorem cellsInt : Tryz.prog.cellsOf 3 = 1 := by kernel_rfl
theorem cellsBool : Tryz.prog.cellsOf 4 = 1 := by kernel_rfl
theorem bytesInt : Tryz.prog.bytesOf 3 = 8 := by kernel_rfl
theorem cellsCond : Tryz.prog.cellsOf 45 = 6 := by kernel_rfl
theorem bytesCond : Tryz.prog.bytesOf 45 = 80 := by kernel_rfl
theorem cellsConds : Tryz.prog.cellsOf 22 = 1 := by kernel_rfl
theorem cellsQuery : Tryz.prog.cellsOf 24 = 5 := by kernel_rfl
theorem reach_val : reachBytes = 140737488351232 := rfl
instance : Inhabited Cd := ⟨⟨⟨#[]⟩, 0, .mk 0 0 ⟨#[]⟩ []⟩⟩
set_option maxRecDepth 100000 in
set_option maxHeartbeats 1000000 in
/-- One item out of its four cells. -/
theorem open_it {H : Type} {enc : TypeId × Value → H} {W : World} (k : Nat) (v0 v1 v2 v3 : Value) (y : DataW H × List MemPlace) (h : DataW.trod enc Tryz.prog W 0 (fun _ => true) true k 43 [v0, v1, v2, v3] = some y) (hw : ∀ z ∈ y.1.weights Tryz.prog 43, z ≤ reachBytes) :
    ∃ x : It, x.Ok ∧ v0 = .int .i64 x.kind ∧ v1 = .int .i64 x.num ∧ v2 = .string x.text ∧ ItsAt W anyB v3 x.list := by
  obtain ⟨xs, k2, hk, hxy, _, hxl, hf⟩ := DataW.trod_struct Tryz.underlying43 h
  match xs, hxl with
  | [y0, y1, y2, y3], _ =>
    have g0 := hf 0 _ rfl
    have g1 := hf 1 _ rfl
    have g2 := hf 2 _ rfl
    have g3 := hf 3 _ rfl
    simp [cells3, cells9, cellsIts] at g0 g1 g2 g3
    obtain ⟨k0, d0, rfl, w0⟩ := DataW.trod_int Tryz.underlying3 g0
    obtain ⟨n0, d1, rfl, w1⟩ := DataW.trod_int Tryz.underlying3 g1
    obtain ⟨t0, d2, rfl, w2⟩ := DataW.trod_string Tryz.underlying9 g2
    simp only [List.cons.injEq, and_true] at d0 d1 d2
    subst d0 d1 d2
    rw [hxy] at hw
    obtain ⟨li, hli⟩ := open_its k2 v3 y3 g3 (fun z hz => hw z (by
      simp only [DataW.weights, Tryz.underlying43, List.map_cons, List.map_nil, DataW.weightsEach]
      simp [hz]))
    have ht : t0.size ≤ reachBytes := hw t0.size (by
      simp only [DataW.weights, Tryz.underlying43, List.map_cons, List.map_nil, DataW.weightsEach]
      simp)
    obtain ⟨ka, kb⟩ := bounds_i64 w0
    obtain ⟨na, nb⟩ := bounds_i64 w1
    exact ⟨.mk k0 n0 t0 li, ⟨ka, kb, na, nb, ht⟩, rfl, rfl, rfl, hli⟩
set_option maxRecDepth 100000 in
set_option maxHeartbeats 1000000 in
theorem open_conds {H : Type} {enc : TypeId × Value → H} {W : World} (fuel : Nat) (v : Value) (x : DataW H × List MemPlace)
    (h : DataW.trod enc Tryz.prog W 0 (fun _ => true) true fuel 22 [v] = some x) (hw : ∀ z ∈ x.1.weights Tryz.prog 22, z ≤ reachBytes) : ∃ l, CsAt W anyB v l := by
  obtain ⟨a, g, off, len, cap, k, rfl, _, hl, ha, hel⟩ := open_slice Tryz.underlying22 cellsCond (by decide) bytesCond fuel v x h hw
  have each : ∀ i, i < len → ∃ q : Cd × Value, q.1.Ok ∧ (∀ j u, (q.1.cells q.2)[j]? = some u → W.cell? ⟨g, off + i * 6 + j, none⟩ = some u) ∧ ItsAt W anyB q.2 q.1.item.list := by
    intro i hi
    obtain ⟨cs, y, hc, hcell, h3, h4⟩ := hel i hi
    obtain ⟨xs, k2, hk, hxy, _, hxl, hf⟩ := DataW.trod_struct Tryz.underlying45 h3
    match xs, hxl, cs, hc with
    | [y0, y1, y2], _, [v0, v1, v2, v3, v4, v5], _ =>
      have g0 := hf 0 _ rfl
      have g1 := hf 1 _ rfl
      have g2 := hf 2 _ rfl
      simp [cells3, cells9, cellsIt] at g0 g1 g2
      obtain ⟨t0, d0, rfl, w0⟩ := DataW.trod_string Tryz.underlying9 g0
      obtain ⟨n0, d1, rfl, w1⟩ := DataW.trod_int Tryz.underlying3 g1
      simp only [List.cons.injEq, and_true] at d0 d1
      subst d0 d1
      rw [hxy] at h4
      obtain ⟨it, hok, rfl, rfl, rfl, hli⟩ := open_it k2 _ _ _ _ y2 g2 (fun z hz => h4 z (by
        simp only [DataW.weights, Tryz.underlying45, List.map_cons, List.map_nil, DataW.weightsEach]
        simp [hz]))
      have ht : t0.size ≤ reachBytes := h4 t0.size (by
        simp only [DataW.weights, Tryz.underlying45, List.map_cons, List.map_nil, DataW.weightsEach]
        simp)
      obtain ⟨na, nb⟩ := bounds_i64 w1
      exact ⟨(⟨t0, n0, it⟩, v5), ⟨by rw [reach_val] at ht; omega, na, nb, hok⟩, hcell, hli⟩
  obtain ⟨q, hq⟩ := Deep.choose_lt (α := Cd × Value) each
  have hlen : len ≤ 1759218604390 := by rw [reach_val] at hl; omega
  refine ⟨(List.range len).map fun i => (q i).1, a, g, off, cap, fun i => (q i).2, by simp, by simpa using hlen, fun h => ⟨ha (by simpa using h), trivial⟩, fun i hi => ?_⟩
  have hi' : i < len := by simpa using hi
  obtain ⟨h1, h2, h3⟩ := hq i hi'
  have e : ((List.range len).map fun i => (q i).1)[i] = (q i).1 := by simp
  rw [e]
  exact ⟨h1, h2, h3⟩
set_option maxRecDepth 100000 in
set_option maxHeartbeats 1000000 in
/-- A query out of its five cells. -/
theorem open_q {H : Type} {enc : TypeId × Value → H} {W : World} (k : Nat) (v0 v1 v2 v3 v4 : Value) (y : DataW H × List MemPlace) (h : DataW.trod enc Tryz.prog W 0 (fun _ => true) true k 24 [v0, v1, v2, v3, v4] = some y) (hw : ∀ z ∈ y.1.weights Tryz.prog 24, z ≤ reachBytes) :
    ∃ q : Qd, v0 = .string q.table ∧ v2 = .string q.order ∧ v3 = .bool q.falling ∧ v4 = .int .i64 q.limit ∧ CsAt W anyB v1 q.cs ∧ q.table.size ≤ 140737488351232 ∧ q.order.size ≤ 140737488351232 ∧ -9223372036854775808 ≤ q.limit ∧ q.limit ≤ 9223372036854775807 := by
  obtain ⟨xs, k2, hk, hxy, _, hxl, hf⟩ := DataW.trod_struct Tryz.underlying24 h
  match xs, hxl with
  | [y0, y1, y2, y3, y4], _ =>
    have g0 := hf 0 _ rfl
    have g1 := hf 1 _ rfl
    have g2 := hf 2 _ rfl
    have g3 := hf 3 _ rfl
    have g4 := hf 4 _ rfl
    simp [cells3, cells9, cellsConds, cellsBool] at g0 g1 g2 g3 g4
    obtain ⟨t0, d0, rfl, w0⟩ := DataW.trod_string Tryz.underlying9 g0
    obtain ⟨t2, d2, rfl, w2⟩ := DataW.trod_string Tryz.underlying9 g2
    obtain ⟨b3, d3, rfl⟩ := DataW.trod_bool Tryz.underlying4 g3
    obtain ⟨n4, d4, rfl, w4⟩ := DataW.trod_int Tryz.underlying3 g4
    simp only [List.cons.injEq, and_true] at d0 d2 d3 d4
    subst d0 d2 d3 d4
    rw [hxy] at hw
    obtain ⟨l, hl⟩ := open_conds k2 v1 y1 g1 (fun z hz => hw z (by
      simp only [DataW.weights, Tryz.underlying24, List.map_cons, List.map_nil, DataW.weightsEach]
      simp [hz]))
    have h1 : t0.size ≤ reachBytes := hw t0.size (by
      simp only [DataW.weights, Tryz.underlying24, List.map_cons, List.map_nil, DataW.weightsEach]
      simp)
    have h2 : t2.size ≤ reachBytes := hw t2.size (by
      simp only [DataW.weights, Tryz.underlying24, List.map_cons, List.map_nil, DataW.weightsEach]
      simp)
    obtain ⟨na, nb⟩ := bounds_i64 w4
    exact ⟨⟨t0, l, t2, b3, n4⟩, rfl, rfl, rfl, rfl, hl, h1, h2, na, nb⟩
end Go.Proofs.YtnggkkfncaidnaaGreatDoor

namespace Go.Proofs.YtnggkkfncaidnaaGreatDoor
open Go.ChangeShapes Go.WideShapes Go.ChangeAt Go.WideMaps Go.WideElems Go.RowKit Go.Joins

theorem gPow : Tryz.prog.globalNamed "internal/strconv.uint64pow10" = some 13 := by kernel_rfl
theorem tPow : (Tryz.prog.globals[(13 : Nat)]?).map (·.type) = some 140 := by kernel_rfl
theorem cellsU64 : Tryz.prog.cellsOf 109 = 1 := by kernel_rfl
theorem cellsPow : Tryz.prog.cellsOf 140 = 20 := by kernel_rfl
def isPow (x : String × DataW Unit) : Bool := x.1 == "internal/strconv.uint64pow10"
set_option maxRecDepth 100000 in
theorem pow_of_laid {W : World} (h : laidMet Tryz.prog [("internal/strconv.uint64pow10", Rows.laid_internal_strconv_uint64pow10)] W) : Lib.TabIs Tryz.prog W "internal/strconv.uint64pow10" .u64 Lib.pow10Tab := by
  have e : (Rows.laid_internal_strconv_uint64pow10 : DataW Unit) = Lib.tabData .u64 Lib.pow10Tab := by rfl
  rw [e] at h
  exact Lib.tabIs_of_head gPow tPow Tryz.underlying140 Tryz.underlying109 cellsU64 cellsPow h
set_option maxRecDepth 100000 in
set_option maxHeartbeats 1000000 in
theorem open_query {H : Type} {enc : TypeId × Value → H} {W : World} {r : Reach} {b0 : Nat} {v : Value} {d : DataW H} {p : List MemPlace} (hv : Value.okWide Tryz.prog W r b0 24 v)
    (h : DataW.Trod enc Tryz.prog W 0 (fun _ => true) true 24 v d p) (hw : ∀ z ∈ d.weights Tryz.prog 24, z ≤ reachBytes) :
    ∃ (q : Qd) (cv : Value), v = .agg (qV q cv) ∧ CsAt W anyB cv q.cs ∧ q.table.size ≤ 140737488351232 ∧ q.order.size ≤ 140737488351232 ∧ -9223372036854775808 ≤ q.limit ∧ q.limit ≤ 9223372036854775807 := by
  obtain ⟨cs, rfl, hsz⟩ := okWide_struct Tryz.underlying24 hv
  rw [cellsQuery] at hsz
  obtain ⟨fuel, hf0⟩ := h
  obtain ⟨cl⟩ := cs
  match cl, hsz with
  | [v0, v1, v2, v3, v4], _ =>
    obtain ⟨q, rfl, rfl, rfl, rfl, h1, h2, h3, h4, h5⟩ := open_q fuel v0 v1 v2 v3 v4 (d, p) hf0 hw
    exact ⟨q, v1, rfl, h1, h2, h3, h4, h5⟩
end Go.Proofs.YtnggkkfncaidnaaGreatDoor

namespace Go.Proofs.YtnggkkfncaidnaaGreatDoor
open Go.ChangeShapes Go.WideShapes Go.ChangeAt Go.WideMaps Go.WideElems Go.RowKit Go.Joins

def err3L : List (String × List UInt8) := [("copse/api.ErrArg", errText Rows.laid_copse_api_ErrArg), ("copse/api.ErrText", errText Rows.laid_copse_api_ErrText), ("copse/api.ErrMany", errText Rows.laid_copse_api_ErrMany)]
theorem err3L_eq : err3L.map mkErr ++ [] = [("copse/api.ErrArg", Rows.laid_copse_api_ErrArg), ("copse/api.ErrText", Rows.laid_copse_api_ErrText), ("copse/api.ErrMany", Rows.laid_copse_api_ErrMany)] := rfl
theorem err3L_all : ((List.range 3).all fun i => match err3L[i]? with
    | some x => (Tryz.prog.globalNamed x.1 == some (gAll i)) && ((Tryz.prog.globals[gAll i]?).map (·.type) == some 26)
    | none => false) = true := by kernel_rfl
theorem err3L_glob : ∀ i x, err3L[i]? = some x → Tryz.prog.globalNamed x.1 = some (gAll i) ∧ (Tryz.prog.globals[gAll i]?).map (·.type) = some 26 := by
  intro i x hx
  have hi : i < 3 := by
    rcases Nat.lt_or_ge i 3 with h | h
    · exact h
    · rw [List.getElem?_eq_none (by exact h)] at hx; cases hx
  have h := List.all_eq_true.1 err3L_all i (List.mem_range.2 hi)
  rw [hx] at h
  simpa using h
def isErr3 (x : String × DataW Unit) : Bool := x.1 == "copse/api.ErrArg" || x.1 == "copse/api.ErrText" || x.1 == "copse/api.ErrMany"
set_option maxRecDepth 100000 in
theorem err3_of_laid {W : World} (h : laidMet Tryz.prog [("copse/api.ErrArg", Rows.laid_copse_api_ErrArg), ("copse/api.ErrText", Rows.laid_copse_api_ErrText), ("copse/api.ErrMany", Rows.laid_copse_api_ErrMany)] W) : ∃ A, ErrsAt 3 gAll A W :=
  errs_of (rest := []) gAll (show err3L.length = 3 from rfl) err3L_glob (by rw [err3L_eq]; exact h)
set_option maxRecDepth 100000 in
theorem back_errs {W : World} (h : laidMetH Tryz.prog Rows.queryBackRow.laid W) : (∃ A, ErrsAt 3 gAll A W) ∧ Lib.TabIs Tryz.prog W "internal/strconv.uint64pow10" .u64 Lib.pow10Tab ∧ SynAt W := by
  rw [MakeChecks.laidMetH_plain _ _ _ (by kernel_rfl)] at h
  exact ⟨err3_of_laid (h.filter isErr3), powR_of_laid (h.filter isPowR), synAt_of_laid (h.filter isErr2S)⟩
set_option maxRecDepth 100000 in
theorem back_lifted (os : Os) (started : os.Started) (H : Type) (enc : TypeId × Value → H) :
    ReturnsInHanded {} Tryz.checked os 4 .any (fun w args => (Rows.queryBackSpec.pre enc Tryz.prog Tryz.f4 [] false w args ∧ laidMetH Tryz.prog Rows.queryBackRow.laid w) ∧ sizedMet enc Tryz.prog Tryz.f4 (OpenSpec.ofChange Rows.queryBackSpec) false w args)
      (Rows.queryBackSpec.post enc Tryz.prog Tryz.f4 false true false false) := by
  refine wrap_shaped (C := Tryz.checked) (X := fun w _ => laidMetH Tryz.prog Rows.queryBackRow.laid w) (fun _ _ _ hh h => h.of_heap hh) own started (by kernel_rfl) Tryz.func4
    (ChangeSpec.witness_shaped (enc := enc) (C := Tryz.checked) (os := os) (X := fun w _ => laidMetH Tryz.prog Rows.queryBackRow.laid w) false (World.laidAll Tryz.prog os Rows.queryBackRow.laid) #[.agg #[.string ByteArray.empty, .slice none 0 0, .string ByteArray.empty, .bool false, .int .i64 0]] 8 (World.laidAll_os _ _ _)
      (World.shaped_of_ZipB (by kernel_rfl) (by kernel_rfl)) (by kernel_rfl) (by kernel_rfl) (by kernel_rfl)
      (by rw [MakeChecks.laidMetH_plain _ _ _ (by kernel_rfl)]; exact laidMet_laidAll _ (by kernel_rfl) (by kernel_rfl))) ?_
  intro W base args ds gs before hval0 hW hsz0 hL hsh
  have hval : ∀ (j : Nat) t v, Tryz.f4.params[j]? = some t → args[j]? = some v → Value.okWide Tryz.prog W .any base t v := hval0
  have hsz : (DataW.weightsEach Tryz.prog (Tryz.f4.params.toList ++ Rows.queryBackSpec.plain.varTypes Tryz.prog) (ds ++ gs)).all (· ≤ reachBytes) = true := hsz0
  have hW' := hW
  obtain ⟨p, q, hA0, hV, rfl, hfz, hnd⟩ := hW
  have hA : DataW.TrodAll enc Tryz.prog W 0 (fun _ => true) true Tryz.f4.params.toList args.toList ds p := hA0
  rw [Tryz.params4] at hA hval hsz
  obtain ⟨v0, d0, rfl, rfl, h0⟩ := trodAll_one hA
  obtain ⟨rfl, rfl⟩ := trodVars_none hV
  have h0k := h0
  have hlt := hA.lt
  have hall : (DataW.weightsEach Tryz.prog [24] [d0]).all (· ≤ reachBytes) = true := hsz
  obtain ⟨q, cv, rfl, hcs, hq1, hq2, hq3, hq4⟩ := open_query (hval 0 24 v0 rfl rfl) h0 (fun z hz => of_decide_eq_true (List.all_eq_true.1 hall z (by simp [DataW.weightsEach, hz])))
  clear hA0 hval0 hsz0
  simp only [List.append_nil] at hW'
  obtain ⟨⟨A, hE⟩, hP, hS⟩ := back_errs hL
  refine (lback_any A q cv W hcs (by omega) (by omega) hq4 ⟨hE, ⟨hS, itoR_of hP, max_of hsh⟩, hP⟩).mono fun e W' ⟨he, hb⟩ => ?_
  subst he
  refine ⟨_, rfl, _, _, _, [], p, [], hW', ?_, ?_, rfl, hb.frame _, fun h => by cases h⟩
  · exact trodAll_mk1 (shut_bool Tryz.underlying4 _)
  · exact trodAll_mk1 (Below.trod laidOut (by kernel_rfl) (of_decide_eq_true (by kernel_rfl)) h0k hb hlt)
theorem back_holds : Rows.QueryBackSaid :=
  OpenClaim.holds_of_wide 4 Tryz.f4 rfl rfl rfl rfl rfl rfl rfl ⟨rfl, rfl, rfl, rfl, rfl⟩ rfl rfl rfl rfl rfl (by kernel_rfl) Tryz.func4 (by kernel_rfl)
    (of_decide_eq_true (by kernel_rfl)) (by unfold Func.isWrapper; first | (rw [if_pos (by decide +kernel)]; kernel_rfl) | (rw [if_neg (by decide +kernel)]; exact ⟨rfl, rfl⟩))
    (fun os started H enc _ => back_lifted os started H enc)

theorem back_card_holds : Rows.QueryBackCardSaid :=
  Claim7.holds_tied_plain_at .later [] _ _ _ _
    back_holds (fun _ h => by cases h) (by kernel_rfl) (fun _ h => by cases h) queryBack_row_tie rfl ⟨rfl, rfl⟩ (by kernel_rfl) rfl
    (fun f fn hf hfn => by
      obtain rfl : f = 4 := Option.some.inj ((show Tryz.prog.funcNamed "copse/copselaw18.QueryBack" = some 4 by kernel_rfl).symm.trans hf) |>.symm
      obtain rfl : fn = Tryz.f4 := (Option.some.inj (Tryz.func4.symm.trans hfn)).symm
      exact ⟨by kernel_rfl, fun j t ht => by
        rw [Tryz.params4] at ht
        have hm : t ∈ [24] := by simpa using Array.mem_of_getElem? ht
        have hall : ([24].all fun u => !Tryz.prog.wantsStandIn u) = true := by kernel_rfl
        exact (show Tryz.prog.wantsStandIn t = false by simpa using List.all_eq_true.1 hall t hm)⟩)
    (by kernel_rfl)
#print axioms back_card_holds

end Go.Proofs.YtnggkkfncaidnaaGreatDoor
