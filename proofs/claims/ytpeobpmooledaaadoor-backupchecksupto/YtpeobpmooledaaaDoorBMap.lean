import Derived.Test.YtpeobpmooledaaaDoorGG
import Derived.Maps.OwnSet
import Derived.Maps.OwnOps
namespace Go.Proofs.YtpeobpmooledaaaDoor
open Go.RowKit Go.Maps
attribute [local go_sem ↓] Go.wp_at_zero Go.wp_at_succ

/-! The map from a page's number to its parcel. -/
theorem keyed3 : Keyed Tryd.prog 3 := int_keyed Tryd.underlying3
theorem zeroPc (w : World) : (zeroValue 38).run Tryd.prog w = .ok (.agg #[.int .i64 0, .int .u64 0, .string ⟨#[]⟩]) w := by kernel_rfl
theorem keyI (i : Int) (h : -9223372036854775808 ≤ i ∧ i ≤ 9223372036854775807) : keyOf Tryd.prog 3 (.int .i64 i) = some (.int .i64 i) := keyOf_int_mk Tryd.underlying3 (WalkArith.wf_i64 (by omega))
theorem run_makeMap_hint (n : Nat) (w : World) : (Instr.makeMap 59 (some (.int .i64 (n : Int)))).run Tryd.prog w = .ok (.map (some w.heap.size)) (w.alloc (.map #[] 0)) := by
  simp [Instr.makeMap, run_underlying Tryd.underlying59, asInt, asIntOf, Result.andThen]
def pcDat (i t : Int) (s : ByteArray) : DataW Unit := .agg [.lit (.int .i64 i), .lit (.int .u64 t), .lit (.string s.data.toList)]
def pcElem : Value → Option (DataW Unit × List MemPlace)
  | .agg cs => match cs.toList with
    | [.int .i64 i, .int .u64 t, .string s] => some (pcDat i t s, [])
    | _ => none
  | _ => none
theorem pcElem_mk (i t : Int) (s : ByteArray) : pcElem (.agg #[.int .i64 i, .int .u64 t, .string s]) = some (pcDat i t s, []) := rfl
theorem pcElem_inv {v : Value} {z : DataW Unit × List MemPlace} (h : pcElem v = some z) : ∃ i t s, v = .agg #[.int .i64 i, .int .u64 t, .string s] ∧ z = (pcDat i t s, []) := by
  unfold pcElem at h
  split at h
  · rename_i cs
    split at h
    · rename_i i t s he
      refine ⟨i, t, s, ?_, (Option.some.inj h).symm⟩
      obtain ⟨l⟩ := cs
      simp only at he
      rw [he]
    · cases h
  · cases h
/-- The last parcel of that number. -/
def lastD (l : List Pc) (i : Int) : Option Pc := l.foldl (fun acc p => if p.id = i then some p else acc) none
theorem lastD_snoc (l : List Pc) (x : Pc) (i : Int) : lastD (l ++ [x]) i = if x.id = i then some x else lastD l i := by simp [lastD]
theorem fold_any (i : Int) : ∀ (l : List Pc) (o : Option Pc), (l.foldl (fun acc p => if p.id = i then some p else acc) o).isSome = (o.isSome || l.any fun p => decide (p.id = i))
  | [], o => by simp
  | x :: r, o => by
    rw [List.foldl_cons, fold_any i r]
    by_cases h : x.id = i <;> simp [h]
theorem lastD_some (l : List Pc) (i : Int) : (lastD l i).isSome = l.any fun p => decide (p.id = i) := by
  unfold lastD; rw [fold_any]; rfl
def PcD (D : DataW Unit) (l : List Pc) : Prop := ∀ i : Int, Maps.has D (.int .i64 i) = (lastD l i).isSome ∧ ∀ p, lastD l i = some p → ∀ z, D.atKey (.int .i64 i) z = pcDat p.id (p.tx : Int) p.dat
theorem PcD.nil : PcD (.map []) [] := fun s => ⟨by simp [Maps.has, lastD], fun p h => by simp [lastD] at h⟩
theorem PcD.put {D : DataW Unit} {l : List Pc} {x : Pc} (h : PcD D l) (hm : IsMap D) : PcD (D.put (.int .i64 x.id) (pcDat x.id (x.tx : Int) x.dat)) (l ++ [x]) := fun i => by
  rw [lastD_snoc]
  by_cases e : x.id = i
  · subst e
    rw [if_pos rfl]
    refine ⟨?_, fun p hp z => ?_⟩
    · rw [has_put_same hm (show WideAt.IsKeyLit (.int .i64 x.id) from trivial)]; rfl
    · cases hp
      rw [atKey_put_same hm (show WideAt.IsKeyLit (.int .i64 x.id) from trivial)]
  · rw [if_neg e]
    have hne : (Lit.int .i64 i) ≠ (Lit.int .i64 x.id) := fun h => e (by simpa using h.symm)
    rw [has_put_other hne]
    exact ⟨(h i).1, fun p hp z => by rw [atKey_put_other hne]; exact (h i).2 p hp z⟩
structure PcMap (w : World) (b : Nat) (l : List Pc) : Prop where
  ex : ∃ D : DataW Unit, w.ownsMap Tryd.prog 3 pcElem b l.length D ∧ PcD D l
theorem own_keep {w w' : World} {k : TypeId} {R : Value → Option (DataW Unit × List MemPlace)} {b n : Nat} {D : DataW Unit} (h : w.ownsMap Tryd.prog k R b n D) (hb : Below w.heap.size w w') : w'.ownsMap Tryd.prog k R b n D := by
  obtain ⟨es, clock, h1, h2⟩ := h
  exact ⟨es, clock, (hb.block b (Array.getElem?_eq_some_iff.1 h1).1).trans h1, h2⟩
theorem PcMap.below {w w' : World} {b : Nat} {l : List Pc} (h : PcMap w b l) (hb : Below w.heap.size w w') : PcMap w' b l := by
  obtain ⟨D, h1, h2⟩ := h.ex
  exact ⟨D, own_keep h1 hb, h2⟩
/-- 'p, ok := m[k]': behind it 'intro i t s hat'. -/
theorem wpList_lookup_pc (w : World) {ops : Array Oper} {rest : List Oper} {o : Oper} {a : Act} {Q : Exit → Act → World → Prop} (hg : o.guard = none) (m x : Operand) (hop : o.op = Op.lookup 59 m x true) (b : Nat) (l : List Pc)
    (hm : a.eval m = .map (some b)) (hown : PcMap w b l) (k : Int) (hx : a.eval x = .int .i64 k) (hk : -9223372036854775808 ≤ k ∧ k ≤ 9223372036854775807)
    (hK : ∀ (i t : Int) (s : ByteArray), (∀ p, lastD l k = some p → i = p.id ∧ t = (p.tx : Int) ∧ s = p.dat) → wpList Tryd.prog ops Q rest (a.put o.dst (.tuple #[.agg #[.int .i64 i, .int .u64 t, .string s], .bool (lastD l k).isSome])) w) :
    wpList Tryd.prog ops Q (o :: rest) a w := by
  obtain ⟨D, h1, h2⟩ := hown.ex
  refine wpList_lookup_own_ok w hg m x 59 hop 3 38 keyed3 Tryd.underlying59 pcElem (zeroPc _) _ [] (pcElem_mk _ _ _) b l.length D hm h1 _ _ hx (keyI k hk) fun v ps hv => ?_
  obtain ⟨i, t, s, rfl, he⟩ := pcElem_inv hv
  rw [(h2 k).1]
  refine hK i t s fun p hp => ?_
  have he := congrArg Prod.fst he
  simp only at he
  rw [(h2 k).2 p hp] at he
  simp only [pcDat, DataW.agg.injEq, List.cons.injEq, DataW.lit.injEq, Lit.int.injEq, Lit.string.injEq, and_true, true_and] at he
  obtain ⟨e1, e2, e3⟩ := he
  refine ⟨e1.symm, e2.symm, ?_⟩
  obtain ⟨⟨x⟩⟩ := s
  obtain ⟨_, _, ⟨⟨y⟩⟩⟩ := p
  simp only at e3
  rw [e3]

set_option maxHeartbeats 16000000 in
theorem bbyp_any (vp : Value) (l : List Pc) (w : World) (hn : l.length ≤ 1048640) (hids : ∀ p ∈ l, -9223372036854775808 ≤ p.id ∧ p.id ≤ 9223372036854775807) (hr : PcR w vp l) :
    Calls Tryd.prog 32 #[vp] w fun e w' => ∃ b, e = .returned (.map (some b)) ∧ PcMap w' b l ∧ Below w.heap.size w w' := by
  obtain ⟨x, cap, hv⟩ := hr.form
  subst hv
  obtain ⟨n, hnl⟩ : ∃ n, n = l.length := ⟨_, rfl⟩
  rw [← hnl] at hr hn ⊢
  have q0 := below_new w (.map #[] 0)
  have o0 := World.ownsMap_made (H := Unit) w Tryd.prog 3 pcElem
  have hmm := run_makeMap_hint n
  generalize hW1 : w.alloc (.map #[] 0) = W1 at q0 o0
  have HW := hide hW1
  have HQ0 := hide q0
  have HO0 := hide o0
  have HR := hide hr
  have HN := hide hnl
  have HI := hide hids
  obtain ⟨Q, hQ⟩ : ∃ Q : Ending → World → Prop, Q = fun e w' => ∃ b, e = .returned (.map (some b)) ∧ PcMap w' b l ∧ Below w.heap.size w w' := ⟨_, rfl⟩
  rw [← hQ]
  have HQ := hide hQ
  clear q0 o0 hW1 hQ hr hnl hids
  go_enter Tryd.func32, Tryd.ntmps32
  go_wp2_with fail
  rw [HW.out]
  go_wp2
  go_loopw [11] (fun v wr => ∃ (k : Nat) (D : DataW Unit), v = .int .i64 (k : Int) ∧ k ≤ n ∧ Hid (wr.ownsMap Tryd.prog 3 pcElem w.heap.size k D) ∧ Hid (PcD D (l.take k)) ∧ Below w.heap.size w wr) (fun v _ => n - (intOf v).toNat)
  case atStart => exact ⟨0, _, rfl, Nat.zero_le _, HO0.out, PcD.nil, HQ0.out⟩
  case round =>
    obtain ⟨k, D, rfl, hk, hown, hnd, hbl⟩ := hrel
    have HBL := hide hbl
    by_cases hlt : k < n
    · have hltI : (k : Int) < (n : Int) := by omega
      have j0 : (0 : Int) ≤ (k : Int) := by omega
      have hkl : k < l.length := by have := HN.out; omega
      obtain ⟨a9, cap9, he9, _, _, hc⟩ := HR.out.below hbl
      obtain ⟨g, o, ha, c0, c1, c2⟩ := hc k hkl
      obtain ⟨rfl, -, rfl⟩ : x = a9 ∧ n = l.length ∧ cap = cap9 := by simpa using he9
      subst ha
      have HTK : Hid (l.take (k + 1) = l.take k ++ [l[k]]) := List.take_succ_eq_append_getElem hkl
      have hyb := HI.out l[k] (List.getElem_mem _)
      obtain ⟨y, hy⟩ : ∃ y, y = l[k] := ⟨_, rfl⟩
      rw [← hy] at c0 c1 c2 hyb HTK
      have HKY := hide (keyI y.id hyb)
      have HQV := hide (Below.next hbl (below_new wr (.cells #[.int .i64 y.id, .int .u64 (y.tx : Int), .string y.dat] 38)))
      have HOA := hide (hown.out.alloc (.cells #[.int .i64 y.id, .int .u64 (y.tx : Int), .string y.dat] 38))
      have HND : Hid (PcD (D.put (.int .i64 y.id) (pcDat y.id (y.tx : Int) y.dat)) (l.take (k + 1))) := by
        show PcD _ _
        rw [HTK.out]; exact hnd.out.put HOA.out.isMap
      have HPE := hide (pcElem_mk y.id (y.tx : Int) y.dat)
      have HKM : Hid (k < maxLen) := by show _ < _; unfold maxLen; omega
      have HSZ := hide hbl.size
      clear hnd hown hbl hc he9 hy hyb HTK
      go_wp2_with (first
        | (at_mapUpdate; refine wpList_mapUpdate_own _ rfl _ _ _ 59 rfl 3 38 keyed3 Tryd.underlying59 (pcElem) w.heap.size k D rfl HOA.out HKM.out _ _ _ rfl rfl HKY.out _ [] HPE.out ?_; intro w2 hown2 hgrow2)
        | fail)
      have HB2 : Hid (Below w.heap.size w w2) := HQV.out.grown hgrow2 (by simp; have := HSZ.out; omega) (fun j hj => by cases hj; exact Nat.le_refl _)
      have HO2 := hide hown2
      clear hown2 hgrow2
      go_wp2
      go_roundw
      case rel => exact ⟨k + 1, _, by go_num, by omega, HO2.out, HND.out, HB2.out⟩
      case measure => simp [intOf]; omega
    · have hltI : ¬ (k : Int) < (n : Int) := by omega
      have hke : k = n := by omega
      subst hke
      have HM : Hid (PcMap wr w.heap.size l) := ⟨D, by rw [← HN.out]; exact hown.out, by have := hnd.out; rwa [HN.out, List.take_length] at this⟩
      clear hown hnd hbl
      go_wp2
      rw [HQ.out]
      exact ⟨_, rfl, HM.out, HBL.out⟩
end Go.Proofs.YtpeobpmooledaaaDoor
