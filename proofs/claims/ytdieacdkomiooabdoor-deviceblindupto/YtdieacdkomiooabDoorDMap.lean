import Derived.Test.YtdieacdkomiooabDoorDMath
import Derived.Maps.OwnSet
import Derived.Maps.RangeWalk
import Derived.Maps.Ext
import Derived.Lib.BufferWrite
import Derived.ChangeKeysEq
namespace Go.Proofs.YtdieacdkomiooabDoor
open Go.RowKit Go.Maps

/-- A sector's bytes as an array's value. -/
def arr (t : ByteArray) : Value := .agg (u8s (bl t)).toArray
theorem u8s_inj : ∀ {a b : List UInt8}, u8s a = u8s b → a = b
  | [], [], _ => rfl
  | [], _ :: _, h => by simp [u8s] at h
  | _ :: _, [], h => by simp [u8s] at h
  | x :: a, y :: b, h => by
    simp only [u8s, List.map_cons, List.cons.injEq, Value.int.injEq, true_and] at h
    have e : x = y := UInt8.toNat_inj.1 (by omega)
    rw [e, u8s_inj h.2]
theorem arr_inj {s t : ByteArray} (h : arr s = arr t) : s = t := by
  simp only [arr, Value.agg.injEq] at h
  exact bl_inj (u8s_inj (by simpa using congrArg Array.toList h))
open Classical in
noncomputable def secR (v : Value) : Option (DataW Unit × List MemPlace) := if h : ∃ t : ByteArray, t.size = 512 ∧ v = arr t then some (.lit (.string (bl h.choose)), []) else none
theorem secR_arr {t : ByteArray} (h : t.size = 512) : secR (arr t) = some (.lit (.string (bl t)), []) := by
  have hx : ∃ s : ByteArray, s.size = 512 ∧ arr t = arr s := ⟨t, h, rfl⟩
  unfold secR
  rw [dif_pos hx, arr_inj hx.choose_spec.2.symm]
theorem secR_inv {v : Value} {y : DataW Unit × List MemPlace} (h : secR v = some y) : ∃ t : ByteArray, t.size = 512 ∧ v = arr t ∧ y = (.lit (.string (bl t)), []) := by
  unfold secR at h
  split at h
  · rename_i hx
    exact ⟨hx.choose, hx.choose_spec.1, hx.choose_spec.2, (Option.some.inj h).symm⟩
  · cases h
theorem klaw : Keyed Tryd.prog 3 := int_keyed Tryd.underlying3
theorem kwf {i : Int} (h0 : 0 ≤ i) (h1 : i < 9223372036854775808) : (Lit.int .i64 i).wf = true := WalkArith.wf_i64 (by omega)
theorem kkey {i : Int} (h0 : 0 ≤ i) (h1 : i < 9223372036854775808) : keyOf Tryd.prog 3 (.int .i64 i) = some (.int .i64 i) := keyOf_int_mk Tryd.underlying3 (kwf h0 h1)

def durD (l : List Sec) : DataW Unit := .map (l.map fun x => (.int .i64 x.ix, .lit (.string (bl x.dat))))
theorem durD_filter (i : Int) (l : List Sec) : (l.map fun x => ((.int .i64 x.ix, .lit (.string (bl x.dat))) : Lit × DataW Unit)).filter (fun p => !p.1.sameKey (.int .i64 i)) = (dropD i l).map fun x => (.int .i64 x.ix, .lit (.string (bl x.dat))) := by
  induction l with
  | nil => rfl
  | cons x r ih =>
    have e : (Lit.int .i64 x.ix).sameKey (.int .i64 i) = decide (x.ix = i) := by simp [Lit.sameKey]
    have e2 : dropD i (x :: r) = if x.ix = i then dropD i r else x :: dropD i r := by
      by_cases h : x.ix = i
      · simp [dropD, h]
      · simp [dropD, h]
    rw [List.map_cons, List.filter_cons, ih, e2, e]
    by_cases h : x.ix = i
    · simp [h]
    · simp [h]
theorem durD_ins (i : Int) (t : ByteArray) (l : List Sec) : DataW.insert ((.int .i64 i, .lit (.string (bl t))) : Lit × DataW Unit) (l.map fun x => (.int .i64 x.ix, .lit (.string (bl x.dat)))) = (insD ⟨i, t⟩ l).map fun x => (.int .i64 x.ix, .lit (.string (bl x.dat))) := by
  induction l with
  | nil => rfl
  | cons x r ih =>
    simp only [List.map_cons, DataW.insert, insD, Lit.before]
    by_cases h : i < x.ix
    · simp [h]
    · simp [h, ih]
theorem durD_put (i : Int) (t : ByteArray) (l : List Sec) : (durD l).put (.int .i64 i) (.lit (.string (bl t))) = durD (insD ⟨i, t⟩ (dropD i l)) := by
  show DataW.map (DataW.insert _ (List.filter _ _)) = _
  rw [durD_filter, durD_ins]
  rfl
theorem durD_del (i : Int) (l : List Sec) : (durD l).del (.int .i64 i) = durD (dropD i l) := by
  show DataW.map (List.filter _ _) = _
  rw [durD_filter]
  rfl
theorem durD_has (i : Int) (l : List Sec) : Maps.has (durD l) (.int .i64 i) = l.any fun x => decide (x.ix = i) := by
  show List.any _ _ = _
  rw [List.any_map]
  congr 1
  funext x
  simp [Lit.sameKey]
theorem durD_at (i : Int) (l : List Sec) (z : DataW Unit) : (durD l).atKey (.int .i64 i) z = match l.find? (fun x => decide (x.ix = i)) with | some x => .lit (.string (bl x.dat)) | none => z := by
  have e : ((fun p : Lit × DataW Unit => p.1.sameKey (.int .i64 i)) ∘ fun x : Sec => ((.int .i64 x.ix, .lit (.string (bl x.dat))) : Lit × DataW Unit)) = fun x : Sec => decide (x.ix = i) := by
    funext x; simp [Lit.sameKey]
  unfold durD DataW.atKey
  simp only [List.find?_map, e]
  cases l.find? fun x => decide (x.ix = i) <;> rfl

theorem eqItems_u8 (w : World) (d : Nat) (xs ys : Array Value) (f g : Nat → Nat) : ∀ is : List Nat, (∀ i ∈ is, xs[i]? = some (.int .u8 (f i : Int)) ∧ ys[i]? = some (.int .u8 (g i : Int))) →
    (Op.eqItems (d + 1) 5 1 xs ys is).run Tryd.prog w = .ok (is.all fun i => f i == g i) w
  | [], _ => by simp [Op.eqItems]
  | i :: is, h => by
    obtain ⟨h1, h2⟩ := h i (by simp)
    have ih := eqItems_u8 w d xs ys f g is fun j hj => h j (by simp [hj])
    have p1 := run_part_plain (P := Tryd.prog) w (e := 5) (by kernel_rfl) h1
    have p2 := run_part_plain (P := Tryd.prog) w (e := 5) (by kernel_rfl) h2
    have p3 := run_equalIn_int (P := Tryd.prog) w d 5 .u8 .u8 (f i) (g i) Tryd.underlying5
    simp only [Op.eqItems, Sem.run_bind, Nat.mul_one, p1, p2, p3, Result.andThen_ok]
    by_cases e : f i = g i
    · simp [e, ih]
    · have : ((f i : Int) == (g i : Int)) = false := by simp; omega
      simp [this, e]
theorem arr_ext (x y : List UInt8) (n : Nat) (hx : x.length = n) (hy : y.length = n) : (∀ i, i < n → (x.getD i 0).toNat = (y.getD i 0).toNat) ↔ x = y := by
  constructor
  · intro e
    refine List.ext_getElem (by omega) fun i h1 h2 => ?_
    have := e i (by omega)
    simp only [List.getD_eq_getElem?_getD, List.getElem?_eq_getElem h1, List.getElem?_eq_getElem h2, Option.getD_some] at this
    exact UInt8.toNat_inj.1 this
  · intro e i _; rw [e]
theorem cells5 : Tryd.prog.cellsOf 5 = 1 := by kernel_rfl
theorem und104 : Tryd.prog.underlying 104 = some (.array 512 5) := by kernel_rfl
theorem has5 : (Tryd.prog.info? 5).isSome = true := by kernel_rfl
theorem arr_eq (w : World) (x y : List UInt8) (hx : x.length = 512) (hy : y.length = 512) : (binOp .eql 104 (.agg (u8s x).toArray) (.agg (u8s y).toArray)).run Tryd.prog w = .ok (.bool (decide (x = y))) w := by
  obtain ⟨i5, h5⟩ := Option.isSome_iff_exists.1 has5
  have h := run_equalIn_array (P := Tryd.prog) w 9999 (u8s x).toArray (u8s y).toArray und104 h5
  rw [cells5, eqItems_u8 w 9998 _ _ (fun i => (x.getD i 0).toNat) (fun i => (y.getD i 0).toNat) (List.range 512) (fun i hi => by
    have hi := List.mem_range.1 hi
    constructor
    · simp [u8s, show i < x.length by omega]
    · simp [u8s, show i < y.length by omega])] at h
  rw [run_eql_struct, h, Result.andThen_ok]
  generalize hn : 512 = n at *
  have e0 : ((List.range n).all fun i => (x.getD i 0).toNat == (y.getD i 0).toNat) = decide (x = y) := by
    rw [Bool.eq_iff_iff]
    simp only [List.all_eq_true, List.mem_range, beq_iff_eq, decide_eq_true_eq]
    exact arr_ext x y n hx hy
  rw [e0]

end Go.Proofs.YtdieacdkomiooabDoor
