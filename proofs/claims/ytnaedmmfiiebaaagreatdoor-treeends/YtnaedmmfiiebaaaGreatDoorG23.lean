import Derived.Test.YtnaedmmfiiebaaaGreatDoorProg
import Derived.WalkKit
import Derived.WalkSpells
import Derived.WalkLawsBesides
import Derived.Deep.AppendLies
import Derived.BigQuiet
import Derived.KernelRfl
import Derived.Maps.OwnSet
import Derived.Maps.RangeWalk
import Derived.Maps.Ext
import Derived.Lib.BufferWrite
import Derived.ChangeKeysEq
import Derived.Deep.MidRow
import Derived.Deep.WholeRow
import Derived.Laws.CopyOwn
import Derived.Deep.RegionHeld3
namespace Go.Proofs.YtnaedmmfiiebaaaGreatDoor.S.V
open Go.RowKit

def u8s (l : List UInt8) : List Value := l.map (fun c => Value.int .u8 (c.toNat : Int))
theorem u8s_length (l : List UInt8) : (u8s l).length = l.length := by simp [u8s]
theorem u8s_append (a b : List UInt8) : u8s (a ++ b) = u8s a ++ u8s b := by simp [u8s]
theorem u8s_get (l : List UInt8) (j : Nat) (h : j < l.length) : (u8s l)[j]? = some (.int .u8 (l[j].toNat : Int)) := by simp [u8s, h]
theorem u8s_one (l : List UInt8) : ∀ u ∈ u8s l, u.oneCell' = true := by
  intro u hu
  simp only [u8s, List.mem_map] at hu
  obtain ⟨c, _, rfl⟩ := hu
  rfl
theorem bsize (s : ByteArray) : s.data.toList.length = s.size := by simp
theorem Tryz.info5 : (Tryz.prog.info? 5).map (fun i => (i.zero, i.size, i.bytes)) = some (some (.int .u8 0), 1, 1) := by kernel_rfl

end Go.Proofs.YtnaedmmfiiebaaaGreatDoor.S.V

namespace Go.Proofs.YtnaedmmfiiebaaaGreatDoor.S.V
open Go.RowKit

/-- A block of the call's own that holds a struct's cells. -/
def Boxed (b : Nat) (cs : List Value) (w : World) : Prop := b < w.heap.size ∧ ∀ j (h : j < cs.length), w.cell? ⟨b, j, none⟩ = some cs[j]
theorem Boxed.below {b : Nat} {cs : List Value} {w w' : World} (h : Boxed b cs w) (hb : Below w.heap.size w w') : Boxed b cs w' :=
  ⟨Nat.lt_of_lt_of_le h.1 hb.size, fun j hj => (hb.cell (p := ⟨b, j, none⟩) h.1).trans (h.2 j hj)⟩
theorem boxed_new (w : World) (cs : Array Value) (t : TypeId) : Boxed w.heap.size cs.toList (w.alloc (.cells cs t)) := by
  refine ⟨by simp, fun j hj => ?_⟩
  have h : (w.alloc (.cells cs t)).heap[w.heap.size]? = some (.cells cs t (0, 0)) := heap_alloc_new w _
  rw [cell_of_row _ w.heap.size j cs t (0, 0) h]
  simp only [Array.length_toList] at hj
  simp [hj]
theorem below_new (w : World) (o : Obj) : Below w.heap.size w (w.alloc o) := (Below.refl _ _).alloc (Nat.le_refl _) o
/-- Two steps, each kept below its own beginning. -/
theorem Below.next {a b c : World} (h : Below a.heap.size a b) (k : Below b.heap.size b c) : Below a.heap.size a c := h.trans (k.mono h.size)

end Go.Proofs.YtnaedmmfiiebaaaGreatDoor.S.V

namespace Go.Proofs.YtnaedmmfiiebaaaGreatDoor.S.V
open Go.RowKit

/-- A sector of a list: its number, its bytes. -/
structure Sec where
  ix : Int
  dat : ByteArray
structure Fate where
  ix : Int
  kind : Int
  cut : Int
  junk : ByteArray
structure Armed where
  after : Int
  fates : List Fate
structure Dev where
  size : Int
  dur : List Sec
  pend : List Sec
  arms : List Armed
  dead : Bool
  nr : Int
  nw : Int
  ns : Int

def bl (t : ByteArray) : List UInt8 := t.data.toList
def mkb (l : List UInt8) : ByteArray := ⟨l.toArray⟩
theorem bl_mkb (l : List UInt8) : bl (mkb l) = l := by simp [bl, mkb]
theorem mkb_bl (t : ByteArray) : mkb (bl t) = t := by simp [bl, mkb]
theorem bl_len (t : ByteArray) : (bl t).length = t.size := by simp [bl]
theorem mkb_size (l : List UInt8) : (mkb l).size = l.length := by rw [← bl_len, bl_mkb]
theorem bl_inj {s t : ByteArray} (h : bl s = bl t) : s = t := by rw [← mkb_bl s, h, mkb_bl]

def zeros (n : Nat) : List UInt8 := List.replicate n 0
theorem zeros_len (n : Nat) : (zeros n).length = n := by simp [zeros]
def zsec : ByteArray := mkb (zeros 512)
theorem zsec_size : zsec.size = 512 := by rw [zsec, mkb_size, zeros_len]
def allZ (t : ByteArray) : Bool := decide (bl t = zeros t.size)
/-- A text and zero bytes behind it, 512 in all. -/
def pad (t : ByteArray) : ByteArray := mkb (bl t ++ zeros (512 - t.size))
theorem pad_size (t : ByteArray) (h : t.size ≤ 512) : (pad t).size = 512 := by rw [pad, mkb_size, List.length_append, bl_len, zeros_len]; omega
theorem pad_full (t : ByteArray) (h : t.size = 512) : pad t = t := by
  unfold pad
  rw [h]
  simp [zeros, mkb_bl]

def dropD (i : Int) (l : List Sec) : List Sec := l.filter fun x => decide (x.ix ≠ i)
def insD (x : Sec) : List Sec → List Sec
  | [] => [x]
  | y :: r => if x.ix < y.ix then x :: y :: r else y :: insD x r
/-- The sectors that are durable, behind such bytes for that sector. -/
def setD (l : List Sec) (i : Int) (t : ByteArray) : List Sec := if allZ t then dropD i l else insD ⟨i, t⟩ (dropD i l)
def lasting (l : List Sec) (i : Int) : ByteArray := match l.find? (fun x => decide (x.ix = i)) with | some x => x.dat | none => zsec
/-- The last of a list with that number: its place. -/
def lastIx : List Sec → Int → Option Nat
  | [], _ => none
  | x :: r, i => match lastIx r i with | some k => some (k + 1) | none => if x.ix = i then some 0 else none
def standing (d : Dev) (i : Int) : ByteArray := match lastIx d.pend i with | some k => ((d.pend[k]?).map Sec.dat).getD zsec | none => lasting d.dur i

def clampN (n lo hi : Int) : Int := if n < lo then lo else if n > hi then hi else n
def cutOf (c : Int) : Nat := (clampN c 0 512).toNat
def tornB (d : ByteArray) (f : Fate) : ByteArray := mkb (((bl d).take (cutOf f.cut) ++ bl f.junk ++ zeros 512).take 512)
def meetD (pend dur : List Sec) (f : Fate) : List Sec := match pend[f.ix.toNat]? with
  | some x => if f.kind = 2 then setD dur x.ix x.dat else if f.kind = 3 then setD dur x.ix (tornB x.dat f) else dur
  | none => dur
def settleD (pend : List Sec) : List Int → List Sec → List Fate → List Sec
  | _, dur, [] => dur
  | seen, dur, f :: r => if f.ix < 0 ∨ (pend.length : Int) ≤ f.ix ∨ f.ix ∈ seen then settleD pend seen dur r else settleD pend (f.ix :: seen) (meetD pend dur f) r
def Dev.kill (d : Dev) (l : List Fate) : Dev := { d with dur := settleD d.pend [] d.dur l, pend := [], dead := true }
def Dev.done (d : Dev) : Dev × Nat := match d.arms with
  | [] => (d, 0)
  | a :: r => if 0 < a.after then ({ d with arms := { a with after := a.after - 1 } :: r }, 0) else ({ d with arms := r }.kill a.fates, 8)
def Dev.fits (d : Dev) (s n : Int) : Bool := decide (0 ≤ s ∧ 0 ≤ n ∧ s ≤ d.size - n)
def readB (d : Dev) (s : Int) (n : Nat) : List UInt8 := (List.range n).flatMap fun i : Nat => bl (standing d (s + (i : Int)))
theorem readB_succ (d : Dev) (s : Int) (n : Nat) : readB d s (n + 1) = readB d s n ++ bl (standing d (s + n)) := by simp [readB, List.range_succ, List.flatMap_append]
def Dev.read (d : Dev) (s n : Int) : Dev × List UInt8 × Nat :=
  if d.dead then (d, [], 8)
  else if d.fits s n = false then (d, [], 1)
  else if 1024 < n then (d, [], 3)
  else ({ d with nr := wrap64 (d.nr + n) }, readB d s n.toNat, 0)
def newDev (n : Int) : Dev := ⟨clampN n 0 8388615, [], [], [], false, 0, 0, 0⟩
/-- The sectors that a device is opened over: they rise, have their bytes, lie on it. -/
def opens (size : Int) : Int → List Sec → Bool
  | _, [] => true
  | least, x :: r => decide (least ≤ x.ix ∧ x.ix < size ∧ x.dat.size = 512) && opens size (x.ix + 1) r
def openD (l : List Sec) : List Sec := l.filter fun x => !allZ x.dat

/-- What may lie on a device. -/
structure SecOk (size : Int) (x : Sec) : Prop where
  lo : 0 ≤ x.ix
  hi : x.ix < size
  len : x.dat.size = 512
structure Dev.Ok (d : Dev) : Prop where
  s0 : 0 ≤ d.size
  s1 : d.size ≤ 8388615
  dur : ∀ x ∈ d.dur, SecOk d.size x ∧ allZ x.dat = false
  rise : d.dur.Pairwise fun x y => x.ix < y.ix
  pend : ∀ x ∈ d.pend, SecOk d.size x
  arms : ∀ a ∈ d.arms, 0 ≤ a.after ∧ a.after < 9223372036854775808

theorem dropD_mem {i : Int} {l : List Sec} {x : Sec} (h : x ∈ dropD i l) : x ∈ l ∧ x.ix ≠ i := by simpa [dropD] using h
theorem insD_mem {x y : Sec} : ∀ {l : List Sec}, y ∈ insD x l → y = x ∨ y ∈ l
  | [], h => by simp [insD] at h; exact .inl h
  | z :: r, h => by
    unfold insD at h
    split at h
    · simpa using h
    · rcases List.mem_cons.1 h with e | h'
      · exact .inr (by simp [e])
      · rcases insD_mem h' with e | e
        · exact .inl e
        · exact .inr (by simp [e])
theorem insD_rise {x : Sec} : ∀ {l : List Sec}, l.Pairwise (fun x y => x.ix < y.ix) → (∀ y ∈ l, y.ix ≠ x.ix) → (insD x l).Pairwise fun x y => x.ix < y.ix
  | [], _, _ => by simp [insD]
  | z :: r, h, hn => by
    obtain ⟨h1, h2⟩ := List.pairwise_cons.1 h
    unfold insD
    split
    · rename_i hlt
      exact List.pairwise_cons.2 ⟨fun y hy => by
        rcases List.mem_cons.1 hy with e | hy
        · rw [e]; exact hlt
        · exact Int.lt_trans hlt (h1 y hy), h⟩
    · rename_i hge
      have hz := hn z (by simp)
      refine List.pairwise_cons.2 ⟨fun y hy => ?_, insD_rise h2 fun y hy => hn y (by simp [hy])⟩
      rcases insD_mem hy with e | e
      · rw [e]; omega
      · exact h1 y e
theorem setD_ok {size : Int} {l : List Sec} {i : Int} {t : ByteArray} (h : ∀ x ∈ l, SecOk size x ∧ allZ x.dat = false) (hr : l.Pairwise fun x y => x.ix < y.ix) (hi : SecOk size ⟨i, t⟩) :
    (∀ x ∈ setD l i t, SecOk size x ∧ allZ x.dat = false) ∧ (setD l i t).Pairwise fun x y => x.ix < y.ix := by
  have hd : (dropD i l).Pairwise fun x y => x.ix < y.ix := hr.sublist List.filter_sublist
  unfold setD
  cases hz : allZ t
  · refine ⟨fun x hx => ?_, insD_rise hd fun y hy => (dropD_mem hy).2⟩
    rcases insD_mem hx with e | e
    · rw [e]; exact ⟨hi, hz⟩
    · exact h x (dropD_mem e).1
  · exact ⟨fun x hx => h x (dropD_mem hx).1, hd⟩
theorem tornB_size (d : ByteArray) (f : Fate) : (tornB d f).size = 512 := by
  rw [tornB, mkb_size, List.length_take, List.length_append, zeros_len]
  omega
theorem meetD_ok {size : Int} {pend dur : List Sec} (hp : ∀ x ∈ pend, SecOk size x) (h : ∀ x ∈ dur, SecOk size x ∧ allZ x.dat = false) (hr : dur.Pairwise fun x y => x.ix < y.ix) (f : Fate) :
    (∀ x ∈ meetD pend dur f, SecOk size x ∧ allZ x.dat = false) ∧ (meetD pend dur f).Pairwise fun x y => x.ix < y.ix := by
  unfold meetD
  cases hx : pend[f.ix.toNat]? with
  | none => exact ⟨h, hr⟩
  | some x =>
    have hok := hp x (List.mem_of_getElem? hx)
    simp only []
    split
    · exact setD_ok h hr hok
    · split
      · exact setD_ok h hr ⟨hok.lo, hok.hi, tornB_size _ _⟩
      · exact ⟨h, hr⟩
theorem settleD_ok {size : Int} {pend : List Sec} (hp : ∀ x ∈ pend, SecOk size x) : ∀ (l : List Fate) (seen : List Int) (dur : List Sec), (∀ x ∈ dur, SecOk size x ∧ allZ x.dat = false) → (dur.Pairwise fun x y => x.ix < y.ix) →
    (∀ x ∈ settleD pend seen dur l, SecOk size x ∧ allZ x.dat = false) ∧ (settleD pend seen dur l).Pairwise fun x y => x.ix < y.ix
  | [], _, _, h, hr => ⟨h, hr⟩
  | f :: r, seen, dur, h, hr => by
    unfold settleD
    split
    · exact settleD_ok hp r seen dur h hr
    · obtain ⟨h', hr'⟩ := meetD_ok hp h hr f
      exact settleD_ok hp r _ _ h' hr'
theorem Dev.Ok.kill {d : Dev} (h : d.Ok) (l : List Fate) : (d.kill l).Ok := by
  obtain ⟨h1, h2⟩ := settleD_ok h.pend l [] d.dur h.dur h.rise
  exact ⟨h.s0, h.s1, h1, h2, by simp [Dev.kill], h.arms⟩
theorem Dev.Ok.done {d : Dev} (h : d.Ok) : d.done.1.Ok := by
  unfold Dev.done
  cases ha : d.arms with
  | nil => exact h
  | cons a r =>
    simp only []
    have h0 := h.arms a (by rw [ha]; simp)
    have h1 : ∀ b ∈ r, 0 ≤ b.after ∧ b.after < 9223372036854775808 := fun b hb => h.arms b (by rw [ha]; simp [hb])
    split
    · exact ⟨h.s0, h.s1, h.dur, h.rise, h.pend, fun b hb => by
        rcases List.mem_cons.1 hb with e | e
        · rw [e]; simp only []; omega
        · exact h1 b e⟩
    · exact Dev.Ok.kill (d := { d with arms := r }) ⟨h.s0, h.s1, h.dur, h.rise, h.pend, h1⟩ a.fates
theorem Dev.Ok.read {d : Dev} (h : d.Ok) (s n : Int) : (d.read s n).1.Ok := by
  unfold Dev.read
  split
  · exact h
  · split
    · exact h
    · split
      · exact h
      · exact ⟨h.s0, h.s1, h.dur, h.rise, h.pend, h.arms⟩
theorem newDev_ok (n : Int) : (newDev n).Ok := by
  refine ⟨?_, ?_, by simp [newDev], by simp [newDev], by simp [newDev], by simp [newDev]⟩
  · simp only [newDev, clampN]; split <;> (try split) <;> omega
  · simp only [newDev, clampN]; split <;> (try split) <;> omega
theorem lasting_size {size : Int} {l : List Sec} (h : ∀ x ∈ l, SecOk size x ∧ allZ x.dat = false) (i : Int) : (lasting l i).size = 512 := by
  unfold lasting
  cases hf : l.find? (fun x => decide (x.ix = i)) with
  | none => exact zsec_size
  | some x => exact (h x (List.mem_of_find?_eq_some hf)).1.len
theorem lastIx_lt : ∀ {l : List Sec} {i : Int} {k : Nat}, lastIx l i = some k → k < l.length
  | [], _, _, h => by simp [lastIx] at h
  | x :: r, i, k, h => by
    unfold lastIx at h
    cases hr : lastIx r i with
    | some j =>
      rw [hr] at h
      simp only [Option.some.injEq] at h
      have := lastIx_lt hr
      simp
      omega
    | none =>
      rw [hr] at h
      simp only [] at h
      split at h
      · simp only [Option.some.injEq] at h; simp; omega
      · cases h
theorem standing_size {d : Dev} (h : d.Ok) (i : Int) : (standing d i).size = 512 := by
  unfold standing
  cases hk : lastIx d.pend i with
  | none => exact lasting_size h.dur i
  | some k =>
    have hlt := lastIx_lt hk
    simp only [List.getElem?_eq_getElem hlt, Option.map_some, Option.getD_some]
    exact (h.pend _ (List.getElem_mem hlt)).len
theorem readB_len {d : Dev} (h : d.Ok) (s : Int) : ∀ n, (readB d s n).length = n * 512
  | 0 => by simp [readB]
  | n + 1 => by rw [readB_succ, List.length_append, readB_len h s n, bl_len, standing_size h]; omega
end Go.Proofs.YtnaedmmfiiebaaaGreatDoor.S.V

namespace Go.Proofs.YtnaedmmfiiebaaaGreatDoor.S.V
open Go.RowKit Go.Maps

/-- A sector's bytes as an array's value. -/
def arr (t : ByteArray) : Value := .agg (u8s (bl t)).toArray
theorem u8s_inj : ∀ {a b : List UInt8}, u8s a = u8s b → a = b
  | [], [], _ => rfl
  | [], _ :: _, h => by simp [u8s] at h
  | _ :: _, [], h => by simp [u8s] at h
  | x :: a, y :: b, h => by
    simp only [u8s, List.map_cons, List.cons.injEq, Value.int.injEq, true_and] at h
    have e : x = y := UInt8.toNat_inj.1 (by omega)
    rw [e, u8s_inj h.2]
theorem arr_inj {s t : ByteArray} (h : arr s = arr t) : s = t := by
  simp only [arr, Value.agg.injEq] at h
  exact bl_inj (u8s_inj (by simpa using congrArg Array.toList h))
open Classical in
noncomputable def secR (v : Value) : Option (DataW Unit × List MemPlace) := if h : ∃ t : ByteArray, t.size = 512 ∧ v = arr t then some (.lit (.string (bl h.choose)), []) else none
theorem secR_arr {t : ByteArray} (h : t.size = 512) : secR (arr t) = some (.lit (.string (bl t)), []) := by
  have hx : ∃ s : ByteArray, s.size = 512 ∧ arr t = arr s := ⟨t, h, rfl⟩
  unfold secR
  rw [dif_pos hx, arr_inj hx.choose_spec.2.symm]
theorem secR_inv {v : Value} {y : DataW Unit × List MemPlace} (h : secR v = some y) : ∃ t : ByteArray, t.size = 512 ∧ v = arr t ∧ y = (.lit (.string (bl t)), []) := by
  unfold secR at h
  split at h
  · rename_i hx
    exact ⟨hx.choose, hx.choose_spec.1, hx.choose_spec.2, (Option.some.inj h).symm⟩
  · cases h
theorem klaw : Keyed Tryz.prog 3 := int_keyed Tryz.underlying3
theorem kwf {i : Int} (h0 : 0 ≤ i) (h1 : i < 9223372036854775808) : (Lit.int .i64 i).wf = true := WalkArith.wf_i64 (by omega)
theorem kkey {i : Int} (h0 : 0 ≤ i) (h1 : i < 9223372036854775808) : keyOf Tryz.prog 3 (.int .i64 i) = some (.int .i64 i) := keyOf_int_mk Tryz.underlying3 (kwf h0 h1)

def durD (l : List Sec) : DataW Unit := .map (l.map fun x => (.int .i64 x.ix, .lit (.string (bl x.dat))))
theorem durD_filter (i : Int) (l : List Sec) : (l.map fun x => ((.int .i64 x.ix, .lit (.string (bl x.dat))) : Lit × DataW Unit)).filter (fun p => !p.1.sameKey (.int .i64 i)) = (dropD i l).map fun x => (.int .i64 x.ix, .lit (.string (bl x.dat))) := by
  induction l with
  | nil => rfl
  | cons x r ih =>
    have e : (Lit.int .i64 x.ix).sameKey (.int .i64 i) = decide (x.ix = i) := by simp [Lit.sameKey]
    have e2 : dropD i (x :: r) = if x.ix = i then dropD i r else x :: dropD i r := by
      by_cases h : x.ix = i
      · simp [dropD, h]
      · simp [dropD, h]
    rw [List.map_cons, List.filter_cons, ih, e2, e]
    by_cases h : x.ix = i
    · simp [h]
    · simp [h]
theorem durD_ins (i : Int) (t : ByteArray) (l : List Sec) : DataW.insert ((.int .i64 i, .lit (.string (bl t))) : Lit × DataW Unit) (l.map fun x => (.int .i64 x.ix, .lit (.string (bl x.dat)))) = (insD ⟨i, t⟩ l).map fun x => (.int .i64 x.ix, .lit (.string (bl x.dat))) := by
  induction l with
  | nil => rfl
  | cons x r ih =>
    simp only [List.map_cons, DataW.insert, insD, Lit.before]
    by_cases h : i < x.ix
    · simp [h]
    · simp [h, ih]
theorem durD_put (i : Int) (t : ByteArray) (l : List Sec) : (durD l).put (.int .i64 i) (.lit (.string (bl t))) = durD (insD ⟨i, t⟩ (dropD i l)) := by
  show DataW.map (DataW.insert _ (List.filter _ _)) = _
  rw [durD_filter, durD_ins]
  rfl
theorem durD_del (i : Int) (l : List Sec) : (durD l).del (.int .i64 i) = durD (dropD i l) := by
  show DataW.map (List.filter _ _) = _
  rw [durD_filter]
  rfl
theorem durD_has (i : Int) (l : List Sec) : Maps.has (durD l) (.int .i64 i) = l.any fun x => decide (x.ix = i) := by
  show List.any _ _ = _
  rw [List.any_map]
  congr 1
  funext x
  simp [Lit.sameKey]
theorem durD_at (i : Int) (l : List Sec) (z : DataW Unit) : (durD l).atKey (.int .i64 i) z = match l.find? (fun x => decide (x.ix = i)) with | some x => .lit (.string (bl x.dat)) | none => z := by
  have e : ((fun p : Lit × DataW Unit => p.1.sameKey (.int .i64 i)) ∘ fun x : Sec => ((.int .i64 x.ix, .lit (.string (bl x.dat))) : Lit × DataW Unit)) = fun x : Sec => decide (x.ix = i) := by
    funext x; simp [Lit.sameKey]
  unfold durD DataW.atKey
  simp only [List.find?_map, e]
  cases l.find? fun x => decide (x.ix = i) <;> rfl

theorem eqItems_u8 (w : World) (d : Nat) (xs ys : Array Value) (f g : Nat → Nat) : ∀ is : List Nat, (∀ i ∈ is, xs[i]? = some (.int .u8 (f i : Int)) ∧ ys[i]? = some (.int .u8 (g i : Int))) →
    (Op.eqItems (d + 1) 5 1 xs ys is).run Tryz.prog w = .ok (is.all fun i => f i == g i) w
  | [], _ => by simp [Op.eqItems]
  | i :: is, h => by
    obtain ⟨h1, h2⟩ := h i (by simp)
    have ih := eqItems_u8 w d xs ys f g is fun j hj => h j (by simp [hj])
    have p1 := run_part_plain (P := Tryz.prog) w (e := 5) (by kernel_rfl) h1
    have p2 := run_part_plain (P := Tryz.prog) w (e := 5) (by kernel_rfl) h2
    have p3 := run_equalIn_int (P := Tryz.prog) w d 5 .u8 .u8 (f i) (g i) Tryz.underlying5
    simp only [Op.eqItems, Sem.run_bind, Nat.mul_one, p1, p2, p3, Result.andThen_ok]
    by_cases e : f i = g i
    · simp [e, ih]
    · have : ((f i : Int) == (g i : Int)) = false := by simp; omega
      simp [this, e]
theorem arr_ext (x y : List UInt8) (n : Nat) (hx : x.length = n) (hy : y.length = n) : (∀ i, i < n → (x.getD i 0).toNat = (y.getD i 0).toNat) ↔ x = y := by
  constructor
  · intro e
    refine List.ext_getElem (by omega) fun i h1 h2 => ?_
    have := e i (by omega)
    simp only [List.getD_eq_getElem?_getD, List.getElem?_eq_getElem h1, List.getElem?_eq_getElem h2, Option.getD_some] at this
    exact UInt8.toNat_inj.1 this
  · intro e i _; rw [e]
theorem cells5 : Tryz.prog.cellsOf 5 = 1 := by kernel_rfl
theorem und144 : Tryz.prog.underlying 144 = some (.array 512 5) := by kernel_rfl
theorem has5 : (Tryz.prog.info? 5).isSome = true := by kernel_rfl
theorem arr_eq (w : World) (x y : List UInt8) (hx : x.length = 512) (hy : y.length = 512) : (binOp .eql 144 (.agg (u8s x).toArray) (.agg (u8s y).toArray)).run Tryz.prog w = .ok (.bool (decide (x = y))) w := by
  obtain ⟨i5, h5⟩ := Option.isSome_iff_exists.1 has5
  have h := run_equalIn_array (P := Tryz.prog) w 9999 (u8s x).toArray (u8s y).toArray und144 h5
  rw [cells5, eqItems_u8 w 9998 _ _ (fun i => (x.getD i 0).toNat) (fun i => (y.getD i 0).toNat) (List.range 512) (fun i hi => by
    have hi := List.mem_range.1 hi
    constructor
    · simp [u8s, show i < x.length by omega]
    · simp [u8s, show i < y.length by omega])] at h
  rw [run_eql_struct, h, Result.andThen_ok]
  generalize hn : 512 = n at *
  have e0 : ((List.range n).all fun i => (x.getD i 0).toNat == (y.getD i 0).toNat) = decide (x = y) := by
    rw [Bool.eq_iff_iff]
    simp only [List.all_eq_true, List.mem_range, beq_iff_eq, decide_eq_true_eq]
    exact arr_ext x y n hx hy
  rw [e0]

end Go.Proofs.YtnaedmmfiiebaaaGreatDoor.S.V

namespace Go.Proofs.YtnaedmmfiiebaaaGreatDoor.S.V
open Go.RowKit Go.Maps

theorem zc : Tryz.zeroCells144 = (u8s (zeros 512)).toArray := by kernel_rfl
theorem sizeArr : (Tryz.prog.info? 144).map (·.size) = some 512 := by kernel_rfl
theorem size5 : (Tryz.prog.info? 5).map (·.size) = some 1 := by kernel_rfl
theorem byteCells_u8s (l : List UInt8) : Lib.byteCells l = u8s l := rfl
theorem zdrop (k n : Nat) : (u8s (zeros n)).drop k = u8s (zeros (n - k)) := by
  rw [u8s, u8s, zeros, zeros, List.map_replicate, List.map_replicate, List.drop_replicate]
theorem zjoin (t : ByteArray) : (Tryz.zeroCells144.toList.take 0 ++ Lib.byteCells t.data.toList ++ Tryz.zeroCells144.toList.drop (0 + t.size)).toArray = (u8s (bl (pad t))).toArray := by
  rw [zc, List.take_zero, List.nil_append, Nat.zero_add, zdrop, pad, bl_mkb, u8s_append]
  rfl
theorem zcopy (t : ByteArray) (w : World) (ht : t.size ≤ 512) : ∃ w2, (Builtin.copy_ #[145, 9] 3 #[.slice (some ⟨w.heap.size, 0, none⟩) 512 512, .string t]).run Tryz.prog (w.alloc (.cells Tryz.zeroCells144 144)) = .ok (goInt t.size) w2 ∧
    w2.heap[w.heap.size]? = some (.cells (u8s (bl (pad t))).toArray 144 (0, 0)) ∧ Below w.heap.size w w2 := by
  have hnew := heap_alloc_new w (.cells Tryz.zeroCells144 144)
  have hsz : Tryz.zeroCells144.size = 512 := by rw [zc, List.size_toArray, u8s_length, zeros_len]
  have hrun := Lib.run_copy_row_string (P := Tryz.prog) (w.alloc (.cells Tryz.zeroCells144 144)) 145 9 3 5 w.heap.size 0 512 512 t _ 144 Tryz.underlying145 size5 hnew ht (by rw [hsz]; omega)
  rw [zjoin] at hrun
  exact ⟨_, hrun, setRow_heap _ w.heap.size _ _ 144 _ hnew, below_setRow (below_new w _) (Nat.le_refl _) _⟩
theorem zload (w2 : World) (g : Nat) (t : ByteArray) (ht : t.size = 512) (h : w2.heap[g]? = some (.cells (u8s (bl t)).toArray 144 (0, 0))) : (Instr.loadAt 144 (.pointer (some ⟨g, 0, none⟩))).run Tryz.prog w2 = .ok (arr t) w2 := by
  simp only [Instr.loadAt, Instr.sureAddr, Sem.run_bind, Sem.run_pure, Result.andThen_ok]
  exact run_loadVar_row (P := Tryz.prog) w2 g 144 144 _ _ _ h und144 rfl (by rw [sizeArr, List.size_toArray, u8s_length, bl_len, ht])
theorem zguard (w : World) (x y : Operand) (t : ByteArray) : (eqGuard .eql 144 x y (arr t) (.agg Tryz.zeroCells144)).run Tryz.prog w = .ok () w := run_eqGuard_agg w .eql 144 x y _ _ (by kernel_rfl)
theorem zeq (w : World) (t : ByteArray) (ht : t.size = 512) : (binOp .eql 144 (arr t) (.agg Tryz.zeroCells144)).run Tryz.prog w = .ok (.bool (allZ t)) w := by
  rw [zc, arr, arr_eq w _ _ (by rw [bl_len]; exact ht) (zeros_len 512), allZ, ht]

theorem wpList_load_eq {P : Program} {ops : Array Oper} {rest : List Oper} {op : Oper} {a : Act} {w : World} {Q : Exit → Act → World → Prop} (hgd : op.guard = none) (ty : TypeId) (x : Operand) (ho : op.op = .load ty x)
    (p v : Value) (hx : a.eval x = p) (hrun : (Instr.loadAt ty p).run P w = .ok v w) (h : wpList P ops Q rest (a.put op.dst v) w) : wpList P ops Q (op :: rest) a w :=
  wpList_plain hgd fun _ hK => by
    unfold Oper.wp execOp
    simp only [ho, hx, Sem.run_bind, hrun, Result.andThen_ok, Sem.run_pure]
    exact hK _ _ h

end Go.Proofs.YtnaedmmfiiebaaaGreatDoor.S.V

namespace Go.Proofs.YtnaedmmfiiebaaaGreatDoor.S.V
open Go.RowKit Go.Maps

set_option maxRecDepth 100000 in
set_option maxHeartbeats 400000 in
theorem maked_any (b mb n : Nat) (i : Int) (t : ByteArray) (l : List Sec) (w : World) (c1 : w.cell? ⟨b, 1, none⟩ = some (.map (some mb))) (hown : w.ownsMap Tryz.prog 3 secR mb n (durD l)) (ht : t.size ≤ 512) (h0 : 0 ≤ i) (h1 : i < 9223372036854775808) (hn : n < maxLen) :
    Calls Tryz.prog 42 #[.pointer (some ⟨b, 0, none⟩), .int .i64 i, .string t] w fun e w' => e = .returned (.tuple #[]) ∧ w'.ownsMap Tryz.prog 3 secR mb (n + 1) (durD (setD l i (pad t))) ∧ w.grownBy w' (some mb) := by
  obtain ⟨w2, hcp, hb2, hbel⟩ := zcopy t w ht
  have hps := pad_size t ht
  have hld := zload w2 w.heap.size (pad t) hps hb2
  have heq := fun w => zeq w (pad t) hps
  have hgd := fun w x y => zguard w x y (pad t)
  have hg2 : w.grownBy w2 (some mb) := ⟨hbel.os, hbel.tape, hbel.output, hbel.size, fun k hk _ => hbel.block k hk⟩
  have hown2 := hown.kept (row := none) ⟨hbel.os, hbel.tape, hbel.output, hbel.size, fun k hk _ => hbel.block k hk⟩ (by simp)
  have c2 : w2.cell? ⟨b, 1, none⟩ = some (.map (some mb)) := (hbel.cell (p := ⟨b, 1, none⟩) (World.block_lt_of_cell? w _ c1)).trans c1
  have HS : Hid (setD l i (pad t) = if allZ (pad t) then dropD i l else insD ⟨i, pad t⟩ (dropD i l)) := (rfl : setD l i (pad t) = _)
  have hR := secR_arr hps
  obtain ⟨w3, hrun3, hown3, hturn3⟩ := hown2.drew.store klaw Tryz.underlying138 hn (kkey h0 h1) hR
  have hrg : w2.rangeAt w.heap.size 0 (u8s (bl (pad t))) := fun j u hu => by
    rw [cell_of_row _ _ _ _ _ _ hb2, Nat.zero_add]; simpa using hu
  have hlen : (Tryz.prog.info? 144).map (·.size) = some (u8s (bl (pad t))).length := by rw [sizeArr, u8s_length, bl_len, hps]
  have hg3 : w2.grownBy w3 (some mb) := ⟨hturn3.grown.os, hturn3.grown.tape, hturn3.grown.output, hturn3.grown.size, hturn3.grown.block⟩
  have hbm : b ≠ mb := fun e => by
    obtain ⟨es, ck, hb, _⟩ := hown2
    rw [e, World.cell?, hb] at c2; cases c2
  have c3 : w3.cell? ⟨b, 1, none⟩ = some (.map (some mb)) := (World.cell?_of_block (a := ⟨b, 1, none⟩) (hturn3.grown.block b (World.block_lt_of_cell? _ _ c2) (by simpa using hbm))).trans c2
  have hsm : w.heap.size ≠ mb := fun e => by have := hown.lt; omega
  have hrg3 : w3.rangeAt w.heap.size 0 (u8s (bl (pad t))) := fun j u hu => (World.cell?_of_block (a := ⟨w.heap.size, 0 + j, none⟩) (hturn3.grown.block w.heap.size (World.block_lt_of_cell? _ _ (hrg j u hu)) (by simpa using hsm))).trans (hrg j u hu)
  unfold arr at hld heq hgd hR hrun3
  obtain ⟨cs, hcs⟩ : ∃ cs, cs = u8s (bl (pad t)) := ⟨_, rfl⟩
  obtain ⟨p, hp⟩ : ∃ p, p = pad t := ⟨_, rfl⟩
  rw [← hcs] at hld hR hrun3 hrg hlen hrg3
  simp only [← hcs] at heq hgd
  rw [← hp] at HS hR hown3 ⊢
  simp only [← hp] at heq
  rw [durD_put] at hown3
  have hun := und144
  clear hown c1 hps hp hcs hb2
  go_enter Tryz.func42, Tryz.ntmps42
  cases hz : allZ p
  · rw [hz] at heq
    go_wp2_with (first | (refine wpList_load_eq rfl 144 _ rfl _ _ rfl hld ?_))
    go_region_held3 (fun w' => w'.cell? ⟨b, 1, none⟩ = some (.map (some mb)) ∧ w'.rangeAt w.heap.size 0 cs) (first | exact ⟨c2, hrg⟩ | exact ⟨c3, hrg3⟩ | go_keep) (fail)
    go_end0
    refine ⟨rfl, ?_, hg2.andThen hg3 (fun j hj => .inr (by simpa using hj))⟩
    rw [HS.out, hz]
    exact hown3
  · rw [hz] at heq
    go_wp2_with (first | (refine wpList_load_eq rfl 144 _ rfl _ _ rfl hld ?_) | (at_delete; refine wpList_delete_own _ rfl _ _ 138 3 rfl 144 klaw Tryz.underlying138 _ mb n _ rfl hown2 _ _ rfl (kkey h0 h1) ?_; intro w4 hown4 hturn4))
    go_frame
    try simp only [Exit.inBlock, Exit.then]
    refine bodyPost_ret (results_none rfl _ _ _) rfl ?_
    rw [durD_del] at hown4
    refine ⟨rfl, ?_, hg2.andThen hturn4.grown (fun j hj => .inr (by simpa using hj))⟩
    rw [HS.out, hz]
    exact hown4.mono (Nat.le_succ _)

end Go.Proofs.YtnaedmmfiiebaaaGreatDoor.S.V

namespace Go.Proofs.YtnaedmmfiiebaaaGreatDoor.S.V
open Go.RowKit

/-- A refusal by its number; 0: none. -/
def errV (A : Nat → Addr) (n : Nat) : Value := if n = 0 then .nilIface else .iface 360 (.pointer (some (A (n - 1))))

end Go.Proofs.YtnaedmmfiiebaaaGreatDoor.S.V
