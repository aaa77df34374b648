import Derived.Test.YtkgeabljdkkonaaGreatDoorProg
import Derived.Shelf.Strings.Shaped
import Derived.Shelf.Strings.Trim
import Derived.Shelf.Strings.Prefix
import Derived.KernelRfl
import Derived.Test.YtkgeabljdkkonaaGreatDoorGA
namespace Go.Proofs
open Go.Shelf
def Tryz.lays145_ren : Go.Shelf.Ren := ⟨fun | 145 => 77 | 217 => 122 | 219 => 100 | 220 => 95 | 224 => 124 | 225 => 123 | 266 => 136 | 267 => 125 | 314 => 137 | n => n, fun | 3 => 3 | 4 => 4 | 5 => 5 | 9 => 9 | 46 => 159 | 51 => 175 | 59 => 118 | 146 => 176 | n => n, fun | 1 => 13 | n => n⟩
theorem Tryz.lays145 : Go.Proofs.Lays.n145 Tryz.prog Tryz.lays145_ren := {
  mixed := by kernel_rfl
  f145 := Tryz.func77.trans (congrArg some (by kernel_rfl))
  f217 := Tryz.func122.trans (congrArg some (by kernel_rfl))
  f219 := Tryz.func100.trans (congrArg some (by kernel_rfl))
  f220 := Tryz.func95.trans (congrArg some (by kernel_rfl))
  f224 := Tryz.func124.trans (congrArg some (by kernel_rfl))
  f225 := Tryz.func123.trans (congrArg some (by kernel_rfl))
  f266 := Tryz.func136.trans (congrArg some (by kernel_rfl))
  f267 := Tryz.func125.trans (congrArg some (by kernel_rfl))
  f314 := Tryz.func137.trans (congrArg some (by kernel_rfl))
  t3 := Tryz.underlying3
  a3 := Tryz.isAgg3
  z3 := Tryz.sizeOf3
  v3 := Tryz.zeroValue3
  t4 := Tryz.underlying4
  a4 := Tryz.isAgg4
  z4 := Tryz.sizeOf4
  v4 := Tryz.zeroValue4
  t5 := Tryz.underlying5
  a5 := Tryz.isAgg5
  z5 := Tryz.sizeOf5
  v5 := Tryz.zeroValue5
  t9 := Tryz.underlying9
  a9 := Tryz.isAgg9
  z9 := Tryz.sizeOf9
  v9 := Tryz.zeroValue9
  t46 := Tryz.underlying159
  a46 := Tryz.isAgg159
  z46 := Tryz.sizeOf159
  v46 := Tryz.zeroValue159
  t51 := Tryz.underlying175
  a51 := Tryz.isAgg175
  z51 := Tryz.sizeOf175
  v51 := Tryz.zeroValue175
  t59 := Tryz.underlying118
  a59 := Tryz.isAgg118
  z59 := Tryz.sizeOf118
  v59 := Tryz.zeroValue118
  t146 := Tryz.underlying176
  a146 := Tryz.isAgg176
  z146 := Tryz.sizeOf176
  v146 := Tryz.zeroValue176
  g1 := by kernel_rfl }
def Tryz.lays144_ren : Go.Shelf.Ren := ⟨fun | 143 => 81 | 144 => 61 | 217 => 122 | 219 => 100 | 224 => 124 | 225 => 123 | 266 => 136 | 267 => 125 | 314 => 137 | n => n, fun | 3 => 3 | 4 => 4 | 5 => 5 | 9 => 9 | 46 => 159 | 51 => 175 | 146 => 176 | n => n, fun | 1 => 13 | n => n⟩
theorem Tryz.lays144 : Go.Proofs.Lays.n144 Tryz.prog Tryz.lays144_ren := {
  mixed := by kernel_rfl
  f143 := Tryz.func81.trans (congrArg some (by kernel_rfl))
  f144 := Tryz.func61.trans (congrArg some (by kernel_rfl))
  f217 := Tryz.func122.trans (congrArg some (by kernel_rfl))
  f219 := Tryz.func100.trans (congrArg some (by kernel_rfl))
  f224 := Tryz.func124.trans (congrArg some (by kernel_rfl))
  f225 := Tryz.func123.trans (congrArg some (by kernel_rfl))
  f266 := Tryz.func136.trans (congrArg some (by kernel_rfl))
  f267 := Tryz.func125.trans (congrArg some (by kernel_rfl))
  f314 := Tryz.func137.trans (congrArg some (by kernel_rfl))
  t3 := Tryz.underlying3
  a3 := Tryz.isAgg3
  z3 := Tryz.sizeOf3
  v3 := Tryz.zeroValue3
  t4 := Tryz.underlying4
  a4 := Tryz.isAgg4
  z4 := Tryz.sizeOf4
  v4 := Tryz.zeroValue4
  t5 := Tryz.underlying5
  a5 := Tryz.isAgg5
  z5 := Tryz.sizeOf5
  v5 := Tryz.zeroValue5
  t9 := Tryz.underlying9
  a9 := Tryz.isAgg9
  z9 := Tryz.sizeOf9
  v9 := Tryz.zeroValue9
  t46 := Tryz.underlying159
  a46 := Tryz.isAgg159
  z46 := Tryz.sizeOf159
  v46 := Tryz.zeroValue159
  t51 := Tryz.underlying175
  a51 := Tryz.isAgg175
  z51 := Tryz.sizeOf175
  v51 := Tryz.zeroValue175
  t146 := Tryz.underlying176
  a146 := Tryz.isAgg176
  z146 := Tryz.sizeOf176
  v146 := Tryz.zeroValue176
  g1 := by kernel_rfl }
def Tryz.lays161_ren : Go.Shelf.Ren := ⟨fun | 119 => 128 | 137 => 127 | 151 => 86 | 152 => 108 | 161 => 35 | 197 => 85 | 217 => 122 | 224 => 124 | 225 => 123 | 227 => 64 | 228 => 84 | 231 => 63 | 233 => 65 | 235 => 66 | 260 => 107 | 266 => 136 | n => n, fun | 0 => 0 | 3 => 3 | 4 => 4 | 5 => 5 | 9 => 9 | 21 => 21 | 46 => 159 | 105 => 130 | 116 => 100 | 117 => 101 | 119 => 160 | 124 => 104 | 138 => 162 | 139 => 163 | n => n, fun | 3 => 14 | 4 => 15 | n => n⟩
theorem Tryz.lays161 : Go.Proofs.Lays.n161 Tryz.prog Tryz.lays161_ren := {
  mixed := by kernel_rfl
  f119 := Tryz.func128.trans (congrArg some (by kernel_rfl))
  f137 := Tryz.func127.trans (congrArg some (by kernel_rfl))
  f151 := Tryz.func86.trans (congrArg some (by kernel_rfl))
  f152 := Tryz.func108.trans (congrArg some (by kernel_rfl))
  f161 := Tryz.func35.trans (congrArg some (by kernel_rfl))
  f197 := Tryz.func85.trans (congrArg some (by kernel_rfl))
  f217 := Tryz.func122.trans (congrArg some (by kernel_rfl))
  f224 := Tryz.func124.trans (congrArg some (by kernel_rfl))
  f225 := Tryz.func123.trans (congrArg some (by kernel_rfl))
  f227 := Tryz.func64.trans (congrArg some (by kernel_rfl))
  f228 := Tryz.func84.trans (congrArg some (by kernel_rfl))
  f231 := Tryz.func63.trans (congrArg some (by kernel_rfl))
  f233 := Tryz.func65.trans (congrArg some (by kernel_rfl))
  f235 := Tryz.func66.trans (congrArg some (by kernel_rfl))
  f260 := Tryz.func107.trans (congrArg some (by kernel_rfl))
  f266 := Tryz.func136.trans (congrArg some (by kernel_rfl))
  t0 := Tryz.underlying0
  a0 := Tryz.isAgg0
  z0 := Tryz.sizeOf0
  v0 := Tryz.zeroValue0
  t3 := Tryz.underlying3
  a3 := Tryz.isAgg3
  z3 := Tryz.sizeOf3
  v3 := Tryz.zeroValue3
  t4 := Tryz.underlying4
  a4 := Tryz.isAgg4
  z4 := Tryz.sizeOf4
  v4 := Tryz.zeroValue4
  t5 := Tryz.underlying5
  a5 := Tryz.isAgg5
  z5 := Tryz.sizeOf5
  v5 := Tryz.zeroValue5
  t9 := Tryz.underlying9
  a9 := Tryz.isAgg9
  z9 := Tryz.sizeOf9
  v9 := Tryz.zeroValue9
  t21 := Tryz.underlying21
  a21 := Tryz.isAgg21
  z21 := Tryz.sizeOf21
  v21 := Tryz.zeroValue21
  t46 := Tryz.underlying159
  a46 := Tryz.isAgg159
  z46 := Tryz.sizeOf159
  v46 := Tryz.zeroValue159
  t105 := Tryz.underlying130
  a105 := Tryz.isAgg130
  z105 := Tryz.sizeOf130
  v105 := Tryz.zeroValue130
  t116 := Tryz.underlying100
  a116 := Tryz.isAgg100
  z116 := Tryz.sizeOf100
  t117 := Tryz.underlying101
  a117 := Tryz.isAgg101
  z117 := Tryz.sizeOf101
  v117 := Tryz.zeroValue101
  t119 := Tryz.underlying160
  a119 := Tryz.isAgg160
  z119 := Tryz.sizeOf160
  t124 := Tryz.underlying104
  a124 := Tryz.isAgg104
  z124 := Tryz.sizeOf104
  v124 := Tryz.zeroValue104
  t138 := Tryz.underlying162
  a138 := Tryz.isAgg162
  z138 := Tryz.sizeOf162
  v138 := Tryz.zeroValue162
  t139 := Tryz.underlying163
  a139 := Tryz.isAgg163
  z139 := Tryz.sizeOf163
  v139 := Tryz.zeroValue163
  g3 := by kernel_rfl
  g4 := by kernel_rfl }
def Tryz.lays206_ren : Go.Shelf.Ren := ⟨fun | 206 => 126 | n => n, fun | 3 => 3 | 4 => 4 | 9 => 9 | n => n, fun  | n => n⟩
theorem Tryz.lays206 : Go.Proofs.Lays.n206 Tryz.prog Tryz.lays206_ren := {
  mixed := by kernel_rfl
  f206 := Tryz.func126.trans (congrArg some (by kernel_rfl))
  t3 := Tryz.underlying3
  a3 := Tryz.isAgg3
  z3 := Tryz.sizeOf3
  v3 := Tryz.zeroValue3
  t4 := Tryz.underlying4
  a4 := Tryz.isAgg4
  z4 := Tryz.sizeOf4
  v4 := Tryz.zeroValue4
  t9 := Tryz.underlying9
  a9 := Tryz.isAgg9
  z9 := Tryz.sizeOf9
  v9 := Tryz.zeroValue9 }
end Go.Proofs

namespace Go.Proofs.YtkgeabljdkkonaaGreatDoor
open Go.RowKit

def u8s (l : List UInt8) : List Value := l.map (fun c => Value.int .u8 (c.toNat : Int))
theorem u8s_length (l : List UInt8) : (u8s l).length = l.length := by simp [u8s]
theorem u8s_append (a b : List UInt8) : u8s (a ++ b) = u8s a ++ u8s b := by simp [u8s]
theorem u8s_get (l : List UInt8) (j : Nat) (h : j < l.length) : (u8s l)[j]? = some (.int .u8 (l[j].toNat : Int)) := by simp [u8s, h]
theorem u8s_one (l : List UInt8) : ∀ u ∈ u8s l, u.oneCell' = true := by
  intro u hu
  simp only [u8s, List.mem_map] at hu
  obtain ⟨c, _, rfl⟩ := hu
  rfl
theorem Tryz.info5 : (Tryz.prog.info? 5).map (fun i => (i.zero, i.size, i.bytes)) = some (some (.int .u8 0), 1, 1) := by kernel_rfl

def byteOf (n : Int) : UInt8 := UInt8.ofNat (n % 256).toNat
theorem wrap_u8 (n : Int) : IntKind.u8.wrap n = n % 256 := by simp [IntKind.wrap, IntKind.bits, IntKind.signed]
theorem byteOf_nat (n : Int) : ((byteOf n).toNat : Int) = n % 256 := by
  unfold byteOf
  have h1 : 0 ≤ n % 256 := Int.emod_nonneg _ (by decide)
  have h2 : n % 256 < 256 := Int.emod_lt_of_pos _ (by decide)
  rw [UInt8.toNat_ofNat']
  rw [Nat.mod_eq_of_lt (by omega)]
  omega
theorem byteOf_wrap (n : Int) : IntKind.u8.wrap n = ((byteOf n).toNat : Int) := by rw [wrap_u8, byteOf_nat]

/-- The bytes of a text within a list's. -/
def escL (t : List UInt8) : List UInt8 := t.flatMap fun c => if c = 0 then [0, 255] else [c]
def encT (t : List UInt8) : List UInt8 := escL t ++ [0, 0]
/-- Eight bytes, the highest first, of a number below 2^64. -/
def byteAt (m i : Nat) : UInt8 := UInt8.ofNat (m / 2 ^ (8 * i) % 256)
def be8 (m : Nat) : List UInt8 := [byteAt m 7, byteAt m 6, byteAt m 5, byteAt m 4, byteAt m 3, byteAt m 2, byteAt m 1, byteAt m 0]
def biased (n : Int) : Nat := (n + 9223372036854775808).toNat
def num8 (n : Int) : List UInt8 := be8 (biased n)
theorem be8_rev (m : Nat) : be8 m = ((List.range 8).reverse.map (byteAt m)) := rfl
theorem bias_eq (n : Int) (h1 : -9223372036854775808 ≤ n) (h2 : n ≤ 9223372036854775807) : IntKind.u64.wrap (IntKind.u64.wrap n + 9223372036854775808) = ((biased n : Nat) : Int) := by
  unfold biased
  simp [IntKind.wrap, IntKind.bits, IntKind.signed]
  omega
theorem biased_lt (n : Int) (h1 : -9223372036854775808 ≤ n) (h2 : n ≤ 9223372036854775807) : biased n < 18446744073709551616 := by
  unfold biased; omega
theorem dig_val (n k : Nat) : (n : Int) / 2 ^ (8 * k) % 256 = ((byteAt n k).toNat : Int) := by
  unfold byteAt
  generalize hx : n / 2 ^ (8 * k) = x
  have e : (n : Int) / 2 ^ (8 * k) = (x : Int) := by
    rw [← hx]
    simp [Int.natCast_ediv, Int.natCast_pow]
  rw [e, UInt8.toNat_ofNat']
  omega
theorem be8_take (m k : Nat) (h : k < 8) : (be8 m).take (k + 1) = (be8 m).take k ++ [byteAt m (7 - k)] := by
  match k, h with
  | 0, _ => rfl
  | 1, _ => rfl
  | 2, _ => rfl
  | 3, _ => rfl
  | 4, _ => rfl
  | 5, _ => rfl
  | 6, _ => rfl
  | 7, _ => rfl
def bodyOf (k n : Int) (t : List UInt8) (inner : List UInt8) : List UInt8 :=
  if k = 2 then [byteOf n] else if k = 3 then num8 n else if k = 4 then encT t else if k = 5 then inner ++ [0] else []
mutual
def It.enc : It → List UInt8
  | .mk k n t l => byteOf k :: bodyOf k n t.data.toList (encL l)
def encL : List It → List UInt8
  | [] => []
  | x :: r => x.enc ++ encL r
end
theorem It.enc_eq (x : It) : x.enc = byteOf x.kind :: bodyOf x.kind x.num x.text.data.toList (encL x.list) := by cases x; simp only [It.enc, It.kind, It.num, It.text, It.list]
theorem encL_append (a b : List It) : encL (a ++ b) = encL a ++ encL b := by
  induction a with
  | nil => simp [encL]
  | cons x r ih => simp only [List.cons_append, encL, ih, List.append_assoc]
theorem encL_take_succ (l : List It) (i : Nat) (h : i < l.length) : encL (l.take (i + 1)) = encL (l.take i) ++ l[i].enc := by
  rw [List.take_succ_eq_append_getElem h, encL_append]
  simp only [encL, List.append_nil]
theorem encL_take_le (l : List It) (i : Nat) : (encL (l.take i)).length ≤ (encL l).length := by
  have := encL_append (l.take i) (l.drop i)
  rw [List.take_append_drop] at this
  rw [this, List.length_append]
  omega

/-- o1 is o with e behind it, where that has no more than 65536 bytes; else it is cut somewhere, and too long. -/
structure Wrote (o e o1 : List UInt8) : Prop where
  fits : o.length + e.length ≤ 65536 → o1 = o ++ e
  over : 65536 < o.length + e.length → 65536 < o1.length
  most : o1.length ≤ o.length + e.length
theorem Wrote.all (o e : List UInt8) : Wrote o e (o ++ e) := ⟨fun _ => rfl, fun h => by simpa using h, by simp⟩
theorem Wrote.nil (o : List UInt8) : Wrote o [] o := ⟨fun _ => by simp, fun h => by simpa using h, by simp⟩
theorem Wrote.stop {o : List UInt8} (e : List UInt8) (h : 65536 < o.length) : Wrote o e o := ⟨fun h' => by omega, fun _ => h, by omega⟩
theorem Wrote.next {o e1 o1 e2 o2 : List UInt8} (h : Wrote o e1 o1) (k : Wrote o1 e2 o2) : Wrote o (e1 ++ e2) o2 := by
  have e : (e1 ++ e2).length = e1.length + e2.length := List.length_append
  refine ⟨fun hl => ?_, fun hl => ?_, ?_⟩
  · rw [e] at hl
    have e1 := h.fits (by omega)
    have e2 := k.fits (by rw [e1, List.length_append]; omega)
    rw [e2, e1, List.append_assoc]
  · rw [e] at hl
    by_cases hc : 65536 < o.length + e1.length
    · have := h.over hc
      exact k.over (by omega)
    · have e1 := h.fits (by omega)
      exact k.over (by rw [e1, List.length_append]; omega)
  · have := h.most; have := k.most; omega
theorem Wrote.skip {o e1 o1 : List UInt8} (e2 : List UInt8) (h : Wrote o e1 o1) (hl : 65536 < o1.length) : Wrote o (e1 ++ e2) o1 := h.next (Wrote.stop e2 hl)

theorem u8s_two (a b : Int) : ∀ u ∈ [Value.int .u8 a, Value.int .u8 b], u.oneCell' = true := by
  intro u hu; simp at hu; rcases hu with rfl | rfl <;> rfl
theorem pushed {base : Nat} {wr w1 : World} {o es : List UInt8} {v v' : Value} {ob : Obj} (hb : base ≤ wr.heap.size) (hown : wr.ownsRow base 5 1 v o.length (u8s o))
    (hown' : w1.ownsRow base 5 1 v' (o.length + es.length) (u8s o ++ u8s es)) (hgrow : (wr.alloc ob).grownBy w1 v.ownBlock) : w1.ownsRow base 5 1 v' (o ++ es).length (u8s (o ++ es)) ∧ Below base wr w1 := by
  refine ⟨by rw [u8s_append, List.length_append]; exact hown', ?_⟩
  exact ((Below.refl base wr).alloc hb _).grown hgrow (by simp; omega) (fun k hk => (hown.lt k hk).1)
theorem escL_take (t : List UInt8) (k : Nat) (h : k < t.length) : escL (t.take (k + 1)) = escL (t.take k) ++ (if t[k] = 0 then [0, 255] else [t[k]]) := by
  unfold escL
  rw [List.take_succ_eq_append_getElem h, List.flatMap_append]
  congr 1
  simp
theorem escL_take_le (t : List UInt8) (k : Nat) : (escL (t.take k)).length ≤ (escL t).length := by
  have : escL t = escL (t.take k) ++ escL (t.drop k) := by
    simp only [escL, ← List.flatMap_append, List.take_append_drop]
  rw [this, List.length_append]
  omega

end Go.Proofs.YtkgeabljdkkonaaGreatDoor
