import Derived.Test.YtageokjobbjddaaGreatDoorProg
import Derived.Shelf.Strings.Shaped
import Derived.Shelf.Strings.Trim
import Derived.Shelf.Strings.Prefix
import Derived.KernelRfl
import Derived.WalkKit
import Derived.WalkSpells
import Derived.WalkLawsBesides
import Derived.Laws.IdiomStrings
import Derived.Deep.AppendLies
import Derived.Deep.RegionHeld3
import Derived.BigQuiet
namespace Go.Proofs
open Go.Shelf
def Tryz.lays145_ren : Go.Shelf.Ren := ⟨fun | 145 => 83 | 217 => 122 | 219 => 107 | 220 => 102 | 224 => 124 | 225 => 123 | 266 => 132 | 267 => 125 | 314 => 133 | n => n, fun | 3 => 3 | 4 => 4 | 5 => 5 | 9 => 9 | 46 => 111 | 51 => 136 | 59 => 118 | 146 => 164 | n => n, fun | 1 => 14 | n => n⟩
theorem Tryz.lays145 : Go.Proofs.Lays.n145 Tryz.prog Tryz.lays145_ren := {
  mixed := by kernel_rfl
  f145 := Tryz.func83.trans (congrArg some (by kernel_rfl))
  f217 := Tryz.func122.trans (congrArg some (by kernel_rfl))
  f219 := Tryz.func107.trans (congrArg some (by kernel_rfl))
  f220 := Tryz.func102.trans (congrArg some (by kernel_rfl))
  f224 := Tryz.func124.trans (congrArg some (by kernel_rfl))
  f225 := Tryz.func123.trans (congrArg some (by kernel_rfl))
  f266 := Tryz.func132.trans (congrArg some (by kernel_rfl))
  f267 := Tryz.func125.trans (congrArg some (by kernel_rfl))
  f314 := Tryz.func133.trans (congrArg some (by kernel_rfl))
  t3 := Tryz.underlying3
  a3 := Tryz.isAgg3
  z3 := Tryz.sizeOf3
  v3 := Tryz.zeroValue3
  t4 := Tryz.underlying4
  a4 := Tryz.isAgg4
  z4 := Tryz.sizeOf4
  v4 := Tryz.zeroValue4
  t5 := Tryz.underlying5
  a5 := Tryz.isAgg5
  z5 := Tryz.sizeOf5
  v5 := Tryz.zeroValue5
  t9 := Tryz.underlying9
  a9 := Tryz.isAgg9
  z9 := Tryz.sizeOf9
  v9 := Tryz.zeroValue9
  t46 := Tryz.underlying111
  a46 := Tryz.isAgg111
  z46 := Tryz.sizeOf111
  v46 := Tryz.zeroValue111
  t51 := Tryz.underlying136
  a51 := Tryz.isAgg136
  z51 := Tryz.sizeOf136
  v51 := Tryz.zeroValue136
  t59 := Tryz.underlying118
  a59 := Tryz.isAgg118
  z59 := Tryz.sizeOf118
  v59 := Tryz.zeroValue118
  t146 := Tryz.underlying164
  a146 := Tryz.isAgg164
  z146 := Tryz.sizeOf164
  v146 := Tryz.zeroValue164
  g1 := by kernel_rfl }
def Tryz.lays144_ren : Go.Shelf.Ren := ⟨fun | 143 => 87 | 144 => 69 | 217 => 122 | 219 => 107 | 224 => 124 | 225 => 123 | 266 => 132 | 267 => 125 | 314 => 133 | n => n, fun | 3 => 3 | 4 => 4 | 5 => 5 | 9 => 9 | 46 => 111 | 51 => 136 | 146 => 164 | n => n, fun | 1 => 14 | n => n⟩
theorem Tryz.lays144 : Go.Proofs.Lays.n144 Tryz.prog Tryz.lays144_ren := {
  mixed := by kernel_rfl
  f143 := Tryz.func87.trans (congrArg some (by kernel_rfl))
  f144 := Tryz.func69.trans (congrArg some (by kernel_rfl))
  f217 := Tryz.func122.trans (congrArg some (by kernel_rfl))
  f219 := Tryz.func107.trans (congrArg some (by kernel_rfl))
  f224 := Tryz.func124.trans (congrArg some (by kernel_rfl))
  f225 := Tryz.func123.trans (congrArg some (by kernel_rfl))
  f266 := Tryz.func132.trans (congrArg some (by kernel_rfl))
  f267 := Tryz.func125.trans (congrArg some (by kernel_rfl))
  f314 := Tryz.func133.trans (congrArg some (by kernel_rfl))
  t3 := Tryz.underlying3
  a3 := Tryz.isAgg3
  z3 := Tryz.sizeOf3
  v3 := Tryz.zeroValue3
  t4 := Tryz.underlying4
  a4 := Tryz.isAgg4
  z4 := Tryz.sizeOf4
  v4 := Tryz.zeroValue4
  t5 := Tryz.underlying5
  a5 := Tryz.isAgg5
  z5 := Tryz.sizeOf5
  v5 := Tryz.zeroValue5
  t9 := Tryz.underlying9
  a9 := Tryz.isAgg9
  z9 := Tryz.sizeOf9
  v9 := Tryz.zeroValue9
  t46 := Tryz.underlying111
  a46 := Tryz.isAgg111
  z46 := Tryz.sizeOf111
  v46 := Tryz.zeroValue111
  t51 := Tryz.underlying136
  a51 := Tryz.isAgg136
  z51 := Tryz.sizeOf136
  v51 := Tryz.zeroValue136
  t146 := Tryz.underlying164
  a146 := Tryz.isAgg164
  z146 := Tryz.sizeOf164
  v146 := Tryz.zeroValue164
  g1 := by kernel_rfl }
def Tryz.lays161_ren : Go.Shelf.Ren := ⟨fun | 119 => 128 | 137 => 127 | 151 => 91 | 152 => 110 | 161 => 46 | 197 => 90 | 217 => 122 | 224 => 124 | 225 => 123 | 227 => 72 | 228 => 89 | 231 => 71 | 233 => 73 | 235 => 74 | 260 => 109 | 266 => 132 | n => n, fun | 0 => 0 | 3 => 3 | 4 => 4 | 5 => 5 | 9 => 9 | 21 => 21 | 46 => 111 | 105 => 126 | 116 => 103 | 117 => 104 | 119 => 152 | 124 => 107 | 138 => 154 | 139 => 155 | n => n, fun | 3 => 15 | 4 => 16 | n => n⟩
theorem Tryz.lays161 : Go.Proofs.Lays.n161 Tryz.prog Tryz.lays161_ren := {
  mixed := by kernel_rfl
  f119 := Tryz.func128.trans (congrArg some (by kernel_rfl))
  f137 := Tryz.func127.trans (congrArg some (by kernel_rfl))
  f151 := Tryz.func91.trans (congrArg some (by kernel_rfl))
  f152 := Tryz.func110.trans (congrArg some (by kernel_rfl))
  f161 := Tryz.func46.trans (congrArg some (by kernel_rfl))
  f197 := Tryz.func90.trans (congrArg some (by kernel_rfl))
  f217 := Tryz.func122.trans (congrArg some (by kernel_rfl))
  f224 := Tryz.func124.trans (congrArg some (by kernel_rfl))
  f225 := Tryz.func123.trans (congrArg some (by kernel_rfl))
  f227 := Tryz.func72.trans (congrArg some (by kernel_rfl))
  f228 := Tryz.func89.trans (congrArg some (by kernel_rfl))
  f231 := Tryz.func71.trans (congrArg some (by kernel_rfl))
  f233 := Tryz.func73.trans (congrArg some (by kernel_rfl))
  f235 := Tryz.func74.trans (congrArg some (by kernel_rfl))
  f260 := Tryz.func109.trans (congrArg some (by kernel_rfl))
  f266 := Tryz.func132.trans (congrArg some (by kernel_rfl))
  t0 := Tryz.underlying0
  a0 := Tryz.isAgg0
  z0 := Tryz.sizeOf0
  v0 := Tryz.zeroValue0
  t3 := Tryz.underlying3
  a3 := Tryz.isAgg3
  z3 := Tryz.sizeOf3
  v3 := Tryz.zeroValue3
  t4 := Tryz.underlying4
  a4 := Tryz.isAgg4
  z4 := Tryz.sizeOf4
  v4 := Tryz.zeroValue4
  t5 := Tryz.underlying5
  a5 := Tryz.isAgg5
  z5 := Tryz.sizeOf5
  v5 := Tryz.zeroValue5
  t9 := Tryz.underlying9
  a9 := Tryz.isAgg9
  z9 := Tryz.sizeOf9
  v9 := Tryz.zeroValue9
  t21 := Tryz.underlying21
  a21 := Tryz.isAgg21
  z21 := Tryz.sizeOf21
  v21 := Tryz.zeroValue21
  t46 := Tryz.underlying111
  a46 := Tryz.isAgg111
  z46 := Tryz.sizeOf111
  v46 := Tryz.zeroValue111
  t105 := Tryz.underlying126
  a105 := Tryz.isAgg126
  z105 := Tryz.sizeOf126
  v105 := Tryz.zeroValue126
  t116 := Tryz.underlying103
  a116 := Tryz.isAgg103
  z116 := Tryz.sizeOf103
  t117 := Tryz.underlying104
  a117 := Tryz.isAgg104
  z117 := Tryz.sizeOf104
  v117 := Tryz.zeroValue104
  t119 := Tryz.underlying152
  a119 := Tryz.isAgg152
  z119 := Tryz.sizeOf152
  t124 := Tryz.underlying107
  a124 := Tryz.isAgg107
  z124 := Tryz.sizeOf107
  v124 := Tryz.zeroValue107
  t138 := Tryz.underlying154
  a138 := Tryz.isAgg154
  z138 := Tryz.sizeOf154
  v138 := Tryz.zeroValue154
  t139 := Tryz.underlying155
  a139 := Tryz.isAgg155
  z139 := Tryz.sizeOf155
  v139 := Tryz.zeroValue155
  g3 := by kernel_rfl
  g4 := by kernel_rfl }
def Tryz.lays206_ren : Go.Shelf.Ren := ⟨fun | 206 => 126 | n => n, fun | 3 => 3 | 4 => 4 | 9 => 9 | n => n, fun  | n => n⟩
theorem Tryz.lays206 : Go.Proofs.Lays.n206 Tryz.prog Tryz.lays206_ren := {
  mixed := by kernel_rfl
  f206 := Tryz.func126.trans (congrArg some (by kernel_rfl))
  t3 := Tryz.underlying3
  a3 := Tryz.isAgg3
  z3 := Tryz.sizeOf3
  v3 := Tryz.zeroValue3
  t4 := Tryz.underlying4
  a4 := Tryz.isAgg4
  z4 := Tryz.sizeOf4
  v4 := Tryz.zeroValue4
  t9 := Tryz.underlying9
  a9 := Tryz.isAgg9
  z9 := Tryz.sizeOf9
  v9 := Tryz.zeroValue9 }
end Go.Proofs

namespace Go.Proofs.YtageokjobbjddaaGreatDoor
open Go.RowKit

/-- An item as plain data. -/
inductive It where
  | mk (kind num : Int) (text : ByteArray) (list : List It)
def It.kind : It → Int | .mk k _ _ _ => k
def It.num : It → Int | .mk _ n _ _ => n
def It.text : It → ByteArray | .mk _ _ t _ => t
def It.list : It → List It | .mk _ _ _ l => l
instance : Inhabited It := ⟨.mk 0 0 ⟨#[]⟩ []⟩
theorem It.eta (x : It) : x = .mk x.kind x.num x.text x.list := by cases x; rfl
theorem It.list_lt (x : It) : SizeOf.sizeOf x.list < SizeOf.sizeOf x := by cases x; simp [It.list]; omega
theorem list_lt_of_get {l : List It} {i : Nat} (h : i < l.length) : SizeOf.sizeOf l[i].list < SizeOf.sizeOf l :=
  Nat.lt_trans (It.list_lt _) (List.sizeOf_lt_of_mem (List.getElem_mem h))
/-- The parts of one item are such as a machine's item can be. -/
structure It.Ok (x : It) : Prop where
  k1 : -9223372036854775808 ≤ x.kind
  k2 : x.kind ≤ 9223372036854775807
  n1 : -9223372036854775808 ≤ x.num
  n2 : x.num ≤ 9223372036854775807
  t : x.text.size ≤ 140737488351232

/-- The slice value v reads as the items l, all in blocks that F names. -/
inductive ItsAt (w : World) (F : Nat → Prop) : Value → List It → Prop where
  | mk (a : Option Addr) (g off cap : Nat) (l : List It) (vs : Nat → Value) (hlen : l.length ≤ 2513169434843)
      (ha : 0 < l.length → a = some ⟨g, off, none⟩ ∧ F g)
      (hok : ∀ i (h : i < l.length), l[i].Ok)
      (h0 : ∀ i (h : i < l.length), w.cell? ⟨g, off + i * 4, none⟩ = some (.int .i64 l[i].kind))
      (h1 : ∀ i (h : i < l.length), w.cell? ⟨g, off + i * 4 + 1, none⟩ = some (.int .i64 l[i].num))
      (h2 : ∀ i (h : i < l.length), w.cell? ⟨g, off + i * 4 + 2, none⟩ = some (.string l[i].text))
      (h3 : ∀ i, i < l.length → w.cell? ⟨g, off + i * 4 + 3, none⟩ = some (vs i))
      (hin : ∀ i (h : i < l.length), ItsAt w F (vs i) l[i].list) : ItsAt w F (.slice a l.length cap) l

theorem cell_below {w w' : World} (hb : Below w.heap.size w w') {a : Addr} {v : Value} (hc : w.cell? a = some v) : w'.cell? a = some v := (hb.cell (World.block_lt_of_cell? w a hc)).trans hc
theorem ItsAt.keep {w w' : World} {F : Nat → Prop} {v : Value} {l : List It} (h : ItsAt w F v l) (hb : Below w.heap.size w w') : ItsAt w' F v l := by
  induction h with
  | mk a g off cap l vs hlen ha hok h0 h1 h2 h3 hin ih =>
    exact .mk a g off cap l vs hlen ha hok (fun i h => cell_below hb (h0 i h)) (fun i h => cell_below hb (h1 i h)) (fun i h => cell_below hb (h2 i h)) (fun i h => cell_below hb (h3 i h)) ih
theorem ItsAt.keepB {w w' : World} {base : Nat} {v : Value} {l : List It} (h : ItsAt w (fun g => g < base) v l) (hb : Below base w w') : ItsAt w' (fun g => g < base) v l := by
  have cell : ∀ {g o : Nat} {u : Value}, g < base → w.cell? ⟨g, o, none⟩ = some u → w'.cell? ⟨g, o, none⟩ = some u := fun {_g _o _u} hg hc => (hb.cell (p := ⟨_g, _o, none⟩) hg).trans hc
  induction h with
  | mk a g off cap l vs hlen ha hok h0 h1 h2 h3 hin ih =>
    have hg : ∀ i, i < l.length → g < base := fun i h => (ha (by omega)).2
    exact .mk a g off cap l vs hlen ha hok (fun i h => cell (hg i h) (h0 i h)) (fun i h => cell (hg i h) (h1 i h)) (fun i h => cell (hg i h) (h2 i h)) (fun i h => cell (hg i h) (h3 i h)) ih
theorem ItsAt.weak {w : World} {F G : Nat → Prop} {v : Value} {l : List It} (h : ItsAt w F v l) (hf : ∀ g, g < w.heap.size → F g → G g) : ItsAt w G v l := by
  induction h with
  | mk a g off cap l vs hlen ha hok h0 h1 h2 h3 hin ih =>
    exact .mk a g off cap l vs hlen (fun h => ⟨(ha h).1, hf g (World.block_lt_of_cell? w _ (h0 0 h)) (ha h).2⟩) hok h0 h1 h2 h3 ih
theorem ItsAt.len_le {w : World} {F : Nat → Prop} {v : Value} {l : List It} (h : ItsAt w F v l) : l.length ≤ 2513169434843 := by
  cases h; assumption
theorem ItsAt.form {w : World} {F : Nat → Prop} {v : Value} {l : List It} (h : ItsAt w F v l) : ∃ a c, v = .slice a l.length c := by
  cases h; exact ⟨_, _, rfl⟩
theorem Below.next {a b c : World} (h : Below a.heap.size a b) (k : Below b.heap.size b c) : Below a.heap.size a c := h.trans (k.mono h.size)
theorem wrap_i64 (n : Int) (h1 : -9223372036854775808 ≤ n) (h2 : n ≤ 9223372036854775807) : IntKind.i64.wrap n = n := by
  simp [IntKind.wrap, IntKind.bits, IntKind.signed]
  omega
theorem ret_bool {a b : Bool} (h : a = b) : Ending.returned (.bool a) = .returned (.bool b) := by rw [h]
theorem undrew {w w' : World} (h : Below w.drew.heap.size w.drew w') : Below w.heap.size w w' := ⟨h.os, h.tape, h.output, h.size, h.block⟩
theorem ItsAt.drew {w : World} {F : Nat → Prop} {v : Value} {l : List It} (h : ItsAt w F v l) : ItsAt w.drew F v l := h.keep ((Below.refl _ _).drew)
/-- A block of the call's own that holds a struct's cells. -/
def Boxed (b : Nat) (cs : List Value) (w : World) : Prop := b < w.heap.size ∧ ∀ j (h : j < cs.length), w.cell? ⟨b, j, none⟩ = some cs[j]
theorem Boxed.keep {b : Nat} {cs : List Value} {w w' : World} (h : Boxed b cs w) (hb : Below w.heap.size w w') : Boxed b cs w' :=
  ⟨Nat.lt_of_lt_of_le h.1 hb.size, fun j hj => (hb.cell (p := ⟨b, j, none⟩) h.1).trans (h.2 j hj)⟩
theorem boxed_new (w : World) (cs : Array Value) (t : TypeId) : Boxed w.heap.size cs.toList (w.alloc (.cells cs t)) := by
  refine ⟨by simp, fun j hj => ?_⟩
  have h : (w.alloc (.cells cs t)).heap[w.heap.size]? = some (.cells cs t (0, 0)) := heap_alloc_new w _
  rw [cell_of_row _ w.heap.size j cs t (0, 0) h]
  simp only [Array.length_toList] at hj
  simp [hj]
theorem below_new (w : World) (o : Obj) : Below w.heap.size w (w.alloc o) := (Below.refl _ _).alloc (Nat.le_refl _) o
def anyB : Nat → Prop := fun _ => True

end Go.Proofs.YtageokjobbjddaaGreatDoor
