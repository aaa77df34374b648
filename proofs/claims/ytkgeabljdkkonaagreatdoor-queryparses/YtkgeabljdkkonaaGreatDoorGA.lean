import Derived.Test.YtkgeabljdkkonaaGreatDoorProg
import Derived.Shelf.Strconv.Itoa3
import Derived.KernelRfl
import Derived.WalkKit
import Derived.WalkSpells
import Derived.WalkLawsBesides
import Derived.Laws.IdiomStrings
import Derived.Deep.AppendLies
import Derived.Deep.RegionHeld3
import Derived.BigQuiet
namespace Go.Proofs
open Go.Shelf
def Tryz.lays171_ren : Go.Shelf.Ren := ⟨fun | 129 => 139 | 171 => 79 | 243 => 98 | 246 => 120 | 283 => 130 | 284 => 131 | 285 => 132 | 286 => 133 | 317 => 138 | 318 => 140 | 319 => 141 | 320 => 142 | 337 => 143 | 338 => 144 | n => n, fun | 0 => 0 | 2 => 2 | 3 => 3 | 4 => 4 | 5 => 5 | 9 => 9 | 20 => 20 | 37 => 108 | 46 => 159 | 51 => 175 | 53 => 112 | 171 => 169 | 173 => 172 | 212 => 182 | 213 => 183 | 232 => 186 | 233 => 187 | n => n, fun | 17 => 18 | 18 => 19 | 19 => 20 | n => n⟩
theorem Tryz.lays171 : Go.Proofs.LaysM.n171 Tryz.prog Tryz.lays171_ren := {
  mixed := by kernel_rfl
  f129 := Tryz.func139.trans (congrArg some (by kernel_rfl))
  f171 := Tryz.func79.trans (congrArg some (by kernel_rfl))
  f243 := Tryz.func98.trans (congrArg some (by kernel_rfl))
  f246 := Tryz.func120.trans (congrArg some (by kernel_rfl))
  f283 := Tryz.func130.trans (congrArg some (by kernel_rfl))
  f284 := Tryz.func131.trans (congrArg some (by kernel_rfl))
  f285 := Tryz.func132.trans (congrArg some (by kernel_rfl))
  f286 := Tryz.func133.trans (congrArg some (by kernel_rfl))
  f317 := Tryz.func138.trans (congrArg some (by kernel_rfl))
  f318 := Tryz.func140.trans (congrArg some (by kernel_rfl))
  f319 := Tryz.func141.trans (congrArg some (by kernel_rfl))
  f320 := Tryz.func142.trans (congrArg some (by kernel_rfl))
  f337 := Tryz.func143.trans (congrArg some (by kernel_rfl))
  f338 := Tryz.func144.trans (congrArg some (by kernel_rfl))
  t0 := Tryz.underlying0
  a0 := Tryz.isAgg0
  z0 := Tryz.sizeOf0
  v0 := Tryz.zeroValue0
  t2 := Tryz.underlying2
  a2 := Tryz.isAgg2
  z2 := Tryz.sizeOf2
  v2 := Tryz.zeroValue2
  t3 := Tryz.underlying3
  a3 := Tryz.isAgg3
  z3 := Tryz.sizeOf3
  v3 := Tryz.zeroValue3
  t4 := Tryz.underlying4
  a4 := Tryz.isAgg4
  z4 := Tryz.sizeOf4
  v4 := Tryz.zeroValue4
  t5 := Tryz.underlying5
  a5 := Tryz.isAgg5
  z5 := Tryz.sizeOf5
  v5 := Tryz.zeroValue5
  t9 := Tryz.underlying9
  a9 := Tryz.isAgg9
  z9 := Tryz.sizeOf9
  v9 := Tryz.zeroValue9
  t20 := Tryz.underlying20
  a20 := Tryz.isAgg20
  z20 := Tryz.sizeOf20
  v20 := Tryz.zeroValue20
  t37 := Tryz.underlying108
  a37 := Tryz.isAgg108
  z37 := Tryz.sizeOf108
  v37 := Tryz.zeroValue108
  t46 := Tryz.underlying159
  a46 := Tryz.isAgg159
  z46 := Tryz.sizeOf159
  v46 := Tryz.zeroValue159
  t51 := Tryz.underlying175
  a51 := Tryz.isAgg175
  z51 := Tryz.sizeOf175
  v51 := Tryz.zeroValue175
  t53 := Tryz.underlying112
  a53 := Tryz.isAgg112
  z53 := Tryz.sizeOf112
  v53 := Tryz.zeroValue112
  t171 := Tryz.underlying169
  a171 := Tryz.isAgg169
  z171 := Tryz.sizeOf169
  v171 := Tryz.zeroValue169
  t173 := Tryz.underlying172
  a173 := Tryz.isAgg172
  z173 := Tryz.sizeOf172
  v173 := Tryz.zeroValue172
  t212 := Tryz.underlying182
  a212 := Tryz.isAgg182
  z212 := Tryz.sizeOf182
  v212 := Tryz.zeroValue182
  t213 := Tryz.underlying183
  a213 := Tryz.isAgg183
  z213 := Tryz.sizeOf183
  t232 := Tryz.underlying186
  a232 := Tryz.isAgg186
  z232 := Tryz.sizeOf186
  v232 := Tryz.zeroValue186
  t233 := Tryz.underlying187
  a233 := Tryz.isAgg187
  z233 := Tryz.sizeOf187
  v233 := Tryz.zeroValue187
  g17 := by kernel_rfl
  g18 := by kernel_rfl
  g19 := by kernel_rfl
  i0 := by kernel_rfl
  i2 := by kernel_rfl
  i3 := by kernel_rfl
  i4 := by kernel_rfl
  i5 := by kernel_rfl
  i9 := by kernel_rfl
  i20 := by kernel_rfl
  i37 := by kernel_rfl
  i46 := by kernel_rfl
  i51 := by kernel_rfl
  i53 := by kernel_rfl
  i171 := by kernel_rfl
  i173 := by kernel_rfl
  i212 := by kernel_rfl
  i232 := by kernel_rfl
  i233 := by kernel_rfl
  m17 := by kernel_rfl
  m18 := by kernel_rfl
  m19 := by kernel_rfl }
end Go.Proofs

namespace Go.Proofs.YtkgeabljdkkonaaGreatDoor
open Go.RowKit

/-- An item as plain data. -/
inductive It where
  | mk (kind num : Int) (text : ByteArray) (list : List It)
def It.kind : It → Int | .mk k _ _ _ => k
def It.num : It → Int | .mk _ n _ _ => n
def It.text : It → ByteArray | .mk _ _ t _ => t
def It.list : It → List It | .mk _ _ _ l => l
instance : Inhabited It := ⟨.mk 0 0 ⟨#[]⟩ []⟩
theorem It.eta (x : It) : x = .mk x.kind x.num x.text x.list := by cases x; rfl
theorem It.list_lt (x : It) : SizeOf.sizeOf x.list < SizeOf.sizeOf x := by cases x; simp [It.list]; omega
theorem list_lt_of_get {l : List It} {i : Nat} (h : i < l.length) : SizeOf.sizeOf l[i].list < SizeOf.sizeOf l :=
  Nat.lt_trans (It.list_lt _) (List.sizeOf_lt_of_mem (List.getElem_mem h))
/-- The parts of one item are such as a machine's item can be. -/
structure It.Ok (x : It) : Prop where
  k1 : -9223372036854775808 ≤ x.kind
  k2 : x.kind ≤ 9223372036854775807
  n1 : -9223372036854775808 ≤ x.num
  n2 : x.num ≤ 9223372036854775807
  t : x.text.size ≤ 140737488351232

/-- The slice value v reads as the items l, all in blocks that F names. -/
inductive ItsAt (w : World) (F : Nat → Prop) : Value → List It → Prop where
  | mk (a : Option Addr) (g off cap : Nat) (l : List It) (vs : Nat → Value) (hlen : l.length ≤ 2513169434843)
      (ha : 0 < l.length → a = some ⟨g, off, none⟩ ∧ F g)
      (hok : ∀ i (h : i < l.length), l[i].Ok)
      (h0 : ∀ i (h : i < l.length), w.cell? ⟨g, off + i * 4, none⟩ = some (.int .i64 l[i].kind))
      (h1 : ∀ i (h : i < l.length), w.cell? ⟨g, off + i * 4 + 1, none⟩ = some (.int .i64 l[i].num))
      (h2 : ∀ i (h : i < l.length), w.cell? ⟨g, off + i * 4 + 2, none⟩ = some (.string l[i].text))
      (h3 : ∀ i, i < l.length → w.cell? ⟨g, off + i * 4 + 3, none⟩ = some (vs i))
      (hin : ∀ i (h : i < l.length), ItsAt w F (vs i) l[i].list) : ItsAt w F (.slice a l.length cap) l

theorem cell_below {w w' : World} (hb : Below w.heap.size w w') {a : Addr} {v : Value} (hc : w.cell? a = some v) : w'.cell? a = some v := (hb.cell (World.block_lt_of_cell? w a hc)).trans hc
theorem ItsAt.keep {w w' : World} {F : Nat → Prop} {v : Value} {l : List It} (h : ItsAt w F v l) (hb : Below w.heap.size w w') : ItsAt w' F v l := by
  induction h with
  | mk a g off cap l vs hlen ha hok h0 h1 h2 h3 hin ih =>
    exact .mk a g off cap l vs hlen ha hok (fun i h => cell_below hb (h0 i h)) (fun i h => cell_below hb (h1 i h)) (fun i h => cell_below hb (h2 i h)) (fun i h => cell_below hb (h3 i h)) ih
theorem ItsAt.keepB {w w' : World} {base : Nat} {v : Value} {l : List It} (h : ItsAt w (fun g => g < base) v l) (hb : Below base w w') : ItsAt w' (fun g => g < base) v l := by
  have cell : ∀ {g o : Nat} {u : Value}, g < base → w.cell? ⟨g, o, none⟩ = some u → w'.cell? ⟨g, o, none⟩ = some u := fun {_g _o _u} hg hc => (hb.cell (p := ⟨_g, _o, none⟩) hg).trans hc
  induction h with
  | mk a g off cap l vs hlen ha hok h0 h1 h2 h3 hin ih =>
    have hg : ∀ i, i < l.length → g < base := fun i h => (ha (by omega)).2
    exact .mk a g off cap l vs hlen ha hok (fun i h => cell (hg i h) (h0 i h)) (fun i h => cell (hg i h) (h1 i h)) (fun i h => cell (hg i h) (h2 i h)) (fun i h => cell (hg i h) (h3 i h)) ih
theorem ItsAt.weak {w : World} {F G : Nat → Prop} {v : Value} {l : List It} (h : ItsAt w F v l) (hf : ∀ g, g < w.heap.size → F g → G g) : ItsAt w G v l := by
  induction h with
  | mk a g off cap l vs hlen ha hok h0 h1 h2 h3 hin ih =>
    exact .mk a g off cap l vs hlen (fun h => ⟨(ha h).1, hf g (World.block_lt_of_cell? w _ (h0 0 h)) (ha h).2⟩) hok h0 h1 h2 h3 ih
theorem ItsAt.len_le {w : World} {F : Nat → Prop} {v : Value} {l : List It} (h : ItsAt w F v l) : l.length ≤ 2513169434843 := by
  cases h; assumption
theorem ItsAt.form {w : World} {F : Nat → Prop} {v : Value} {l : List It} (h : ItsAt w F v l) : ∃ a c, v = .slice a l.length c := by
  cases h; exact ⟨_, _, rfl⟩
theorem Below.next {a b c : World} (h : Below a.heap.size a b) (k : Below b.heap.size b c) : Below a.heap.size a c := h.trans (k.mono h.size)
theorem wrap_i64 (n : Int) (h1 : -9223372036854775808 ≤ n) (h2 : n ≤ 9223372036854775807) : IntKind.i64.wrap n = n := by
  simp [IntKind.wrap, IntKind.bits, IntKind.signed]
  omega
theorem ret_bool {a b : Bool} (h : a = b) : Ending.returned (.bool a) = .returned (.bool b) := by rw [h]
theorem undrew {w w' : World} (h : Below w.drew.heap.size w.drew w') : Below w.heap.size w w' := ⟨h.os, h.tape, h.output, h.size, h.block⟩
theorem ItsAt.drew {w : World} {F : Nat → Prop} {v : Value} {l : List It} (h : ItsAt w F v l) : ItsAt w.drew F v l := h.keep ((Below.refl _ _).drew)
/-- A block of the call's own that holds a struct's cells. -/
def Boxed (b : Nat) (cs : List Value) (w : World) : Prop := b < w.heap.size ∧ ∀ j (h : j < cs.length), w.cell? ⟨b, j, none⟩ = some cs[j]
theorem Boxed.keep {b : Nat} {cs : List Value} {w w' : World} (h : Boxed b cs w) (hb : Below w.heap.size w w') : Boxed b cs w' :=
  ⟨Nat.lt_of_lt_of_le h.1 hb.size, fun j hj => (hb.cell (p := ⟨b, j, none⟩) h.1).trans (h.2 j hj)⟩
theorem boxed_new (w : World) (cs : Array Value) (t : TypeId) : Boxed w.heap.size cs.toList (w.alloc (.cells cs t)) := by
  refine ⟨by simp, fun j hj => ?_⟩
  have h : (w.alloc (.cells cs t)).heap[w.heap.size]? = some (.cells cs t (0, 0)) := heap_alloc_new w _
  rw [cell_of_row _ w.heap.size j cs t (0, 0) h]
  simp only [Array.length_toList] at hj
  simp [hj]
theorem below_new (w : World) (o : Obj) : Below w.heap.size w (w.alloc o) := (Below.refl _ _).alloc (Nat.le_refl _) o
def anyB : Nat → Prop := fun _ => True

end Go.Proofs.YtkgeabljdkkonaaGreatDoor
