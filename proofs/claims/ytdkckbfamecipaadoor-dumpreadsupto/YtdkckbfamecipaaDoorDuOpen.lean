import Derived.Test.YtdkckbfamecipaaDoorDuLaw
import Derived.Test.YtdkckbfamecipaaDoorWLaid
import Derived.Test.YtdkckbfamecipaaDoorDIto
import Derived.ChangeMaps5
import Derived.Lib.LaidTab
import Derived.Lib.ItoaLen
import Derived.Lib.AppendIntMem
import Derived.Shelf.Strconv.Itoa3
namespace Go.Proofs.YtdkckbfamecipaaDoor
open Go.ChangeShapes Go.WideShapes Go.ChangeAt Go.WideMaps Go.WideElems Go.RowKit Go.Joins

theorem bulk_pos {H : Type} (d : DataW H) : 1 ≤ Rows.uptoBulk d := by
  cases d with
  | lit x => cases x <;> simp [Rows.uptoBulk]
  | _ => simp [Rows.uptoBulk]
theorem bulk_mem {H : Type} : ∀ {l : List (DataW H)} {d : DataW H}, d ∈ l → Rows.uptoBulk d ≤ Rows.uptoBulkAll l
  | x :: r, d, h => by
    simp only [Rows.uptoBulkAll]
    rcases List.mem_cons.1 h with rfl | h
    · omega
    · have := bulk_mem h; omega
theorem bulk_len {H : Type} : ∀ l : List (DataW H), l.length ≤ Rows.uptoBulkAll l
  | [] => Nat.le_refl _
  | x :: r => by
    have h1 := bulk_len r
    have h2 := bulk_pos x
    simp only [Rows.uptoBulkAll, List.length_cons]
    omega
theorem addr_zero {a : Addr} {W : World} {u : Value} (h : W.cell? (a.add 0) = some u) : a = ⟨a.block, a.off, none⟩ := by
  have e : a.add 0 = a := rfl
  rw [e] at h
  have hsp : a.spot = none := by
    unfold World.cell? at h
    split at h
    · split at h
      · cases h
      · rename_i hs; simpa using hs
    · cases h
  cases a; simp at hsp; rw [hsp]
set_option maxRecDepth 100000 in
set_option maxHeartbeats 1000000 in
/-- A slice of texts, by its bulk. -/
theorem open_lines {H : Type} {enc : TypeId × Value → H} {W : World} {r : Reach} {b0 : Nat} {v : Value} {d : DataW H} {p : List MemPlace} (hv : Value.okWide Tryd.prog W r b0 22 v)
    (h : DataW.Trod enc Tryd.prog W 0 (fun _ => true) true 22 v d p) (hb : Rows.uptoBulk d ≤ 1048576) :
    ∃ l : List ByteArray, RowR W v (strs l) ∧ l.length ≤ 1048576 ∧ ∀ s ∈ l, s.size ≤ 1048576 := by
  obtain ⟨fuel, hf0⟩ := h
  obtain ⟨a0, n0, c0, rfl⟩ := okWide_slice Tryd.underlying22 hv
  have hf0' : DataW.trod enc Tryd.prog W 0 (fun _ => true) true fuel 22 [.slice a0 n0 c0] = some (d, p) := hf0
  rcases DataW.trod_slice Tryd.underlying22 hf0' with ⟨h0, _⟩ | ⟨a, len, cap, elems, rest, k, hk, hv, hx, _, hl, hmm, hlen, hel, _⟩
  · simp only [List.cons.injEq, and_true] at h0
    cases h0
    exact ⟨[], ⟨none, 0, rfl, Nat.le_refl _, fun _ => rfl, fun j u hj => by simp [strs] at hj⟩, Nat.zero_le _, fun s hs => by simp at hs⟩
  · simp only [List.cons.injEq, and_true] at hv
    cases hv
    have hx1 := (Prod.mk.inj hx).1
    rw [hx1] at hb
    simp only [Rows.uptoBulk] at hb
    have hl1 := bulk_len (elems.map (·.1))
    rw [List.length_map] at hl1
    have each : ∀ i, i < n0 → ∃ q : ByteArray, q.size ≤ 1048576 ∧ W.cell? (a.add (i * 1)) = some (.string q) := by
      intro i hi
      have h1 := hel i hi
      rw [cells9, List.getElem?_eq_getElem (by omega)] at h1
      obtain ⟨cs', h2, h3⟩ := Option.bind_eq_some_iff.1 h1
      obtain ⟨_, hcl, hcell⟩ := World.cells?_some h2
      have hm : elems[i].1 ∈ elems.map (·.1) := List.mem_map.2 ⟨_, List.getElem_mem (by omega), rfl⟩
      have hbm := bulk_mem hm
      obtain ⟨t0, d0, hd1, w0⟩ := DataW.trod_string Tryd.underlying9 h3
      subst d0
      have hc0 := hcell 0 (by omega)
      rw [hd1] at hbm
      simp only [Rows.uptoBulk] at hbm
      have z0 := bsize t0
      refine ⟨t0, by omega, ?_⟩
      exact hc0
    obtain ⟨q, hq⟩ := Deep.choose_lt (α := ByteArray) each
    refine ⟨(List.range n0).map q, ⟨some a, c0, by simp [strs], by simpa [strs] using hl, fun h => (by cases h), fun j u hj => ?_⟩, by simp; omega, fun s hs => ?_⟩
    · have hj' := (List.getElem?_eq_some_iff.1 hj)
      obtain ⟨h1, h2⟩ := hj'
      have hjn : j < n0 := by simpa [strs] using h1
      have e : u = .string (q j) := by rw [← h2]; simp [strs]
      have c := (hq j hjn).2
      have cz := (hq 0 (by omega)).2
      rw [Nat.zero_mul] at cz
      have ea := addr_zero (a := a) cz
      refine ⟨a.block, a.off, by rw [← ea], ?_⟩
      rw [ea, add_plain', Nat.mul_one] at c
      rw [e]; exact c
    · obtain ⟨i, hi, rfl⟩ := List.mem_map.1 hs
      exact (hq i (List.mem_range.1 hi)).1
theorem gPow : Tryd.prog.globalNamed "internal/strconv.uint64pow10" = some 13 := by kernel_rfl
theorem tPow : (Tryd.prog.globals[(13 : Nat)]?).map (·.type) = some 79 := by kernel_rfl
theorem cellsU64 : Tryd.prog.cellsOf 66 = 1 := by kernel_rfl
theorem cellsPow : Tryd.prog.cellsOf 79 = 20 := by kernel_rfl
def isPow (x : String × DataW Unit) : Bool := x.1 == "internal/strconv.uint64pow10"
set_option maxRecDepth 100000 in
theorem pow_of_laid {W : World} (h : laidMet Tryd.prog [("internal/strconv.uint64pow10", Rows.laid_internal_strconv_uint64pow10)] W) : Lib.TabIs Tryd.prog W "internal/strconv.uint64pow10" .u64 Lib.pow10Tab := by
  have e : (Rows.laid_internal_strconv_uint64pow10 : DataW Unit) = Lib.tabData .u64 Lib.pow10Tab := by rfl
  rw [e] at h
  exact Lib.tabIs_of_head gPow tPow Tryd.underlying79 Tryd.underlying66 cellsU64 cellsPow h
theorem below_grow (W : World) (k : Nat) (os : Array Obj) : Below W.heap.size W (Sort.grow (W.drewN k) os) := by
  refine ⟨rfl, rfl, rfl, ?_, fun j hj => ?_⟩
  · show W.heap.size ≤ (W.heap ++ os).size
    simp
  · show (W.heap ++ os)[j]? = W.heap[j]?
    exact Array.getElem?_append_left hj
theorem itoAt_of {w : World} (hp : Lib.TabIs Tryd.prog w "internal/strconv.uint64pow10" .u64 Lib.pow10Tab) : ItoAt w := fun W n hW h1 h2 => by
  refine (Any.strconv_Itoa Tryd.lays171 n h1 h2 W (Lib.tabBelow_of_tabIs hp W hW)).mono ?_
  rintro e w' ⟨rfl, k, os, rfl⟩
  exact ⟨rfl, below_grow W k os⟩
end Go.Proofs.YtdkckbfamecipaaDoor
