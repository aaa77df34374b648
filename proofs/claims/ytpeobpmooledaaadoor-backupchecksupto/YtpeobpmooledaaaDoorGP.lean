import Derived.Test.YtpeobpmooledaaaDoorRows
import Derived.Test.YtpeobpmooledaaaDoorBLaw
import Derived.Test.YtpeobpmooledaaaDoorErrs
import Derived.ProofKit
import Derived.LaidMore
import Derived.LaidSub
import Derived.Lay
import Derived.OpenShut
import Derived.Stop.Joined
import Derived.Lib.SmallJoins
import Derived.Lib.LaidTab
import Derived.SizedLaws
import Derived.ChangeMaps5
import Derived.Deep.Slices
import Derived.Test.YtpeobpmooledaaaDoorTie
import Derived.Test.YtpeobpmooledaaaDoorCards
import Derived.SevenTiedAt
import Derived.Deep.DeepHandedRow
import Derived.Deep.DeepWitnessRowRef
namespace Go.Proofs.YtpeobpmooledaaaDoor
open Go.ChangeShapes Go.WideShapes Go.ChangeAt Go.WideMaps Go.WideElems Go.RowKit Go.Joins

theorem own : ownKnob Tryd.prog.godebug = none := by kernel_rfl
theorem laidOut : laidOutB Tryd.prog = true := by kernel_rfl
theorem cells9 : Tryd.prog.cellsOf 9 = 1 := by kernel_rfl
theorem cellsU64 : Tryd.prog.cellsOf 22 = 1 := by kernel_rfl
theorem cellsMt : Tryd.prog.cellsOf 24 = 3 := by kernel_rfl
theorem cellsInts : Tryd.prog.cellsOf 25 = 1 := by kernel_rfl
theorem cellsPcs : Tryd.prog.cellsOf 26 = 1 := by kernel_rfl
theorem cellsPc : Tryd.prog.cellsOf 38 = 3 := by kernel_rfl
theorem cellsArc : Tryd.prog.cellsOf 29 = 7 := by kernel_rfl
theorem bulk_pos {H : Type} (d : DataW H) : 1 ≤ Rows.uptoBulk d := by
  cases d with
  | lit x => cases x <;> simp [Rows.uptoBulk]
  | _ => simp [Rows.uptoBulk]
theorem bulk_mem {H : Type} : ∀ {l : List (DataW H)} {d : DataW H}, d ∈ l → Rows.uptoBulk d ≤ Rows.uptoBulkAll l
  | x :: r, d, h => by
    simp only [Rows.uptoBulkAll]
    rcases List.mem_cons.1 h with rfl | h
    · omega
    · have := bulk_mem h; omega
theorem bulk_len {H : Type} : ∀ l : List (DataW H), l.length ≤ Rows.uptoBulkAll l
  | [] => Nat.le_refl _
  | x :: r => by
    have h1 := bulk_len r
    have h2 := bulk_pos x
    simp only [Rows.uptoBulkAll, List.length_cons]
    omega
theorem addr_zero {a : Addr} {W : World} {u : Value} (h : W.cell? (a.add 0) = some u) : a = ⟨a.block, a.off, none⟩ := by
  have e : a.add 0 = a := rfl
  rw [e] at h
  have hsp : a.spot = none := by
    unfold World.cell? at h
    split at h
    · split at h
      · cases h
      · rename_i hs; simpa using hs
    · cases h
  cases a; simp at hsp; rw [hsp]
theorem addr_add (b o c : Nat) : (⟨b, o, none⟩ : Addr).add c = ⟨b, o + c, none⟩ := by
  unfold Addr.add
  split
  · rename_i h; rw [h, Nat.add_zero]
  · rfl
set_option maxRecDepth 100000 in
set_option maxHeartbeats 1000000 in
/-- A slice whose elements have n cells, by its bulk. -/
theorem open_slB {H : Type} {enc : TypeId × Value → H} {W : World} {T E : TypeId} {n : Nat} (hT : Tryd.prog.underlying T = some (.slice E)) (hn : Tryd.prog.cellsOf E = n) (hn0 : 0 < n) (fuel : Nat) (v : Value) (x : DataW H × List MemPlace)
    (h : DataW.trod enc Tryd.prog W 0 (fun _ => true) true fuel T [v] = some x) (hb : Rows.uptoBulk x.1 ≤ 1048576) :
    ∃ (a : Option Addr) (g off len cap k : Nat), v = .slice a len cap ∧ len ≤ cap ∧ len ≤ 1048576 ∧ (a = none → cap = 0) ∧ (0 < len → a = some ⟨g, off, none⟩) ∧
      ∀ i, i < len → ∃ (cs : List Value) (y : DataW H × List MemPlace), cs.length = n ∧ (∀ j u, cs[j]? = some u → W.cell? ⟨g, off + i * n + j, none⟩ = some u) ∧ DataW.trod enc Tryd.prog W 0 (fun _ => true) true k E cs = some y ∧ Rows.uptoBulk y.1 ≤ 1048576 := by
  rcases DataW.trod_slice hT h with ⟨h0, _⟩ | ⟨a, len, cap, elems, rest, k, hk, hv, hx, _, hl, hmm, hlen, hel, _⟩
  · simp only [List.cons.injEq, and_true] at h0
    subst h0
    exact ⟨none, 0, 0, 0, 0, 0, rfl, by omega, by omega, fun _ => rfl, fun h => by omega, fun i hi => by omega⟩
  · simp only [List.cons.injEq, and_true] at hv
    subst hv hx hk
    simp only [Rows.uptoBulk] at hb
    have hl1 := bulk_len (elems.map (·.1))
    rw [List.length_map] at hl1
    have each : ∀ i, i < len → ∃ (cs : List Value) (y : DataW H × List MemPlace), cs.length = n ∧ (∀ j, (hj : j < cs.length) → W.cell? ((a.add (i * n)).add j) = some cs[j]) ∧ DataW.trod enc Tryd.prog W 0 (fun _ => true) true k E cs = some y ∧ Rows.uptoBulk y.1 ≤ 1048576 := by
      intro i hi
      have h1 := hel i hi
      rw [hn, List.getElem?_eq_getElem (by omega)] at h1
      obtain ⟨cs', h2, h3⟩ := Option.bind_eq_some_iff.1 h1
      obtain ⟨_, hcl, hcell⟩ := World.cells?_some h2
      have hm : elems[i].1 ∈ elems.map (·.1) := List.mem_map.2 ⟨_, List.getElem_mem (by omega), rfl⟩
      have := bulk_mem hm
      exact ⟨cs', _, hcl, fun j hj => (hcell j (by omega)).trans (List.getElem?_eq_getElem hj), h3, by omega⟩
    refine ⟨some a, a.block, a.off, len, cap, k, rfl, by omega, by omega, fun h => (by cases h), fun h0 => ?_, fun i hi => ?_⟩
    · obtain ⟨cs, y, hc, hcell, _⟩ := each 0 h0
      have := hcell 0 (by omega)
      rw [Nat.zero_mul] at this
      rw [← addr_zero (a := a) (by exact this)]
    · obtain ⟨cs, y, hc, hcell, h3, h4⟩ := each i hi
      obtain ⟨cs0, y0, hc0, hcell0, _⟩ := each 0 (by omega)
      have e0 := hcell0 0 (by omega)
      rw [Nat.zero_mul] at e0
      have ea := addr_zero (a := a) (by exact e0)
      refine ⟨cs, y, hc, fun j u hu => ?_, h3, h4⟩
      obtain ⟨hj, rfl⟩ := List.getElem?_eq_some_iff.1 hu
      have := hcell j hj
      rw [ea, addr_add, addr_add] at this
      exact this
theorem gTab : Tryd.prog.globalNamed "copse/codec.halfByteSteps" = some 13 := by kernel_rfl
theorem tTab : (Tryd.prog.globals[13]?).map (·.type) = some 66 := by kernel_rfl
theorem gLay : Tryd.prog.globalNamed "copse/sheet.layout" = some 14 := by kernel_rfl
theorem tLay : (Tryd.prog.globals[14]?).map (·.type) = some 100 := by kernel_rfl
theorem cells32 : Tryd.prog.cellsOf 27 = 1 := by kernel_rfl
theorem cellsTab : Tryd.prog.cellsOf 66 = 16 := by kernel_rfl
theorem cellsInt : Tryd.prog.cellsOf 3 = 1 := by kernel_rfl
theorem cellsLay : Tryd.prog.cellsOf 100 = 10 := by kernel_rfl
theorem cellsNum : Tryd.prog.cellsOf 99 = 2 := by kernel_rfl

theorem tab_of_laid {W : World} (h : laidMet Tryd.prog [("copse/codec.halfByteSteps", Rows.laid_copse_codec_halfByteSteps)] W) : Tab W := by
  have e : (Rows.laid_copse_codec_halfByteSteps : DataW Unit) = Lib.tabData .u32 (tabL.map Int.ofNat) := by simp [Rows.laid_copse_codec_halfByteSteps, Lib.tabData, tabL]
  rw [e] at h
  have hv := Lib.tabIs_of_head gTab tTab Tryd.underlying66 Tryd.underlying27 cells32 cellsTab h
  have hc := World.var?_cell gTab hv
  have h16 : ∀ j, j < 16 → W.cell? ⟨13, j, none⟩ = some (.int .u32 (tab j : Nat)) := by
    intro j hj
    have h1 := hc j
    rw [h1]
    have : ∀ i : Fin 16, ((tabL.map Int.ofNat).map fun z => Value.int .u32 z).toArray[i.1]? = some (.int .u32 ((tab i.1 : Nat) : Int)) := by
      intro i
      simp only [List.map_map, List.getElem?_toArray, List.getElem?_map]
      have hi : i.1 < tabL.length := i.2
      rw [List.getElem?_eq_getElem hi]
      simp only [Option.map_some, Function.comp]
      unfold tab
      rw [List.getD, List.getElem?_eq_getElem hi]
      rfl
    exact this ⟨j, hj⟩
  refine ⟨h16, ?_⟩
  exact World.block_lt_of_cell? W _ (h16 0 (by decide))

set_option maxRecDepth 100000 in
theorem number_cells {W : World} {m : Nat} {a b : Value} {y : DataW Unit × List MemPlace} {p q : Int} (h : DataW.trod (fun _ => ()) Tryd.prog W 0 (fun _ => true) false m 99 [a, b] = some y) (hy : y.1 = .agg [.lit (.int .i64 p), .lit (.int .i64 q)]) :
    a = .int .i64 p ∧ b = .int .i64 q := by
  obtain ⟨y0, y1, n, rfl, _, h0, h1⟩ := trod_struct2 Tryd.underlying99 h
  have h0' : DataW.trod (fun _ => ()) Tryd.prog W 0 (fun _ => true) false n 3 [a] = some y0 := by simpa [cellsInt] using h0
  have h1' : DataW.trod (fun _ => ()) Tryd.prog W 0 (fun _ => true) false n 3 [b] = some y1 := by simpa [cellsInt] using h1
  obtain ⟨k0, e0, rfl, _⟩ := DataW.trod_int Tryd.underlying3 h0'
  obtain ⟨k1, e1, rfl, _⟩ := DataW.trod_int Tryd.underlying3 h1'
  simp only [List.cons.injEq, and_true] at e0 e1
  subst e0 e1
  simp only [DataW.agg.injEq, List.cons.injEq, DataW.lit.injEq, Lit.int.injEq, true_and, and_true] at hy
  obtain ⟨rfl, rfl⟩ := hy
  exact ⟨rfl, rfl⟩

set_option maxRecDepth 100000 in
theorem lay_of_laid {W : World} (h : laidMet Tryd.prog [("copse/sheet.layout", Rows.laid_copse_sheet_layout)] W) : S.Lay W := by
  obtain ⟨ps, ⟨g, t, cs, fuel, p, q, hg, ht, hvar, hd, _, _⟩, _, _⟩ := h
  obtain rfl := Option.some.inj (gLay.symm.trans hg)
  obtain rfl := Option.some.inj (tLay.symm.trans ht)
  have hc := World.var?_cell gLay hvar
  obtain ⟨xs, m, _, hx, hcl, hxl, hf⟩ := DataW.trod_array Tryd.underlying100 hd
  rw [cellsLay] at hcl
  obtain ⟨cl⟩ := cs
  match xs, hxl, cl, hcl with
  | [y0, y1, y2, y3, y4], _, [v0, v1, v2, v3, v4, v5, v6, v7, v8, v9], _ =>
    have g0 := hf 0 (by decide)
    have g1 := hf 1 (by decide)
    have g2 := hf 2 (by decide)
    have g3 := hf 3 (by decide)
    have g4 := hf 4 (by decide)
    simp [cellsNum] at g0 g1 g2 g3 g4
    have hx1 := congrArg Prod.fst hx
    simp only [Rows.laid_copse_sheet_layout, List.map_cons, List.map_nil, DataW.agg.injEq, List.cons.injEq, and_true] at hx1
    obtain ⟨x0, x1, x2, x3, x4⟩ := hx1
    obtain ⟨rfl, rfl⟩ := number_cells g0 x0.symm
    obtain ⟨rfl, rfl⟩ := number_cells g1 x1.symm
    obtain ⟨rfl, rfl⟩ := number_cells g2 x2.symm
    obtain ⟨rfl, rfl⟩ := number_cells g3 x3.symm
    obtain ⟨rfl, rfl⟩ := number_cells g4 x4.symm
    have k0 := hc 0
    have k1 := hc 1
    have k2 := hc 2
    have k3 := hc 3
    have k4 := hc 4
    have k5 := hc 5
    have k6 := hc 6
    have k7 := hc 7
    have k8 := hc 8
    have k9 := hc 9
    simp at k0 k1 k2 k3 k4 k5 k6 k7 k8 k9
    exact ⟨World.block_lt_of_cell? W _ k0, k0, k1, k2, k3, k4, k5, k6, k7, k8, k9⟩

def err13L : List (String × List UInt8) := [("copse/api.ErrArg", errText Rows.laid_copse_api_ErrArg), ("copse/api.ErrText", errText Rows.laid_copse_api_ErrText), ("copse/api.ErrMany", errText Rows.laid_copse_api_ErrMany), ("copse/api.ErrShort", errText Rows.laid_copse_api_ErrShort), ("copse/api.ErrTwice", errText Rows.laid_copse_api_ErrTwice), ("copse/api.ErrLost", errText Rows.laid_copse_api_ErrLost), ("copse/api.ErrFull", errText Rows.laid_copse_api_ErrFull), ("copse/api.ErrDead", errText Rows.laid_copse_api_ErrDead), ("copse/api.ErrCorrupt", errText Rows.laid_copse_api_ErrCorrupt), ("copse/api.ErrStatus", errText Rows.laid_copse_api_ErrStatus), ("copse/api.ErrTxid", errText Rows.laid_copse_api_ErrTxid), ("copse/api.ErrOrder", errText Rows.laid_copse_api_ErrOrder), ("copse/api.ErrKind", errText Rows.laid_copse_api_ErrKind)]
theorem err13L_eq : err13L.map mkErr ++ [] = [("copse/api.ErrArg", Rows.laid_copse_api_ErrArg), ("copse/api.ErrText", Rows.laid_copse_api_ErrText), ("copse/api.ErrMany", Rows.laid_copse_api_ErrMany), ("copse/api.ErrShort", Rows.laid_copse_api_ErrShort), ("copse/api.ErrTwice", Rows.laid_copse_api_ErrTwice), ("copse/api.ErrLost", Rows.laid_copse_api_ErrLost), ("copse/api.ErrFull", Rows.laid_copse_api_ErrFull), ("copse/api.ErrDead", Rows.laid_copse_api_ErrDead), ("copse/api.ErrCorrupt", Rows.laid_copse_api_ErrCorrupt), ("copse/api.ErrStatus", Rows.laid_copse_api_ErrStatus), ("copse/api.ErrTxid", Rows.laid_copse_api_ErrTxid), ("copse/api.ErrOrder", Rows.laid_copse_api_ErrOrder), ("copse/api.ErrKind", Rows.laid_copse_api_ErrKind)] := rfl
theorem err13L_all : ((List.range 13).all fun i => match err13L[i]? with
    | some x => (Tryd.prog.globalNamed x.1 == some (gAll i)) && ((Tryd.prog.globals[gAll i]?).map (·.type) == some 32)
    | none => false) = true := by kernel_rfl
theorem err13L_glob : ∀ i x, err13L[i]? = some x → Tryd.prog.globalNamed x.1 = some (gAll i) ∧ (Tryd.prog.globals[gAll i]?).map (·.type) = some 32 := by
  intro i x hx
  have hi : i < 13 := by
    rcases Nat.lt_or_ge i 13 with h | h
    · exact h
    · rw [List.getElem?_eq_none (by exact h)] at hx; cases hx
  have h := List.all_eq_true.1 err13L_all i (List.mem_range.2 hi)
  rw [hx] at h
  simpa using h
def isErr13 (x : String × DataW Unit) : Bool := x.1 == "copse/api.ErrArg" || x.1 == "copse/api.ErrText" || x.1 == "copse/api.ErrMany" || x.1 == "copse/api.ErrShort" || x.1 == "copse/api.ErrTwice" || x.1 == "copse/api.ErrLost" || x.1 == "copse/api.ErrFull" || x.1 == "copse/api.ErrDead" || x.1 == "copse/api.ErrCorrupt" || x.1 == "copse/api.ErrStatus" || x.1 == "copse/api.ErrTxid" || x.1 == "copse/api.ErrOrder" || x.1 == "copse/api.ErrKind"
set_option maxRecDepth 100000 in
theorem err13_of_laid {W : World} (h : laidMet Tryd.prog [("copse/api.ErrArg", Rows.laid_copse_api_ErrArg), ("copse/api.ErrText", Rows.laid_copse_api_ErrText), ("copse/api.ErrMany", Rows.laid_copse_api_ErrMany), ("copse/api.ErrShort", Rows.laid_copse_api_ErrShort), ("copse/api.ErrTwice", Rows.laid_copse_api_ErrTwice), ("copse/api.ErrLost", Rows.laid_copse_api_ErrLost), ("copse/api.ErrFull", Rows.laid_copse_api_ErrFull), ("copse/api.ErrDead", Rows.laid_copse_api_ErrDead), ("copse/api.ErrCorrupt", Rows.laid_copse_api_ErrCorrupt), ("copse/api.ErrStatus", Rows.laid_copse_api_ErrStatus), ("copse/api.ErrTxid", Rows.laid_copse_api_ErrTxid), ("copse/api.ErrOrder", Rows.laid_copse_api_ErrOrder), ("copse/api.ErrKind", Rows.laid_copse_api_ErrKind)] W) : ∃ A, ErrsG 13 gAll A W := by
  obtain ⟨A, hA, _⟩ := errs_of (rest := []) gAll (show err13L.length = 13 from rfl) err13L_glob (by rw [err13L_eq]; exact h)
  exact ⟨A, hA⟩
def isTab (x : String × DataW Unit) : Bool := x.1 == "copse/codec.halfByteSteps"
def isLay (x : String × DataW Unit) : Bool := x.1 == "copse/sheet.layout"
theorem nat_u64 {n : Int} (h : (Lit.int .u64 n).wf = true) : ∃ k : Nat, n = (k : Int) ∧ k < 18446744073709551616 := by
  have h2 := bounds_u64 h
  exact ⟨n.toNat, by omega, by omega⟩
theorem nat_u32 {n : Int} (h : (Lit.int .u32 n).wf = true) : ∃ k : Nat, n = (k : Int) ∧ k < 4294967296 := by
  have h2 := bounds_u32 h
  exact ⟨n.toNat, by omega, by omega⟩
theorem rng_i64 {n : Int} (h : (Lit.int .i64 n).wf = true) : -9223372036854775808 ≤ n ∧ n ≤ 9223372036854775807 := by
  have h2 := bounds_i64 h
  omega
set_option maxRecDepth 100000 in
set_option maxHeartbeats 1000000 in
theorem open_intsB {H : Type} {enc : TypeId × Value → H} {W : World} (fuel : Nat) (v : Value) (x : DataW H × List MemPlace)
    (h : DataW.trod enc Tryd.prog W 0 (fun _ => true) true fuel 25 [v] = some x) (hb : Rows.uptoBulk x.1 ≤ 1048576) : ∃ l : List Int, RowR W v (ints l) ∧ l.length ≤ 1048576 ∧ ∀ c ∈ l, -9223372036854775808 ≤ c ∧ c ≤ 9223372036854775807 := by
  obtain ⟨a, g, off, len, cap, k, rfl, hlc, hl, hz, ha, hel⟩ := open_slB Tryd.underlying25 cellsInt (by decide) fuel v x h hb
  have each : ∀ i, i < len → ∃ q : Int, (-9223372036854775808 ≤ q ∧ q ≤ 9223372036854775807) ∧ W.cell? ⟨g, off + i, none⟩ = some (.int .i64 q) := by
    intro i hi
    obtain ⟨cs, y, hc, hcell, h3, h4⟩ := hel i hi
    match cs, hc with
    | [v0], _ =>
      obtain ⟨t0, d0, rfl, w0⟩ := DataW.trod_int Tryd.underlying3 h3
      simp only [List.cons.injEq, and_true] at d0
      subst d0
      have h0 := hcell 0 _ rfl
      rw [Nat.mul_one, Nat.add_zero] at h0
      exact ⟨t0, rng_i64 w0, h0⟩
  obtain ⟨q, hq⟩ := Deep.choose_lt (α := Int) each
  refine ⟨(List.range len).map q, ⟨a, cap, by simp [ints], by simpa [ints] using hlc, hz, fun i u hu => ?_⟩, by simpa using hl, fun f hf => ?_⟩
  · have hi' : i < len := by have := (List.getElem?_eq_some_iff.1 hu).1; simpa [ints] using this
    have e : u = .int .i64 (q i) := by
      have := hu
      simp [ints, hi'] at this
      exact this.symm
    rw [e]
    exact ⟨g, off, ha (by omega), (hq i hi').2⟩
  · obtain ⟨i, hi, rfl⟩ := List.mem_map.1 hf
    exact (hq i (List.mem_range.1 hi)).1
instance : Inhabited Pc := ⟨⟨0, 0, ⟨#[]⟩⟩⟩
set_option maxRecDepth 100000 in
set_option maxHeartbeats 1000000 in
theorem open_pcsB {H : Type} {enc : TypeId × Value → H} {W : World} (fuel : Nat) (v : Value) (x : DataW H × List MemPlace)
    (h : DataW.trod enc Tryd.prog W 0 (fun _ => true) true fuel 26 [v] = some x) (hb : Rows.uptoBulk x.1 ≤ 1048576) : ∃ l : List Pc, PcR W v l ∧ l.length ≤ 1048576 ∧ ∀ p ∈ l, (-9223372036854775808 ≤ p.id ∧ p.id ≤ 9223372036854775807) ∧ p.tx < 18446744073709551616 ∧ p.dat.size ≤ 1048576 := by
  obtain ⟨a, g, off, len, cap, k, rfl, hlc, hl, hz, ha, hel⟩ := open_slB Tryd.underlying26 cellsPc (by decide) fuel v x h hb
  have each : ∀ i, i < len → ∃ q : Pc, ((-9223372036854775808 ≤ q.id ∧ q.id ≤ 9223372036854775807) ∧ q.tx < 18446744073709551616 ∧ q.dat.size ≤ 1048576) ∧ PcAt W g (off + i * 3) q := by
    intro i hi
    obtain ⟨cs, y, hc, hcell, h3, h4⟩ := hel i hi
    obtain ⟨xs, k2, hk, hxy, _, hxl, hf⟩ := DataW.trod_struct Tryd.underlying38 h3
    match xs, hxl, cs, hc with
    | [y0, y1, y2], _, [v0, v1, v2], _ =>
      have g0 := hf 0 _ rfl
      have g1 := hf 1 _ rfl
      have g2 := hf 2 _ rfl
      simp [cells9, cellsInt, cellsU64] at g0 g1 g2
      obtain ⟨t0, d0, rfl, w0⟩ := DataW.trod_int Tryd.underlying3 g0
      obtain ⟨t1, d1, rfl, w1⟩ := DataW.trod_int Tryd.underlying22 g1
      obtain ⟨t2, d2, rfl, w2⟩ := DataW.trod_string Tryd.underlying9 g2
      simp only [List.cons.injEq, and_true] at d0 d1 d2
      subst d0 d1 d2
      obtain ⟨tn, rfl, htn⟩ := nat_u64 w1
      rw [hxy] at h4
      simp only [List.map_cons, List.map_nil, Rows.uptoBulk, Rows.uptoBulkAll] at h4
      have z2 := bsize t2
      exact ⟨⟨t0, tn, t2⟩, ⟨rng_i64 w0, htn, by show t2.size ≤ _; omega⟩, hcell 0 _ rfl, hcell 1 _ rfl, hcell 2 _ rfl⟩
  obtain ⟨q, hq⟩ := Deep.choose_lt (α := Pc) each
  refine ⟨(List.range len).map q, ⟨a, cap, by simp, by simpa using hlc, hz, fun i hi => ?_⟩, by simpa using hl, fun f hf => ?_⟩
  · have hi' : i < len := by simpa using hi
    have e : ((List.range len).map q)[i] = q i := by simp
    rw [e]
    exact ⟨g, off, ha (by omega), (hq i hi').2⟩
  · obtain ⟨i, hi, rfl⟩ := List.mem_map.1 hf
    exact (hq i (List.mem_range.1 hi)).1
set_option maxRecDepth 100000 in
set_option maxHeartbeats 1000000 in
theorem open_arc {H : Type} {enc : TypeId × Value → H} {W : World} {r : Reach} {b0 : Nat} {v : Value} {d : DataW H} {p : List MemPlace} (hv : Value.okWide Tryd.prog W r b0 29 v)
    (h : DataW.Trod enc Tryd.prog W 0 (fun _ => true) true 29 v d p) (hb : Rows.uptoBulk d ≤ 1048576) :
    ∃ (a : Ar) (vi vp : Value), v = .agg (arC a vi vp) ∧ ArFit a ∧ ArR W a vi vp := by
  obtain ⟨cs, rfl, hsz⟩ := okWide_struct Tryd.underlying29 hv
  rw [cellsArc] at hsz
  obtain ⟨fuel, hf0⟩ := h
  obtain ⟨xs, k', _, hxy, hcl, hxl, hf⟩ := DataW.trod_struct Tryd.underlying29 hf0
  obtain ⟨cl⟩ := cs
  simp only [Value.cells] at hf
  simp only [Prod.mk.injEq] at hxy
  match xs, hxl, cl, hsz with
  | [y0, y1, y2, y3, y4], _, [v0, v1, v2, v3, v4, v5, v6], _ =>
    have g0 := hf 0 _ rfl
    have g1 := hf 1 _ rfl
    have g2 := hf 2 _ rfl
    have g3 := hf 3 _ rfl
    have g4 := hf 4 _ rfl
    simp [cellsU64, cellsMt, cellsInts, cellsPcs, cells32] at g0 g1 g2 g3 g4
    rw [hxy.1] at hb
    simp only [List.map_cons, List.map_nil, Rows.uptoBulk, Rows.uptoBulkAll] at hb
    obtain ⟨zs, k2, _, _, _, hzl, hg⟩ := DataW.trod_struct Tryd.underlying24 g0
    match zs, hzl with
    | [z0, z1, z2], _ =>
      have m0 := hg 0 _ rfl
      have m1 := hg 1 _ rfl
      have m2 := hg 2 _ rfl
      simp [cellsU64, cellsInt] at m0 m1 m2
      obtain ⟨n0, d0, rfl, w0⟩ := DataW.trod_int Tryd.underlying3 m0
      obtain ⟨n1, d1, rfl, w1⟩ := DataW.trod_int Tryd.underlying3 m1
      obtain ⟨n2, d2, rfl, w2⟩ := DataW.trod_int Tryd.underlying22 m2
      obtain ⟨n3, d3, rfl, w3⟩ := DataW.trod_int Tryd.underlying22 g1
      obtain ⟨n4, d4, rfl, w4⟩ := DataW.trod_int Tryd.underlying27 g4
      simp only [List.cons.injEq, and_true] at d0 d1 d2 d3 d4
      subst d0 d1 d2 d3 d4
      obtain ⟨tx, rfl, htx⟩ := nat_u64 w2
      obtain ⟨si, rfl, hsi⟩ := nat_u64 w3
      obtain ⟨sm, rfl, hsm⟩ := nat_u32 w4
      obtain ⟨li, ri, ni, oi⟩ := open_intsB k' _ y2 g2 (by omega)
      obtain ⟨lp, rp, np, op⟩ := open_pcsB k' _ y3 g3 (by omega)
      exact ⟨⟨n0, n1, tx, si, li, lp, sm⟩, v4, v5, rfl, ⟨rng_i64 w0, rng_i64 w1, htx, hsi, hsm, oi, op, by show li.length ≤ _; omega, by show lp.length ≤ _; omega⟩, ri, rp⟩
end Go.Proofs.YtpeobpmooledaaaDoor

namespace Go.Proofs.YtpeobpmooledaaaDoor
open Go.ChangeShapes Go.WideShapes Go.ChangeAt Go.WideMaps Go.WideElems Go.RowKit Go.Joins

set_option maxRecDepth 100000 in
theorem bchecks_errs {W : World} (h : laidMetH Tryd.prog Rows.backupChecksUptoRow.laid W) : (∃ A, ErrsG 13 gAll A W) ∧ Tab W ∧ S.Lay W := by
  rw [MakeChecks.laidMetH_plain _ _ _ (by kernel_rfl)] at h
  exact ⟨err13_of_laid (h.filter isErr13), tab_of_laid (h.filter isTab), lay_of_laid (h.filter isLay)⟩

set_option maxRecDepth 100000 in
theorem bchecks_contract (H : Type) (enc : TypeId × Value → H) (W : World) (base : Nat) (args : Array Value) (ds gs : List (DataW H)) (before : List MemPlace)
    (hval : ∀ (j : Nat) t v, Tryd.f3.params[j]? = some t → args[j]? = some v → Value.okWide Tryd.prog W .any base t v)
    (hW : DataW.Whole enc Tryd.prog Tryd.f3.params.toList Rows.backupChecksSpec.vars false W args.toList ds gs before) (hL : laidMetH Tryd.prog Rows.backupChecksUptoRow.laid W) (hk : Rows.uptoSmall H (ds ++ gs) = true) :
    Calls Tryd.prog 3 args W fun e W' => ∃ v, e = .returned v ∧ Rows.backupChecksSpec.post enc Tryd.prog Tryd.f3 false true false false W args v W' := by
  have hW' := hW
  obtain ⟨p, q, hA0, hV, rfl, hfz, hnd⟩ := hW
  have hA : DataW.TrodAll enc Tryd.prog W 0 (fun _ => true) true Tryd.f3.params.toList args.toList ds p := hA0
  rw [Tryd.params3] at hA hval
  obtain ⟨v0, d0, rfl, rfl, h0⟩ := trodAll_one hA
  obtain ⟨rfl, rfl⟩ := trodVars_none hV
  have h0k := h0
  have hlt := hA.lt
  have hbulk := of_decide_eq_true hk
  simp only [List.append_nil, Rows.uptoBulkAll, Nat.add_zero] at hbulk
  obtain ⟨a, vi, vp, rfl, hfit, harr⟩ := open_arc (hval 0 29 v0 rfl rfl) h0 hbulk
  clear hA0
  simp only [List.append_nil] at hW'
  obtain ⟨⟨A, hE⟩, hT, hY⟩ := bchecks_errs hL
  refine (lbchecks_any A a vi vp W hfit ⟨hY, hT, hE⟩ harr).mono fun e W' ⟨he, hb⟩ => ?_
  subst he
  refine ⟨_, rfl, _, _, _, [], p, [], hW', trodAll_mk1 (shut_bool Tryd.underlying4 _), trodAll_mk1 (Below.trod laidOut (by kernel_rfl) (of_decide_eq_true (by kernel_rfl)) h0k hb hlt), rfl, hb.frame _, fun h => by cases h⟩

theorem bchecks_reads (os : Os) {H : Type} (enc : TypeId × Value → H) : ∃ places, DataW.whole enc Tryd.prog ((World.laidAll Tryd.prog os Rows.backupChecksUptoRow.laid).forCall (fun _ _ => 0) ⟨#[], #[.agg #[.int .i64 0, .int .i64 0, .int .u64 0, .int .u64 0, .slice none 0 0, .slice none 0 0, .int .u32 0]], []⟩).memory Tryd.f3.params.toList Rows.backupChecksSpec.vars false #[.agg #[.int .i64 0, .int .i64 0, .int .u64 0, .int .u64 0, .slice none 0 0, .slice none 0 0, .int .u32 0]].toList 8 = some ([.agg [.agg [.lit (.int .i64 0), .lit (.int .i64 0), .lit (.int .u64 0)], .lit (.int .u64 0), .nil, .nil, .lit (.int .u32 0)]], [], places) :=
  ⟨[], by kernel_rfl⟩

set_option maxRecDepth 100000 in
theorem bchecks_lifted (os : Os) (started : os.Started) (H : Type) (enc : TypeId × Value → H) (F : Stop.Interp) :
    ReturnsInHanded {} Tryd.checked os 3 .any ((Rows.OpenSpec.upto Rows.backupChecksSpec).preRow enc Tryd.prog Tryd.f3 Rows.backupChecksUptoRow.domain false Rows.backupChecksUptoRow.laid) (((Rows.OpenSpec.upto Rows.backupChecksSpec).at F).post enc Tryd.prog Tryd.f3 false true false false) := by
  obtain ⟨places, hx⟩ := bchecks_reads os enc
  refine returnsInHanded_of_row (C := Tryd.checked) (s := Rows.OpenSpec.upto Rows.backupChecksSpec) own started (by kernel_rfl) Tryd.func3
    (witness_row_atRef (enc := enc) (C := Tryd.checked) false (World.laidAll Tryd.prog os Rows.backupChecksUptoRow.laid) #[.agg #[.int .i64 0, .int .i64 0, .int .u64 0, .int .u64 0, .slice none 0 0, .slice none 0 0, .int .u32 0]] (World.laidAll_os _ _ _) (by kernel_rfl) (by kernel_rfl) (by kernel_rfl)
      (OpenSpec.preRow_of_cond 8 hx (by kernel_rfl) (fun k hk => by cases hk; kernel_rfl) (by kernel_rfl) (laidMet_laidAll _ (by kernel_rfl) (by kernel_rfl)))) ?_
  intro W base args ds gs before hval hW _ hcond _ hL _ _
  exact bchecks_contract H enc W base args ds gs before hval hW hL (hcond _ rfl)

theorem bchecks_holds : Rows.BackupChecksUptoSaid :=
  OpenClaim.holds_of_cond 3 Tryd.f3 rfl rfl rfl rfl rfl rfl rfl ⟨rfl, rfl, rfl, rfl, rfl⟩ rfl rfl rfl rfl rfl (by kernel_rfl) Tryd.func3 (by kernel_rfl)
    (of_decide_eq_true (by kernel_rfl)) (by unfold Func.isWrapper; first | (rw [if_pos (by decide +kernel)]; kernel_rfl) | (rw [if_neg (by decide +kernel)]; exact ⟨rfl, rfl⟩))
    (fun os started H enc _ F => by rw [OpenClaim.pre_eq_preRow]; exact bchecks_lifted os started H enc F)

theorem bchecks_card_holds : Rows.BackupChecksUptoCardSaid :=
  Claim7.holds_tied_plain_at .later [] _ _ _ _
    bchecks_holds (fun _ h => by cases h) (by kernel_rfl) (fun _ h => by cases h) backupChecksUpto_row_tie rfl ⟨rfl, rfl⟩ (by kernel_rfl) rfl
    (fun f fn hf hfn => by
      obtain rfl : f = 3 := Option.some.inj ((show Tryd.prog.funcNamed "copse/copselaw23.BackupChecks" = some 3 by kernel_rfl).symm.trans hf) |>.symm
      obtain rfl : fn = Tryd.f3 := (Option.some.inj (Tryd.func3.symm.trans hfn)).symm
      exact ⟨by kernel_rfl, fun j t ht => by
        rw [Tryd.params3] at ht
        have hm : t ∈ [29] := by simpa using Array.mem_of_getElem? ht
        have hall : ([29].all fun u => !Tryd.prog.wantsStandIn u) = true := by kernel_rfl
        exact (show Tryd.prog.wantsStandIn t = false by simpa using List.all_eq_true.1 hall t hm)⟩)
    (by kernel_rfl)
#print axioms bchecks_card_holds

end Go.Proofs.YtpeobpmooledaaaDoor
