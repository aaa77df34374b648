import Derived.Test.YtiihnoohodklhaaDoorRows
import Derived.Test.YtiihnoohodklhaaDoorAN
import Derived.Test.YtiihnoohodklhaaDoorErrs
import Derived.ProofKit
import Derived.LaidMore
import Derived.LaidSub
import Derived.Lay
import Derived.OpenShut
import Derived.Stop.Joined
import Derived.Lib.SmallJoins
import Derived.SizedLaws
import Derived.ChangeMaps5
import Derived.Deep.Slices
namespace Go.Proofs.YtiihnoohodklhaaDoor
open Go.ChangeShapes Go.WideShapes Go.ChangeAt Go.WideMaps Go.WideElems Go.RowKit Go.Joins

theorem own : ownKnob Tryd.prog.godebug = none := by kernel_rfl
theorem laidOut : laidOutB Tryd.prog = true := by kernel_rfl
theorem cells9 : Tryd.prog.cellsOf 9 = 1 := by kernel_rfl
theorem cells4 : Tryd.prog.cellsOf 4 = 1 := by kernel_rfl
theorem cellsCh : Tryd.prog.cellsOf 39 = 5 := by kernel_rfl
theorem cellsChs : Tryd.prog.cellsOf 23 = 1 := by kernel_rfl
theorem bulk_pos {H : Type} (d : DataW H) : 1 ≤ Rows.uptoBulk d := by
  cases d with
  | lit x => cases x <;> simp [Rows.uptoBulk]
  | _ => simp [Rows.uptoBulk]
theorem bulk_mem {H : Type} : ∀ {l : List (DataW H)} {d : DataW H}, d ∈ l → Rows.uptoBulk d ≤ Rows.uptoBulkAll l
  | x :: r, d, h => by
    simp only [Rows.uptoBulkAll]
    rcases List.mem_cons.1 h with rfl | h
    · omega
    · have := bulk_mem h; omega
theorem bulk_len {H : Type} : ∀ l : List (DataW H), l.length ≤ Rows.uptoBulkAll l
  | [] => Nat.le_refl _
  | x :: r => by
    have h1 := bulk_len r
    have h2 := bulk_pos x
    simp only [Rows.uptoBulkAll, List.length_cons]
    omega
theorem addr_zero {a : Addr} {W : World} {u : Value} (h : W.cell? (a.add 0) = some u) : a = ⟨a.block, a.off, none⟩ := by
  have e : a.add 0 = a := rfl
  rw [e] at h
  have hsp : a.spot = none := by
    unfold World.cell? at h
    split at h
    · split at h
      · cases h
      · rename_i hs; simpa using hs
    · cases h
  cases a; simp at hsp; rw [hsp]
theorem addr_add (b o c : Nat) : (⟨b, o, none⟩ : Addr).add c = ⟨b, o + c, none⟩ := by
  unfold Addr.add
  split
  · rename_i h; rw [h, Nat.add_zero]
  · rfl
set_option maxRecDepth 100000 in
set_option maxHeartbeats 1000000 in
/-- A slice whose elements have n cells, by its bulk. -/
theorem open_slB {H : Type} {enc : TypeId × Value → H} {W : World} {T E : TypeId} {n : Nat} (hT : Tryd.prog.underlying T = some (.slice E)) (hn : Tryd.prog.cellsOf E = n) (hn0 : 0 < n) (fuel : Nat) (v : Value) (x : DataW H × List MemPlace)
    (h : DataW.trod enc Tryd.prog W 0 (fun _ => true) true fuel T [v] = some x) (hb : Rows.uptoBulk x.1 ≤ 1048576) :
    ∃ (a : Option Addr) (g off len cap k : Nat), v = .slice a len cap ∧ len ≤ cap ∧ len ≤ 1048576 ∧ (a = none → cap = 0) ∧ (0 < len → a = some ⟨g, off, none⟩) ∧
      ∀ i, i < len → ∃ (cs : List Value) (y : DataW H × List MemPlace), cs.length = n ∧ (∀ j u, cs[j]? = some u → W.cell? ⟨g, off + i * n + j, none⟩ = some u) ∧ DataW.trod enc Tryd.prog W 0 (fun _ => true) true k E cs = some y ∧ Rows.uptoBulk y.1 ≤ 1048576 := by
  rcases DataW.trod_slice hT h with ⟨h0, _⟩ | ⟨a, len, cap, elems, rest, k, hk, hv, hx, _, hl, hmm, hlen, hel, _⟩
  · simp only [List.cons.injEq, and_true] at h0
    subst h0
    exact ⟨none, 0, 0, 0, 0, 0, rfl, by omega, by omega, fun _ => rfl, fun h => by omega, fun i hi => by omega⟩
  · simp only [List.cons.injEq, and_true] at hv
    subst hv hx hk
    simp only [Rows.uptoBulk] at hb
    have hl1 := bulk_len (elems.map (·.1))
    rw [List.length_map] at hl1
    have each : ∀ i, i < len → ∃ (cs : List Value) (y : DataW H × List MemPlace), cs.length = n ∧ (∀ j, (hj : j < cs.length) → W.cell? ((a.add (i * n)).add j) = some cs[j]) ∧ DataW.trod enc Tryd.prog W 0 (fun _ => true) true k E cs = some y ∧ Rows.uptoBulk y.1 ≤ 1048576 := by
      intro i hi
      have h1 := hel i hi
      rw [hn, List.getElem?_eq_getElem (by omega)] at h1
      obtain ⟨cs', h2, h3⟩ := Option.bind_eq_some_iff.1 h1
      obtain ⟨_, hcl, hcell⟩ := World.cells?_some h2
      have hm : elems[i].1 ∈ elems.map (·.1) := List.mem_map.2 ⟨_, List.getElem_mem (by omega), rfl⟩
      have := bulk_mem hm
      exact ⟨cs', _, hcl, fun j hj => (hcell j (by omega)).trans (List.getElem?_eq_getElem hj), h3, by omega⟩
    refine ⟨some a, a.block, a.off, len, cap, k, rfl, by omega, by omega, fun h => (by cases h), fun h0 => ?_, fun i hi => ?_⟩
    · obtain ⟨cs, y, hc, hcell, _⟩ := each 0 h0
      have := hcell 0 (by omega)
      rw [Nat.zero_mul] at this
      rw [← addr_zero (a := a) (by exact this)]
    · obtain ⟨cs, y, hc, hcell, h3, h4⟩ := each i hi
      obtain ⟨cs0, y0, hc0, hcell0, _⟩ := each 0 (by omega)
      have e0 := hcell0 0 (by omega)
      rw [Nat.zero_mul] at e0
      have ea := addr_zero (a := a) (by exact e0)
      refine ⟨cs, y, hc, fun j u hu => ?_, h3, h4⟩
      obtain ⟨hj, rfl⟩ := List.getElem?_eq_some_iff.1 hu
      have := hcell j hj
      rw [ea, addr_add, addr_add] at this
      exact this
instance : Inhabited ChV := ⟨⟨false, false, nilB, nilB⟩⟩
set_option maxRecDepth 100000 in
set_option maxHeartbeats 1000000 in
theorem open_chsB {H : Type} {enc : TypeId × Value → H} {W : World} (fuel : Nat) (v : Value) (x : DataW H × List MemPlace)
    (h : DataW.trod enc Tryd.prog W 0 (fun _ => true) true fuel 23 [v] = some x) (hb : Rows.uptoBulk x.1 ≤ 1048576) : ∃ l : List Ch, ChR W v l ∧ l.length ≤ 1048576 ∧ OkC l := by
  obtain ⟨a, g, off, len, cap, k, rfl, hlc, hl, hz, ha, hel⟩ := open_slB Tryd.underlying23 cellsCh (by decide) fuel v x h hb
  have each : ∀ i, i < len → ∃ q : Ch, (q.1.size ≤ 140737488355328 ∧ q.2.old.size ≤ 140737488355328 ∧ q.2.new.size ≤ 140737488355328) ∧ ChAt W g (off + i * 5) q := by
    intro i hi
    obtain ⟨cs, y, hc, hcell, h3, h4⟩ := hel i hi
    obtain ⟨xs, k2, hk, hxy, _, hxl, hf⟩ := DataW.trod_struct Tryd.underlying39 h3
    match xs, hxl, cs, hc with
    | [y0, y1, y2, y3, y4], _, [v0, v1, v2, v3, v4], _ =>
      have g0 := hf 0 _ rfl
      have g1 := hf 1 _ rfl
      have g2 := hf 2 _ rfl
      have g3 := hf 3 _ rfl
      have g4 := hf 4 _ rfl
      simp [cells9, cells4] at g0 g1 g2 g3 g4
      obtain ⟨t0, d0, rfl, w0⟩ := DataW.trod_string Tryd.underlying9 g0
      obtain ⟨b1, d1, rfl⟩ := DataW.trod_bool Tryd.underlying4 g1
      obtain ⟨b2, d2, rfl⟩ := DataW.trod_bool Tryd.underlying4 g2
      obtain ⟨t3, d3, rfl, w3⟩ := DataW.trod_string Tryd.underlying9 g3
      obtain ⟨t4, d4, rfl, w4⟩ := DataW.trod_string Tryd.underlying9 g4
      simp only [List.cons.injEq, and_true] at d0 d1 d2 d3 d4
      subst d0 d1 d2 d3 d4
      rw [hxy] at h4
      simp only [List.map_cons, List.map_nil, Rows.uptoBulk, Rows.uptoBulkAll] at h4
      have z0 := bsize t0
      have z3 := bsize t3
      have z4 := bsize t4
      exact ⟨(t0, ⟨b1, b2, t3, t4⟩), ⟨by show t0.size ≤ _; omega, by show t3.size ≤ _; omega, by show t4.size ≤ _; omega⟩, hcell 0 _ rfl, hcell 1 _ rfl, hcell 2 _ rfl, hcell 3 _ rfl, hcell 4 _ rfl⟩
  obtain ⟨q, hq⟩ := Deep.choose_lt (α := Ch) each
  refine ⟨(List.range len).map q, ⟨a, cap, by simp, by simpa using hlc, hz, fun i hi => ?_⟩, by simpa using hl, fun f hf => ?_⟩
  · have hi' : i < len := by simpa using hi
    have e : ((List.range len).map q)[i] = q i := by simp
    rw [e]
    exact ⟨g, off, ha (by omega), (hq i hi').2⟩
  · obtain ⟨i, hi, rfl⟩ := List.mem_map.1 hf
    exact (hq i (List.mem_range.1 hi)).1
def err2L : List (String × List UInt8) := [("copse/api.ErrLost", errText Rows.laid_copse_api_ErrLost), ("copse/api.ErrOrder", errText Rows.laid_copse_api_ErrOrder)]
theorem err2L_eq : err2L.map mkErr ++ [] = [("copse/api.ErrLost", Rows.laid_copse_api_ErrLost), ("copse/api.ErrOrder", Rows.laid_copse_api_ErrOrder)] := rfl
end Go.Proofs.YtiihnoohodklhaaDoor

namespace Go.Proofs.YtiihnoohodklhaaDoor
open Go.ChangeShapes Go.WideShapes Go.ChangeAt Go.WideMaps Go.WideElems Go.RowKit Go.Joins

set_option maxRecDepth 100000 in
set_option maxHeartbeats 1000000 in
theorem open_chsC {H : Type} {enc : TypeId × Value → H} {W : World} (fuel : Nat) (v : Value) (x : DataW H × List MemPlace)
    (h : DataW.trod enc Tryd.prog W 0 (fun _ => true) true fuel 23 [v] = some x) (hb : Rows.uptoBulk x.1 ≤ 1048576) : ∃ l : List Ch, ChR W v l ∧ l.length ≤ 1048576 ∧ ∀ c ∈ l, c.1.size ≤ 1048576 ∧ c.2.old.size ≤ 1048576 ∧ c.2.new.size ≤ 1048576 := by
  obtain ⟨a, g, off, len, cap, k, rfl, hlc, hl, hz, ha, hel⟩ := open_slB Tryd.underlying23 cellsCh (by decide) fuel v x h hb
  have each : ∀ i, i < len → ∃ q : Ch, (q.1.size ≤ 1048576 ∧ q.2.old.size ≤ 1048576 ∧ q.2.new.size ≤ 1048576) ∧ ChAt W g (off + i * 5) q := by
    intro i hi
    obtain ⟨cs, y, hc, hcell, h3, h4⟩ := hel i hi
    obtain ⟨xs, k2, hk, hxy, _, hxl, hf⟩ := DataW.trod_struct Tryd.underlying39 h3
    match xs, hxl, cs, hc with
    | [y0, y1, y2, y3, y4], _, [v0, v1, v2, v3, v4], _ =>
      have g0 := hf 0 _ rfl
      have g1 := hf 1 _ rfl
      have g2 := hf 2 _ rfl
      have g3 := hf 3 _ rfl
      have g4 := hf 4 _ rfl
      simp [cells9, cells4] at g0 g1 g2 g3 g4
      obtain ⟨t0, d0, rfl, w0⟩ := DataW.trod_string Tryd.underlying9 g0
      obtain ⟨b1, d1, rfl⟩ := DataW.trod_bool Tryd.underlying4 g1
      obtain ⟨b2, d2, rfl⟩ := DataW.trod_bool Tryd.underlying4 g2
      obtain ⟨t3, d3, rfl, w3⟩ := DataW.trod_string Tryd.underlying9 g3
      obtain ⟨t4, d4, rfl, w4⟩ := DataW.trod_string Tryd.underlying9 g4
      simp only [List.cons.injEq, and_true] at d0 d1 d2 d3 d4
      subst d0 d1 d2 d3 d4
      rw [hxy] at h4
      simp only [List.map_cons, List.map_nil, Rows.uptoBulk, Rows.uptoBulkAll] at h4
      have z0 := bsize t0
      have z3 := bsize t3
      have z4 := bsize t4
      exact ⟨(t0, ⟨b1, b2, t3, t4⟩), ⟨by show t0.size ≤ _; omega, by show t3.size ≤ _; omega, by show t4.size ≤ _; omega⟩, hcell 0 _ rfl, hcell 1 _ rfl, hcell 2 _ rfl, hcell 3 _ rfl, hcell 4 _ rfl⟩
  obtain ⟨q, hq⟩ := Deep.choose_lt (α := Ch) each
  refine ⟨(List.range len).map q, ⟨a, cap, by simp, by simpa using hlc, hz, fun i hi => ?_⟩, by simpa using hl, fun f hf => ?_⟩
  · have hi' : i < len := by simpa using hi
    have e : ((List.range len).map q)[i] = q i := by simp
    rw [e]
    exact ⟨g, off, ha (by omega), (hq i hi').2⟩
  · obtain ⟨i, hi, rfl⟩ := List.mem_map.1 hf
    exact (hq i (List.mem_range.1 hi)).1
end Go.Proofs.YtiihnoohodklhaaDoor

namespace Go.Proofs.YtiihnoohodklhaaDoor
open Go.ChangeShapes Go.WideShapes Go.ChangeAt Go.WideMaps Go.WideElems Go.RowKit Go.Joins

def err13L : List (String × List UInt8) := [("copse/api.ErrArg", errText Rows.laid_copse_api_ErrArg), ("copse/api.ErrText", errText Rows.laid_copse_api_ErrText), ("copse/api.ErrMany", errText Rows.laid_copse_api_ErrMany), ("copse/api.ErrShort", errText Rows.laid_copse_api_ErrShort), ("copse/api.ErrTwice", errText Rows.laid_copse_api_ErrTwice), ("copse/api.ErrLost", errText Rows.laid_copse_api_ErrLost), ("copse/api.ErrFull", errText Rows.laid_copse_api_ErrFull), ("copse/api.ErrDead", errText Rows.laid_copse_api_ErrDead), ("copse/api.ErrCorrupt", errText Rows.laid_copse_api_ErrCorrupt), ("copse/api.ErrStatus", errText Rows.laid_copse_api_ErrStatus), ("copse/api.ErrTxid", errText Rows.laid_copse_api_ErrTxid), ("copse/api.ErrOrder", errText Rows.laid_copse_api_ErrOrder), ("copse/api.ErrKind", errText Rows.laid_copse_api_ErrKind)]
theorem err13L_eq : err13L.map mkErr ++ [] = [("copse/api.ErrArg", Rows.laid_copse_api_ErrArg), ("copse/api.ErrText", Rows.laid_copse_api_ErrText), ("copse/api.ErrMany", Rows.laid_copse_api_ErrMany), ("copse/api.ErrShort", Rows.laid_copse_api_ErrShort), ("copse/api.ErrTwice", Rows.laid_copse_api_ErrTwice), ("copse/api.ErrLost", Rows.laid_copse_api_ErrLost), ("copse/api.ErrFull", Rows.laid_copse_api_ErrFull), ("copse/api.ErrDead", Rows.laid_copse_api_ErrDead), ("copse/api.ErrCorrupt", Rows.laid_copse_api_ErrCorrupt), ("copse/api.ErrStatus", Rows.laid_copse_api_ErrStatus), ("copse/api.ErrTxid", Rows.laid_copse_api_ErrTxid), ("copse/api.ErrOrder", Rows.laid_copse_api_ErrOrder), ("copse/api.ErrKind", Rows.laid_copse_api_ErrKind)] := rfl
theorem err13L_all : ((List.range 13).all fun i => match err13L[i]? with
    | some x => (Tryd.prog.globalNamed x.1 == some (gAll i)) && ((Tryd.prog.globals[gAll i]?).map (·.type) == some 31)
    | none => false) = true := by kernel_rfl
theorem err13L_glob : ∀ i x, err13L[i]? = some x → Tryd.prog.globalNamed x.1 = some (gAll i) ∧ (Tryd.prog.globals[gAll i]?).map (·.type) = some 31 := by
  intro i x hx
  have hi : i < 13 := by
    rcases Nat.lt_or_ge i 13 with h | h
    · exact h
    · rw [List.getElem?_eq_none (by exact h)] at hx; cases hx
  have h := List.all_eq_true.1 err13L_all i (List.mem_range.2 hi)
  rw [hx] at h
  simpa using h
def isErr13 (x : String × DataW Unit) : Bool := x.1 == "copse/api.ErrArg" || x.1 == "copse/api.ErrText" || x.1 == "copse/api.ErrMany" || x.1 == "copse/api.ErrShort" || x.1 == "copse/api.ErrTwice" || x.1 == "copse/api.ErrLost" || x.1 == "copse/api.ErrFull" || x.1 == "copse/api.ErrDead" || x.1 == "copse/api.ErrCorrupt" || x.1 == "copse/api.ErrStatus" || x.1 == "copse/api.ErrTxid" || x.1 == "copse/api.ErrOrder" || x.1 == "copse/api.ErrKind"
set_option maxRecDepth 100000 in
theorem err13_of_laid {W : World} (h : laidMet Tryd.prog [("copse/api.ErrArg", Rows.laid_copse_api_ErrArg), ("copse/api.ErrText", Rows.laid_copse_api_ErrText), ("copse/api.ErrMany", Rows.laid_copse_api_ErrMany), ("copse/api.ErrShort", Rows.laid_copse_api_ErrShort), ("copse/api.ErrTwice", Rows.laid_copse_api_ErrTwice), ("copse/api.ErrLost", Rows.laid_copse_api_ErrLost), ("copse/api.ErrFull", Rows.laid_copse_api_ErrFull), ("copse/api.ErrDead", Rows.laid_copse_api_ErrDead), ("copse/api.ErrCorrupt", Rows.laid_copse_api_ErrCorrupt), ("copse/api.ErrStatus", Rows.laid_copse_api_ErrStatus), ("copse/api.ErrTxid", Rows.laid_copse_api_ErrTxid), ("copse/api.ErrOrder", Rows.laid_copse_api_ErrOrder), ("copse/api.ErrKind", Rows.laid_copse_api_ErrKind)] W) : ∃ A, ErrsG 13 gAll A W := by
  obtain ⟨A, hA, _⟩ := errs_of (rest := []) gAll (show err13L.length = 13 from rfl) err13L_glob (by rw [err13L_eq]; exact h)
  exact ⟨A, hA⟩
end Go.Proofs.YtiihnoohodklhaaDoor
