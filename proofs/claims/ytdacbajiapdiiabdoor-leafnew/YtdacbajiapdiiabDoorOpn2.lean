import Derived.Test.YtdacbajiapdiiabDoorRows
import Derived.Test.YtdacbajiapdiiabDoorBase
import Derived.ProofKit
import Derived.LaidMore
import Derived.LaidSub
import Derived.Lay
import Derived.OpenShut
import Derived.Stop.Joined
import Derived.Lib.LaidTab
import Derived.Lib.SmallJoins
import Derived.SizedLaws
import Derived.ChangeMaps5
import Derived.Deep.Slices
import Derived.Test.YtdacbajiapdiiabDoorLErr
namespace Go.Proofs.YtdacbajiapdiiabDoor
open Go.ChangeShapes Go.WideShapes Go.ChangeAt Go.WideMaps Go.WideElems Go.RowKit Go.Joins

theorem own : ownKnob Tryd.prog.godebug = none := by kernel_rfl
theorem laidOut : laidOutB Tryd.prog = true := by kernel_rfl
theorem cells9 : Tryd.prog.cellsOf 9 = 1 := by kernel_rfl
theorem cells4 : Tryd.prog.cellsOf 4 = 1 := by kernel_rfl
theorem cells3 : Tryd.prog.cellsOf 3 = 1 := by kernel_rfl
theorem cellsPair : Tryd.prog.cellsOf 45 = 2 := by kernel_rfl
theorem cellsPrs : Tryd.prog.cellsOf 24 = 1 := by kernel_rfl
theorem bytesPair : Tryd.prog.bytesOf 45 = 32 := by kernel_rfl
theorem reach_val : reachBytes = 140737488351232 := rfl
theorem weightsAll_mem {H : Type} {P : Program} {e : TypeId} : ∀ {l : List (DataW H)} {d : DataW H}, d ∈ l → ∀ n ∈ d.weights P e, n ∈ DataW.weightsAll P e l
  | d' :: r, d, hd, n, hn => by
    simp only [DataW.weightsAll, List.mem_append]
    rcases List.mem_cons.1 hd with rfl | h
    · exact Or.inl hn
    · exact Or.inr (weightsAll_mem h n hn)
theorem spot_none {W : World} {a : Addr} {v : Value} (h : W.cell? a = some v) : a = ⟨a.block, a.off, none⟩ := by
  have hsp : a.spot = none := by
    unfold World.cell? at h
    split at h
    · split at h
      · cases h
      · rename_i hs; simpa using hs
    · cases h
  cases a; simp at hsp; rw [hsp]

set_option maxRecDepth 100000 in
/-- A list of pairs that the argument holds. -/
theorem open_prs {H : Type} {enc : TypeId × Value → H} {W : World} (fuel : Nat) (v : Value) (x : DataW H × List MemPlace) (h : DataW.trod enc Tryd.prog W 0 (fun _ => true) true fuel 24 [v] = some x)
    (hw : ∀ z ∈ x.1.weights Tryd.prog 24, z ≤ reachBytes) :
    ∃ l : List Pr, PrR W v l ∧ l.length ≤ 4398046510976 ∧ OkL l := by
  rcases DataW.trod_slice Tryd.underlying24 h with ⟨h0, hx0⟩ | ⟨a, len, cap, elems, rest, n, hn, hv, hx, _, hl, hm, hlen, hel, _⟩
  · simp only [List.cons.injEq, and_true] at h0
    subst h0
    exact ⟨[], PrR.nil _, Nat.zero_le _, fun p hp => by cases hp⟩
  · simp only [List.cons.injEq, and_true] at hv
    subst hv hx hn
    have each' : ∀ i : Fin len, ∃ q : Pr, W.cell? (a.add (i.1 * 2)) = some (.string q.1) ∧ W.cell? (a.add (i.1 * 2 + 1)) = some (.string q.2) ∧ ∀ (h2 : i.1 < elems.length), elems[i.1].1 = .agg [.lit (.string q.1.data.toList), .lit (.string q.2.data.toList)] := fun i => by
      have h1 := hel i.1 i.2
      rw [cellsPair, List.getElem?_eq_getElem (by omega)] at h1
      obtain ⟨cs', h2, h3⟩ := Option.bind_eq_some_iff.1 h1
      obtain ⟨_, hcl, hcell⟩ := World.cells?_some h2
      obtain ⟨xs, k', _, hxy, hcl2, hxl, hf⟩ := DataW.trod_struct Tryd.underlying45 h3
      have c0 := hcell 0 (by decide)
      have c1 := hcell 1 (by decide)
      match xs, hxl, cs', hcl with
      | [y0, y1], _, [v0, v1], _ =>
        have g0 := hf 0 _ rfl
        have g1 := hf 1 _ rfl
        simp [cells9] at g0 g1
        obtain ⟨s0, d0, rfl, w0⟩ := DataW.trod_string Tryd.underlying9 g0
        obtain ⟨s1, d1, rfl, w1⟩ := DataW.trod_string Tryd.underlying9 g1
        simp only [List.cons.injEq, and_true] at d0 d1
        subst d0 d1
        refine ⟨(s0, s1), ?_, ?_, fun _ => ?_⟩
        · have e0 : (a.add (i.1 * 2)).add 0 = a.add (i.1 * 2) := by simp [Addr.add]
          rw [e0] at c0
          exact c0
        · have e1 : (a.add (i.1 * 2)).add 1 = a.add (i.1 * 2 + 1) := by rw [Addr.add_add]
          rw [e1] at c1
          exact c1
        · rw [hxy]; rfl
    obtain ⟨g, hg⟩ := Classical.axiomOfChoice each'
    have hbig := hw ((elems.length + rest.length) * 32) (by
      simp only [DataW.weights, Tryd.underlying24, bytesPair, List.length_map]
      exact List.mem_cons_self)
    rw [reach_val] at hbig
    refine ⟨List.ofFn g, ⟨some a, cap, by simp, by simpa using hl, (fun h => (by cases h)), fun j hj => ?_⟩, ?_, ?_⟩
    · have hj' : j < len := by simpa using hj
      obtain ⟨hc1, hc2, _⟩ := hg ⟨j, hj'⟩
      have h00 := (hg ⟨0, by omega⟩).1
      have e0 : a.add 0 = a := by simp [Addr.add]
      rw [show ((⟨0, by omega⟩ : Fin len).1 * 2) = 0 from rfl, e0] at h00
      have ea := spot_none (a := a) h00
      refine ⟨a.block, a.off, congrArg some ea, ?_, ?_⟩
      · rw [List.getElem_ofFn, ← hc1]
        conv => rhs; rw [ea, add_plain']
      · rw [List.getElem_ofFn, ← hc2]
        conv => rhs; rw [ea, add_plain']
        rfl
    · rw [List.length_ofFn]; omega
    · intro p hp
      obtain ⟨i, hi, rfl⟩ := List.getElem_of_mem hp
      rw [List.length_ofFn] at hi
      rw [List.getElem_ofFn]
      have he := (hg ⟨i, hi⟩).2.2 (by simpa [hlen] using hi)
      have hmem : (DataW.agg [.lit (.string (g ⟨i, hi⟩).1.data.toList), .lit (.string (g ⟨i, hi⟩).2.data.toList)] : DataW H) ∈ elems.map (·.1) := by
        rw [← he]; exact List.mem_map.2 ⟨_, List.getElem_mem _, rfl⟩
      have hww : ∀ z ∈ (DataW.agg [.lit (.string (g ⟨i, hi⟩).1.data.toList), .lit (.string (g ⟨i, hi⟩).2.data.toList)] : DataW H).weights Tryd.prog 45, z ≤ reachBytes := fun z hz => hw z (by
        simp only [DataW.weights, Tryd.underlying24]
        exact List.mem_cons_of_mem _ (by
          first
            | exact List.mem_append_left _ (weightsAll_mem hmem z hz)
            | exact weightsAll_mem (List.mem_append_left _ hmem) z hz))
      have b1 := hww (g ⟨i, hi⟩).1.size (by simp [DataW.weights, Tryd.underlying45, DataW.weightsEach])
      have b2 := hww (g ⟨i, hi⟩).2.size (by simp [DataW.weights, Tryd.underlying45, DataW.weightsEach])
      rw [reach_val] at b1 b2
      constructor <;> omega

theorem cellsAsked : Tryd.prog.cellsOf 35 = 4 := by kernel_rfl
set_option maxRecDepth 100000 in
theorem open_asked {H : Type} {enc : TypeId × Value → H} {W : World} {r : Reach} {b0 : Nat} {v : Value} {d : DataW H} {p : List MemPlace} (hv : Value.okWide Tryd.prog W r b0 35 v)
    (h : DataW.Trod enc Tryd.prog W 0 (fun _ => true) true 35 v d p) (hw : ∀ z ∈ d.weights Tryd.prog 35, z ≤ reachBytes) :
    ∃ (l : List Pr) (a : Option Addr) (c : Nat) (key value : ByteArray) (root : Bool), v = .agg #[.slice a l.length c, .string key, .string value, .bool root] ∧ PrR W (.slice a l.length c) l ∧ l.length ≤ 4398046510976 ∧ OkL l ∧ key.size ≤ 140737488351232 ∧ value.size ≤ 140737488351232 := by
  obtain ⟨cs, rfl, hsz⟩ := okWide_struct Tryd.underlying35 hv
  rw [cellsAsked] at hsz
  obtain ⟨fuel, hf0⟩ := h
  obtain ⟨xs, k', _, hxy, hcl, hxl, hf⟩ := DataW.trod_struct Tryd.underlying35 hf0
  obtain ⟨cl⟩ := cs
  simp only [Value.cells] at hf
  simp only [Prod.mk.injEq] at hxy
  match xs, hxl, cl, hsz with
  | [y0, y1, y2, y3], _, [v0, v1, v2, v3], _ =>
    have g0 := hf 0 _ rfl
    have g1 := hf 1 _ rfl
    have g2 := hf 2 _ rfl
    have g3 := hf 3 _ rfl
    simp [cells9, cells4, cellsPrs] at g0 g1 g2 g3
    obtain ⟨s1, d1, rfl, w1⟩ := DataW.trod_string Tryd.underlying9 g1
    obtain ⟨s2, d2, rfl, w2⟩ := DataW.trod_string Tryd.underlying9 g2
    obtain ⟨b3, d3, rfl, w3⟩ := DataW.trod_bool Tryd.underlying4 g3
    simp only [List.cons.injEq, and_true] at d1 d2 d3
    rw [hxy.1] at hw
    obtain ⟨l, hr, hl, hok⟩ := open_prs k' v0 y0 g0 (fun z hz => hw z (by simp [DataW.weights, Tryd.underlying35, DataW.weightsEach, hz]))
    obtain ⟨a, c, rfl⟩ := hr.form
    have b1 : s1.size ≤ reachBytes := hw s1.size (by simp [DataW.weights, Tryd.underlying35, DataW.weightsEach])
    have b2 : s2.size ≤ reachBytes := hw s2.size (by simp [DataW.weights, Tryd.underlying35, DataW.weightsEach])
    rw [reach_val] at b1 b2
    exact ⟨l, a, c, s1, s2, b3, by rw [d1, d2, d3], hr, hl, hok, b1, b2⟩

end Go.Proofs.YtdacbajiapdiiabDoor

namespace Go.Proofs.YtdacbajiapdiiabDoor
open Go.ChangeShapes Go.WideShapes Go.ChangeAt Go.WideMaps Go.WideElems Go.RowKit Go.Joins

def err13L : List (String × List UInt8) := [("copse/api.ErrArg", errText Rows.laid_copse_api_ErrArg), ("copse/api.ErrText", errText Rows.laid_copse_api_ErrText), ("copse/api.ErrMany", errText Rows.laid_copse_api_ErrMany), ("copse/api.ErrShort", errText Rows.laid_copse_api_ErrShort), ("copse/api.ErrTwice", errText Rows.laid_copse_api_ErrTwice), ("copse/api.ErrLost", errText Rows.laid_copse_api_ErrLost), ("copse/api.ErrFull", errText Rows.laid_copse_api_ErrFull), ("copse/api.ErrDead", errText Rows.laid_copse_api_ErrDead), ("copse/api.ErrCorrupt", errText Rows.laid_copse_api_ErrCorrupt), ("copse/api.ErrStatus", errText Rows.laid_copse_api_ErrStatus), ("copse/api.ErrTxid", errText Rows.laid_copse_api_ErrTxid), ("copse/api.ErrOrder", errText Rows.laid_copse_api_ErrOrder), ("copse/api.ErrKind", errText Rows.laid_copse_api_ErrKind)]
theorem err13L_eq : err13L.map mkErr ++ [] = [("copse/api.ErrArg", Rows.laid_copse_api_ErrArg), ("copse/api.ErrText", Rows.laid_copse_api_ErrText), ("copse/api.ErrMany", Rows.laid_copse_api_ErrMany), ("copse/api.ErrShort", Rows.laid_copse_api_ErrShort), ("copse/api.ErrTwice", Rows.laid_copse_api_ErrTwice), ("copse/api.ErrLost", Rows.laid_copse_api_ErrLost), ("copse/api.ErrFull", Rows.laid_copse_api_ErrFull), ("copse/api.ErrDead", Rows.laid_copse_api_ErrDead), ("copse/api.ErrCorrupt", Rows.laid_copse_api_ErrCorrupt), ("copse/api.ErrStatus", Rows.laid_copse_api_ErrStatus), ("copse/api.ErrTxid", Rows.laid_copse_api_ErrTxid), ("copse/api.ErrOrder", Rows.laid_copse_api_ErrOrder), ("copse/api.ErrKind", Rows.laid_copse_api_ErrKind)] := rfl
theorem err13L_all : ((List.range 13).all fun i => match err13L[i]? with
    | some x => (Tryd.prog.globalNamed x.1 == some (gAll i)) && ((Tryd.prog.globals[gAll i]?).map (·.type) == some 26)
    | none => false) = true := by kernel_rfl
theorem err13L_glob : ∀ i x, err13L[i]? = some x → Tryd.prog.globalNamed x.1 = some (gAll i) ∧ (Tryd.prog.globals[gAll i]?).map (·.type) = some 26 := by
  intro i x hx
  have hi : i < 13 := by
    rcases Nat.lt_or_ge i 13 with h | h
    · exact h
    · rw [List.getElem?_eq_none (by exact h)] at hx; cases hx
  have h := List.all_eq_true.1 err13L_all i (List.mem_range.2 hi)
  rw [hx] at h
  simpa using h
def isErr13 (x : String × DataW Unit) : Bool := x.1 == "copse/api.ErrArg" || x.1 == "copse/api.ErrText" || x.1 == "copse/api.ErrMany" || x.1 == "copse/api.ErrShort" || x.1 == "copse/api.ErrTwice" || x.1 == "copse/api.ErrLost" || x.1 == "copse/api.ErrFull" || x.1 == "copse/api.ErrDead" || x.1 == "copse/api.ErrCorrupt" || x.1 == "copse/api.ErrStatus" || x.1 == "copse/api.ErrTxid" || x.1 == "copse/api.ErrOrder" || x.1 == "copse/api.ErrKind"
set_option maxRecDepth 100000 in
theorem err13_of_laid {W : World} (h : laidMet Tryd.prog [("copse/api.ErrArg", Rows.laid_copse_api_ErrArg), ("copse/api.ErrText", Rows.laid_copse_api_ErrText), ("copse/api.ErrMany", Rows.laid_copse_api_ErrMany), ("copse/api.ErrShort", Rows.laid_copse_api_ErrShort), ("copse/api.ErrTwice", Rows.laid_copse_api_ErrTwice), ("copse/api.ErrLost", Rows.laid_copse_api_ErrLost), ("copse/api.ErrFull", Rows.laid_copse_api_ErrFull), ("copse/api.ErrDead", Rows.laid_copse_api_ErrDead), ("copse/api.ErrCorrupt", Rows.laid_copse_api_ErrCorrupt), ("copse/api.ErrStatus", Rows.laid_copse_api_ErrStatus), ("copse/api.ErrTxid", Rows.laid_copse_api_ErrTxid), ("copse/api.ErrOrder", Rows.laid_copse_api_ErrOrder), ("copse/api.ErrKind", Rows.laid_copse_api_ErrKind)] W) : ∃ A, ErrsG 13 gAll A W := by
  obtain ⟨A, hA, _⟩ := errs_of (rest := []) gAll (show err13L.length = 13 from rfl) err13L_glob (by rw [err13L_eq]; exact h)
  exact ⟨A, hA⟩

end Go.Proofs.YtdacbajiapdiiabDoor
