import Derived.Test.YtagldlchamlpdabDoorRows
import Derived.Test.YtagldlchamlpdabDoorBas2
import Derived.ProofKit
import Derived.LaidMore
import Derived.LaidSub
import Derived.Lay
import Derived.OpenShut
import Derived.Stop.Joined
import Derived.Lib.LaidTab
import Derived.Lib.SmallJoins
import Derived.SizedLaws
import Derived.ChangeMaps5
import Derived.Deep.Slices
import Derived.Test.YtagldlchamlpdabDoorLErr
import Derived.Test.YtagldlchamlpdabDoorCStr
namespace Go.Proofs.YtagldlchamlpdabDoor
open Go.ChangeShapes Go.WideShapes Go.ChangeAt Go.WideMaps Go.WideElems Go.RowKit Go.Joins

theorem own : ownKnob Tryd.prog.godebug = none := by kernel_rfl
theorem laidOut : laidOutB Tryd.prog = true := by kernel_rfl
theorem cells9 : Tryd.prog.cellsOf 9 = 1 := by kernel_rfl
theorem cells4 : Tryd.prog.cellsOf 4 = 1 := by kernel_rfl
theorem cells3 : Tryd.prog.cellsOf 3 = 1 := by kernel_rfl
theorem cellsLink : Tryd.prog.cellsOf 54 = 2 := by kernel_rfl
theorem cellsLks : Tryd.prog.cellsOf 28 = 1 := by kernel_rfl
theorem bytesLink : Tryd.prog.bytesOf 54 = 24 := by kernel_rfl
theorem cellsBranch : Tryd.prog.cellsOf 30 = 2 := by kernel_rfl
theorem reach_val : reachBytes = 140737488351232 := rfl
theorem weightsAll_mem {H : Type} {P : Program} {e : TypeId} : ∀ {l : List (DataW H)} {d : DataW H}, d ∈ l → ∀ n ∈ d.weights P e, n ∈ DataW.weightsAll P e l
  | d' :: r, d, hd, n, hn => by
    simp only [DataW.weightsAll, List.mem_append]
    rcases List.mem_cons.1 hd with rfl | h
    · exact Or.inl hn
    · exact Or.inr (weightsAll_mem h n hn)
theorem spot_none {W : World} {a : Addr} {v : Value} (h : W.cell? a = some v) : a = ⟨a.block, a.off, none⟩ := by
  have hsp : a.spot = none := by
    unfold World.cell? at h
    split at h
    · split at h
      · cases h
      · rename_i hs; simpa using hs
    · cases h
  cases a; simp at hsp; rw [hsp]

/-- What a link reads as. -/
def dK {H : Type} (q : Lk) : DataW H := .agg [.lit (.string q.1.data.toList), .lit (.int .i64 q.2)]
set_option maxRecDepth 100000 in
/-- A list of links that the argument holds. -/
theorem open_lks {H : Type} {enc : TypeId × Value → H} {W : World} (fuel : Nat) (v : Value) (x : DataW H × List MemPlace) (h : DataW.trod enc Tryd.prog W 0 (fun _ => true) true fuel 28 [v] = some x) :
    ∃ l : List Lk, LkR W v l ∧ ((x.1 = .nil ∧ l = []) ∨ ∃ rest, x.1 = .slice (l.map dK) rest) := by
  rcases DataW.trod_slice Tryd.underlying28 h with ⟨h0, hx0⟩ | ⟨a, len, cap, elems, rest, n, hn, hv, hx, _, hl, hm, hlen, hel, _⟩
  · simp only [List.cons.injEq, and_true] at h0
    subst h0
    exact ⟨[], LkR.nil _, .inl ⟨by rw [hx0], rfl⟩⟩
  · simp only [List.cons.injEq, and_true] at hv
    subst hv hx hn
    have each' : ∀ i : Fin len, ∃ q : Lk, W.cell? (a.add (i.1 * 2)) = some (.string q.1) ∧ W.cell? (a.add (i.1 * 2 + 1)) = some (.int .i64 q.2) ∧ ∀ (h2 : i.1 < elems.length), elems[i.1].1 = dK q := fun i => by
      have h1 := hel i.1 i.2
      rw [cellsLink, List.getElem?_eq_getElem (by omega)] at h1
      obtain ⟨cs', h2, h3⟩ := Option.bind_eq_some_iff.1 h1
      obtain ⟨_, hcl, hcell⟩ := World.cells?_some h2
      obtain ⟨xs, k', _, hxy, hcl2, hxl, hf⟩ := DataW.trod_struct Tryd.underlying54 h3
      have c0 := hcell 0 (by decide)
      have c1 := hcell 1 (by decide)
      match xs, hxl, cs', hcl with
      | [y0, y1], _, [v0, v1], _ =>
        have g0 := hf 0 _ rfl
        have g1 := hf 1 _ rfl
        simp [cells9, cells3] at g0 g1
        obtain ⟨s0, d0, rfl, w0⟩ := DataW.trod_string Tryd.underlying9 g0
        obtain ⟨s1, d1, rfl, w1⟩ := DataW.trod_int Tryd.underlying3 g1
        simp only [List.cons.injEq, and_true] at d0 d1
        subst d0 d1
        refine ⟨(s0, s1), ?_, ?_, fun _ => ?_⟩
        · have e0 : (a.add (i.1 * 2)).add 0 = a.add (i.1 * 2) := by simp [Addr.add]
          rw [e0] at c0
          exact c0
        · have e1 : (a.add (i.1 * 2)).add 1 = a.add (i.1 * 2 + 1) := by rw [Addr.add_add]
          rw [e1] at c1
          exact c1
        · rw [hxy]; rfl
    obtain ⟨g, hg⟩ := Classical.axiomOfChoice each'
    refine ⟨List.ofFn g, ⟨some a, cap, by simp, by simpa using hl, (fun h => (by cases h)), fun j hj => ?_⟩, .inr ⟨rest.map (·.1), ?_⟩⟩
    · have hj' : j < len := by simpa using hj
      obtain ⟨hc1, hc2, _⟩ := hg ⟨j, hj'⟩
      have h00 := (hg ⟨0, by omega⟩).1
      have e0 : a.add 0 = a := by simp [Addr.add]
      rw [show ((⟨0, by omega⟩ : Fin len).1 * 2) = 0 from rfl, e0] at h00
      have ea := spot_none (a := a) h00
      refine ⟨a.block, a.off, congrArg some ea, ?_, ?_⟩
      · rw [List.getElem_ofFn, ← hc1]
        conv => rhs; rw [ea, add_plain']
      · rw [List.getElem_ofFn, ← hc2]
        conv => rhs; rw [ea, add_plain']
        rfl
    · have he : elems.map (·.1) = (List.ofFn g).map dK := by
        refine List.ext_getElem (by simp [hlen]) (fun i h1 h2 => ?_)
        have hi : i < len := by simpa using h2
        rw [List.getElem_map, List.getElem_map, List.getElem_ofFn]
        exact (hg ⟨i, hi⟩).2.2 (by simpa using h1)
      rw [← he]
theorem lks_weights {H : Type} {l : List Lk} {x : DataW H} (hx : (x = .nil ∧ l = []) ∨ ∃ rest, x = .slice (l.map dK) rest) (hw : ∀ z ∈ x.weights Tryd.prog 28, z ≤ reachBytes) : l.length ≤ 5864062014634 ∧ OkK l := by
  rcases hx with ⟨_, rfl⟩ | ⟨rest, rfl⟩
  · exact ⟨Nat.zero_le _, fun p hp => by cases hp⟩
  · have hbig := hw ((l.length + rest.length) * 24) (by
      simp only [DataW.weights, Tryd.underlying28, bytesLink, List.length_map]
      exact List.mem_cons_self)
    rw [reach_val] at hbig
    refine ⟨by omega, fun p hp => ?_⟩
    have hmem : (dK p : DataW H) ∈ l.map dK := List.mem_map.2 ⟨p, hp, rfl⟩
    have hww : ∀ z ∈ (dK p : DataW H).weights Tryd.prog 54, z ≤ reachBytes := fun z hz => hw z (by
      simp only [DataW.weights, Tryd.underlying28]
      exact List.mem_cons_of_mem _ (by
        first
          | exact List.mem_append_left _ (weightsAll_mem hmem z hz)
          | exact weightsAll_mem (List.mem_append_left _ hmem) z hz))
    have b1 := hww p.1.size (by simp [dK, DataW.weights, Tryd.underlying54, DataW.weightsEach])
    rw [reach_val] at b1
    omega
theorem bulk_lks {H : Type} : ∀ l : List Lk, l.length ≤ Rows.uptoBulkAll (l.map fun q => (dK q : DataW H)) ∧ ∀ p ∈ l, p.1.size ≤ Rows.uptoBulkAll (l.map fun q => (dK q : DataW H))
  | [] => ⟨Nat.zero_le _, fun p hp => by cases hp⟩
  | x :: r => by
    obtain ⟨h1, h2⟩ := bulk_lks (H := H) r
    simp only [List.map_cons, Rows.uptoBulkAll, Rows.uptoBulk, dK, List.length_cons] at h1 h2 ⊢
    refine ⟨by omega, fun p hp => ?_⟩
    rcases List.mem_cons.1 hp with rfl | hp
    · have := bsize p.1; omega
    · have := h2 p hp; omega
theorem lks_bulk {H : Type} {l : List Lk} {x : DataW H} (hx : (x = .nil ∧ l = []) ∨ ∃ rest, x = .slice (l.map dK) rest) (hb : Rows.uptoBulk x ≤ 1048576) : l.length ≤ 1048576 ∧ OkK l := by
  rcases hx with ⟨_, rfl⟩ | ⟨rest, rfl⟩
  · exact ⟨Nat.zero_le _, fun p hp => by cases hp⟩
  · obtain ⟨h1, h2⟩ := bulk_lks (H := H) l
    simp only [Rows.uptoBulk] at hb
    have e : (l.map (dK (H := H))) = l.map fun q => (dK q : DataW H) := rfl
    rw [e] at hb
    exact ⟨by omega, fun p hp => by have := h2 p hp; omega⟩

end Go.Proofs.YtagldlchamlpdabDoor

namespace Go.Proofs.YtagldlchamlpdabDoor
open Go.ChangeShapes Go.WideShapes Go.ChangeAt Go.WideMaps Go.WideElems Go.RowKit Go.Joins

def err13L : List (String × List UInt8) := [("copse/api.ErrArg", errText Rows.laid_copse_api_ErrArg), ("copse/api.ErrText", errText Rows.laid_copse_api_ErrText), ("copse/api.ErrMany", errText Rows.laid_copse_api_ErrMany), ("copse/api.ErrShort", errText Rows.laid_copse_api_ErrShort), ("copse/api.ErrTwice", errText Rows.laid_copse_api_ErrTwice), ("copse/api.ErrLost", errText Rows.laid_copse_api_ErrLost), ("copse/api.ErrFull", errText Rows.laid_copse_api_ErrFull), ("copse/api.ErrDead", errText Rows.laid_copse_api_ErrDead), ("copse/api.ErrCorrupt", errText Rows.laid_copse_api_ErrCorrupt), ("copse/api.ErrStatus", errText Rows.laid_copse_api_ErrStatus), ("copse/api.ErrTxid", errText Rows.laid_copse_api_ErrTxid), ("copse/api.ErrOrder", errText Rows.laid_copse_api_ErrOrder), ("copse/api.ErrKind", errText Rows.laid_copse_api_ErrKind)]
theorem err13L_eq : err13L.map mkErr ++ [] = [("copse/api.ErrArg", Rows.laid_copse_api_ErrArg), ("copse/api.ErrText", Rows.laid_copse_api_ErrText), ("copse/api.ErrMany", Rows.laid_copse_api_ErrMany), ("copse/api.ErrShort", Rows.laid_copse_api_ErrShort), ("copse/api.ErrTwice", Rows.laid_copse_api_ErrTwice), ("copse/api.ErrLost", Rows.laid_copse_api_ErrLost), ("copse/api.ErrFull", Rows.laid_copse_api_ErrFull), ("copse/api.ErrDead", Rows.laid_copse_api_ErrDead), ("copse/api.ErrCorrupt", Rows.laid_copse_api_ErrCorrupt), ("copse/api.ErrStatus", Rows.laid_copse_api_ErrStatus), ("copse/api.ErrTxid", Rows.laid_copse_api_ErrTxid), ("copse/api.ErrOrder", Rows.laid_copse_api_ErrOrder), ("copse/api.ErrKind", Rows.laid_copse_api_ErrKind)] := rfl
theorem err13L_all : ((List.range 13).all fun i => match err13L[i]? with
    | some x => (Tryd.prog.globalNamed x.1 == some (gAll i)) && ((Tryd.prog.globals[gAll i]?).map (·.type) == some 32)
    | none => false) = true := by kernel_rfl
theorem err13L_glob : ∀ i x, err13L[i]? = some x → Tryd.prog.globalNamed x.1 = some (gAll i) ∧ (Tryd.prog.globals[gAll i]?).map (·.type) = some 32 := by
  intro i x hx
  have hi : i < 13 := by
    rcases Nat.lt_or_ge i 13 with h | h
    · exact h
    · rw [List.getElem?_eq_none (by exact h)] at hx; cases hx
  have h := List.all_eq_true.1 err13L_all i (List.mem_range.2 hi)
  rw [hx] at h
  simpa using h
def isErr13 (x : String × DataW Unit) : Bool := x.1 == "copse/api.ErrArg" || x.1 == "copse/api.ErrText" || x.1 == "copse/api.ErrMany" || x.1 == "copse/api.ErrShort" || x.1 == "copse/api.ErrTwice" || x.1 == "copse/api.ErrLost" || x.1 == "copse/api.ErrFull" || x.1 == "copse/api.ErrDead" || x.1 == "copse/api.ErrCorrupt" || x.1 == "copse/api.ErrStatus" || x.1 == "copse/api.ErrTxid" || x.1 == "copse/api.ErrOrder" || x.1 == "copse/api.ErrKind"
set_option maxRecDepth 100000 in
theorem err13_of_laid {W : World} (h : laidMet Tryd.prog [("copse/api.ErrArg", Rows.laid_copse_api_ErrArg), ("copse/api.ErrText", Rows.laid_copse_api_ErrText), ("copse/api.ErrMany", Rows.laid_copse_api_ErrMany), ("copse/api.ErrShort", Rows.laid_copse_api_ErrShort), ("copse/api.ErrTwice", Rows.laid_copse_api_ErrTwice), ("copse/api.ErrLost", Rows.laid_copse_api_ErrLost), ("copse/api.ErrFull", Rows.laid_copse_api_ErrFull), ("copse/api.ErrDead", Rows.laid_copse_api_ErrDead), ("copse/api.ErrCorrupt", Rows.laid_copse_api_ErrCorrupt), ("copse/api.ErrStatus", Rows.laid_copse_api_ErrStatus), ("copse/api.ErrTxid", Rows.laid_copse_api_ErrTxid), ("copse/api.ErrOrder", Rows.laid_copse_api_ErrOrder), ("copse/api.ErrKind", Rows.laid_copse_api_ErrKind)] W) : ∃ A, ErrsG 13 gAll A W := by
  obtain ⟨A, hA, _⟩ := errs_of (rest := []) gAll (show err13L.length = 13 from rfl) err13L_glob (by rw [err13L_eq]; exact h)
  exact ⟨A, hA⟩

end Go.Proofs.YtagldlchamlpdabDoor

namespace Go.Proofs.YtagldlchamlpdabDoor
open Go.ChangeShapes Go.WideShapes Go.ChangeAt Go.WideMaps Go.WideElems Go.RowKit Go.Joins

set_option maxRecDepth 100000 in
theorem open_one {T H : Type} {enc : TypeId × Value → H} {W : World} {t e : TypeId} (hu : Tryd.prog.underlying t = some (.slice e)) (hc : Tryd.prog.cellsOf e = 1) (f : T → Value) (B : Nat → Prop)
    (fuel : Nat) (v : Value) (x : DataW H × List MemPlace) (h : DataW.trod enc Tryd.prog W 0 (fun _ => true) true fuel t [v] = some x)
    (hB : ∀ elems rest : List (DataW H), x.1 = .slice elems rest → B elems.length) (hB0 : B 0) (Q : T → DataW H → Prop)
    (each : ∀ k cs y, DataW.trod enc Tryd.prog W 0 (fun _ => true) true k e cs = some y → ∃ q : T, cs = [f q] ∧ Q q y.1) :
    ∃ l : List T, RowR W v (l.map f) ∧ B l.length ∧ ((l = [] ∧ x.1 = .nil) ∨ ∃ elems rest, x.1 = .slice elems rest ∧ elems.length = l.length ∧ ∀ i (h1 : i < l.length) (h2 : i < elems.length), Q l[i] elems[i]) := by
  rcases DataW.trod_slice hu h with ⟨h0, hx0⟩ | ⟨a, len, cap, elems, rest, n, hn, hv, hx, _, hl, hm, hlen, hel, _⟩
  · simp only [List.cons.injEq, and_true] at h0
    subst h0
    exact ⟨[], ⟨none, 0, rfl, Nat.le_refl _, fun _ => rfl, fun j u hj => by simp at hj⟩, hB0, .inl ⟨rfl, by rw [hx0]⟩⟩
  · simp only [List.cons.injEq, and_true] at hv
    subst hv hx hn
    have each' : ∀ i : Fin len, ∃ q : T, W.cell? (a.add i.1) = some (f q) ∧ ∀ (h2 : i.1 < elems.length), Q q elems[i.1].1 := fun i => by
      have h1 := hel i.1 i.2
      rw [hc, Nat.mul_one, List.getElem?_eq_getElem (by omega)] at h1
      obtain ⟨cs', h2, h3⟩ := Option.bind_eq_some_iff.1 h1
      obtain ⟨_, hcl, hcell⟩ := World.cells?_some h2
      obtain ⟨q, rfl, hq⟩ := each n cs' _ h3
      have := hcell 0 (by decide)
      refine ⟨q, ?_, fun _ => hq⟩
      have e0 : (a.add i.1).add 0 = a.add i.1 := by simp [Addr.add]
      rw [e0] at this
      exact this
    obtain ⟨g, hg⟩ := Classical.axiomOfChoice each'
    refine ⟨List.ofFn g, ⟨some a, cap, by simp, by simpa using hl, (fun h => (by cases h)), fun j u hj => ?_⟩, ?_, .inr ⟨elems.map (·.1), rest.map (·.1), rfl, by simp [hlen], fun i h1 h2 => ?_⟩⟩
    · have hj' : j < len := by simpa using (List.getElem?_eq_some_iff.1 hj).1
      have hcell := (hg ⟨j, hj'⟩).1
      have h00 := (hg ⟨0, by omega⟩).1
      have e0 : a.add 0 = a := by simp [Addr.add]
      rw [show ((⟨0, by omega⟩ : Fin len).1) = 0 from rfl, e0] at h00
      have ea := spot_none (a := a) h00
      refine ⟨a.block, a.off, congrArg some ea, ?_⟩
      have hu' : u = f (g ⟨j, hj'⟩) := by
        rw [List.getElem?_map, List.getElem?_ofFn, dif_pos hj'] at hj
        simpa using hj.symm
      rw [hu', ← hcell]
      conv => rhs; rw [ea, add_plain']
    · have := hB (elems.map (·.1)) (rest.map (·.1)) rfl
      rw [List.length_map, hlen] at this
      simpa using this
    · rw [List.length_ofFn] at h1
      simp only [List.getElem_ofFn, List.getElem_map]
      exact (hg ⟨i, h1⟩).2 (by omega)

theorem bytes9 : Tryd.prog.bytesOf 9 = 16 := by kernel_rfl
theorem cellsStrs : Tryd.prog.cellsOf 25 = 1 := by kernel_rfl
theorem cellsGrown : Tryd.prog.cellsOf 27 = 4 := by kernel_rfl
set_option maxRecDepth 100000 in
theorem open_texts {H : Type} {enc : TypeId × Value → H} {W : World} (fuel : Nat) (v : Value) (x : DataW H × List MemPlace)
    (h : DataW.trod enc Tryd.prog W 0 (fun _ => true) true fuel 25 [v] = some x) (hw : ∀ z ∈ x.1.weights Tryd.prog 25, z ≤ reachBytes) :
    ∃ l : List ByteArray, StrR W v l ∧ l.length ≤ 8796093021952 := by
  obtain ⟨l, hr, hb, _⟩ := open_one Tryd.underlying25 cells9 Value.string (fun n => n ≤ 8796093021952) fuel v x h (fun elems rest he => by
    have hbig := hw ((elems.length + rest.length) * 16) (by
      rw [he]
      simp only [DataW.weights, Tryd.underlying25, bytes9]
      exact List.mem_cons_self)
    rw [reach_val] at hbig
    omega) (Nat.zero_le _) (fun _ _ => True) (fun k cs y hy => by
    obtain ⟨s, d0, rfl, w0⟩ := DataW.trod_string Tryd.underlying9 hy
    exact ⟨s, d0, trivial⟩)
  exact ⟨l, hr.strs, hb⟩
set_option maxRecDepth 100000 in
theorem open_grown {H : Type} {enc : TypeId × Value → H} {W : World} {r : Reach} {b0 : Nat} {v : Value} {d : DataW H} {p : List MemPlace} (hv : Value.okWide Tryd.prog W r b0 27 v)
    (h : DataW.Trod enc Tryd.prog W 0 (fun _ => true) true 27 v d p) (hw : ∀ z ∈ d.weights Tryd.prog 27, z ≤ reachBytes) :
    ∃ (T : List ByteArray) (v0 : Value) (li ki : Int) (key : ByteArray), v = .agg #[v0, .int .i64 li, .string key, .int .i64 ki] ∧ StrR W v0 T ∧ T.length ≤ 8796093021952 ∧ (-9223372036854775808 ≤ li ∧ li ≤ 9223372036854775807) ∧ (-9223372036854775808 ≤ ki ∧ ki ≤ 9223372036854775807) := by
  obtain ⟨cs, rfl, hsz⟩ := okWide_struct Tryd.underlying27 hv
  rw [cellsGrown] at hsz
  obtain ⟨fuel, hf0⟩ := h
  obtain ⟨xs, k', _, hxy, hcl, hxl, hf⟩ := DataW.trod_struct Tryd.underlying27 hf0
  obtain ⟨cl⟩ := cs
  simp only [Value.cells] at hf
  simp only [Prod.mk.injEq] at hxy
  match xs, hxl, cl, hsz with
  | [y0, y1, y2, y3], _, [v0, v1, v2, v3], _ =>
    have g0 := hf 0 _ rfl
    have g1 := hf 1 _ rfl
    have g2 := hf 2 _ rfl
    have g3 := hf 3 _ rfl
    simp [cells9, cells3, cellsStrs] at g0 g1 g2 g3
    obtain ⟨m1, d1, rfl, w1⟩ := DataW.trod_int Tryd.underlying3 g1
    obtain ⟨s2, d2, rfl, w2⟩ := DataW.trod_string Tryd.underlying9 g2
    obtain ⟨m3, d3, rfl, w3⟩ := DataW.trod_int Tryd.underlying3 g3
    simp only [List.cons.injEq, and_true] at d1 d2 d3
    rw [hxy.1] at hw
    obtain ⟨T, hr, hl⟩ := open_texts k' v0 y0 g0 (fun z hz => hw z (by simp [DataW.weights, Tryd.underlying27, DataW.weightsEach, hz]))
    exact ⟨T, v0, m1, m3, s2, by rw [d1, d2, d3], hr, hl, bounds_i64 w1, bounds_i64 w3⟩

end Go.Proofs.YtagldlchamlpdabDoor
