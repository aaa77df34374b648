import Derived.Test.YtagldlchamlpdaaDoorRows
import Derived.Test.YtagldlchamlpdaaDoorLkR
import Derived.ProofKit
import Derived.LaidMore
import Derived.LaidSub
import Derived.Lay
import Derived.OpenShut
import Derived.Stop.Joined
import Derived.Lib.LaidTab
import Derived.Lib.SmallJoins
import Derived.SizedLaws
import Derived.ChangeMaps5
import Derived.Deep.Slices
namespace Go.Proofs.YtagldlchamlpdaaDoor
open Go.ChangeShapes Go.WideShapes Go.ChangeAt Go.WideMaps Go.WideElems Go.RowKit Go.Joins

theorem own : ownKnob Tryd.prog.godebug = none := by kernel_rfl
theorem laidOut : laidOutB Tryd.prog = true := by kernel_rfl
theorem cells9 : Tryd.prog.cellsOf 9 = 1 := by kernel_rfl
theorem cells4 : Tryd.prog.cellsOf 4 = 1 := by kernel_rfl
theorem cells3 : Tryd.prog.cellsOf 3 = 1 := by kernel_rfl
theorem cellsLink : Tryd.prog.cellsOf 35 = 2 := by kernel_rfl
theorem cellsLks : Tryd.prog.cellsOf 25 = 1 := by kernel_rfl
theorem bytesLink : Tryd.prog.bytesOf 35 = 24 := by kernel_rfl
theorem cellsBranch : Tryd.prog.cellsOf 27 = 2 := by kernel_rfl
theorem reach_val : reachBytes = 140737488351232 := rfl
theorem weightsAll_mem {H : Type} {P : Program} {e : TypeId} : ∀ {l : List (DataW H)} {d : DataW H}, d ∈ l → ∀ n ∈ d.weights P e, n ∈ DataW.weightsAll P e l
  | d' :: r, d, hd, n, hn => by
    simp only [DataW.weightsAll, List.mem_append]
    rcases List.mem_cons.1 hd with rfl | h
    · exact Or.inl hn
    · exact Or.inr (weightsAll_mem h n hn)
theorem spot_none {W : World} {a : Addr} {v : Value} (h : W.cell? a = some v) : a = ⟨a.block, a.off, none⟩ := by
  have hsp : a.spot = none := by
    unfold World.cell? at h
    split at h
    · split at h
      · cases h
      · rename_i hs; simpa using hs
    · cases h
  cases a; simp at hsp; rw [hsp]

/-- What a link reads as. -/
def dK {H : Type} (q : Lk) : DataW H := .agg [.lit (.string q.1.data.toList), .lit (.int .i64 q.2)]
set_option maxRecDepth 100000 in
/-- A list of links that the argument holds. -/
theorem open_lks {H : Type} {enc : TypeId × Value → H} {W : World} (fuel : Nat) (v : Value) (x : DataW H × List MemPlace) (h : DataW.trod enc Tryd.prog W 0 (fun _ => true) true fuel 25 [v] = some x) :
    ∃ l : List Lk, LkR W v l ∧ ((x.1 = .nil ∧ l = []) ∨ ∃ rest, x.1 = .slice (l.map dK) rest) := by
  rcases DataW.trod_slice Tryd.underlying25 h with ⟨h0, hx0⟩ | ⟨a, len, cap, elems, rest, n, hn, hv, hx, _, hl, hm, hlen, hel, _⟩
  · simp only [List.cons.injEq, and_true] at h0
    subst h0
    exact ⟨[], LkR.nil _, .inl ⟨by rw [hx0], rfl⟩⟩
  · simp only [List.cons.injEq, and_true] at hv
    subst hv hx hn
    have each' : ∀ i : Fin len, ∃ q : Lk, W.cell? (a.add (i.1 * 2)) = some (.string q.1) ∧ W.cell? (a.add (i.1 * 2 + 1)) = some (.int .i64 q.2) ∧ ∀ (h2 : i.1 < elems.length), elems[i.1].1 = dK q := fun i => by
      have h1 := hel i.1 i.2
      rw [cellsLink, List.getElem?_eq_getElem (by omega)] at h1
      obtain ⟨cs', h2, h3⟩ := Option.bind_eq_some_iff.1 h1
      obtain ⟨_, hcl, hcell⟩ := World.cells?_some h2
      obtain ⟨xs, k', _, hxy, hcl2, hxl, hf⟩ := DataW.trod_struct Tryd.underlying35 h3
      have c0 := hcell 0 (by decide)
      have c1 := hcell 1 (by decide)
      match xs, hxl, cs', hcl with
      | [y0, y1], _, [v0, v1], _ =>
        have g0 := hf 0 _ rfl
        have g1 := hf 1 _ rfl
        simp [cells9, cells3] at g0 g1
        obtain ⟨s0, d0, rfl, w0⟩ := DataW.trod_string Tryd.underlying9 g0
        obtain ⟨s1, d1, rfl, w1⟩ := DataW.trod_int Tryd.underlying3 g1
        simp only [List.cons.injEq, and_true] at d0 d1
        subst d0 d1
        refine ⟨(s0, s1), ?_, ?_, fun _ => ?_⟩
        · have e0 : (a.add (i.1 * 2)).add 0 = a.add (i.1 * 2) := by simp [Addr.add]
          rw [e0] at c0
          exact c0
        · have e1 : (a.add (i.1 * 2)).add 1 = a.add (i.1 * 2 + 1) := by rw [Addr.add_add]
          rw [e1] at c1
          exact c1
        · rw [hxy]; rfl
    obtain ⟨g, hg⟩ := Classical.axiomOfChoice each'
    refine ⟨List.ofFn g, ⟨some a, cap, by simp, by simpa using hl, (fun h => (by cases h)), fun j hj => ?_⟩, .inr ⟨rest.map (·.1), ?_⟩⟩
    · have hj' : j < len := by simpa using hj
      obtain ⟨hc1, hc2, _⟩ := hg ⟨j, hj'⟩
      have h00 := (hg ⟨0, by omega⟩).1
      have e0 : a.add 0 = a := by simp [Addr.add]
      rw [show ((⟨0, by omega⟩ : Fin len).1 * 2) = 0 from rfl, e0] at h00
      have ea := spot_none (a := a) h00
      refine ⟨a.block, a.off, congrArg some ea, ?_, ?_⟩
      · rw [List.getElem_ofFn, ← hc1]
        conv => rhs; rw [ea, add_plain']
      · rw [List.getElem_ofFn, ← hc2]
        conv => rhs; rw [ea, add_plain']
        rfl
    · have he : elems.map (·.1) = (List.ofFn g).map dK := by
        refine List.ext_getElem (by simp [hlen]) (fun i h1 h2 => ?_)
        have hi : i < len := by simpa using h2
        rw [List.getElem_map, List.getElem_map, List.getElem_ofFn]
        exact (hg ⟨i, hi⟩).2.2 (by simpa using h1)
      rw [← he]
theorem lks_weights {H : Type} {l : List Lk} {x : DataW H} (hx : (x = .nil ∧ l = []) ∨ ∃ rest, x = .slice (l.map dK) rest) (hw : ∀ z ∈ x.weights Tryd.prog 25, z ≤ reachBytes) : l.length ≤ 5864062014634 ∧ OkK l := by
  rcases hx with ⟨_, rfl⟩ | ⟨rest, rfl⟩
  · exact ⟨Nat.zero_le _, fun p hp => by cases hp⟩
  · have hbig := hw ((l.length + rest.length) * 24) (by
      simp only [DataW.weights, Tryd.underlying25, bytesLink, List.length_map]
      exact List.mem_cons_self)
    rw [reach_val] at hbig
    refine ⟨by omega, fun p hp => ?_⟩
    have hmem : (dK p : DataW H) ∈ l.map dK := List.mem_map.2 ⟨p, hp, rfl⟩
    have hww : ∀ z ∈ (dK p : DataW H).weights Tryd.prog 35, z ≤ reachBytes := fun z hz => hw z (by
      simp only [DataW.weights, Tryd.underlying25]
      exact List.mem_cons_of_mem _ (by
        first
          | exact List.mem_append_left _ (weightsAll_mem hmem z hz)
          | exact weightsAll_mem (List.mem_append_left _ hmem) z hz))
    have b1 := hww p.1.size (by simp [dK, DataW.weights, Tryd.underlying35, DataW.weightsEach])
    rw [reach_val] at b1
    omega
theorem bulk_lks {H : Type} : ∀ l : List Lk, l.length ≤ Rows.uptoBulkAll (l.map fun q => (dK q : DataW H)) ∧ ∀ p ∈ l, p.1.size ≤ Rows.uptoBulkAll (l.map fun q => (dK q : DataW H))
  | [] => ⟨Nat.zero_le _, fun p hp => by cases hp⟩
  | x :: r => by
    obtain ⟨h1, h2⟩ := bulk_lks (H := H) r
    simp only [List.map_cons, Rows.uptoBulkAll, Rows.uptoBulk, dK, List.length_cons] at h1 h2 ⊢
    refine ⟨by omega, fun p hp => ?_⟩
    rcases List.mem_cons.1 hp with rfl | hp
    · have := bsize p.1; omega
    · have := h2 p hp; omega
theorem lks_bulk {H : Type} {l : List Lk} {x : DataW H} (hx : (x = .nil ∧ l = []) ∨ ∃ rest, x = .slice (l.map dK) rest) (hb : Rows.uptoBulk x ≤ 1048576) : l.length ≤ 1048576 ∧ OkK l := by
  rcases hx with ⟨_, rfl⟩ | ⟨rest, rfl⟩
  · exact ⟨Nat.zero_le _, fun p hp => by cases hp⟩
  · obtain ⟨h1, h2⟩ := bulk_lks (H := H) l
    simp only [Rows.uptoBulk] at hb
    have e : (l.map (dK (H := H))) = l.map fun q => (dK q : DataW H) := rfl
    rw [e] at hb
    exact ⟨by omega, fun p hp => by have := h2 p hp; omega⟩

end Go.Proofs.YtagldlchamlpdaaDoor
