import Derived.Test.YtdghlblgmihbpaaDoorRows
import Derived.Test.YtdghlblgmihbpaaDoorFStp
import Derived.ProofKit
import Derived.LaidMore
import Derived.LaidSub
import Derived.Lay
import Derived.OpenShut
import Derived.Stop.Joined
import Derived.Lib.LaidTab
import Derived.Lib.SmallJoins
import Derived.SizedLaws
import Derived.ChangeMaps5
import Derived.Deep.Slices
namespace Go.Proofs.YtdghlblgmihbpaaDoor
open Go.ChangeShapes Go.WideShapes Go.ChangeAt Go.WideMaps Go.WideElems Go.RowKit Go.Joins

theorem own : ownKnob Tryd.prog.godebug = none := by kernel_rfl
theorem laidOut : laidOutB Tryd.prog = true := by kernel_rfl
theorem cells9 : Tryd.prog.cellsOf 9 = 1 := by kernel_rfl
theorem cells4 : Tryd.prog.cellsOf 4 = 1 := by kernel_rfl
theorem cells3 : Tryd.prog.cellsOf 3 = 1 := by kernel_rfl
theorem cellsStep : Tryd.prog.cellsOf 33 = 3 := by kernel_rfl
theorem cellsSteps : Tryd.prog.cellsOf 22 = 1 := by kernel_rfl
theorem bytesStep : Tryd.prog.bytesOf 33 = 24 := by kernel_rfl
theorem cellsScript : Tryd.prog.cellsOf 24 = 3 := by kernel_rfl
theorem cellsTwo : Tryd.prog.cellsOf 44 = 5 := by kernel_rfl
theorem reach_val : reachBytes = 140737488351232 := rfl
theorem weightsAll_mem {H : Type} {P : Program} {e : TypeId} : ∀ {l : List (DataW H)} {d : DataW H}, d ∈ l → ∀ n ∈ d.weights P e, n ∈ DataW.weightsAll P e l
  | d' :: r, d, hd, n, hn => by
    simp only [DataW.weightsAll, List.mem_append]
    rcases List.mem_cons.1 hd with rfl | h
    · exact Or.inl hn
    · exact Or.inr (weightsAll_mem h n hn)
theorem spot_none {W : World} {a : Addr} {v : Value} (h : W.cell? a = some v) : a = ⟨a.block, a.off, none⟩ := by
  have hsp : a.spot = none := by
    unfold World.cell? at h
    split at h
    · split at h
      · cases h
      · rename_i hs; simpa using hs
    · cases h
  cases a; simp at hsp; rw [hsp]

/-- What a step reads as. -/
def dS {H : Type} (q : Stp) : DataW H := .agg [.lit (.int .i64 q.1), .lit (.int .i64 q.2.1), .lit (.int .i64 q.2.2)]
set_option maxRecDepth 100000 in
/-- A list of steps that the argument holds. -/
theorem open_stps {H : Type} {enc : TypeId × Value → H} {W : World} (fuel : Nat) (v : Value) (x : DataW H × List MemPlace) (h : DataW.trod enc Tryd.prog W 0 (fun _ => true) true fuel 22 [v] = some x) :
    ∃ l : List Stp, StpR W v l ∧ ((x.1 = .nil ∧ l = []) ∨ ∃ rest, x.1 = .slice (l.map dS) rest) := by
  rcases DataW.trod_slice Tryd.underlying22 h with ⟨h0, hx0⟩ | ⟨a, len, cap, elems, rest, n, hn, hv, hx, _, hl, hm, hlen, hel, _⟩
  · simp only [List.cons.injEq, and_true] at h0
    subst h0
    exact ⟨[], StpR.nil _, .inl ⟨by rw [hx0], rfl⟩⟩
  · simp only [List.cons.injEq, and_true] at hv
    subst hv hx hn
    have each' : ∀ i : Fin len, ∃ q : Stp, W.cell? (a.add (i.1 * 3)) = some (.int .i64 q.1) ∧ W.cell? (a.add (i.1 * 3 + 1)) = some (.int .i64 q.2.1) ∧ W.cell? (a.add (i.1 * 3 + 2)) = some (.int .i64 q.2.2) ∧ ∀ (h2 : i.1 < elems.length), elems[i.1].1 = dS q := fun i => by
      have h1 := hel i.1 i.2
      rw [cellsStep, List.getElem?_eq_getElem (by omega)] at h1
      obtain ⟨cs', h2, h3⟩ := Option.bind_eq_some_iff.1 h1
      obtain ⟨_, hcl, hcell⟩ := World.cells?_some h2
      obtain ⟨xs, k', _, hxy, hcl2, hxl, hf⟩ := DataW.trod_struct Tryd.underlying33 h3
      have c0 := hcell 0 (by decide)
      have c1 := hcell 1 (by decide)
      have c2 := hcell 2 (by decide)
      match xs, hxl, cs', hcl with
      | [y0, y1, y2], _, [v0, v1, v2], _ =>
        have g0 := hf 0 _ rfl
        have g1 := hf 1 _ rfl
        have g2 := hf 2 _ rfl
        simp [cells3] at g0 g1 g2
        obtain ⟨s0, d0, rfl, w0⟩ := DataW.trod_int Tryd.underlying3 g0
        obtain ⟨s1, d1, rfl, w1⟩ := DataW.trod_int Tryd.underlying3 g1
        obtain ⟨s2, d2, rfl, w2⟩ := DataW.trod_int Tryd.underlying3 g2
        simp only [List.cons.injEq, and_true] at d0 d1 d2
        subst d0 d1 d2
        refine ⟨(s0, s1, s2), ?_, ?_, ?_, fun _ => ?_⟩
        · have e0 : (a.add (i.1 * 3)).add 0 = a.add (i.1 * 3) := by simp [Addr.add]
          rw [e0] at c0
          exact c0
        · have e1 : (a.add (i.1 * 3)).add 1 = a.add (i.1 * 3 + 1) := by rw [Addr.add_add]
          rw [e1] at c1
          exact c1
        · have e2 : (a.add (i.1 * 3)).add 2 = a.add (i.1 * 3 + 2) := by rw [Addr.add_add]
          rw [e2] at c2
          exact c2
        · rw [hxy]; rfl
    obtain ⟨g, hg⟩ := Classical.axiomOfChoice each'
    refine ⟨List.ofFn g, ⟨some a, cap, by simp, fun j hj => ?_⟩, .inr ⟨rest.map (·.1), ?_⟩⟩
    · have hj' : j < len := by simpa using hj
      obtain ⟨hc1, hc2, hc3, _⟩ := hg ⟨j, hj'⟩
      have h00 := (hg ⟨0, by omega⟩).1
      have e0 : a.add 0 = a := by simp [Addr.add]
      rw [show ((⟨0, by omega⟩ : Fin len).1 * 3) = 0 from rfl, e0] at h00
      have ea := spot_none (a := a) h00
      refine ⟨a.block, a.off, congrArg some ea, ?_, ?_, ?_⟩
      · rw [List.getElem_ofFn, ← hc1]
        conv => rhs; rw [ea, add_plain']
      · rw [List.getElem_ofFn, ← hc2]
        conv => rhs; rw [ea, add_plain']
        rfl
      · rw [List.getElem_ofFn, ← hc3]
        conv => rhs; rw [ea, add_plain']
        rfl
    · have he : elems.map (·.1) = (List.ofFn g).map dS := by
        refine List.ext_getElem (by simp [hlen]) (fun i h1 h2 => ?_)
        have hi : i < len := by simpa using h2
        rw [List.getElem_map, List.getElem_map, List.getElem_ofFn]
        exact (hg ⟨i, hi⟩).2.2.2 (by simpa using h1)
      rw [← he]
theorem stps_weights {H : Type} {l : List Stp} {x : DataW H} (hx : (x = .nil ∧ l = []) ∨ ∃ rest, x = .slice (l.map dS) rest) (hw : ∀ z ∈ x.weights Tryd.prog 22, z ≤ reachBytes) : l.length ≤ 5864062014634 := by
  rcases hx with ⟨_, rfl⟩ | ⟨rest, rfl⟩
  · exact Nat.zero_le _
  · have hbig := hw ((l.length + rest.length) * 24) (by
      simp only [DataW.weights, Tryd.underlying22, bytesStep, List.length_map]
      exact List.mem_cons_self)
    rw [reach_val] at hbig
    omega
set_option maxRecDepth 100000 in
theorem open_script {H : Type} {enc : TypeId × Value → H} {W : World} {r : Reach} {b0 : Nat} {v : Value} {d : DataW H} {p : List MemPlace} (hv : Value.okWide Tryd.prog W r b0 24 v)
    (h : DataW.Trod enc Tryd.prog W 0 (fun _ => true) true 24 v d p) (hw : ∀ z ∈ d.weights Tryd.prog 24, z ≤ reachBytes) :
    ∃ (pg og : Int) (l : List Stp) (s : Value), v = .agg #[.int .i64 pg, .int .i64 og, s] ∧ StpR W s l ∧ l.length ≤ 5864062014634 := by
  obtain ⟨cs, rfl, hsz⟩ := okWide_struct Tryd.underlying24 hv
  rw [cellsScript] at hsz
  obtain ⟨fuel, hf0⟩ := h
  obtain ⟨xs, k', _, hxy, hcl, hxl, hf⟩ := DataW.trod_struct Tryd.underlying24 hf0
  obtain ⟨cl⟩ := cs
  simp only [Value.cells] at hf
  match xs, hxl, cl, hsz with
  | [y0, y1, y2], _, [v0, v1, v2], _ =>
    have g0 := hf 0 _ rfl
    have g1 := hf 1 _ rfl
    have g2 := hf 2 _ rfl
    simp [cells3, cellsSteps] at g0 g1 g2
    obtain ⟨k0, d0, rfl, w0⟩ := DataW.trod_int Tryd.underlying3 g0
    obtain ⟨k1, d1, rfl, w1⟩ := DataW.trod_int Tryd.underlying3 g1
    obtain ⟨l, hl, hx⟩ := open_stps _ _ _ g2
    simp only [List.cons.injEq, and_true] at d0 d1
    refine ⟨k0, k1, l, v2, by rw [d0, d1], hl, ?_⟩
    refine stps_weights hx (fun z hz => hw z ?_)
    have hdd := congrArg Prod.fst hxy
    simp only at hdd
    rw [hdd]
    simp [DataW.weights, Tryd.underlying24, DataW.weightsEach, hz]

set_option maxRecDepth 100000 in
theorem open_two9 {H : Type} {enc : TypeId × Value → H} {W : World} {r : Reach} {b0 : Nat} {v : Value} {d : DataW H} {p : List MemPlace} (hv : Value.okWide Tryd.prog W r b0 44 v)
    (h : DataW.Trod enc Tryd.prog W 0 (fun _ => true) true 44 v d p) (hw : ∀ z ∈ d.weights Tryd.prog 44, z ≤ reachBytes) :
    ∃ (pg og : Int) (l : List Stp) (s : Value) (nn kk : Int), v = .agg #[.int .i64 pg, .int .i64 og, s, .int .i64 nn, .int .i64 kk] ∧ StpR W s l ∧ l.length ≤ 5864062014634 := by
  obtain ⟨cs, rfl, hsz⟩ := okWide_struct Tryd.underlying44 hv
  rw [cellsTwo] at hsz
  obtain ⟨fuel, hf0⟩ := h
  obtain ⟨xs, k', _, hxy, hcl, hxl, hf⟩ := DataW.trod_struct Tryd.underlying44 hf0
  obtain ⟨cl⟩ := cs
  simp only [Value.cells] at hf
  match xs, hxl, cl, hsz with
  | [y0, y1, y2], _, [v0, v1, v2, v3, v4], _ =>
    have g0 := hf 0 _ rfl
    have g1 := hf 1 _ rfl
    have g2 := hf 2 _ rfl
    simp [cells3, cellsScript] at g0 g1 g2
    obtain ⟨k0, d0, rfl, w0⟩ := DataW.trod_int Tryd.underlying3 g1
    obtain ⟨k1, d1, rfl, w1⟩ := DataW.trod_int Tryd.underlying3 g2
    obtain ⟨xs2, k2', _, hxy2, hcl2, hxl2, hf2⟩ := DataW.trod_struct Tryd.underlying24 g0
    match xs2, hxl2 with
    | [z0, z1, z2], _ =>
      have f0 := hf2 0 _ rfl
      have f1 := hf2 1 _ rfl
      have f2 := hf2 2 _ rfl
      simp [cells3, cellsSteps] at f0 f1 f2
      obtain ⟨i0, e0, rfl, u0⟩ := DataW.trod_int Tryd.underlying3 f0
      obtain ⟨i1, e1, rfl, u1⟩ := DataW.trod_int Tryd.underlying3 f1
      obtain ⟨l, hl, hx⟩ := open_stps _ _ _ f2
      simp only [List.cons.injEq, and_true] at d0 d1 e0 e1
      refine ⟨i0, i1, l, v2, k0, k1, by rw [d0, d1, e0, e1], hl, ?_⟩
      refine stps_weights hx (fun z hz => hw z ?_)
      have hdd := congrArg Prod.fst hxy
      have hd2 := congrArg Prod.fst hxy2
      simp only at hdd hd2
      rw [hdd]
      simp only [List.map_cons]
      rw [hd2]
      simp [DataW.weights, Tryd.underlying44, Tryd.underlying24, DataW.weightsEach, hz]

end Go.Proofs.YtdghlblgmihbpaaDoor
