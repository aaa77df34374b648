import Derived.Test.YtagldlchamlpdaaDoorOpen8
import Derived.Test.YtagldlchamlpdaaDoorCStr
namespace Go.Proofs.YtagldlchamlpdaaDoor
open Go.ChangeShapes Go.WideShapes Go.ChangeAt Go.WideMaps Go.WideElems Go.RowKit Go.Joins

set_option maxRecDepth 100000 in
theorem open_one {T H : Type} {enc : TypeId × Value → H} {W : World} {t e : TypeId} (hu : Tryd.prog.underlying t = some (.slice e)) (hc : Tryd.prog.cellsOf e = 1) (f : T → Value) (B : Nat → Prop)
    (fuel : Nat) (v : Value) (x : DataW H × List MemPlace) (h : DataW.trod enc Tryd.prog W 0 (fun _ => true) true fuel t [v] = some x)
    (hB : ∀ elems rest : List (DataW H), x.1 = .slice elems rest → B elems.length) (hB0 : B 0) (Q : T → DataW H → Prop)
    (each : ∀ k cs y, DataW.trod enc Tryd.prog W 0 (fun _ => true) true k e cs = some y → ∃ q : T, cs = [f q] ∧ Q q y.1) :
    ∃ l : List T, RowR W v (l.map f) ∧ B l.length ∧ ((l = [] ∧ x.1 = .nil) ∨ ∃ elems rest, x.1 = .slice elems rest ∧ elems.length = l.length ∧ ∀ i (h1 : i < l.length) (h2 : i < elems.length), Q l[i] elems[i]) := by
  rcases DataW.trod_slice hu h with ⟨h0, hx0⟩ | ⟨a, len, cap, elems, rest, n, hn, hv, hx, _, hl, hm, hlen, hel, _⟩
  · simp only [List.cons.injEq, and_true] at h0
    subst h0
    exact ⟨[], ⟨none, 0, rfl, Nat.le_refl _, fun _ => rfl, fun j u hj => by simp at hj⟩, hB0, .inl ⟨rfl, by rw [hx0]⟩⟩
  · simp only [List.cons.injEq, and_true] at hv
    subst hv hx hn
    have each' : ∀ i : Fin len, ∃ q : T, W.cell? (a.add i.1) = some (f q) ∧ ∀ (h2 : i.1 < elems.length), Q q elems[i.1].1 := fun i => by
      have h1 := hel i.1 i.2
      rw [hc, Nat.mul_one, List.getElem?_eq_getElem (by omega)] at h1
      obtain ⟨cs', h2, h3⟩ := Option.bind_eq_some_iff.1 h1
      obtain ⟨_, hcl, hcell⟩ := World.cells?_some h2
      obtain ⟨q, rfl, hq⟩ := each n cs' _ h3
      have := hcell 0 (by decide)
      refine ⟨q, ?_, fun _ => hq⟩
      have e0 : (a.add i.1).add 0 = a.add i.1 := by simp [Addr.add]
      rw [e0] at this
      exact this
    obtain ⟨g, hg⟩ := Classical.axiomOfChoice each'
    refine ⟨List.ofFn g, ⟨some a, cap, by simp, by simpa using hl, (fun h => (by cases h)), fun j u hj => ?_⟩, ?_, .inr ⟨elems.map (·.1), rest.map (·.1), rfl, by simp [hlen], fun i h1 h2 => ?_⟩⟩
    · have hj' : j < len := by simpa using (List.getElem?_eq_some_iff.1 hj).1
      have hcell := (hg ⟨j, hj'⟩).1
      have h00 := (hg ⟨0, by omega⟩).1
      have e0 : a.add 0 = a := by simp [Addr.add]
      rw [show ((⟨0, by omega⟩ : Fin len).1) = 0 from rfl, e0] at h00
      have ea := spot_none (a := a) h00
      refine ⟨a.block, a.off, congrArg some ea, ?_⟩
      have hu' : u = f (g ⟨j, hj'⟩) := by
        rw [List.getElem?_map, List.getElem?_ofFn, dif_pos hj'] at hj
        simpa using hj.symm
      rw [hu', ← hcell]
      conv => rhs; rw [ea, add_plain']
    · have := hB (elems.map (·.1)) (rest.map (·.1)) rfl
      rw [List.length_map, hlen] at this
      simpa using this
    · rw [List.length_ofFn] at h1
      simp only [List.getElem_ofFn, List.getElem_map]
      exact (hg ⟨i, h1⟩).2 (by omega)

theorem bytes9 : Tryd.prog.bytesOf 9 = 16 := by kernel_rfl
theorem cellsStrs : Tryd.prog.cellsOf 22 = 1 := by kernel_rfl
theorem cellsGrown : Tryd.prog.cellsOf 24 = 4 := by kernel_rfl
set_option maxRecDepth 100000 in
theorem open_texts {H : Type} {enc : TypeId × Value → H} {W : World} (fuel : Nat) (v : Value) (x : DataW H × List MemPlace)
    (h : DataW.trod enc Tryd.prog W 0 (fun _ => true) true fuel 22 [v] = some x) (hw : ∀ z ∈ x.1.weights Tryd.prog 22, z ≤ reachBytes) :
    ∃ l : List ByteArray, StrR W v l ∧ l.length ≤ 8796093021952 := by
  obtain ⟨l, hr, hb, _⟩ := open_one Tryd.underlying22 cells9 Value.string (fun n => n ≤ 8796093021952) fuel v x h (fun elems rest he => by
    have hbig := hw ((elems.length + rest.length) * 16) (by
      rw [he]
      simp only [DataW.weights, Tryd.underlying22, bytes9]
      exact List.mem_cons_self)
    rw [reach_val] at hbig
    omega) (Nat.zero_le _) (fun _ _ => True) (fun k cs y hy => by
    obtain ⟨s, d0, rfl, w0⟩ := DataW.trod_string Tryd.underlying9 hy
    exact ⟨s, d0, trivial⟩)
  exact ⟨l, hr.strs, hb⟩
set_option maxRecDepth 100000 in
theorem open_grown {H : Type} {enc : TypeId × Value → H} {W : World} {r : Reach} {b0 : Nat} {v : Value} {d : DataW H} {p : List MemPlace} (hv : Value.okWide Tryd.prog W r b0 24 v)
    (h : DataW.Trod enc Tryd.prog W 0 (fun _ => true) true 24 v d p) (hw : ∀ z ∈ d.weights Tryd.prog 24, z ≤ reachBytes) :
    ∃ (T : List ByteArray) (v0 : Value) (li ki : Int) (key : ByteArray), v = .agg #[v0, .int .i64 li, .string key, .int .i64 ki] ∧ StrR W v0 T ∧ T.length ≤ 8796093021952 ∧ (-9223372036854775808 ≤ li ∧ li ≤ 9223372036854775807) ∧ (-9223372036854775808 ≤ ki ∧ ki ≤ 9223372036854775807) := by
  obtain ⟨cs, rfl, hsz⟩ := okWide_struct Tryd.underlying24 hv
  rw [cellsGrown] at hsz
  obtain ⟨fuel, hf0⟩ := h
  obtain ⟨xs, k', _, hxy, hcl, hxl, hf⟩ := DataW.trod_struct Tryd.underlying24 hf0
  obtain ⟨cl⟩ := cs
  simp only [Value.cells] at hf
  simp only [Prod.mk.injEq] at hxy
  match xs, hxl, cl, hsz with
  | [y0, y1, y2, y3], _, [v0, v1, v2, v3], _ =>
    have g0 := hf 0 _ rfl
    have g1 := hf 1 _ rfl
    have g2 := hf 2 _ rfl
    have g3 := hf 3 _ rfl
    simp [cells9, cells3, cellsStrs] at g0 g1 g2 g3
    obtain ⟨m1, d1, rfl, w1⟩ := DataW.trod_int Tryd.underlying3 g1
    obtain ⟨s2, d2, rfl, w2⟩ := DataW.trod_string Tryd.underlying9 g2
    obtain ⟨m3, d3, rfl, w3⟩ := DataW.trod_int Tryd.underlying3 g3
    simp only [List.cons.injEq, and_true] at d1 d2 d3
    rw [hxy.1] at hw
    obtain ⟨T, hr, hl⟩ := open_texts k' v0 y0 g0 (fun z hz => hw z (by simp [DataW.weights, Tryd.underlying24, DataW.weightsEach, hz]))
    exact ⟨T, v0, m1, m3, s2, by rw [d1, d2, d3], hr, hl, bounds_i64 w1, bounds_i64 w3⟩

end Go.Proofs.YtagldlchamlpdaaDoor
