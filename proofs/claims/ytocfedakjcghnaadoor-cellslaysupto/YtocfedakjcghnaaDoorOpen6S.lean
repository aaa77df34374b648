import Derived.Test.YtocfedakjcghnaaDoorLaid6
import Derived.Test.YtocfedakjcghnaaDoorCStr
namespace Go.Proofs.YtocfedakjcghnaaDoor
open Go.ChangeShapes Go.WideShapes Go.ChangeAt Go.WideMaps Go.WideElems Go.RowKit Go.Joins

theorem bulk_strs {H : Type} : ∀ l : List ByteArray, Rows.uptoBulkAll (l.map fun q => (DataW.lit (.string q.data.toList) : DataW H)) = (l.flatMap (fun c => c.data.toList)).length + l.length
  | [] => by simp [Rows.uptoBulkAll]
  | x :: r => by
    simp only [List.map_cons, Rows.uptoBulkAll, Rows.uptoBulk, bulk_strs r, List.flatMap_cons, List.length_append, List.length_cons]
    omega

set_option maxRecDepth 100000 in
theorem open_strs_c {H : Type} {enc : TypeId × Value → H} {W : World} (fuel : Nat) (v : Value) (x : DataW H × List MemPlace)
    (h : DataW.trod enc Tryd.prog W 0 (fun _ => true) true fuel 24 [v] = some x) (hb : Rows.uptoBulk x.1 ≤ 1048576) :
    ∃ l : List ByteArray, RowR W v (strs l) ∧ l.length ≤ 1048576 ∧ sizeL l ≤ 4194304 := by
  obtain ⟨l, hr, _, hd⟩ := open_one Tryd.underlying24 cells9 Value.string (fun _ => True) fuel v x h (fun _ _ _ => trivial) trivial (fun q d => d = .lit (.string q.data.toList)) (fun k cs y hy => by
    obtain ⟨s, d0, rfl, w0⟩ := DataW.trod_string Tryd.underlying9 hy
    exact ⟨s, d0, rfl⟩)
  rcases hd with ⟨rfl, _⟩ | ⟨elems, rest, he, hl, hq⟩
  · exact ⟨[], hr, Nat.zero_le _, by simp [sizeL, endL, flatTo]⟩
  · have hel : elems = l.map fun q => (DataW.lit (.string q.data.toList) : DataW H) := by
      refine List.ext_getElem (by simp [hl]) (fun i h1 h2 => ?_)
      rw [hq i (by omega) h1, List.getElem_map]
    rw [he, hel, Rows.uptoBulk, bulk_strs] at hb
    refine ⟨l, hr, by omega, ?_⟩
    show 2 * l.length + (flatTo l l.length).length ≤ _
    unfold flatTo
    rw [List.take_of_length_le (Nat.le_refl _)]
    omega

theorem open_strs {H : Type} {enc : TypeId × Value → H} {W : World} {r : Reach} {b0 : Nat} {v : Value} {d : DataW H} {p : List MemPlace} (hv : Value.okWide Tryd.prog W r b0 24 v)
    (h : DataW.Trod enc Tryd.prog W 0 (fun _ => true) true 24 v d p) (hb : Rows.uptoBulk d ≤ 1048576) :
    ∃ l : List ByteArray, RowR W v (strs l) ∧ l.length ≤ 1048576 ∧ sizeL l ≤ 4194304 := by
  obtain ⟨a, n, c, rfl⟩ := okWide_slice Tryd.underlying24 hv
  obtain ⟨fuel, hf0⟩ := h
  exact open_strs_c fuel _ (d, p) hf0 hb

theorem cellsSpot : Tryd.prog.cellsOf 45 = 3 := by kernel_rfl
theorem cellsStrs : Tryd.prog.cellsOf 24 = 1 := by kernel_rfl
set_option maxRecDepth 100000 in
theorem open_spot {H : Type} {enc : TypeId × Value → H} {W : World} {r : Reach} {b0 : Nat} {v : Value} {d : DataW H} {p : List MemPlace} (hv : Value.okWide Tryd.prog W r b0 45 v)
    (h : DataW.Trod enc Tryd.prog W 0 (fun _ => true) true 45 v d p) (hb : Rows.uptoBulk d ≤ 1048576) :
    ∃ (l : List ByteArray) (a : Option Addr) (c : Nat) (ax bx : Int), v = .agg #[.slice a l.length c, .int .i64 ax, .int .i64 bx] ∧ RowR W (.slice a l.length c) (strs l) ∧ l.length ≤ 1048576 ∧ sizeL l ≤ 4194304 := by
  obtain ⟨cs, rfl, hsz⟩ := okWide_struct Tryd.underlying45 hv
  rw [cellsSpot] at hsz
  obtain ⟨fuel, hf0⟩ := h
  obtain ⟨xs, k', _, hxy, hcl, hxl, hf⟩ := DataW.trod_struct Tryd.underlying45 hf0
  obtain ⟨cl⟩ := cs
  simp only [Value.cells] at hf
  simp only [Prod.mk.injEq] at hxy
  match xs, hxl, cl, hsz with
  | [y0, y1, y2], _, [v0, v1, v2], _ =>
    have g0 := hf 0 _ rfl
    have g1 := hf 1 _ rfl
    have g2 := hf 2 _ rfl
    simp [cellsInt, cellsStrs] at g0 g1 g2
    obtain ⟨k1, d1, rfl, w1⟩ := DataW.trod_int Tryd.underlying3 g1
    obtain ⟨k2, d2, rfl, w2⟩ := DataW.trod_int Tryd.underlying3 g2
    simp only [List.cons.injEq, and_true] at d1 d2
    rw [hxy.1] at hb
    simp only [List.map_cons, List.map_nil, Rows.uptoBulk, Rows.uptoBulkAll] at hb
    obtain ⟨l, hr, hl, hs⟩ := open_strs_c k' v0 y0 g0 (by omega)
    have hform : ∃ a c, v0 = .slice a l.length c := by
      obtain ⟨a, c, rfl, _⟩ := hr
      exact ⟨a, c, by rw [strs_length]⟩
    obtain ⟨a, c, rfl⟩ := hform
    exact ⟨l, a, c, k1, k2, by rw [d1, d2], hr, hl, hs⟩

end Go.Proofs.YtocfedakjcghnaaDoor
