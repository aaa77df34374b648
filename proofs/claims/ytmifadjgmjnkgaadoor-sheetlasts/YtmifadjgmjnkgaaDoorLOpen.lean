import Derived.Test.YtmifadjgmjnkgaaDoorLLaw
import Derived.Test.YtmifadjgmjnkgaaDoorOpen4
import Derived.Deep.Slices
namespace Go.Proofs.YtmifadjgmjnkgaaDoor
open Go.ChangeShapes Go.WideShapes Go.ChangeAt Go.WideMaps Go.WideElems Go.RowKit Go.Joins

theorem weightsAll_mem {H : Type} {P : Program} {e : TypeId} : ∀ {l : List (DataW H)} {d : DataW H}, d ∈ l → ∀ n ∈ d.weights P e, n ∈ DataW.weightsAll P e l
  | d' :: r, d, hd, n, hn => by
    simp only [DataW.weightsAll, List.mem_append]
    rcases List.mem_cons.1 hd with rfl | h
    · exact Or.inl hn
    · exact Or.inr (weightsAll_mem h n hn)
theorem spot_none {W : World} {a : Addr} {v : Value} (h : W.cell? a = some v) : a = ⟨a.block, a.off, none⟩ := by
  have hsp : a.spot = none := by
    unfold World.cell? at h
    split at h
    · split at h
      · cases h
      · rename_i hs; simpa using hs
    · cases h
  cases a; simp at hsp; rw [hsp]
theorem add_plain (b o c : Nat) : (⟨b, o, none⟩ : Addr).add c = ⟨b, o + c, none⟩ := by
  unfold Addr.add
  split
  · rename_i h; rw [h, Nat.add_zero]
  · rfl

/-- A row that the argument holds, by weights: its elements' cells, one after another. -/
theorem open_rowz {H : Type} {enc : TypeId × Value → H} {W : World} {t e : TypeId} {size bs : Nat} (hu : Tryd.prog.underlying t = some (.slice e)) (hc : Tryd.prog.cellsOf e = size) (hy : Tryd.prog.bytesOf e = bs) (hp : 0 < size) (hq : 0 < bs) (R : List Value → Prop)
    (fuel : Nat) (v : Value) (x : DataW H × List MemPlace) (h : DataW.trod enc Tryd.prog W 0 (fun _ => true) true fuel t [v] = some x) (hw : ∀ z ∈ x.1.weights Tryd.prog t, z ≤ reachBytes)
    (each : ∀ k cs y, DataW.trod enc Tryd.prog W 0 (fun _ => true) true k e cs = some y → cs.length = size → (∀ z ∈ y.1.weights Tryd.prog e, z ≤ reachBytes) → R cs) :
    ∃ (a : Option Addr) (len cap : Nat), v = .slice a len cap ∧ len ≤ reachBytes ∧
      ∀ i, i < len → ∃ g off cs, a = some ⟨g, off, none⟩ ∧ g < W.heap.size ∧ R cs ∧ cs.length = size ∧ ∀ j, j < size → W.cell? ⟨g, off + i * size + j, none⟩ = cs[j]? := by
  rcases DataW.trod_slice hu h with ⟨h0, _⟩ | ⟨a, len, cap, elems, rest, n, hn, hv, hx, _, hl, hm, hlen, hel, _⟩
  · simp only [List.cons.injEq, and_true] at h0
    subst h0
    exact ⟨none, 0, 0, rfl, Nat.zero_le _, fun i h => absurd h (by simp)⟩
  · simp only [List.cons.injEq, and_true] at hv
    subst hv hx hn
    have hwt : (elems.length + rest.length) * bs ≤ reachBytes := hw _ (by
      simp only [DataW.weights, hu, hy, List.length_map]
      exact List.mem_cons_self)
    have hlB : len ≤ reachBytes := by
      have h1 : len * 1 ≤ (elems.length + rest.length) * bs := Nat.mul_le_mul (by omega) hq
      omega
    have each' : ∀ i, i < len → ∃ cs, R cs ∧ cs.length = size ∧ ∀ j, j < size → W.cell? ((a.add (i * size)).add j) = cs[j]? := by
      intro i hi
      have h1 := hel i hi
      rw [hc, List.getElem?_eq_getElem (by omega)] at h1
      obtain ⟨cs', h2, h3⟩ := Option.bind_eq_some_iff.1 h1
      obtain ⟨_, hcl, hcell⟩ := World.cells?_some h2
      refine ⟨cs', each n cs' _ h3 hcl (fun z hz => hw z ?_), hcl, fun j hj => hcell j (by omega)⟩
      simp only [DataW.weights, hu]
      exact List.mem_cons_of_mem _ (List.mem_append_left _ (weightsAll_mem (List.mem_map.2 ⟨elems[i], List.getElem_mem (by omega), rfl⟩) z hz))
    refine ⟨some a, len, cap, rfl, hlB, fun i hi => ?_⟩
    obtain ⟨cs0, _, hl0, hc0⟩ := each' 0 (by omega)
    have h00 := hc0 0 hp
    rw [Nat.zero_mul, List.getElem?_eq_getElem (by omega)] at h00
    have ea := spot_none (a := a) h00
    obtain ⟨cs, hr, hl1, hc1⟩ := each' i hi
    refine ⟨a.block, a.off, cs, congrArg some ea, World.block_lt_of_cell? W a h00, hr, hl1, fun j hj => ?_⟩
    have := hc1 j hj
    rw [ea, add_plain, add_plain] at this
    exact this

theorem cellsFate : Tryd.prog.cellsOf 94 = 4 := by kernel_rfl
theorem bytesFate : Tryd.prog.bytesOf 94 = 40 := by kernel_rfl
theorem cellsFates : Tryd.prog.cellsOf 32 = 1 := by kernel_rfl
theorem cellsStep : Tryd.prog.cellsOf 34 = 9 := by kernel_rfl
theorem bytesStep : Tryd.prog.bytesOf 34 = 104 := by kernel_rfl
theorem cellsSteps : Tryd.prog.cellsOf 22 = 1 := by kernel_rfl
theorem cellsScript : Tryd.prog.cellsOf 24 = 2 := by kernel_rfl
theorem reach_val : reachBytes = 140737488351232 := rfl

set_option maxRecDepth 100000 in
theorem open_fates {H : Type} {enc : TypeId × Value → H} {W : World} (fuel : Nat) (v : Value) (x : DataW H × List MemPlace)
    (h : DataW.trod enc Tryd.prog W 0 (fun _ => true) true fuel 32 [v] = some x) (hw : ∀ z ∈ x.1.weights Tryd.prog 32, z ≤ reachBytes) : V.FatesR W v := by
  obtain ⟨a, len, cap, hv, hl, hc⟩ := open_rowz Tryd.underlying32 cellsFate bytesFate (by decide) (by decide) (fun cs => ∃ fi fk fc fj, cs = [.int .i64 fi, .int .i64 fk, .int .i64 fc, .string fj]) fuel v x h hw (by
    intro k cs y hy hcl _
    obtain ⟨xs, k', _, hxy, _, hxl, hf⟩ := DataW.trod_struct Tryd.underlying94 hy
    match xs, hxl, cs, hcl with
    | [y0, y1, y2, y3], _, [v0, v1, v2, v3], _ =>
      have g0 := hf 0 _ rfl
      have g1 := hf 1 _ rfl
      have g2 := hf 2 _ rfl
      have g3 := hf 3 _ rfl
      simp [cellsInt, cells9] at g0 g1 g2 g3
      obtain ⟨k0, d0, rfl, w0⟩ := DataW.trod_int Tryd.underlying3 g0
      obtain ⟨k1, d1, rfl, w1⟩ := DataW.trod_int Tryd.underlying3 g1
      obtain ⟨k2, d2, rfl, w2⟩ := DataW.trod_int Tryd.underlying3 g2
      obtain ⟨b, d3, rfl, w3⟩ := DataW.trod_string Tryd.underlying9 g3
      simp only [List.cons.injEq, and_true] at d0 d1 d2 d3
      exact ⟨k0, k1, k2, b, by rw [d0, d1, d2, d3]⟩)
  refine ⟨a, len, cap, hv, by rw [reach_val] at hl; omega, fun k hk => ?_⟩
  obtain ⟨g, off, cs, ha, hg, ⟨fi, fk, fc, fj, rfl⟩, _, hcell⟩ := hc k hk
  exact ⟨g, off, fi, fk, fc, fj, ha, hg, hcell 0 (by omega), hcell 1 (by omega), hcell 2 (by omega), hcell 3 (by omega)⟩

def StepC (W : World) (cs : List Value) : Prop := ∃ (kd nn : Int) (s : Sh) (dat : ByteArray) (fv : Value), cs = [.int .i64 kd, .int .i64 nn] ++ s.cells ++ [.string dat, fv] ∧ s.txid < 18446744073709551616 ∧ s.body.size ≤ 140737488355328 ∧ V.FatesR W fv

set_option maxRecDepth 100000 in
theorem open_step {H : Type} {enc : TypeId × Value → H} {W : World} (k : Nat) (cs : List Value) (y : DataW H × List MemPlace)
    (hy : DataW.trod enc Tryd.prog W 0 (fun _ => true) true k 34 cs = some y) (hcl : cs.length = 9) (hw : ∀ z ∈ y.1.weights Tryd.prog 34, z ≤ reachBytes) : StepC W cs := by
  obtain ⟨xs, k', _, hxy, _, hxl, hf⟩ := DataW.trod_struct Tryd.underlying34 hy
  match xs, hxl, cs, hcl with
  | [y0, y1, y2, y3, y4], _, [v0, v1, v2, v3, v4, v5, v6, v7, v8], _ =>
    have g0 := hf 0 _ rfl
    have g1 := hf 1 _ rfl
    have g2 := hf 2 _ rfl
    have g3 := hf 3 _ rfl
    have g4 := hf 4 _ rfl
    simp [cellsInt, cells9, cellsSheet, cellsFates] at g0 g1 g2 g3 g4
    obtain ⟨k0, d0, rfl, w0⟩ := DataW.trod_int Tryd.underlying3 g0
    obtain ⟨k1, d1, rfl, w1⟩ := DataW.trod_int Tryd.underlying3 g1
    obtain ⟨s, hs, rfl, hn⟩ := open_sheet_c g2
    obtain ⟨b, d3, rfl, w3⟩ := DataW.trod_string Tryd.underlying9 g3
    simp only [Sh.cells, List.cons.injEq, and_true] at d0 d1 hs d3
    obtain ⟨rfl, rfl, rfl, rfl, rfl⟩ := hs
    subst d0 d1 d3
    rw [hxy] at hw
    have hb : s.body.size ≤ reachBytes := hw s.body.size (by
      simp [DataW.weights, Tryd.underlying34, DataW.weightsEach, Sh.dat, Tryd.underlying31])
    have hfr := open_fates k' v8 y4 g4 (fun z hz => hw z (by
      simp only [DataW.weights, Tryd.underlying34, List.map_cons, List.map_nil, DataW.weightsEach]
      simp [hz]))
    rw [reach_val] at hb
    exact ⟨k0, k1, s, b, v8, rfl, hn.2.2.2.2.1, by omega, hfr⟩

set_option maxRecDepth 100000 in
theorem open_steps {H : Type} {enc : TypeId × Value → H} {W : World} (fuel : Nat) (v : Value) (x : DataW H × List MemPlace)
    (h : DataW.trod enc Tryd.prog W 0 (fun _ => true) true fuel 22 [v] = some x) (hw : ∀ z ∈ x.1.weights Tryd.prog 22, z ≤ reachBytes) : ∃ sa m sc, v = .slice sa m sc ∧ m ≤ 9223372036854775807 ∧ StepsR W sa m := by
  obtain ⟨a, len, cap, hv, hl, hc⟩ := open_rowz Tryd.underlying22 cellsStep bytesStep (by decide) (by decide) (StepC W) fuel v x h hw open_step
  refine ⟨a, len, cap, hv, by rw [reach_val] at hl; omega, fun k hk => ?_⟩
  obtain ⟨g, off, cs, ha, hg, ⟨kd, nn, s, dat, fv, rfl, ht, hb, hf⟩, _, hcell⟩ := hc k hk
  exact ⟨g, off, kd, nn, s, dat, fv, ha, hg, ⟨hcell 0 (by omega), hcell 1 (by omega), hcell 2 (by omega), hcell 3 (by omega), hcell 4 (by omega), hcell 5 (by omega), hcell 6 (by omega), hcell 7 (by omega), hcell 8 (by omega)⟩, ht, hb, hf⟩

set_option maxRecDepth 100000 in
theorem open_script {H : Type} {enc : TypeId × Value → H} {W : World} {r : Reach} {b0 : Nat} {v : Value} {d : DataW H} {p : List MemPlace} (hv : Value.okWide Tryd.prog W r b0 24 v)
    (h : DataW.Trod enc Tryd.prog W 0 (fun _ => true) true 24 v d p) (hw : ∀ z ∈ d.weights Tryd.prog 24, z ≤ reachBytes) :
    ∃ X sa m sc, v = .agg #[.int .i64 X, .slice sa m sc] ∧ m ≤ 9223372036854775807 ∧ StepsR W sa m := by
  obtain ⟨cs, rfl, hsz⟩ := okWide_struct Tryd.underlying24 hv
  rw [cellsScript] at hsz
  obtain ⟨fuel, hf0⟩ := h
  obtain ⟨xs, k', _, hxy, hcl, hxl, hf⟩ := DataW.trod_struct Tryd.underlying24 hf0
  obtain ⟨cl⟩ := cs
  simp only [Value.cells] at hf
  simp only [Prod.mk.injEq] at hxy
  match xs, hxl, cl, hsz with
  | [y0, y1], _, [v0, v1], _ =>
    have g0 := hf 0 _ rfl
    have g1 := hf 1 _ rfl
    simp [cellsInt, cellsSteps] at g0 g1
    obtain ⟨k0, d0, rfl, w0⟩ := DataW.trod_int Tryd.underlying3 g0
    simp only [List.cons.injEq, and_true] at d0
    rw [hxy.1] at hw
    obtain ⟨sa, m, sc, rfl, hm, hst⟩ := open_steps k' v1 y1 g1 (fun z hz => hw z (by
      simp only [DataW.weights, Tryd.underlying24, List.map_cons, List.map_nil, DataW.weightsEach]
      simp [hz]))
    exact ⟨k0, sa, m, sc, by rw [d0], hm, hst⟩

/-! What is laid: four sentinels, the table and the layout. -/
def gFour (i : Nat) : Nat := ([0, 2, 3, 1] : List Nat).getD i 0
def lastsErrL : List (String × List UInt8) := (Rows.sheetLastsRow.laid.take 4).map fun x => (x.1, errText x.2)
theorem lastsErrL_eq : lastsErrL.map mkErr ++ [("copse/codec.halfByteSteps", Rows.laid_copse_codec_halfByteSteps), ("copse/sheet.layout", Rows.laid_copse_sheet_layout)] = Rows.sheetLastsRow.laid := rfl
theorem lastsErrL_len : lastsErrL.length = 4 := rfl
theorem lastsErrL_all : ((List.range 4).all fun i => match lastsErrL[i]? with
    | some x => (Tryd.prog.globalNamed x.1 == some (gFour i)) && ((Tryd.prog.globals[gFour i]?).map (·.type) == some 36)
    | none => false) = true := by kernel_rfl
theorem lastsErrL_glob : ∀ i x, lastsErrL[i]? = some x → Tryd.prog.globalNamed x.1 = some (gFour i) ∧ (Tryd.prog.globals[gFour i]?).map (·.type) = some 36 := by
  intro i x hx
  have hi : i < 4 := by
    rcases Nat.lt_or_ge i 4 with h | h
    · exact h
    · rw [List.getElem?_eq_none (by rw [lastsErrL_len]; exact h)] at hx; cases hx
  have h := List.all_eq_true.1 lastsErrL_all i (List.mem_range.2 hi)
  rw [hx] at h
  simpa using h
set_option maxRecDepth 100000 in
theorem env_of_laid {W : World} (h : laidMetH Tryd.prog Rows.sheetLastsRow.laid W) : ∃ A, Env W.heap.size A W := by
  rw [MakeChecks.laidMetH_plain _ _ _ (by kernel_rfl)] at h
  obtain ⟨A, hA, _⟩ := errs_of (rest := [("copse/codec.halfByteSteps", Rows.laid_copse_codec_halfByteSteps), ("copse/sheet.layout", Rows.laid_copse_sheet_layout)]) gFour lastsErrL_len lastsErrL_glob (by rw [lastsErrL_eq]; exact h)
  have h1 : laidMet Tryd.prog [("copse/codec.halfByteSteps", Rows.laid_copse_codec_halfByteSteps)] W := h.filter (fun x => x.1 == "copse/codec.halfByteSteps")
  have h2 : laidMet Tryd.prog [("copse/sheet.layout", Rows.laid_copse_sheet_layout)] W := h.filter (fun x => x.1 == "copse/sheet.layout")
  have hT := tab_of_laid h1
  have hL := lay_of_laid h2
  have e0 := (hA.1 0 (by decide)).1
  have e1 := (hA.1 1 (by decide)).1
  have e2 := (hA.1 2 (by decide)).1
  have e3 := (hA.1 3 (by decide)).1
  exact ⟨fun k => if k = 0 then A 0 else if k = 1 then A 1 else if k = 2 then A 2 else A 3, ⟨e0, e2, e3, ⟨World.block_lt_of_cell? W _ e0, World.block_lt_of_cell? W _ e2, World.block_lt_of_cell? W _ e3⟩, Nat.le_refl _⟩, e1, ⟨World.block_lt_of_cell? W _ e1, hL.1, hT.2⟩, hL, hT⟩
theorem lasts_door_met (os : Os) (args : Array Value) : laidMetH Tryd.prog Rows.sheetLastsRow.laid ((World.doorLaid Tryd.prog 271 os).forCall (fun _ _ => 0) ⟨#[], args, []⟩).memory :=
  laidMetH_of_parts3 (fuel := 8) (laidMet_of_run' 8 (by kernel_rfl) (by kernel_rfl)) (by kernel_rfl) (by kernel_rfl)

end Go.Proofs.YtmifadjgmjnkgaaDoor
