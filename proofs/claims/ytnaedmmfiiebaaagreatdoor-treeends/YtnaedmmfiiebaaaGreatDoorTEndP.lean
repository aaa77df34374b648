import Derived.Test.YtnaedmmfiiebaaaGreatDoorG47
import Derived.Test.YtnaedmmfiiebaaaGreatDoorTie
import Derived.Test.YtnaedmmfiiebaaaGreatDoorCards
import Derived.SevenTiedAt
import Derived.Deep.DeepHandedRow
import Derived.Deep.DeepWitnessRowRef
namespace Go.Proofs.YtnaedmmfiiebaaaGreatDoor.T
open Go.ChangeShapes Go.WideShapes Go.ChangeAt Go.WideMaps Go.WideElems Go.RowKit Go.Joins

theorem weightsAll_mem {H : Type} {P : Program} {e : TypeId} : ∀ {l : List (DataW H)} {d : DataW H}, d ∈ l → ∀ n ∈ d.weights P e, n ∈ DataW.weightsAll P e l
  | d' :: r, d, hd, n, hn => by
    simp only [DataW.weightsAll, List.mem_append]
    rcases List.mem_cons.1 hd with rfl | h
    · exact Or.inl hn
    · exact Or.inr (weightsAll_mem h n hn)
theorem spot_none {W : World} {a : Addr} {v : Value} (h : W.cell? a = some v) : a = ⟨a.block, a.off, none⟩ := by
  have hsp : a.spot = none := by
    unfold World.cell? at h
    split at h
    · split at h
      · cases h
      · rename_i hs; simpa using hs
    · cases h
  cases a; simp at hsp; rw [hsp]
theorem add_plain (b o c : Nat) : (⟨b, o, none⟩ : Addr).add c = ⟨b, o + c, none⟩ := by
  unfold Addr.add
  split
  · rename_i h; rw [h, Nat.add_zero]
  · rfl

/-- A row that the argument holds, by weights: its elements' cells, one after another. -/
theorem open_rowz {H : Type} {enc : TypeId × Value → H} {W : World} {t e : TypeId} {size bs : Nat} (hu : Tryz.prog.underlying t = some (.slice e)) (hc : Tryz.prog.cellsOf e = size) (hy : Tryz.prog.bytesOf e = bs) (hp : 0 < size) (R : List Value → Prop)
    (fuel : Nat) (v : Value) (x : DataW H × List MemPlace) (h : DataW.trod enc Tryz.prog W 0 (fun _ => true) true fuel t [v] = some x) (hw : ∀ z ∈ x.1.weights Tryz.prog t, z ≤ reachBytes)
    (each : ∀ k cs y, DataW.trod enc Tryz.prog W 0 (fun _ => true) true k e cs = some y → cs.length = size → (∀ z ∈ y.1.weights Tryz.prog e, z ≤ reachBytes) → R cs) :
    ∃ (a : Option Addr) (len cap : Nat), v = .slice a len cap ∧ len * bs ≤ reachBytes ∧
      ∀ i, i < len → ∃ g off cs, a = some ⟨g, off, none⟩ ∧ g < W.heap.size ∧ R cs ∧ cs.length = size ∧ ∀ j, j < size → W.cell? ⟨g, off + i * size + j, none⟩ = cs[j]? := by
  rcases DataW.trod_slice hu h with ⟨h0, _⟩ | ⟨a, len, cap, elems, rest, n, hn, hv, hx, _, hl, hm, hlen, hel, _⟩
  · simp only [List.cons.injEq, and_true] at h0
    subst h0
    exact ⟨none, 0, 0, rfl, by rw [Nat.zero_mul]; exact Nat.zero_le _, fun i h => absurd h (by simp)⟩
  · simp only [List.cons.injEq, and_true] at hv
    subst hv hx hn
    have hwt : (elems.length + rest.length) * bs ≤ reachBytes := hw _ (by
      simp only [DataW.weights, hu, hy, List.length_map]
      exact List.mem_cons_self)
    have hlB : len * bs ≤ reachBytes := Nat.le_trans (Nat.mul_le_mul_right bs (by omega)) hwt
    have each' : ∀ i, i < len → ∃ cs, R cs ∧ cs.length = size ∧ ∀ j, j < size → W.cell? ((a.add (i * size)).add j) = cs[j]? := by
      intro i hi
      have h1 := hel i hi
      rw [hc, List.getElem?_eq_getElem (by omega)] at h1
      obtain ⟨cs', h2, h3⟩ := Option.bind_eq_some_iff.1 h1
      obtain ⟨_, hcl, hcell⟩ := World.cells?_some h2
      refine ⟨cs', each n cs' _ h3 hcl (fun z hz => hw z ?_), hcl, fun j hj => hcell j (by omega)⟩
      simp only [DataW.weights, hu]
      exact List.mem_cons_of_mem _ (List.mem_append_left _ (weightsAll_mem (List.mem_map.2 ⟨elems[i], List.getElem_mem (by omega), rfl⟩) z hz))
    refine ⟨some a, len, cap, rfl, hlB, fun i hi => ?_⟩
    obtain ⟨cs0, _, hl0, hc0⟩ := each' 0 (by omega)
    have h00 := hc0 0 hp
    rw [Nat.zero_mul, List.getElem?_eq_getElem (by omega)] at h00
    have ea := spot_none (a := a) h00
    obtain ⟨cs, hr, hl1, hc1⟩ := each' i hi
    refine ⟨a.block, a.off, cs, congrArg some ea, World.block_lt_of_cell? W a h00, hr, hl1, fun j hj => ?_⟩
    have := hc1 j hj
    rw [ea, add_plain, add_plain] at this
    exact this


theorem list_of {α : Type} {P : Nat → α → Prop} : ∀ (n : Nat), (∀ i, i < n → ∃ x, P i x) → ∃ l : List α, l.length = n ∧ ∀ i (h : i < l.length), P i l[i]
  | 0, _ => ⟨[], rfl, fun i h => by simp at h⟩
  | n + 1, h => by
    obtain ⟨l, hl, hp⟩ := list_of n fun i hi => h i (by omega)
    obtain ⟨x, hx⟩ := h n (by omega)
    refine ⟨l ++ [x], by simp [hl], fun i hi => ?_⟩
    by_cases hlt : i < l.length
    · rw [List.getElem_append_left hlt]; exact hp i hlt
    · have : i = l.length := by simp at hi; omega
      subst this
      rw [List.getElem_append_right (Nat.le_refl _)]
      simp [hl] at hx ⊢
      exact hx
theorem cells3 : Tryz.prog.cellsOf 3 = 1 := by kernel_rfl
theorem cells9 : Tryz.prog.cellsOf 9 = 1 := by kernel_rfl
theorem cellsSec : Tryz.prog.cellsOf 93 = 2 := by kernel_rfl
theorem bytesSec : Tryz.prog.bytesOf 93 = 24 := by kernel_rfl
theorem cellsLs : Tryz.prog.cellsOf 44 = 6 := by kernel_rfl
theorem bytesLs : Tryz.prog.bytesOf 44 = 72 := by kernel_rfl
theorem cellsSecs : Tryz.prog.cellsOf 22 = 1 := by kernel_rfl
theorem cellsLss : Tryz.prog.cellsOf 23 = 1 := by kernel_rfl
theorem cellsImg : Tryz.prog.cellsOf 25 = 4 := by kernel_rfl
theorem reach_val : reachBytes = 140737488351232 := rfl
set_option maxRecDepth 100000 in
theorem open_secs {H : Type} {enc : TypeId × Value → H} {W : World} (fuel : Nat) (v : Value) (x : DataW H × List MemPlace)
    (h : DataW.trod enc Tryz.prog W 0 (fun _ => true) true fuel 22 [v] = some x) (hw : ∀ z ∈ x.1.weights Tryz.prog 22, z ≤ reachBytes) : ∃ l : List S.V.Sec, S.V.SecR W v l ∧ l.length ≤ 5864062014805 := by
  obtain ⟨a, len, cap, hv, hl, hc⟩ := open_rowz Tryz.underlying22 cellsSec bytesSec (by decide) (fun cs => ∃ ix dat, cs = [.int .i64 ix, .string dat]) fuel v x h hw (by
    intro k cs y hy hcl _
    obtain ⟨xs, k', _, hxy, _, hxl, hf⟩ := DataW.trod_struct Tryz.underlying93 hy
    match xs, hxl, cs, hcl with
    | [y0, y1], _, [v0, v1], _ =>
      have g0 := hf 0 _ rfl
      have g1 := hf 1 _ rfl
      simp [cells3, cells9] at g0 g1
      obtain ⟨k0, d0, rfl, w0⟩ := DataW.trod_int Tryz.underlying3 g0
      obtain ⟨b, d1, rfl, w1⟩ := DataW.trod_string Tryz.underlying9 g1
      simp only [List.cons.injEq, and_true] at d0 d1
      subst d0 d1
      exact ⟨k0, b, rfl⟩)
  obtain ⟨l, hll, hp⟩ := list_of (α := S.V.Sec) (P := fun i x => ∃ g o, a = some ⟨g, o, none⟩ ∧ W.cell? ⟨g, o + i * 2, none⟩ = some (.int .i64 x.ix) ∧ W.cell? ⟨g, o + i * 2 + 1, none⟩ = some (.string x.dat)) len (fun i hi => by
    obtain ⟨g, off, cs, ha, _, ⟨ix, dat, rfl⟩, _, hcell⟩ := hc i hi
    exact ⟨⟨ix, dat⟩, g, off, ha, hcell 0 (by omega), hcell 1 (by omega)⟩)
  refine ⟨l, ⟨a, cap, by rw [hv, hll], hp⟩, ?_⟩
  rw [reach_val] at hl
  omega
set_option maxRecDepth 100000 in
theorem open_ls {H : Type} {enc : TypeId × Value → H} {W : World} (fuel : Nat) (v : Value) (x : DataW H × List MemPlace)
    (h : DataW.trod enc Tryz.prog W 0 (fun _ => true) true fuel 23 [v] = some x) (hw : ∀ z ∈ x.1.weights Tryz.prog 23, z ≤ reachBytes) : ∃ l : List LS, StpR W v l ∧ l.length ≤ 140737488355328 ∧ ∀ s ∈ l, s.key.size ≤ 140737488355328 ∧ s.value.size ≤ 140737488355328 := by
  obtain ⟨a, len, cap, hv, hl, hc⟩ := open_rowz Tryz.underlying23 cellsLs bytesLs (by decide) (fun cs => ∃ (k a n : Int) (b1 b2 b3 : ByteArray), cs = [.int .i64 k, .int .i64 a, .int .i64 n, .string b1, .string b2, .string b3] ∧ b1.size ≤ 140737488355328 ∧ b2.size ≤ 140737488355328) fuel v x h hw (by
    intro k cs y hy hcl hw
    obtain ⟨xs, k', _, hxy, _, hxl, hf⟩ := DataW.trod_struct Tryz.underlying44 hy
    match xs, hxl, cs, hcl with
    | [y0, y1, y2, y3, y4, y5], _, [v0, v1, v2, v3, v4, v5], _ =>
      have g0 := hf 0 _ rfl
      have g1 := hf 1 _ rfl
      have g2 := hf 2 _ rfl
      have g3 := hf 3 _ rfl
      have g4 := hf 4 _ rfl
      have g5 := hf 5 _ rfl
      simp [cells3, cells9] at g0 g1 g2 g3 g4 g5
      obtain ⟨k0, d0, rfl, w0⟩ := DataW.trod_int Tryz.underlying3 g0
      obtain ⟨k1, d1, rfl, w1⟩ := DataW.trod_int Tryz.underlying3 g1
      obtain ⟨k2, d2, rfl, w2⟩ := DataW.trod_int Tryz.underlying3 g2
      obtain ⟨b3, d3, rfl, w3⟩ := DataW.trod_string Tryz.underlying9 g3
      obtain ⟨b4, d4, rfl, w4⟩ := DataW.trod_string Tryz.underlying9 g4
      obtain ⟨b5, d5, rfl, w5⟩ := DataW.trod_string Tryz.underlying9 g5
      simp only [List.cons.injEq, and_true] at d0 d1 d2 d3 d4 d5
      subst d0 d1 d2 d3 d4 d5
      rw [hxy] at hw
      have h3 : b3.size ≤ reachBytes := hw b3.size (by simp [DataW.weights, Tryz.underlying44, DataW.weightsEach])
      have h4 : b4.size ≤ reachBytes := hw b4.size (by simp [DataW.weights, Tryz.underlying44, DataW.weightsEach])
      rw [reach_val] at h3 h4
      exact ⟨k0, k1, k2, b3, b4, b5, rfl, by omega, by omega⟩)
  obtain ⟨l, hll, hp⟩ := list_of (α := LS) (P := fun i x => (∃ g o, a = some ⟨g, o, none⟩ ∧ W.cell? ⟨g, o + i * 6, none⟩ = some (.int .i64 x.kind) ∧ W.cell? ⟨g, o + i * 6 + 1, none⟩ = some (.int .i64 x.at') ∧ W.cell? ⟨g, o + i * 6 + 2, none⟩ = some (.int .i64 x.n) ∧ W.cell? ⟨g, o + i * 6 + 3, none⟩ = some (.string x.key) ∧ W.cell? ⟨g, o + i * 6 + 4, none⟩ = some (.string x.value) ∧ W.cell? ⟨g, o + i * 6 + 5, none⟩ = some (.string x.to')) ∧ x.key.size ≤ 140737488355328 ∧ x.value.size ≤ 140737488355328) len (fun i hi => by
    obtain ⟨g, off, cs, ha, _, ⟨k, at1, n, b1, b2, b3, rfl, h1, h2⟩, _, hcell⟩ := hc i hi
    exact ⟨⟨k, at1, n, b1, b2, b3⟩, ⟨g, off, ha, hcell 0 (by omega), hcell 1 (by omega), hcell 2 (by omega), hcell 3 (by omega), hcell 4 (by omega), hcell 5 (by omega)⟩, h1, h2⟩)
  refine ⟨l, ⟨a, cap, by rw [hv, hll], fun j hj => (hp j hj).1⟩, ?_, fun s hs => ?_⟩
  · rw [reach_val] at hl; omega
  · obtain ⟨j, hj, rfl⟩ := List.getElem_of_mem hs
    exact (hp j hj).2
set_option maxRecDepth 100000 in
theorem open_image {H : Type} {enc : TypeId × Value → H} {W : World} {r : Reach} {b0 : Nat} {v : Value} {d : DataW H} {p : List MemPlace} (hv : Value.okWide Tryz.prog W r b0 25 v)
    (h : DataW.Trod enc Tryz.prog W 0 (fun _ => true) true 25 v d p) (hw : ∀ z ∈ d.weights Tryz.prog 25, z ≤ reachBytes) :
    ∃ pages lv root sv l ks, v = .agg #[.int .i64 pages, lv, .int .i64 root, sv] ∧ S.V.SecR W lv l ∧ l.length ≤ 5864062014805 ∧ StpR W sv ks ∧ ks.length ≤ 140737488355328 ∧ ∀ s ∈ ks, s.key.size ≤ 140737488355328 ∧ s.value.size ≤ 140737488355328 := by
  obtain ⟨cs, rfl, hsz⟩ := okWide_struct Tryz.underlying25 hv
  rw [cellsImg] at hsz
  obtain ⟨fuel, hf0⟩ := h
  obtain ⟨xs, k', _, hxy, hcl, hxl, hf⟩ := DataW.trod_struct Tryz.underlying25 hf0
  obtain ⟨cl⟩ := cs
  simp only [Value.cells] at hf
  simp only [Prod.mk.injEq] at hxy
  match xs, hxl, cl, hsz with
  | [y0, y1, y2, y3], _, [v0, v1, v2, v3], _ =>
    have g0 := hf 0 _ rfl
    have g1 := hf 1 _ rfl
    have g2 := hf 2 _ rfl
    have g3 := hf 3 _ rfl
    simp [cells3, cellsSecs, cellsLss] at g0 g1 g2 g3
    obtain ⟨k0, d0, rfl, w0⟩ := DataW.trod_int Tryz.underlying3 g0
    obtain ⟨k2, d2, rfl, w2⟩ := DataW.trod_int Tryz.underlying3 g2
    simp only [List.cons.injEq, and_true] at d0 d2
    rw [hxy.1] at hw
    obtain ⟨l, hl1, hl2⟩ := open_secs k' v1 y1 g1 (fun z hz => hw z (by
      simp only [DataW.weights, Tryz.underlying25, List.map_cons, List.map_nil, DataW.weightsEach]
      simp [hz]))
    obtain ⟨ks, hk1, hk2, hk3⟩ := open_ls k' v3 y3 g3 (fun z hz => hw z (by
      simp only [DataW.weights, Tryz.underlying25, List.map_cons, List.map_nil, DataW.weightsEach]
      simp [hz]))
    exact ⟨k0, v1, k2, v3, l, ks, by rw [d0, d2], hl1, hl2, hk1, hk2, hk3⟩

end Go.Proofs.YtnaedmmfiiebaaaGreatDoor.T

namespace Go.Proofs.YtnaedmmfiiebaaaGreatDoor
open Go.ChangeShapes Go.WideShapes Go.ChangeAt Go.WideMaps Go.WideElems Go.RowKit Go.Joins

set_option maxRecDepth 100000 in
theorem ends_lifted (os : Os) (started : os.Started) (H : Type) (enc : TypeId × Value → H) :
    ReturnsInHanded {} Tryz.checked os 3 .any (fun w args => (Rows.treeEndsSpec.pre enc Tryz.prog Tryz.f3 [] false w args ∧ laidMetH Tryz.prog Rows.treeEndsRow.laid w) ∧ sizedMet enc Tryz.prog Tryz.f3 (OpenSpec.ofChange Rows.treeEndsSpec) false w args)
      (Rows.treeEndsSpec.post enc Tryz.prog Tryz.f3 false true false false) := by
  refine returnsInHanded_of_change_and (C := Tryz.checked) (X := fun w _ => laidMetH Tryz.prog Rows.treeEndsRow.laid w) (fun _ _ _ hh h => h.of_heap hh) own started (by kernel_rfl) Tryz.func3
    (ChangeSpec.witness_shaped (enc := enc) (C := Tryz.checked) (os := os) (X := fun w _ => laidMetH Tryz.prog Rows.treeEndsRow.laid w) false (World.laidAll Tryz.prog os Rows.treeEndsRow.laid) #[.agg #[.int .i64 0, .slice none 0 0, .int .i64 0, .slice none 0 0]] 8 (World.laidAll_os _ _ _)
      (World.shaped_of_ZipB (by kernel_rfl) (by kernel_rfl)) (by kernel_rfl) (by kernel_rfl) (by kernel_rfl)
      (by rw [MakeChecks.laidMetH_plain _ _ _ (by kernel_rfl)]; exact laidMet_laidAll _ (by kernel_rfl) (by kernel_rfl))) ?_
  intro W base args ds gs before hval0 hW _ hsz0 hL _
  have hval : ∀ (j : Nat) t v, Tryz.f3.params[j]? = some t → args[j]? = some v → Value.okWide Tryz.prog W .any base t v := hval0
  have hsz : (DataW.weightsEach Tryz.prog (Tryz.f3.params.toList ++ Rows.treeEndsSpec.plain.varTypes Tryz.prog) (ds ++ gs)).all (· ≤ reachBytes) = true := hsz0
  have hW' := hW
  obtain ⟨p, q, hA0, hV, rfl, hfz, hnd⟩ := hW
  have hA : DataW.TrodAll enc Tryz.prog W 0 (fun _ => true) true Tryz.f3.params.toList args.toList ds p := hA0
  rw [Tryz.params3] at hA hval hsz
  obtain ⟨v0, d0, rfl, rfl, h0⟩ := trodAll_one hA
  obtain ⟨rfl, rfl⟩ := trodVars_none hV
  have h0k := h0
  have hlt := hA.lt
  have hall : (DataW.weightsEach Tryz.prog [25] [d0]).all (· ≤ reachBytes) = true := hsz
  obtain ⟨pages, lv, root, sv, l, ks, rfl, hl1, hl2, hk1, hk2, hk3⟩ := T.open_image (hval 0 25 v0 rfl rfl) h0 (fun z hz => of_decide_eq_true (List.all_eq_true.1 hall z (by simp [DataW.weightsEach, hz])))
  clear hA0 hval0 hsz0
  simp only [List.append_nil] at hW'
  obtain ⟨A, hE, hG, hlo⟩ := T.ends_laid hL
  refine (T.ends_any pages root lv sv l ks W hE hG hlo hl1 hl2 hk1 hk2 hk3).mono fun e W' ⟨he, hb⟩ => ?_
  subst he
  refine ⟨_, rfl, _, _, _, [], p, [], hW', ?_, ?_, rfl, hb.frame _, fun h => by cases h⟩
  · exact trodAll_mk1 (shut_bool Tryz.underlying4 _)
  · exact trodAll_mk1 (Below.trod laidOut (by kernel_rfl) (of_decide_eq_true (by kernel_rfl)) h0k hb hlt)

theorem ends_holds : Rows.TreeEndsSaid :=
  OpenClaim.holds_of_wide 3 Tryz.f3 rfl rfl rfl rfl rfl rfl rfl ⟨rfl, rfl, rfl, rfl, rfl⟩ rfl rfl rfl rfl rfl (by kernel_rfl) Tryz.func3 (by kernel_rfl)
    (of_decide_eq_true (by kernel_rfl)) (by unfold Func.isWrapper; first | (rw [if_pos (by decide +kernel)]; kernel_rfl) | (rw [if_neg (by decide +kernel)]; exact ⟨rfl, rfl⟩))
    (fun os started H enc _ => ends_lifted os started H enc)

theorem ends_card_holds : Rows.TreeEndsCardSaid :=
  Claim7.holds_tied_plain_at .later [] _ _ _ _
    ends_holds (fun _ h => by cases h) (by kernel_rfl) (fun _ h => by cases h) treeEnds_row_tie rfl ⟨rfl, rfl⟩ (by kernel_rfl) rfl
    (fun f fn hf hfn => by
      obtain rfl : f = 3 := Option.some.inj ((show Tryz.prog.funcNamed "copse/copselaw10.TreeEnds" = some 3 by kernel_rfl).symm.trans hf) |>.symm
      obtain rfl : fn = Tryz.f3 := (Option.some.inj (Tryz.func3.symm.trans hfn)).symm
      exact ⟨by kernel_rfl, fun j t ht => by
        rw [Tryz.params3] at ht
        have hm : t ∈ [25] := by simpa using Array.mem_of_getElem? ht
        have hall : ([25].all fun u => !Tryz.prog.wantsStandIn u) = true := by kernel_rfl
        exact (show Tryz.prog.wantsStandIn t = false by simpa using List.all_eq_true.1 hall t hm)⟩)
    (by kernel_rfl)
#print axioms ends_card_holds

end Go.Proofs.YtnaedmmfiiebaaaGreatDoor
