import Derived.Test.YtdacbajiapdiiabDoorNew2
import Derived.Test.YtdacbajiapdiiabDoorLErr
namespace Go.Proofs.YtdacbajiapdiiabDoor
open Go.RowKit

theorem eql_err_nil (p : Option Addr) (w : World) : (binOp .eql 26 (.iface 128 (.pointer p)) .nilIface).run Tryd.prog w = .ok (.bool false) w := by
  have h2 : ∀ d : Nat, (Op.equalIn (d + 1) 26 (.iface 128 (.pointer p)) .nilIface).run Tryd.prog w = .ok false w := fun d => by
    simp [Op.equalIn, run_underlying Tryd.underlying26]
  simp only [binOp]
  simp [Op.equal, Op.maxDepth, h2 9999]
theorem eql_nil_nil (w : World) : (binOp .eql 26 .nilIface .nilIface).run Tryd.prog w = .ok (.bool true) w := by
  have h2 : ∀ d : Nat, (Op.equalIn (d + 1) 26 .nilIface .nilIface).run Tryd.prog w = .ok true w := fun d => by
    simp [Op.equalIn, run_underlying Tryd.underlying26]
  simp only [binOp]
  simp [Op.equal, Op.maxDepth, h2 9999]
/-- A pair of a list of one's own. -/
theorem pro_pair {w : World} {base : Nat} {v : Value} {l : List Pr} (h : PrO w base v l) (k : Nat) (hk : k < l.length) : ∃ b cap, v = .slice (some ⟨b, 0, none⟩) l.length cap ∧ b < w.heap.size ∧ w.cell? ⟨b, k * 2, none⟩ = some (.string l[k].1) ∧ w.cell? ⟨b, k * 2 + 1, none⟩ = some (.string l[k].2) := by
  obtain ⟨b, cap, rfl, _, hb, _⟩ := PrO.some h (by omega)
  have hg := prs_get l k hk
  unfold PrO at h
  exact ⟨b, cap, rfl, hb, (World.ownsRow.cellAt h (k * 2) (by omega)).trans hg.1, (World.ownsRow.cellAt h (k * 2 + 1) (by omega)).trans hg.2⟩
variable {base g n uc : Nat} {vs : List Value} {cs : List (List Pr)} {W : World}
theorem LS.pair (h : LS base g n uc vs cs W) {i k : Nat} {v : Value} {c : List Pr} (hv : vs[i]? = some v) (hc : cs[i]? = some c) (hk : k < c.length) : ∃ b cap, v = .slice (some ⟨b, 0, none⟩) c.length cap ∧ b < W.heap.size ∧ W.cell? ⟨b, k * 2, none⟩ = some (.string c[k].1) ∧ W.cell? ⟨b, k * 2 + 1, none⟩ = some (.string c[k].2) := by
  cases i with
  | zero =>
    have e := h.v0
    rw [hv] at e
    cases e
    obtain ⟨hl, ho⟩ := h.c0 c hc
    obtain ⟨b, cap, he, hb, h1, h2⟩ := pro_pair ho k (by rw [List.length_append]; omega)
    simp only [Value.slice.injEq, Option.some.injEq, Addr.mk.injEq, and_true] at he
    obtain ⟨rfl, _, rfl⟩ := he
    rw [List.getElem_append_left hk] at h1 h2
    exact ⟨g, uc, by rw [hl], hb, h1, h2⟩
  | succ i => exact pro_pair (h.own _ v c (by omega) hv hc) k hk
theorem LS.form (h : LS base g n uc vs cs W) {i : Nat} (hi : i < 11) : ∃ a cap c, vs[i]? = some (.slice a c.length cap) ∧ cs[i]? = some c := by
  have hv := List.getElem?_eq_getElem (show i < vs.length by rw [h.vl]; exact hi)
  have hc := List.getElem?_eq_getElem (show i < cs.length by rw [h.cl]; exact hi)
  obtain ⟨a, cap, he⟩ := (h.read hv hc).form
  exact ⟨a, cap, _, by rw [hv, he], hc⟩
theorem done_all {C : List (List Pr)} (h : Done C 11 0) {i : Nat} {c : List Pr} (hi : i < 11) (hc : C[i]? = some c) : c = List.replicate c.length (ownN i) :=
  List.eq_replicate_iff.2 ⟨rfl, fun p hp => h.1 i c hi hc p hp⟩
theorem done_get {C : List (List Pr)} (h : Done C 11 0) {i k : Nat} {c : List Pr} (hi : i < 11) (hc : C[i]? = some c) (hk : k < c.length) : c[k] = ownN i := h.1 i c hi hc _ (List.getElem_mem hk)
theorem Boxed.grownB {b : Nat} {vs : List Value} {w w' : World} {r : Option Nat} (h : Boxed b vs w) (hg : w.grownBy w' r) (hne : r ≠ some b) : Boxed b vs w' :=
  ⟨Nat.lt_of_lt_of_le h.1 hg.size, fun j hj => (World.cell?_of_block (a := ⟨b, j, none⟩) (hg.block b h.1 (fun e => hne e.symm))).trans (h.2 j hj)⟩

end Go.Proofs.YtdacbajiapdiiabDoor

namespace Go.Proofs.YtdacbajiapdiiabDoor
open Go.RowKit

variable {base g n uc : Nat} {vs : List Value} {C : List (List Pr)}
/-- A list has grown by 64 pairs and goes into the list of the grown ones. -/
theorem long_step {ln : Nat → Nat} {B0 k i m c L cv lc : Nat} {a av la : Option Addr} {us : List Value} {ci : List Pr} {Wi wq WA : World} (hik : i = k + 1) (hk : k ≤ 100) (hLP : LongP base vs ln B0 Wi (.slice la k lc) us k) (hg : GrowP base g n uc vs C Wi wq i m 64 (.slice av m cv) a c ci) (hv : vs[i]? = some (.slice av m cv)) (hln : ln i = m) (hci : ci = List.replicate m (ownN i)) (hBx : Boxed L vs Wi) (hBl : Below WA.heap.size WA Wi) (hB0 : B0 ≤ Wi.heap.size) (hLB : L < B0)
    (hF : ∀ (i k : Nat) (v : Value), vs[i]? = some v → v.ownBlock = some k → k < L) (hWb : WA.heap.size ≤ base) (hWB : WA.heap.size ≤ B0) :
    ∃ a' c' w' us', (Builtin.append_ #[51, 51] 51 #[.slice la k lc, .slice (some ⟨wq.heap.size, 0, none⟩) 1 1]).run Tryd.prog (wq.alloc (.cells #[.slice a (m + 64) c] 24)) = .ok (.slice a' i c') w' ∧ LongP base vs ln B0 w' (.slice a' i c') us' i ∧ LS base g n uc vs C w' ∧ Boxed L vs w' ∧ Below WA.heap.size WA w' ∧ B0 ≤ w'.heap.size := by
  subst hik
  have hlq := hLP.sep hg.sep hv (Nat.lt_succ_self k) (fun b hb => Nat.lt_trans (hF _ _ _ hv hb) hLB)
  obtain ⟨a', c', w', hr, hlp, hgw⟩ := hlq.push 24 hg hv hln hci hk (Nat.le_trans hB0 hg.sep.size)
  have hrow : ∀ b, (Value.slice la k lc).ownBlock = some b → B0 ≤ b := fun b hb => (World.ownsRow.lt hlq.own b hb).1
  refine ⟨a', c', w', _, hr, hlp, hg.ls.same (fun j v b hvj hb => hgw.block b (hg.ls.lt hvj hb).2 (fun e => ?_)), ?_, ?_, Nat.le_trans hB0 (Nat.le_trans hg.sep.size hgw.size)⟩
  · have h1 := hrow b e.symm
    have h2 := hF j b v hvj hb
    omega
  · refine (hBx.grownB hg.sep (fun e => ?_)).grownB hgw (fun e => ?_)
    · have := hF _ _ _ hv e; omega
    · have := hrow L e; omega
  · refine ((hBl.grown hg.sep hBl.size (fun b hb => ?_)).grown hgw (Nat.le_trans hBl.size hg.sep.size) (fun b hb => Nat.le_trans hWB (hrow b hb)))
    exact Nat.le_trans hWb (hg.ls0.lt hv hb).1
theorem GrowP.room {i m q c : Nat} {vi : Value} {a : Option Addr} {ci : List Pr} {V w : World} (h : GrowP base g n uc vs C V w i m q vi a c ci) : base ≤ w.heap.size :=
  Nat.le_of_lt (Nat.lt_of_le_of_lt (h.ls.lt h.ls.v0 rfl).1 (h.ls.lt h.ls.v0 rfl).2)
/-- What the lists read, whatever is made behind. -/
theorem lists_read {L : Nat} {Wg : World} (hLS : LS base g n uc vs C Wg) (hBx : Boxed L vs Wg) (hD : Done C 11 0) (hN : ∀ c ∈ C, c.length ≤ 4398046511000) (i : Nat) (hi : i < 11) :
    ∃ (a : Option Addr) (m cap : Nat), m ≤ 4398046511000 ∧ (∀ W, Below Wg.heap.size Wg W → W.cell? ⟨L, i, none⟩ = some (.slice a m cap)) ∧ ∀ k, k < m → ∃ b, a = some ⟨b, 0, none⟩ ∧ ∀ W, Below Wg.heap.size Wg W → W.cell? ⟨b, k * 2, none⟩ = some (.string (ownN i).1) ∧ W.cell? ⟨b, k * 2 + 1, none⟩ = some (.string (ownN i).2) := by
  obtain ⟨a, cap, c, hv, hc⟩ := hLS.form hi
  have hiv : i < vs.length := by rw [hLS.vl]; exact hi
  refine ⟨a, c.length, cap, hN _ (List.mem_of_getElem? hc), fun W hb => ?_, fun k hk => ?_⟩
  · have h2 := List.getElem?_eq_getElem hiv
    rw [hv] at h2
    rw [(hBx.below hb).2 i hiv, ← h2]
  · obtain ⟨b, cap2, he, _, _, _⟩ := hLS.pair hv hc hk
    simp only [Value.slice.injEq] at he
    obtain ⟨rfl, -, rfl⟩ := he
    refine ⟨b, rfl, fun W hb => ?_⟩
    obtain ⟨b2, cap3, he, _, h1, h2⟩ := (hLS.below hb).pair hv hc hk
    simp only [Value.slice.injEq, Option.some.injEq, Addr.mk.injEq, and_true] at he
    obtain ⟨rfl, -⟩ := he
    rw [done_get hD hi hc hk] at h1 h2
    exact ⟨h1, h2⟩
theorem long_read {ln : Nat → Nat} {B0 lc : Nat} {la : Option Addr} {us : List Value} {Wg : World} (hLP : LongP base vs ln B0 Wg (.slice la 10 lc) us 10) (hN : ∀ i, i < 11 → ln i ≤ 4398046511000) :
    ∃ gl, la = some ⟨gl, 0, none⟩ ∧ ∀ j, j < 10 → ∃ (a : Option Addr) (m cap : Nat), m ≤ 4398046511064 ∧ (∀ W, Below Wg.heap.size Wg W → W.cell? ⟨gl, j, none⟩ = some (.slice a m cap)) ∧ ∀ k, k < m → ∃ b, a = some ⟨b, 0, none⟩ ∧ ∀ W, Below Wg.heap.size Wg W → W.cell? ⟨b, k * 2, none⟩ = some (.string (ownN (j + 1)).1) ∧ W.cell? ⟨b, k * 2 + 1, none⟩ = some (.string (ownN (j + 1)).2) := by
  obtain ⟨gl, c', he, _⟩ := World.ownsRow.form hLP.own (by decide)
  simp only [Value.slice.injEq] at he
  obtain ⟨rfl, -, rfl⟩ := he
  refine ⟨gl, rfl, fun j hj => ?_⟩
  obtain ⟨a, c, hu, ho, _⟩ := hLP.lst j (by rw [hLP.cnt]; exact hj)
  refine ⟨a, ln (j + 1) + 64, c, by have := hN (j + 1) (by omega); omega, fun W hb => ?_, fun k hk => ?_⟩
  · rw [World.ownsRow.cellAt (hLP.below hb).own j (by omega)]; exact hu
  · have hlen : k < (List.replicate (ln (j + 1) + 64) (ownN (j + 1))).length := by rw [List.length_replicate]; exact hk
    obtain ⟨b, cap2, he, _, _, _⟩ := pro_pair ho k hlen
    simp only [Value.slice.injEq] at he
    obtain ⟨rfl, -, rfl⟩ := he
    refine ⟨b, rfl, fun W hb => ?_⟩
    obtain ⟨b2, cap3, he, _, h1, h2⟩ := pro_pair (ho.below hb) k hlen
    simp only [Value.slice.injEq, Option.some.injEq, Addr.mk.injEq, and_true] at he
    obtain ⟨rfl, -⟩ := he
    rw [List.getElem_replicate] at h1 h2
    exact ⟨h1, h2⟩
theorem marks_read {Wg : World} {N : Nat} (hLS : LS base g n uc vs C Wg) (hN : N = n + 64) (k : Nat) (h1 : n ≤ k) (h2 : k < N) (W : World) (hb : Below Wg.heap.size Wg W) : W.cell? ⟨g, k * 2, none⟩ = some (.string (markN (k - n)).1) ∧ W.cell? ⟨g, k * 2 + 1, none⟩ = some (.string (markN (k - n)).2) := by
  obtain ⟨a, cap, c, hv, hc⟩ := hLS.form (show 0 < 11 by decide)
  obtain ⟨hl, ho⟩ := (hLS.below hb).c0 c hc
  have hml : k - n < (marks 64).length := by rw [marks_len]; omega
  obtain ⟨b, cap2, he, _, e1, e2⟩ := pro_pair ho k (by rw [List.length_append, marks_len]; omega)
  simp only [Value.slice.injEq, Option.some.injEq, Addr.mk.injEq, and_true] at he
  obtain ⟨rfl, _, rfl⟩ := he
  have hget : (c ++ marks 64)[k]'(by rw [List.length_append, marks_len]; omega) = markN (k - n) := by
    rw [List.getElem_append_right (by omega)]
    simp only [hl]
    exact marks_get 64 (k - n) hml
  rw [hget] at e1 e2
  exact ⟨e1, e2⟩

end Go.Proofs.YtdacbajiapdiiabDoor
