import Derived.Test.YtmifadjgmjnkgaaDoorSeal
import Derived.Test.YtmifadjgmjnkgaaDoorHide
import Derived.Test.YtmifadjgmjnkgaaDoorRPage
import Derived.BigQuiet
import Derived.Test.YtmifadjgmjnkgaaDoorSame
namespace Go.Proofs.YtmifadjgmjnkgaaDoor
open Go.RowKit

theorem Tryd.info31 : (Tryd.prog.info? 31).map (fun i => (i.zero, i.size, i.bytes)) = some (some (.agg #[.int .i64 0, .int .i64 0, .int .u64 0, .int .i64 0, .string ⟨#[]⟩]), 5, 48) := by kernel_rfl
def shCells (l : List Sh) : List Value := l.flatMap Sh.cells
theorem shCells_app (a b : List Sh) : shCells (a ++ b) = shCells a ++ shCells b := by simp [shCells]
theorem shCells_len : ∀ l : List Sh, (shCells l).length = l.length * 5
  | [] => rfl
  | x :: r => by
    show (x.cells ++ shCells r).length = _
    rw [List.length_append, shCells_len r]; simp [Sh.cells]; omega
theorem shCells_get : ∀ (l : List Sh) (j : Nat) (h : j < l.length) (q : Nat), q < 5 → (shCells l)[j * 5 + q]? = (l[j]).cells[q]?
  | [], _, h, _, _ => absurd h (by simp)
  | x :: r, 0, _, q, hq => by
    show (x.cells ++ shCells r)[0 * 5 + q]? = x.cells[q]?
    rw [Nat.zero_mul, Nat.zero_add, List.getElem?_append_left (by simpa [Sh.cells] using hq)]
  | x :: r, j + 1, h, q, hq => by
    show (x.cells ++ shCells r)[(j + 1) * 5 + q]? = _
    have hl : x.cells.length = 5 := rfl
    rw [List.getElem?_append_right (by rw [hl]; omega), hl, show (j + 1) * 5 + q - 5 = j * 5 + q by omega, shCells_get r j (by simpa using h) q hq]
    rfl
theorem sh_one (s : Sh) : ∀ u ∈ s.cells, u.oneCell' = true := by
  intro u hu
  simp only [Sh.cells, List.mem_cons, List.not_mem_nil, or_false] at hu
  rcases hu with rfl | rfl | rfl | rfl | rfl <;> rfl
/-- A row of sheets: its cells. -/
theorem sheet_cells {w : World} {base g cap : Nat} {L : List Sh} (h : w.ownsRow base 31 5 (.slice (some ⟨g, 0, none⟩) L.length cap) L.length (shCells L)) (j : Nat) (hj : j < L.length) :
    w.cell? ⟨g, j * 5, none⟩ = some (.int .i64 L[j].kind) ∧ w.cell? ⟨g, j * 5 + 1, none⟩ = some (.int .i64 L[j].id) ∧ w.cell? ⟨g, j * 5 + 2, none⟩ = some (.int .u64 (L[j].txid : Int)) ∧ w.cell? ⟨g, j * 5 + 3, none⟩ = some (.int .i64 L[j].count) ∧ w.cell? ⟨g, j * 5 + 4, none⟩ = some (.string L[j].body) := by
  refine ⟨?_, ?_, ?_, ?_, ?_⟩
  · rw [h.cellAt (j * 5) (by omega)]; exact shCells_get L j hj 0 (by decide)
  · rw [h.cellAt (j * 5 + 1) (by omega)]; exact shCells_get L j hj 1 (by decide)
  · rw [h.cellAt (j * 5 + 2) (by omega)]; exact shCells_get L j hj 2 (by decide)
  · rw [h.cellAt (j * 5 + 3) (by omega)]; exact shCells_get L j hj 3 (by decide)
  · rw [h.cellAt (j * 5 + 4) (by omega)]; exact shCells_get L j hj 4 (by decide)

/-- append of one sheet to a row of sheets of the call's own. -/
theorem wpList_app_sheet {w : World} {ops : Array Oper} {rest : List Oper} {o : Oper} {a : Act} {Q : Exit → Act → World → Prop} (hgd : o.guard = none) (x y : Operand)
    (ho : o.op = .call { callee := .builtin .append, args := #[x, y], argTypes := #[28, 28] }) (base n : Nat) (v : Value) (L : List Sh) (k i : Int) (t : Nat) (c : Int) (b : ByteArray)
    (hs : a.eval x = v) (hx : a.eval y = .slice (some ⟨w.heap.size, 0, none⟩) 1 1) (hown : w.ownsRow base 31 5 v n (shCells L)) (hlen : n ≤ 100000) (hbase : base ≤ w.heap.size)
    (h : ∀ g cap w', Hid (w'.ownsRow base 31 5 (.slice (some ⟨g, 0, none⟩) (n + 1) cap) (n + 1) (shCells (L ++ [⟨k, i, t, c, b⟩]))) → Hid (Below base (w.alloc (.cells #[.int .i64 k, .int .i64 i, .int .u64 (t : Int), .int .i64 c, .string b] 31)) w') → wpList Tryd.prog ops Q rest (a.put o.dst (.slice (some ⟨g, 0, none⟩) (n + 1) cap)) w') :
    wpList Tryd.prog ops Q (o :: rest) a (w.alloc (.cells #[.int .i64 k, .int .i64 i, .int .u64 (t : Int), .int .i64 c, .string b] 31)) := by
  obtain ⟨i0, hi, hz0, hz1, hz2⟩ := info_parts Tryd.info31
  refine wpList_append_lies _ hgd x y 28 ho base 31 i0 _ 5 48 Tryd.underlying28 hi hz0 hz1 hz2 rfl (by decide) v n (shCells L) hs (hown.alloc _) ⟨w.heap.size, 0, none⟩ 1 1 [.int .i64 k, .int .i64 i, .int .u64 (t : Int), .int .i64 c, .string b] hx rfl ?_ (sh_one ⟨k, i, t, c, b⟩) (by decide) (by unfold maxLen; omega) (by omega) (by simp; omega) _ rfl ?_
  · intro j u hj
    have hb := (boxed_new w #[.int .i64 k, .int .i64 i, .int .u64 (t : Int), .int .i64 c, .string b] 31).2
    have hj5 : j < 5 := by
      have := (List.getElem?_eq_some_iff.1 hj).1
      simpa using this
    rw [show (⟨w.heap.size, 0, none⟩ : Addr).add j = ⟨w.heap.size, j, none⟩ by unfold Addr.add; split <;> simp_all]
    rw [hb j (by simpa using hj5)]
    rw [← hj]
    simp [List.getElem?_eq_getElem (show j < ([.int .i64 k, .int .i64 i, .int .u64 (t : Int), .int .i64 c, .string b] : List Value).length from hj5)]
  · intro g cap w' hown' hgrow _ _
    refine h g cap w' ?_ ((Below.refl base _).grown hgrow (by simp; omega) (fun j hj => (hown.lt j hj).1))
    show w'.ownsRow _ _ _ _ _ _
    rw [shCells_app]; exact hown'

def keepP (i : Int) (t : Sh) : Bool := decide (t.id ≠ i)
/-- The sheets with this one in the place of the one of its number. -/
def putL (L : List Sh) (s : Sh) : List Sh := L.filter (keepP s.id) ++ [s]
theorem putL_len (L : List Sh) (s : Sh) : (putL L s).length ≤ L.length + 1 := by
  have := List.length_filter_le (keepP s.id) L
  simp only [putL, List.length_append, List.length_cons, List.length_nil]; omega

set_option maxRecDepth 100000 in
set_option maxHeartbeats 1000000 in
theorem put_any (base : Nat) (L : List Sh) (v : Value) (s : Sh) (w : World) (hown : w.ownsRow base 31 5 v L.length (shCells L)) (hlen : L.length ≤ 10000) :
    Calls Tryd.prog 12 #[v, .agg s.cells.toArray] w fun e w' => ∃ g cap, e = .returned (.slice (some ⟨g, 0, none⟩) (putL L s).length cap) ∧ w'.ownsRow w.heap.size 31 5 (.slice (some ⟨g, 0, none⟩) (putL L s).length cap) (putL L s).length (shCells (putL L s)) ∧ Below w.heap.size w w' := by
  obtain ⟨a0, cap, rfl⟩ : ∃ a0 cap, v = .slice a0 L.length cap := by
    rcases hown.2 with ⟨h', h0⟩ | ⟨g, cap, cur, h', _⟩
    · exact ⟨none, 0, by rw [h', h0]⟩
    · exact ⟨_, cap, h'⟩
  obtain ⟨k, i, t, c, b⟩ := s
  have HO := hide hown
  have HX : Hid (Boxed w.heap.size [.int .i64 k, .int .i64 i, .int .u64 (t : Int), .int .i64 c, .string b] (w.alloc (.cells #[.int .i64 k, .int .i64 i, .int .u64 (t : Int), .int .i64 c, .string b] 31))) := boxed_new w _ _
  have HB := hide (below_new w (.cells #[.int .i64 k, .int .i64 i, .int .u64 (t : Int), .int .i64 c, .string b] 31))
  have HSZ : Hid (w.heap.size < (w.alloc (.cells #[.int .i64 k, .int .i64 i, .int .u64 (t : Int), .int .i64 c, .string b] 31)).heap.size) := by show _ < _; simp
  clear hown
  show Calls Tryd.prog 12 #[.slice a0 L.length cap, .agg #[.int .i64 k, .int .i64 i, .int .u64 (t : Int), .int .i64 c, .string b]] w _
  go_enter Tryd.func12, Tryd.ntmps12
  go_wp2_with fail
  generalize w.alloc (.cells #[.int .i64 k, .int .i64 i, .int .u64 (t : Int), .int .i64 c, .string b] 31) = W0 at *
  go_loopw [5, 6] (fun u5 u6 wr => ∃ j : Nat, j ≤ L.length ∧ u6 = .int .i64 j ∧ wr.ownsRow W0.heap.size 31 5 u5 ((L.take j).filter (keepP i)).length (shCells ((L.take j).filter (keepP i))) ∧ Below W0.heap.size W0 wr) (fun _ u6 _ => L.length - (intOf u6).toNat)
  case atStart => exact ⟨0, Nat.zero_le _, rfl, World.ownsRow_nil _ _ _ _, Below.refl _ _⟩
  case round =>
    obtain ⟨j, hj, rfl, hown, hbr⟩ := hrel
    have HR := hide hown
    have HBR := hide hbr
    have HFL : Hid (((L.take j).filter (keepP i)).length ≤ L.length) := Nat.le_trans (List.length_filter_le _ _) (by rw [List.length_take]; omega)
    clear hown hbr
    have hx1 : wr.cell? ⟨w.heap.size, 1, none⟩ = some (.int .i64 i) := (HX.out.low HBR.out HSZ.out).2 1 (by simp)
    by_cases hlt : j < L.length
    · obtain ⟨g, cap', he, _, hg⟩ := HO.out.form (by omega)
      cases he
      have hgW : g < W0.heap.size := Nat.lt_trans hg HSZ.out
      obtain ⟨h0, h1, h2, h3, h4⟩ := sheet_cells HO.out j hlt
      have hk : ∀ o u, w.cell? ⟨g, o, none⟩ = some u → wr.cell? ⟨g, o, none⟩ = some u := fun o u hu => (HBR.out.cell (p := ⟨g, o, none⟩) hgW).trans ((HB.out.cell (p := ⟨g, o, none⟩) hg).trans hu)
      have h0' := hk _ _ h0
      have h1' := hk _ _ h1
      have h2' := hk _ _ h2
      have h3' := hk _ _ h3
      have h4' := hk _ _ h4
      have HT : Hid ((L.take (j + 1)) = L.take j ++ [L[j]]) := List.take_succ_eq_append_getElem hlt
      obtain ⟨xs, hxs⟩ : ∃ xs, xs = L[j] := ⟨_, rfl⟩
      rw [← hxs] at h0' h1' h2' h3' h4'
      have HXS := hide hxs
      clear hk h0 h1 h2 h3 h4 hxs
      obtain ⟨k', i', t', c', b'⟩ := xs
      simp only at h0' h1' h2' h3' h4'
      by_cases hid : i' = i
      · have hd : ((i' : Int) != i) = false := by rw [hid]; simp
        have HF : Hid ((L.take (j + 1)).filter (keepP i) = (L.take j).filter (keepP i)) := by
          show _ = _
          rw [HT.out, List.filter_append, ← HXS.out]
          simp [keepP, hid]
        clear hid
        go_wp2
        go_quiet (fail)
        go_wp2
        go_roundw
        case rel => exact ⟨j + 1, by omega, by go_num, by rw [HF.out]; exact (owns_keep HR.out (below_drewN' (Below.refl _ _) _)), HBR.out.trans (below_drewN' (Below.refl _ _) _)⟩
        case measure => simp [intOf]; omega
      · have hd : ((i' : Int) != i) = true := by rw [bne_iff_ne]; exact hid
        have HF : Hid ((L.take (j + 1)).filter (keepP i) = (L.take j).filter (keepP i) ++ [⟨k', i', t', c', b'⟩]) := by
          show _ = _
          rw [HT.out, List.filter_append, ← HXS.out]
          simp [keepP, hid]
        clear hid
        go_wp2
        go_quiet (fail)
        have HRD := hide (owns_keep HR.out (below_drewN' (Below.refl _ _) nq))
        have HBD := hide (HBR.out.trans (below_drewN' (Below.refl _ _) nq))
        have e0 : (wr.drewN nq).cell? ⟨g, j * 5, none⟩ = some (.int .i64 k') := h0'
        have e1 : (wr.drewN nq).cell? ⟨g, j * 5 + 1, none⟩ = some (.int .i64 i') := h1'
        have e2 : (wr.drewN nq).cell? ⟨g, j * 5 + 2, none⟩ = some (.int .u64 (t' : Int)) := h2'
        have e3 : (wr.drewN nq).cell? ⟨g, j * 5 + 3, none⟩ = some (.int .i64 c') := h3'
        have e4 : (wr.drewN nq).cell? ⟨g, j * 5 + 4, none⟩ = some (.string b') := h4'
        have hsz : W0.heap.size ≤ (wr.drewN nq).heap.size := HBR.out.size
        clear h0' h1' h2' h3' h4' HR HBR hx1
        generalize wr.drewN nq = wd at *
        go_wp2_with (at_builtin; refine wpList_app_sheet rfl (.tmp 21) (.tmp 26) rfl W0.heap.size _ u5 ((L.take j).filter (keepP i)) k' i' t' c' b' rfl rfl HRD.out (by have := HFL.out; omega) hsz ?_; intro g12 cap12 w12 HO12 HG12; have HB12 : Hid (Below W0.heap.size W0 w12) := (HBD.out.alloc hsz _).trans HG12.out; clear HRD HBD HG12)
        go_roundw
        case rel => exact ⟨j + 1, by omega, by go_num, by rw [HF.out, List.length_append]; exact HO12.out, HB12.out⟩
        case measure => simp [intOf]; omega
    · have hje : j = L.length := by omega
      subst hje
      have HFE : Hid ((L.filter (keepP i)).length ≤ L.length) := List.length_filter_le _ _
      have HRE : Hid (wr.ownsRow W0.heap.size 31 5 u5 (L.filter (keepP i)).length (shCells (L.filter (keepP i)))) := by
        have h := HR.out
        rw [List.take_of_length_le (Nat.le_refl _)] at h
        exact h
      have hxx := HX.out.low HBR.out HSZ.out
      have x0 : wr.cell? ⟨w.heap.size, 0, none⟩ = some (.int .i64 k) := hxx.2 0 (by simp)
      have x2 : wr.cell? ⟨w.heap.size, 2, none⟩ = some (.int .u64 (t : Int)) := hxx.2 2 (by simp)
      have x3 : wr.cell? ⟨w.heap.size, 3, none⟩ = some (.int .i64 c) := hxx.2 3 (by simp)
      have x4 : wr.cell? ⟨w.heap.size, 4, none⟩ = some (.string b) := hxx.2 4 (by simp)
      have hsz : W0.heap.size ≤ wr.heap.size := HBR.out.size
      clear hxx HR
      go_wp2_with (at_builtin; refine wpList_app_sheet rfl (.tmp 28) (.tmp 30) rfl W0.heap.size _ u5 (L.filter (keepP i)) k i t c b rfl rfl HRE.out (by have := HFE.out; omega) hsz ?_; intro g12 cap12 w12 HO12 HG12; have HB12 : Hid (Below W0.heap.size W0 w12) := (HBR.out.alloc hsz _).trans HG12.out; clear HRE HBR HG12)
      go_ret
      have e : (putL L ⟨k, i, t, c, b⟩).length = (L.filter (keepP i)).length + 1 := by simp [putL]
      rw [e]
      exact ⟨g12, cap12, rfl, owns_base HO12.out (Nat.le_of_lt HSZ.out), HB.out.trans (HB12.out.mono (Nat.le_of_lt HSZ.out))⟩

end Go.Proofs.YtmifadjgmjnkgaaDoor
