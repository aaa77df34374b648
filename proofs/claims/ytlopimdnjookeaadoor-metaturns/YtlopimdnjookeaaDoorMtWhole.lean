import Derived.Test.YtlopimdnjookeaaDoorMtStore
namespace Go.Proofs.YtlopimdnjookeaaDoor
open Go.RowKit

theorem Tryd.infoF : (Tryd.prog.info? 80).map (fun i => (i.zero, i.size, i.bytes)) = some (some (.agg #[.int .i64 0, .int .i64 0, .int .i64 0, .string ⟨#[]⟩]), 4, 40) := by kernel_rfl
theorem fate_one (ix k c : Int) (j : ByteArray) : ∀ u ∈ ([.int .i64 ix, .int .i64 k, .int .i64 c, .string j] : List Value), u.oneCell' = true := by
  intro u hu
  simp at hu
  rcases hu with rfl | rfl | rfl | rfl <;> rfl

/-- append of one fate to a row of fates of the call's own. -/
theorem wpList_app_fate {w : World} {ops : Array Oper} {rest : List Oper} {o : Oper} {a : Act} {Q : Exit → Act → World → Prop} (hgd : o.guard = none) (x y : Operand)
    (ho : o.op = .call { callee := .builtin .append, args := #[x, y], argTypes := #[24, 24] }) (base n : Nat) (v : Value) (L : List V.Fate) (ix k c : Int) (b : ByteArray)
    (hs : a.eval x = v) (hx : a.eval y = .slice (some ⟨w.heap.size, 0, none⟩) 1 1) (hown : w.ownsRow base 80 4 v n (V.fateCells L)) (hlen : (n + 1) * 40 ≤ 140737488355328) (hbase : base ≤ w.heap.size)
    (h : ∀ g cap w', Hid (w'.ownsRow base 80 4 (.slice (some ⟨g, 0, none⟩) (n + 1) cap) (n + 1) (V.fateCells (L ++ [⟨ix, k, c, b⟩]))) → Hid (Below base (w.alloc (.cells #[.int .i64 ix, .int .i64 k, .int .i64 c, .string b] 80)) w') → wpList Tryd.prog ops Q rest (a.put o.dst (.slice (some ⟨g, 0, none⟩) (n + 1) cap)) w') :
    wpList Tryd.prog ops Q (o :: rest) a (w.alloc (.cells #[.int .i64 ix, .int .i64 k, .int .i64 c, .string b] 80)) := by
  obtain ⟨i0, hi, hz0, hz1, hz2⟩ := info_parts Tryd.infoF
  refine wpList_append_lies _ hgd x y 24 ho base 80 i0 _ 4 40 Tryd.underlying24 hi hz0 hz1 hz2 rfl (by decide) v n (V.fateCells L) hs (hown.alloc _) ⟨w.heap.size, 0, none⟩ 1 1 [.int .i64 ix, .int .i64 k, .int .i64 c, .string b] hx rfl ?_ (fate_one ix k c b) (by decide) (by unfold maxLen; omega) (by omega) (by simp; omega) _ rfl ?_
  · intro j u hj
    have hb := (boxed_new w #[.int .i64 ix, .int .i64 k, .int .i64 c, .string b] 80).2
    have hj5 : j < 4 := by
      have := (List.getElem?_eq_some_iff.1 hj).1
      simpa using this
    rw [show (⟨w.heap.size, 0, none⟩ : Addr).add j = ⟨w.heap.size, j, none⟩ by unfold Addr.add; split <;> simp_all]
    rw [hb j (by simpa using hj5)]
    rw [← hj]
    simp [List.getElem?_eq_getElem (show j < ([.int .i64 ix, .int .i64 k, .int .i64 c, .string b] : List Value).length from hj5)]
  · intro g cap w' hown' hgrow _ _
    refine h g cap w' ?_ ((Below.refl base _).grown hgrow (by simp; omega) (fun j hj => (hown.lt j hj).1))
    show w'.ownsRow _ _ _ _ _ _
    rw [V.fateCells_app]; exact hown'

set_option maxRecDepth 100000 in
set_option maxHeartbeats 4000000 in
theorem whole_any (fa : Option Addr) (m fc : Nat) (w : World) (hm : m * 40 ≤ 140737488355328) (hl : V.FatesR w (.slice fa m fc)) :
    Calls Tryd.prog 16 #[.slice fa m fc] w fun e w' => ∃ v L, e = .returned v ∧ w'.ownsRow w.heap.size 80 4 v L.length (V.fateCells L) ∧ (∀ f ∈ L, f.kind ≠ 3) ∧ Below w.heap.size w w' := by
  have HLL : Hid (∀ k, k < m → ∃ g off fi fk fc fj, fa = some ⟨g, off, none⟩ ∧ g < w.heap.size ∧ w.cell? ⟨g, off + k * 4, none⟩ = some (.int .i64 fi) ∧ w.cell? ⟨g, off + k * 4 + 1, none⟩ = some (.int .i64 fk) ∧ w.cell? ⟨g, off + k * 4 + 2, none⟩ = some (.int .i64 fc) ∧ w.cell? ⟨g, off + k * 4 + 3, none⟩ = some (.string fj)) := by
    obtain ⟨a, m', c', he, _, h⟩ := hl
    cases he
    exact h
  clear hl
  go_enter Tryd.func16, Tryd.ntmps16
  go_wp2_with fail
  go_loopw [3, 4] (fun u i wr => ∃ (k : Nat) (L : List V.Fate), k ≤ m ∧ L.length = k ∧ i = .int .i64 (k : Int) ∧ wr.ownsRow w.heap.size 80 4 u k (V.fateCells L) ∧ (∀ f ∈ L, f.kind ≠ 3) ∧ Below w.heap.size w wr) (fun _ i _ => m - (intOf i).toNat)
  case atStart => exact ⟨0, [], Nat.zero_le _, rfl, rfl, World.ownsRow_nil _ _ _ _, fun f hf => by simp at hf, Below.refl _ _⟩
  case round =>
    obtain ⟨k, L, hk, hLk, rfl, hown, hkd, hbr⟩ := hrel
    have HLK := hide hLk
    have HKD := hide hkd
    have HBR := hide hbr
    have HOW := hide hown
    obtain ⟨ua, uc, rfl⟩ : ∃ a c, u3 = .slice a k c := by
      rcases hown.2 with ⟨h', h0⟩ | ⟨g, cap, cur, h', _⟩
      · exact ⟨none, 0, by rw [h', h0]⟩
      · exact ⟨_, cap, h'⟩
    clear hLk hkd hbr hown
    by_cases hlt : k < m
    · obtain ⟨g, off, fi, fk, fc', fj, rfl, hg, h0, h1, h2, h3⟩ := HLL.out k hlt
      have a0 : wr.cell? ⟨g, off + k * 4, none⟩ = some (.int .i64 fi) := (HBR.out.cell hg).trans h0
      have a1 : wr.cell? ⟨g, off + k * 4 + 1, none⟩ = some (.int .i64 fk) := (HBR.out.cell hg).trans h1
      have hgr : g < wr.heap.size := Nat.lt_of_lt_of_le hg HBR.out.size
      have hng : ¬ g = wr.heap.size := by omega
      have hLE : Hid (w.heap.size ≤ wr.heap.size) := HBR.out.size
      clear h0 h1 h2 h3 hg
      by_cases h2 : fk = 2
      · subst h2
        have HF1 := hide (HOW.out.alloc (.cells #[.int .i64 fi, .int .i64 2, .int .i64 0, .string ⟨#[]⟩] 80))
        go_wp2_with (first
          | (at_builtin; refine wpList_app_fate rfl (.tmp 25) (.tmp 27) rfl w.heap.size k _ L fi 2 0 ⟨#[]⟩ rfl (by show Value.slice (some ⟨wr.heap.size + 1, 0, none⟩) 1 1 = _; simp) HF1.out (by omega) (by have := hLE.out; simp; omega) ?_; intro g' cap' w1 HO1 HB1))
        go_roundw
        case rel => exact ⟨k + 1, L ++ [⟨fi, 2, 0, ⟨#[]⟩⟩], by omega, by rw [List.length_append, HLK.out]; rfl, by go_num, HO1.out, fun f hf => (List.mem_append.1 hf).elim (HKD.out f) (fun h => by simp at h; rw [h]; simp), HBR.out.trans (((below_new wr _).mono hLE.out).trans (((below_new _ _).mono (by have := hLE.out; simp; omega)).trans HB1.out))⟩
        case measure => simp [intOf]; omega
      · have hd : (fk == 2) = false := beq_eq_false_iff_ne.2 h2
        have HF1 := hide (HOW.out.alloc (.cells #[.int .i64 fi, .int .i64 1, .int .i64 0, .string ⟨#[]⟩] 80))
        go_wp2_with (first
          | (at_builtin; refine wpList_app_fate rfl (.tmp 25) (.tmp 27) rfl w.heap.size k _ L fi 1 0 ⟨#[]⟩ rfl (by show Value.slice (some ⟨wr.heap.size + 1, 0, none⟩) 1 1 = _; simp) HF1.out (by omega) (by have := hLE.out; simp; omega) ?_; intro g' cap' w1 HO1 HB1))
        go_roundw
        case rel => exact ⟨k + 1, L ++ [⟨fi, 1, 0, ⟨#[]⟩⟩], by omega, by rw [List.length_append, HLK.out]; rfl, by go_num, HO1.out, fun f hf => (List.mem_append.1 hf).elim (HKD.out f) (fun h => by simp at h; rw [h]; simp), HBR.out.trans (((below_new wr _).mono hLE.out).trans (((below_new _ _).mono (by have := hLE.out; simp; omega)).trans HB1.out))⟩
        case measure => simp [intOf]; omega
    · have hke : k = m := by omega
      subst hke
      go_wp2_with fail
      go_ret
      exact ⟨_, L, rfl, by rw [HLK.out]; exact HOW.out, HKD.out, HBR.out⟩

end Go.Proofs.YtlopimdnjookeaaDoor
