import Derived.Test.YthnidlhcpelomaaDoorDCs1
import Derived.Deep.DeepCutAuto
import Derived.Deep.CutBlock
namespace Go.Proofs.YthnidlhcpelomaaDoor
open Go.RowKit
attribute [local go_sem ↓] Go.wp_at_zero Go.wp_at_succ

/-- One more behind a new list of the same changes. -/
theorem more_oneC (base : Nat) (v : Value) (l : List Ch) (W : World) (hp : ChO W base v l) (hn : l.length ≤ 1048576) (hbase : base ≤ W.heap.size) :
    ∃ g c W', (Builtin.append_ #[23, 23] 23 #[v, .slice (some ⟨W.heap.size, 0, none⟩) 1 1]).run Tryd.prog (W.alloc (.cells #[.string behindB, .bool false, .bool true, .string ⟨#[]⟩, .string behindB] 44)) = .ok (.slice (some ⟨g, 0, none⟩) (l.length + 1) c) W' ∧ ChO W' base (.slice (some ⟨g, 0, none⟩) (l.length + 1) c) (l ++ [bhC]) ∧ l.length + 1 ≤ c ∧ Below base W W' ∧ g < W'.heap.size := by
  obtain ⟨a', c', W', hrun, hown, hgr⟩ := push_chs base v l bhC 44 W l.length rfl hp (by omega) hbase
  have hrun' : (Builtin.append_ #[23, 23] 23 #[v, .slice (some ⟨W.heap.size, 0, none⟩) 1 1]).run Tryd.prog (W.alloc (.cells #[.string behindB, .bool false, .bool true, .string ⟨#[]⟩, .string behindB] 44)) = .ok (.slice a' (l.length + 1) c') W' := hrun
  have hb : Below base W W' := by
    have h1 : Below base W (W.alloc (.cells (chC bhC).toArray 44)) := (Below.refl base W).alloc hbase _
    exact h1.grown hgr (Nat.le_trans hbase (below_new W _).size) (fun k hk => (World.ownsRow.lt hp k hk).1)
  rcases hown.2 with ⟨h, _⟩ | ⟨g, cap, cur, h, h1, h2, h3, _⟩
  · have := congrArg (fun v => match v with | Value.slice _ n _ => n | _ => 0) h
    simp at this
  · have hl : (l ++ [bhC]).length = l.length + 1 := by simp
    rw [hl] at h h3
    cases h
    exact ⟨g, c', W', hrun', hown, h3, hb, (Array.getElem?_eq_some_iff.1 h2).1⟩
theorem othC_ok (l : List Ch) (q : Nat) (h1 : OkC l) (h2 : ∀ p ∈ l, p.2.new.size ≤ 1048576) : OkC (othC l q) := fun p hp => by
  unfold othC at hp
  obtain ⟨j, hj, rfl⟩ := List.mem_mapIdx.1 hp
  have hm := List.getElem_mem hj
  split
  · have h3 := h1 _ hm
    have h4 := h2 _ hm
    unfold zC
    split
    · refine ⟨h3.1, h3.2.1, ?_⟩
      show (l[j].2.new ++ (⟨#[122]⟩ : ByteArray)).size ≤ _
      rw [ByteArray.size_append]
      show _ + 1 ≤ _
      omega
    · exact h3
  · exact h1 _ hm
set_option maxHeartbeats 1000000 in
theorem otherw_zero (x : Option Addr) (c : Nat) (w : World) : Calls Tryd.prog 22 #[.slice x 0 c] w fun e w' => e = .returned (.slice x 0 c) ∧ w = w' := by
  go_enter Tryd.func22, Tryd.ntmps22
  go_wp2
  go_loopw [3] (fun i wr => i = .int .i64 0 ∧ w = wr) (fun _ _ => 0)
  case atStart => exact ⟨rfl, rfl⟩
  case round =>
    obtain ⟨rfl, rfl⟩ := hrel
    go_wp2
    go_ret
    exact ⟨rfl, rfl⟩
theorem otherw_own (base n c : Nat) (x : Option Addr) (l : List Ch) (w : World) (hn : n = l.length) (hown : ChO w base (.slice x n c) l) (hm : n ≤ 1048576) (hok : ∀ p ∈ l, p.2.new.size ≤ 1048576) :
    Calls Tryd.prog 22 #[.slice x n c] w fun e w' => e = .returned (.slice x n c) ∧ ChO w' base (.slice x n c) (othC l n) ∧ w.grownBy w' (Value.slice x n c).ownBlock := by
  rcases hown.2 with ⟨h, h0⟩ | ⟨g, cap, cur, h, _⟩
  · cases h
    have hl : l = [] := List.length_eq_zero_iff.1 hn.symm
    subst hl
    refine (otherw_zero none 0 w).mono ?_
    rintro e w' ⟨rfl, rfl⟩
    exact ⟨rfl, by simpa [othC] using hown, rfl, rfl, rfl, Nat.le_refl _, fun _ _ _ => rfl⟩
  · cases h
    have hown' : ChO w base (.slice (some ⟨g, 0, none⟩) (l ++ []).length c) (l ++ []) := by simpa [hn] using hown
    refine (otherwise_any base g l.length c l [] w rfl hown' (by omega) (fun p hp => Nat.le_trans (hok p hp) (by decide))).mono ?_
    rintro e w' ⟨rfl, hp, hs⟩
    refine ⟨rfl, by simpa using hp, hs.os, hs.tape, hs.output, hs.size, fun k hk hne => hs.block k hk (fun e => hne (by rw [e]; rfl))⟩
/-- Five lists in one row. -/
theorem aps_five (base : Nat) (S : Nat → Value) (D : Nat → List Ch) (B : Nat → Nat) (w : World) (h : ∀ j, j < 5 → ChO w base (S j) (D j)) (hk : ∀ j, j < 5 → ∀ q, (S j).ownBlock = some q → B j ≤ q ∧ q < B (j + 1)) (hB : ∀ i j, i ≤ j → j ≤ 5 → B i ≤ B j) :
    ApS base w.heap.size 5 S D (w.alloc (.cells #[S 0, S 1, S 2, S 3, S 4] 23)) := by
  have hb := below_new w (.cells #[S 0, S 1, S 2, S 3, S 4] 23)
  have hbx := boxed_new w #[S 0, S 1, S 2, S 3, S 4] 23
  refine ⟨fun j hj => (h j hj).below hb, fun j hj => ?_, ⟨_, heap_alloc_new w _, rfl⟩, fun i j q hi hj hne h1' h2' => ?_⟩
  · match j, hj with
    | 0, _ => exact hbx.2 0 (by simp)
    | 1, _ => exact hbx.2 1 (by simp)
    | 2, _ => exact hbx.2 2 (by simp)
    | 3, _ => exact hbx.2 3 (by simp)
    | 4, _ => exact hbx.2 4 (by simp)
  · have a := hk i hi q h1'
    have b := hk j hj q h2'
    rcases Nat.lt_or_gt_of_ne hne with hij | hij
    · have := hB (i + 1) j (by omega) (by omega); omega
    · have := hB (j + 1) i (by omega) (by omega); omega
set_option maxRecDepth 100000 in
set_option maxHeartbeats 32000000 in
theorem dcomp_any (A : Nat → Addr) (vA vB vL vM : Value) (la lb : List Ch) (w : World) (hE : ErrsG 13 gAll A w) (rA : ChR w vL la) (rB : ChR w vM lb) (oA : OkC la) (oB : OkC lb) (sA : ∀ p ∈ la, p.2.new.size ≤ 1048576) (nA : la.length ≤ 1048576) (nB : lb.length ≤ 1048576) :
    Calls Tryd.prog 4 #[.agg #[vA, vB, vL, vM]] w fun e w' => e = .returned (.bool true) ∧ Below w.heap.size w w' := by
  obtain ⟨a1, c1, rfl⟩ : ∃ a c, vL = .slice a la.length c := by obtain ⟨x, y, h, _⟩ := rA; exact ⟨x, y, h⟩
  obtain ⟨a2, c2, rfl⟩ : ∃ a c, vM = .slice a lb.length c := by obtain ⟨x, y, h, _⟩ := rB; exact ⟨x, y, h⟩
  have HE := hide hE
  have HRA := hide rA
  have HRB := hide rB
  have HOK : Hid (OkC la ∧ OkC lb ∧ ∀ p ∈ la, p.2.new.size ≤ 1048576) := ⟨oA, oB, sA⟩
  obtain ⟨n, hn⟩ : ∃ n, n = la.length := ⟨_, rfl⟩
  obtain ⟨k, hk⟩ : ∃ k, k = lb.length := ⟨_, rfl⟩
  rw [← hn] at HRA nA ⊢
  rw [← hk] at HRB nB ⊢
  have HN : Hid (n = la.length ∧ k = lb.length) := ⟨hn, hk⟩
  -- the box
  obtain ⟨W1, hW1⟩ : ∃ W1, w.alloc (.cells #[vA, vB, .slice a1 n c1, .slice a2 k c2] 25) = W1 := ⟨_, rfl⟩
  have q1 : Below w.heap.size w W1 := by rw [← hW1]; exact below_new w _
  have x1 : W1.heap[w.heap.size]? = some (.cells #[vA, vB, .slice a1 n c1, .slice a2 k c2] 25 (0, 0)) := by rw [← hW1]; exact heap_alloc_new w _
  have b0 : W1.cell? ⟨w.heap.size, 2, none⟩ = some (.slice a1 n c1) := by rw [cell_of_row _ _ _ _ _ _ x1]; rfl
  have b1 : W1.cell? ⟨w.heap.size, 3, none⟩ = some (.slice a2 k c2) := by rw [cell_of_row _ _ _ _ _ _ x1]; rfl
  have HB1 := hide q1
  have HX1 := hide x1
  have HW1 := hide hW1
  have HPA := hide (lchanges_any (.slice a1 n c1) la W1 (HRA.out.below q1) (by omega))
  have HLP := hide (fun W => lastc_any W)
  simp only [chA] at HLP
  clear hE rA rB oA oB sA hn hk q1 x1 hW1
  go_enter Tryd.func4, Tryd.ntmps4
  go_wp2_with fail
  rw [HW1.out]
  go_wp2_with fail
  refine HPA.out.mono ?_
  rintro e W2 ⟨va, rfl, hpa, hb2⟩
  have HPA2 := hide hpa
  have b0' := cell_bel hb2 b0
  have b1' := cell_bel hb2 b1
  have HB2 := hide hb2
  clear hpa hb2 HPA b0 b1
  go_wp2_with fail
  refine (HLP.out W2).mono ?_
  rintro e W3 ⟨rfl, hb3⟩
  obtain ⟨ga, ca, W4, hrun, hoa, hca, hb4, hga⟩ := more_oneC W1.heap.size va la W3 (HPA2.out.below hb3) (by have := HN.out; omega) (by have := HB2.out.size; have := hb3.size; omega)
  have hb14 : Below W1.heap.size W1 W4 := (Below.next HB2.out hb3).trans hb4
  have b0 : W4.cell? ⟨w.heap.size, 2, none⟩ = some (.slice a1 n c1) := by rw [cell_of_row _ _ _ _ _ _ ((hb14.block _ (Array.getElem?_eq_some_iff.1 HX1.out).1).trans HX1.out)]; rfl
  have b1 : W4.cell? ⟨w.heap.size, 3, none⟩ = some (.slice a2 k c2) := by rw [cell_of_row _ _ _ _ _ _ ((hb14.block _ (Array.getElem?_eq_some_iff.1 HX1.out).1).trans HX1.out)]; rfl
  rw [← HN.out.1] at hrun hca
  have hoa' : ChO W4 W1.heap.size (.slice (some ⟨ga, 0, none⟩) (n + 1) ca) (la ++ [bhC]) := by rw [HN.out.1]; exact hoa
  obtain ⟨n1, hn1⟩ : ∃ n1, n1 = n + 1 := ⟨_, rfl⟩
  rw [← hn1] at hrun hoa' hca
  have HN1 := hide hn1
  have HRUN := hide hrun
  have HOA := hide hoa'
  have HCA := hide hca
  have HB4 := hide hb14
  have HGA := hide hga
  clear hrun hoa hoa' hca hb14 hb4 hb3 hga hn1 b0' b1' HPA2 HB2
  have HPB := hide (lchanges_any (.slice a2 k c2) lb W4 (HRB.out.below (HB1.out.trans (HB4.out.mono HB1.out.size))) (by have := HN.out; omega))
  go_wp2_with (first | (at_builtin; refine wpList_append_run 23 rfl (.tmp 20) (.tmp 22) rfl rfl _ _ rfl rfl _ _ HRUN.out ?_))
  refine HPB.out.mono ?_
  rintro e W5 ⟨vb, rfl, hpb, hb5⟩
  have HPB2 := hide hpb
  have b0' := cell_bel hb5 b0
  have b1' := cell_bel hb5 b1
  have HB5 := hide hb5
  clear hpb hb5 HPB b0 b1 HRUN
  go_wp2_with fail
  refine (HLP.out W5).mono ?_
  rintro e W6 ⟨rfl, hb6⟩
  obtain ⟨gb, cb, W7, hrun, hob, hcb, hb7, hgb⟩ := more_oneC W4.heap.size vb lb W6 (HPB2.out.below hb6) (by have := HN.out; omega) (by have := HB5.out.size; have := hb6.size; omega)
  have hb47 : Below W4.heap.size W4 W7 := (Below.next HB5.out hb6).trans hb7
  rw [← HN.out.2] at hrun hcb
  have hob' : ChO W7 W4.heap.size (.slice (some ⟨gb, 0, none⟩) (k + 1) cb) (lb ++ [bhC]) := by rw [HN.out.2]; exact hob
  obtain ⟨k1, hk1⟩ : ∃ k1, k1 = k + 1 := ⟨_, rfl⟩
  rw [← hk1] at hrun hob' hcb
  have HK1 := hide hk1
  have HRUN := hide hrun
  have HCB := hide hcb
  have hst : LSc w vA vB (.slice a1 n c1) (.slice a2 k c2) ga gb ca cb la lb W7 := by
    have h1 := HB1.out.size
    have hb17 : Below W1.heap.size W1 W7 := Below.next HB4.out hb47
    refine ⟨Below.next HB1.out hb17, (hb17.block _ (Array.getElem?_eq_some_iff.1 HX1.out).1).trans HX1.out, ?_, ?_, ?_⟩
    · have := (HOA.out.below hb47).mono h1
      rw [HN1.out, HN.out.1] at this; exact this
    · have := hob'.mono (b2 := w.heap.size) (Nat.le_trans h1 HB4.out.size)
      rw [hk1, HN.out.2] at this; exact this
    · have h2 := (cho_blk hob').1
      have h3 := HGA.out
      omega
  have HST := hide hst
  obtain ⟨b0, b1⟩ := hst.b2
  clear hrun hob hob' hcb hb47 hb7 hb6 hgb hst hk1 b0' b1' HPB2 HB5 HOA HGA HB4 HLP
  -- the contracts
  have HUN : Hid (n = la.length ∧ k = lb.length ∧ n ≤ 1048576 ∧ k ≤ 1048576) := ⟨HN.out.1, HN.out.2, nA, nB⟩
  have HCO : Hid (∀ W, LSc w vA vB (.slice a1 n c1) (.slice a2 k c2) ga gb ca cb la lb W → Calls Tryd.prog 17 #[.slice (some ⟨ga, 0, none⟩) n ca, .slice (some ⟨gb, 0, none⟩) k cb] W fun e w' => ∃ x c, e = .returned (.tuple #[.slice x (cL la lb).length c, eC A (cK la lb)]) ∧ ChO w' W.heap.size (.slice x (cL la lb).length c) (cL la lb) ∧ Below W.heap.size W w') := fun W h => by
    rw [HN.out.1, HN.out.2]
    exact compose_u A _ _ la lb W h.ra h.rb HOK.out.1 HOK.out.2.1 (by have := HUN.out; omega) (HE.out.keep h.hb)
  have HIV : Hid (∀ W, LSc w vA vB (.slice a1 n c1) (.slice a2 k c2) ga gb ca cb la lb W → Calls Tryd.prog 18 #[.slice (some ⟨ga, 0, none⟩) n ca] W fun e w' => ∃ x c, e = .returned (.slice x (invertD la).length c) ∧ ChO w' W.heap.size (.slice x (invertD la).length c) (invertD la) ∧ Below W.heap.size W w') := fun W h => by
    rw [HN.out.1]
    exact inv_u (invert_any _ la W h.ra HOK.out.1 (by have := HUN.out; omega))
  have HIW : Hid (∀ W, LSc w vA vB (.slice a1 n c1) (.slice a2 k c2) ga gb ca cb la lb W → Calls Tryd.prog 18 #[.slice (some ⟨gb, 0, none⟩) k cb] W fun e w' => ∃ x c, e = .returned (.slice x (invertD lb).length c) ∧ ChO w' W.heap.size (.slice x (invertD lb).length c) (invertD lb) ∧ Below W.heap.size W w') := fun W h => by
    rw [HN.out.2]
    exact inv_u (invert_any _ lb W h.rb HOK.out.2.1 (by have := HUN.out; omega))
  have HRI : Hid (∀ W v, ChR W v la → Calls Tryd.prog 20 #[v] W fun e w' => ∃ x c, e = .returned (.slice x (invertD la).length c) ∧ ChO w' W.heap.size (.slice x (invertD la).length c) (invertD la) ∧ Below W.heap.size W w') := fun W v h => inv_u (rinvert_any _ la W h HOK.out.1 (by have := HUN.out; omega))
  have HRJ : Hid (∀ W v, ChR W v lb → Calls Tryd.prog 20 #[v] W fun e w' => ∃ x c, e = .returned (.slice x (invertD lb).length c) ∧ ChO w' W.heap.size (.slice x (invertD lb).length c) (invertD lb) ∧ Below W.heap.size W w') := fun W v h => inv_u (rinvert_any _ lb W h HOK.out.2.1 (by have := HUN.out; omega))
  have HPP : Hid (∀ W, Below w.heap.size w W → (Calls Tryd.prog 15 #[.slice a1 n c1] W fun e w' => ∃ x c, e = .returned (.slice x n c) ∧ ChO w' W.heap.size (.slice x n c) la ∧ Below W.heap.size W w') ∧ (Calls Tryd.prog 15 #[.slice a2 k c2] W fun e w' => ∃ x c, e = .returned (.slice x k c) ∧ ChO w' W.heap.size (.slice x k c) lb ∧ Below W.heap.size W w')) := fun W h => by
    constructor
    · refine (lchanges_any _ la W (HRA.out.below h) (by have := HUN.out; omega)).mono ?_
      rintro e w' ⟨v', rfl, hp, hb⟩
      obtain ⟨x, c, rfl⟩ := hp.form
      exact ⟨x, c, by rw [HN.out.1], by rw [HN.out.1]; exact hp, hb⟩
    · refine (lchanges_any _ lb W (HRB.out.below h) (by have := HUN.out; omega)).mono ?_
      rintro e w' ⟨v', rfl, hp, hb⟩
      obtain ⟨x, c, rfl⟩ := hp.form
      exact ⟨x, c, by rw [HN.out.2], by rw [HN.out.2]; exact hp, hb⟩
  have HRL : Hid (∀ W va vb, ChR W va la → ChR W vb lb → Calls Tryd.prog 19 #[va, vb] W fun e w' => ∃ x c, e = .returned (.tuple #[.slice x (cL la lb).length c, .int .i64 (nC (cK la lb))]) ∧ ChO w' W.heap.size (.slice x (cL la lb).length c) (cL la lb) ∧ Below W.heap.size W w') := fun W va vb h1 h2 => rcompose_u va vb la lb W h1 h2 (by have := HUN.out; omega)
  have HNU : Hid (∀ W, Below w.heap.size w W → Calls Tryd.prog 10 #[eC A (cK la lb)] W fun e w' => e = .returned (.int .i64 (nC (cK la lb))) ∧ W = w') := fun W h => num_c A _ W (HE.out.keep h)
  have hD3 : (cL (othC la n) lb).length ≤ 2097152 ∧ (invertD (othC la n)).length ≤ 2097152 := by
    have h1 := cL_len (othC la n) lb
    rw [othC_len] at h1
    have := HUN.out
    exact ⟨by omega, by rw [inv_len, othC_len]; omega⟩
  have HOT : Hid (∀ W, LSc w vA vB (.slice a1 n c1) (.slice a2 k c2) ga gb ca cb la lb W → Calls Tryd.prog 22 #[.slice (some ⟨ga, 0, none⟩) n ca] W fun e w' => e = .returned (.slice (some ⟨ga, 0, none⟩) n ca) ∧ LSc w vA vB (.slice a1 n c1) (.slice a2 k c2) ga gb ca cb (othC la n) lb w') := fun W h => by
    have hl : (la ++ [bhC]).length = la.length + 1 := by simp
    refine (otherwise_any w.heap.size ga n ca la [bhC] W HN.out.1 (by rw [hl]; exact h.pa) (by have := HUN.out; omega) (fun p hp => Nat.le_trans (HOK.out.2.2 p hp) (by decide))).mono ?_
    rintro e w' ⟨rfl, hp, hs⟩
    exact ⟨rfl, h.sole hs (by rw [othC_len]; rw [hl] at hp; exact hp)⟩
  have HIO : Hid (∀ W, LSc w vA vB (.slice a1 n c1) (.slice a2 k c2) ga gb ca cb (othC la n) lb W → Calls Tryd.prog 18 #[.slice (some ⟨ga, 0, none⟩) n ca] W fun e w' => ∃ x c, e = .returned (.slice x (invertD (othC la n)).length c) ∧ ChO w' W.heap.size (.slice x (invertD (othC la n)).length c) (invertD (othC la n)) ∧ Below W.heap.size W w') := fun W h => by
    have h1 := h.ra
    rw [othC_len, ← HN.out.1] at h1
    exact inv_u (invert_any _ _ W h1 (othC_ok la n HOK.out.1 HOK.out.2.2) (by rw [othC_len]; have := HUN.out; omega))
  have HLO : Hid (∀ W, LSc w vA vB (.slice a1 n c1) (.slice a2 k c2) ga gb ca cb (othC la n) lb W → Calls Tryd.prog 17 #[.slice (some ⟨ga, 0, none⟩) n ca, .slice (some ⟨gb, 0, none⟩) k cb] W fun e w' => ∃ x c, e = .returned (.tuple #[.slice x (cL (othC la n) lb).length c, eC A (cK (othC la n) lb)]) ∧ ChO w' W.heap.size (.slice x (cL (othC la n) lb).length c) (cL (othC la n) lb) ∧ Below W.heap.size W w') := fun W h => by
    have h1 := h.ra
    rw [othC_len, ← HN.out.1] at h1
    have h2 := h.rb
    rw [← HN.out.2] at h2
    exact compose_u A _ _ _ lb W h1 h2 (othC_ok la n HOK.out.1 HOK.out.2.2) HOK.out.2.1 (by rw [othC_len]; have := HUN.out; omega) (HE.out.keep h.hb)
  have HRO : Hid (∀ W va vb, ChR W va (othC la n) → ChR W vb lb → Calls Tryd.prog 19 #[va, vb] W fun e w' => ∃ x c, e = .returned (.tuple #[.slice x (cL (othC la n) lb).length c, .int .i64 (nC (cK (othC la n) lb))]) ∧ ChO w' W.heap.size (.slice x (cL (othC la n) lb).length c) (cL (othC la n) lb) ∧ Below W.heap.size W w') := fun W va vb h1 h2 => rcompose_u va vb _ lb W h1 h2 (by rw [othC_len]; have := HUN.out; omega)
  have HRK : Hid (∀ W v, ChR W v (othC la n) → Calls Tryd.prog 20 #[v] W fun e w' => ∃ x c, e = .returned (.slice x (invertD (othC la n)).length c) ∧ ChO w' W.heap.size (.slice x (invertD (othC la n)).length c) (invertD (othC la n)) ∧ Below W.heap.size W w') := fun W v h => inv_u (rinvert_any _ _ W h (othC_ok la n HOK.out.1 HOK.out.2.2) (by rw [othC_len]; have := HUN.out; omega))
  have HOP : Hid (∀ W B x c, ChO W B (.slice x n c) la → Calls Tryd.prog 22 #[.slice x n c] W fun e w' => e = .returned (.slice x n c) ∧ ChO w' B (.slice x n c) (othC la n) ∧ W.grownBy w' (Value.slice x n c).ownBlock) := fun W B x c h => otherw_own B n c x la W HN.out.1 h (by have := HUN.out; omega) HOK.out.2.2
  have HNU3 : Hid (∀ W, Below w.heap.size w W → Calls Tryd.prog 10 #[eC A (cK (othC la n) lb)] W fun e w' => e = .returned (.int .i64 (nC (cK (othC la n) lb))) ∧ W = w') := fun W h => num_c A _ W (HE.out.keep h)
  have HD3 := hide hD3
  clear hD3
  generalize eC A (cK (othC la n) lb) = E3 at *
  generalize nC (cK (othC la n) lb) = F3 at *
  generalize hoD : cL (othC la n) lb = D3 at *
  generalize hoI : invertD (othC la n) = I3 at *
  clear hoD hoI
  have HLEN : Hid ((cL la lb).length ≤ 2097152 ∧ (invertD la).length ≤ 2097152 ∧ (invertD lb).length ≤ 2097152) := by have h1 := cL_len la lb; have := HUN.out; exact ⟨by omega, by rw [inv_len]; omega, by rw [inv_len]; omega⟩
  generalize eC A (cK la lb) = E1 at *
  generalize nC (cK la lb) = F1 at *
  generalize hoD : cL la lb = D1 at *
  generalize hoI : invertD la = I1 at *
  generalize hoJ : invertD lb = I2 at *
  clear hoD hoI hoJ
  have i0 : (0 : Int) ≤ (n : Int) := by omega
  have i2 : n ≤ ca := by have := HN1.out; have := HCA.out; omega
  have i3 : (n : Int) ≤ (ca : Int) := by omega
  have j0 : (0 : Int) ≤ (k : Int) := by omega
  have j2 : k ≤ cb := by have := HK1.out; have := HCB.out; omega
  have j3 : (k : Int) ≤ (cb : Int) := by omega
  go_upto_region 3 with (first | (at_builtin; refine wpList_append_run 23 rfl (.tmp 26) (.tmp 28) rfl rfl _ _ rfl rfl _ _ HRUN.out ?_))
  clear HRUN
  go_quiet (fail)
  go_wp2_with fail
  obtain ⟨nz, hnz⟩ : ∃ nz, nz = nq := ⟨_, rfl⟩
  rw [← hnz]
  have hs0 := HST.out.below (below_drewN' (Below.refl _ W7) nz)
  have HS0 : Hid (LSc w vA vB (.slice a1 n c1) (.slice a2 k c2) ga gb ca cb la lb (W7.drewN nz)) := hs0
  generalize W7.drewN nz = U at *
  clear hs0 hnz HST b0 b1
  obtain ⟨b0, b1⟩ := HS0.out.b2
  have HUS : Hid (w.heap.size < U.heap.size ∧ ga < U.heap.size ∧ gb < U.heap.size) := ⟨(Array.getElem?_eq_some_iff.1 HS0.out.bx).1, (cho_blk HS0.out.pa).2, (cho_blk HS0.out.pb).2⟩
  go_region_held3 (fun w' => w'.cell? ⟨w.heap.size, 2, none⟩ = some (.slice a1 n c1)) (go_keep)
    ((go_at_call 17; refine (HCO.out _ ?_).mono ?_; (first | exact HS0.out | exact HS0.out.below (Below.refl _ _).drew | exact HS0.out.below (below_drewN' (Below.refl _ _) _)); rintro e V1 ⟨x1, d1, rfl, ho, hg⟩; have HG1 : Hid (Below U.heap.size U V1) := ⟨hg.os, hg.tape, hg.output, hg.size, hg.block⟩; have HL1 : Hid (ChO V1 U.heap.size (.slice x1 D1.length d1) D1) := ho; have z0 := cell_bel HG1.out b0; clear hg ho))
  clear z0
  have HS1 := hide (HS0.out.below HG1.out)
  have HZ1 : Hid (U.heap.size ≤ V1.heap.size) := HG1.out.size
  have HKB1 : Hid (∀ q, (Value.slice x1 D1.length d1).ownBlock = some q → U.heap.size ≤ q ∧ q < V1.heap.size) := fun q hq => HL1.out.blk q hq
  clear b0 b1 HG1 HS0
  obtain ⟨b0, b1⟩ := HS1.out.b2
  go_wp2_with fail
  refine (HIV.out _ HS1.out).mono ?_
  rintro e V2 ⟨x2, d2, rfl, ho, hg⟩
  have HG2 := hide hg
  have HL2 := hide ho
  clear hg ho
  have HS2 := hide (HS1.out.below HG2.out)
  have HL1_2 := hide (HL1.out.below HG2.out)
  clear HL1
  have HZ2 : Hid (V1.heap.size ≤ V2.heap.size) := HG2.out.size
  have HKB2 : Hid (∀ q, (Value.slice x2 I1.length d2).ownBlock = some q → V1.heap.size ≤ q ∧ q < V2.heap.size) := fun q hq => HL2.out.blk q hq
  clear b0 b1 HG2 HS1
  obtain ⟨b0, b1⟩ := HS2.out.b2
  go_wp2_with fail
  refine (HIW.out _ HS2.out).mono ?_
  rintro e V3 ⟨x3, d3, rfl, ho, hg⟩
  have HG3 := hide hg
  have HL3 := hide ho
  clear hg ho
  have HS3 := hide (HS2.out.below HG3.out)
  have HL1_3 := hide (HL1_2.out.below HG3.out)
  clear HL1_2
  have HL2_3 := hide (HL2.out.below HG3.out)
  clear HL2
  have HZ3 : Hid (V2.heap.size ≤ V3.heap.size) := HG3.out.size
  have HKB3 : Hid (∀ q, (Value.slice x3 I2.length d3).ownBlock = some q → V2.heap.size ≤ q ∧ q < V3.heap.size) := fun q hq => HL3.out.blk q hq
  clear b0 b1 HG3 HS2
  obtain ⟨b0, b1⟩ := HS3.out.b2
  go_wp2_with fail
  go_region_held3 (fun w' => w'.cell? ⟨w.heap.size, 2, none⟩ = some (.slice a1 n c1)) (go_keep)
    ((go_at_call 17; refine (HCO.out _ ?_).mono ?_; (first | exact HS3.out | exact HS3.out.below (Below.refl _ _).drew | exact HS3.out.below (below_drewN' (Below.refl _ _) _)); rintro e V4 ⟨x4, d4, rfl, ho, hg⟩; have HG4 : Hid (Below V3.heap.size V3 V4) := ⟨hg.os, hg.tape, hg.output, hg.size, hg.block⟩; have HL4 : Hid (ChO V4 V3.heap.size (.slice x4 D1.length d4) D1) := ho; have z0 := cell_bel HG4.out b0; clear hg ho))
  clear z0
  have HS4 := hide (HS3.out.below HG4.out)
  have HL1_4 := hide (HL1_3.out.below HG4.out)
  clear HL1_3
  have HL2_4 := hide (HL2_3.out.below HG4.out)
  clear HL2_3
  have HL3_4 := hide (HL3.out.below HG4.out)
  clear HL3
  have HZ4 : Hid (V3.heap.size ≤ V4.heap.size) := HG4.out.size
  have HKB4 : Hid (∀ q, (Value.slice x4 D1.length d4).ownBlock = some q → V3.heap.size ≤ q ∧ q < V4.heap.size) := fun q hq => HL4.out.blk q hq
  clear b0 b1 HG4 HS3
  obtain ⟨b0, b1⟩ := HS4.out.b2
  go_wp2_with fail
  refine (HIV.out _ HS4.out).mono ?_
  rintro e V5 ⟨x5, d5, rfl, ho, hg⟩
  have HG5 := hide hg
  have HL5 := hide ho
  clear hg ho
  have HS5 := hide (HS4.out.below HG5.out)
  have HL1_5 := hide (HL1_4.out.below HG5.out)
  clear HL1_4
  have HL2_5 := hide (HL2_4.out.below HG5.out)
  clear HL2_4
  have HL3_5 := hide (HL3_4.out.below HG5.out)
  clear HL3_4
  have HL4_5 := hide (HL4.out.below HG5.out)
  clear HL4
  have HZ5 : Hid (V4.heap.size ≤ V5.heap.size) := HG5.out.size
  have HKB5 : Hid (∀ q, (Value.slice x5 I1.length d5).ownBlock = some q → V4.heap.size ≤ q ∧ q < V5.heap.size) := fun q hq => HL5.out.blk q hq
  clear b0 b1 HG5 HS4
  obtain ⟨b0, b1⟩ := HS5.out.b2
  go_upto_region 9 with fail
  go_cut [14, 15] (fun q1 q2 wx => ∃ xr dr, q1 = .slice xr D1.length dr ∧ q2 = .int .i64 F1 ∧ ChO wx V5.heap.size (.slice xr D1.length dr) D1 ∧ Below V5.heap.size V5 wx)
  case first =>
    go_region_held3 (fun w' => w'.cell? ⟨w.heap.size, 2, none⟩ = some (.slice a1 n c1) ∧ w'.cell? ⟨w.heap.size, 3, none⟩ = some (.slice a2 k c2)) (go_keep)
      (first
        | (have qo := HPA; have qb := HPB; clear qo qb; go_at_call 19; refine (HRL.out _ _ _ HPA.out.at HPB.out.at).mono ?_; rintro e wn ⟨xr, dr, rfl, ho, hg⟩; have HLR : Hid (ChO wn V5.heap.size (.slice xr D1.length dr) D1) := ho.mono HGC.out.size; have HGN : Hid (Below V5.heap.size V5 wn) := Below.next HGC.out ⟨hg.os, hg.tape, hg.output, hg.size, hg.block⟩; clear HGC; have HGC := HGN; clear HGN; have v0 := cell_bel HGC.out b0; have v1 := cell_bel HGC.out b1; clear hg ho)
        | (have qa := HPA; clear qa; go_at_call_of 15 (Value.slice a2 k c2); refine ((HPP.out _ ?_).2).mono ?_; exact (HS5.out.below HGC.out).hb; rintro e wn ⟨xB, dB, rfl, ho, hg⟩; have HNE : Hid (∀ q, (Value.slice xA n dA).ownBlock = some q → (Value.slice xB k dB).ownBlock ≠ some q) := fun q h1 h2 => Nat.lt_irrefl _ (Nat.lt_of_lt_of_le (HPA.out.blk q h1).2 (ho.blk q h2).1); have HPB : Hid (ChO wn V5.heap.size (.slice xB k dB) lb) := ho.mono HGC.out.size; have HQ : Hid (ChO wn V5.heap.size (.slice xA n dA) la) := HPA.out.below ⟨hg.os, hg.tape, hg.output, hg.size, hg.block⟩; clear HPA; have HPA := HQ; clear HQ; have HGN : Hid (Below V5.heap.size V5 wn) := Below.next HGC.out ⟨hg.os, hg.tape, hg.output, hg.size, hg.block⟩; clear HGC; have HGC := HGN; clear HGN; have y0 := cell_bel HGC.out b0; have y1 := cell_bel HGC.out b1; clear hg ho)
        | (have qa := HPB; clear qa; go_at_call_of 15 (Value.slice a1 n c1); refine ((HPP.out _ ?_).1).mono ?_; exact (HS5.out.below HGC.out).hb; rintro e wn ⟨xA, dA, rfl, ho, hg⟩; have HNE : Hid (∀ q, (Value.slice xA n dA).ownBlock = some q → (Value.slice xB k dB).ownBlock ≠ some q) := fun q h1 h2 => Nat.lt_irrefl _ (Nat.lt_of_lt_of_le (HPB.out.blk q h2).2 (ho.blk q h1).1); have HPA : Hid (ChO wn V5.heap.size (.slice xA n dA) la) := ho.mono HGC.out.size; have HQ : Hid (ChO wn V5.heap.size (.slice xB k dB) lb) := HPB.out.below ⟨hg.os, hg.tape, hg.output, hg.size, hg.block⟩; clear HPB; have HPB := HQ; clear HQ; have HGN : Hid (Below V5.heap.size V5 wn) := Below.next HGC.out ⟨hg.os, hg.tape, hg.output, hg.size, hg.block⟩; clear HGC; have HGC := HGN; clear HGN; have y0 := cell_bel HGC.out b0; have y1 := cell_bel HGC.out b1; clear hg ho)
        | (go_at_call_of 15 (Value.slice a2 k c2); refine ((HPP.out _ ?_).2).mono ?_; (first | exact HS5.out.hb | exact (HS5.out.below (Below.refl _ _).drew).hb | exact (HS5.out.below (below_drewN' (Below.refl _ _) _)).hb); rintro e wn ⟨xB, dB, rfl, ho, hg⟩; have HGC : Hid (Below V5.heap.size V5 wn) := ⟨hg.os, hg.tape, hg.output, hg.size, hg.block⟩; have HPB : Hid (ChO wn V5.heap.size (.slice xB k dB) lb) := ho; have z0 := cell_bel HGC.out b0; have z1 := cell_bel HGC.out b1; clear hg ho)
        | (go_at_call_of 15 (Value.slice a1 n c1); refine ((HPP.out _ ?_).1).mono ?_; (first | exact HS5.out.hb | exact (HS5.out.below (Below.refl _ _).drew).hb | exact (HS5.out.below (below_drewN' (Below.refl _ _) _)).hb); rintro e wn ⟨xA, dA, rfl, ho, hg⟩; have HGC : Hid (Below V5.heap.size V5 wn) := ⟨hg.os, hg.tape, hg.output, hg.size, hg.block⟩; have HPA : Hid (ChO wn V5.heap.size (.slice xA n dA) la) := ho; have z0 := cell_bel HGC.out b0; have z1 := cell_bel HGC.out b1; clear hg ho))
    all_goals
      go_wp2_with fail
      go_meet
      exact ⟨xr, dr, rfl, rfl, HLR.out, HGC.out⟩
  case rest =>
  obtain ⟨x6, d6, rfl, rfl, ho, hg⟩ := hcut
  have HG6 : Hid (Below V5.heap.size V5 wc) := hg
  have HL6 := hide ho
  generalize wc = V6 at *
  clear hg ho
  have HS6 := hide (HS5.out.below HG6.out)
  have HL1_6 := hide (HL1_5.out.below HG6.out)
  clear HL1_5
  have HL2_6 := hide (HL2_5.out.below HG6.out)
  clear HL2_5
  have HL3_6 := hide (HL3_5.out.below HG6.out)
  clear HL3_5
  have HL4_6 := hide (HL4_5.out.below HG6.out)
  clear HL4_5
  have HL5_6 := hide (HL5.out.below HG6.out)
  clear HL5
  have HZ6 : Hid (V5.heap.size ≤ V6.heap.size) := HG6.out.size
  have HKB6 : Hid (∀ q, (Value.slice x6 D1.length d6).ownBlock = some q → V5.heap.size ≤ q ∧ q < V6.heap.size) := fun q hq => HL6.out.blk q hq
  clear b0 b1 HG6 HS5
  obtain ⟨b0, b1⟩ := HS6.out.b2
  go_wp2_with fail
  refine ((HPP.out _ HS6.out.hb).1).mono ?_
  rintro e V7 ⟨x7, d7, rfl, ho, hg⟩
  have HG7 := hide hg
  have HL7 := hide ho
  clear hg ho
  have HS7 := hide (HS6.out.below HG7.out)
  have HL1_7 := hide (HL1_6.out.below HG7.out)
  clear HL1_6
  have HL2_7 := hide (HL2_6.out.below HG7.out)
  clear HL2_6
  have HL3_7 := hide (HL3_6.out.below HG7.out)
  clear HL3_6
  have HL4_7 := hide (HL4_6.out.below HG7.out)
  clear HL4_6
  have HL5_7 := hide (HL5_6.out.below HG7.out)
  clear HL5_6
  have HL6_7 := hide (HL6.out.below HG7.out)
  clear HL6
  have HZ7 : Hid (V6.heap.size ≤ V7.heap.size) := HG7.out.size
  clear b0 b1 HG7 HS6
  obtain ⟨b0, b1⟩ := HS7.out.b2
  go_wp2_with fail
  refine (HRI.out _ _ HL7.out.at).mono ?_
  rintro e V8 ⟨x8, d8, rfl, ho, hg⟩
  have HG8 := hide hg
  have HL8 := hide ho
  clear hg ho
  have HS8 := hide (HS7.out.below HG8.out)
  have HL1_8 := hide (HL1_7.out.below HG8.out)
  clear HL1_7
  have HL2_8 := hide (HL2_7.out.below HG8.out)
  clear HL2_7
  have HL3_8 := hide (HL3_7.out.below HG8.out)
  clear HL3_7
  have HL4_8 := hide (HL4_7.out.below HG8.out)
  clear HL4_7
  have HL5_8 := hide (HL5_7.out.below HG8.out)
  clear HL5_7
  have HL6_8 := hide (HL6_7.out.below HG8.out)
  clear HL6_7
  have HZ8 : Hid (V7.heap.size ≤ V8.heap.size) := HG8.out.size
  have HKB8 : Hid (∀ q, (Value.slice x8 I1.length d8).ownBlock = some q → V7.heap.size ≤ q ∧ q < V8.heap.size) := fun q hq => HL8.out.blk q hq
  clear b0 b1 HG8 HS7
  obtain ⟨b0, b1⟩ := HS8.out.b2
  go_wp2_with fail
  clear HL7
  refine ((HPP.out _ HS8.out.hb).2).mono ?_
  rintro e V9 ⟨x9, d9, rfl, ho, hg⟩
  have HG9 := hide hg
  have HL9 := hide ho
  clear hg ho
  have HS9 := hide (HS8.out.below HG9.out)
  have HL1_9 := hide (HL1_8.out.below HG9.out)
  clear HL1_8
  have HL2_9 := hide (HL2_8.out.below HG9.out)
  clear HL2_8
  have HL3_9 := hide (HL3_8.out.below HG9.out)
  clear HL3_8
  have HL4_9 := hide (HL4_8.out.below HG9.out)
  clear HL4_8
  have HL5_9 := hide (HL5_8.out.below HG9.out)
  clear HL5_8
  have HL6_9 := hide (HL6_8.out.below HG9.out)
  clear HL6_8
  have HL8_9 := hide (HL8.out.below HG9.out)
  clear HL8
  have HZ9 : Hid (V8.heap.size ≤ V9.heap.size) := HG9.out.size
  clear b0 b1 HG9 HS8
  obtain ⟨b0, b1⟩ := HS9.out.b2
  go_wp2_with fail
  refine (HRJ.out _ _ HL9.out.at).mono ?_
  rintro e V10 ⟨x10, d10, rfl, ho, hg⟩
  have HG10 := hide hg
  have HL10 := hide ho
  clear hg ho
  have HS10 := hide (HS9.out.below HG10.out)
  have HL1_10 := hide (HL1_9.out.below HG10.out)
  clear HL1_9
  have HL2_10 := hide (HL2_9.out.below HG10.out)
  clear HL2_9
  have HL3_10 := hide (HL3_9.out.below HG10.out)
  clear HL3_9
  have HL4_10 := hide (HL4_9.out.below HG10.out)
  clear HL4_9
  have HL5_10 := hide (HL5_9.out.below HG10.out)
  clear HL5_9
  have HL6_10 := hide (HL6_9.out.below HG10.out)
  clear HL6_9
  have HL8_10 := hide (HL8_9.out.below HG10.out)
  clear HL8_9
  have HZ10 : Hid (V9.heap.size ≤ V10.heap.size) := HG10.out.size
  have HKB10 : Hid (∀ q, (Value.slice x10 I2.length d10).ownBlock = some q → V9.heap.size ≤ q ∧ q < V10.heap.size) := fun q hq => HL10.out.blk q hq
  clear b0 b1 HG10 HS9
  obtain ⟨b0, b1⟩ := HS10.out.b2
  go_wp2_with fail
  clear HL9
  have hf1 : (F1 != F1) = false := by simp
  refine (HNU.out _ HS10.out.hb).mono ?_
  rintro e Vz ⟨rfl, rfl⟩
  go_wp2_with fail
  refine (HNU.out _ HS10.out.hb).mono ?_
  rintro e Vz ⟨rfl, rfl⟩
  go_wp2_with fail
  refine (samec_same _ _ D1 _ (by have := HLEN.out.1; omega) HL1_10.out.at HL6_10.out.at).mono ?_
  rintro e V11 ⟨rfl, hg⟩
  have HG11 := hide hg
  clear hg
  have HS11 := hide (HS10.out.below HG11.out)
  have HL1_11 := hide (HL1_10.out.below HG11.out)
  clear HL1_10
  have HL2_11 := hide (HL2_10.out.below HG11.out)
  clear HL2_10
  have HL3_11 := hide (HL3_10.out.below HG11.out)
  clear HL3_10
  have HL4_11 := hide (HL4_10.out.below HG11.out)
  clear HL4_10
  have HL5_11 := hide (HL5_10.out.below HG11.out)
  clear HL5_10
  have HL6_11 := hide (HL6_10.out.below HG11.out)
  clear HL6_10
  have HL8_11 := hide (HL8_10.out.below HG11.out)
  clear HL8_10
  have HL10_11 := hide (HL10.out.below HG11.out)
  clear HL10
  have HZ11 : Hid (V10.heap.size ≤ V11.heap.size) := HG11.out.size
  clear b0 b1 HG11 HS10
  obtain ⟨b0, b1⟩ := HS11.out.b2
  go_wp2_with fail
  refine (samec_same _ _ D1 _ (by have := HLEN.out.1; omega) HL4_11.out.at HL6_11.out.at).mono ?_
  rintro e V12 ⟨rfl, hg⟩
  have HG12 := hide hg
  clear hg
  have HS12 := hide (HS11.out.below HG12.out)
  have HL1_12 := hide (HL1_11.out.below HG12.out)
  clear HL1_11
  have HL2_12 := hide (HL2_11.out.below HG12.out)
  clear HL2_11
  have HL3_12 := hide (HL3_11.out.below HG12.out)
  clear HL3_11
  have HL4_12 := hide (HL4_11.out.below HG12.out)
  clear HL4_11
  have HL5_12 := hide (HL5_11.out.below HG12.out)
  clear HL5_11
  have HL6_12 := hide (HL6_11.out.below HG12.out)
  clear HL6_11
  have HL8_12 := hide (HL8_11.out.below HG12.out)
  clear HL8_11
  have HL10_12 := hide (HL10_11.out.below HG12.out)
  clear HL10_11
  have HZ12 : Hid (V11.heap.size ≤ V12.heap.size) := HG12.out.size
  clear b0 b1 HG12 HS11
  obtain ⟨b0, b1⟩ := HS12.out.b2
  go_wp2_with fail
  refine (samec_same _ _ I1 _ (by have := HLEN.out.2.1; omega) HL2_12.out.at HL8_12.out.at).mono ?_
  rintro e V13 ⟨rfl, hg⟩
  have HG13 := hide hg
  clear hg
  have HS13 := hide (HS12.out.below HG13.out)
  have HL1_13 := hide (HL1_12.out.below HG13.out)
  clear HL1_12
  have HL2_13 := hide (HL2_12.out.below HG13.out)
  clear HL2_12
  have HL3_13 := hide (HL3_12.out.below HG13.out)
  clear HL3_12
  have HL4_13 := hide (HL4_12.out.below HG13.out)
  clear HL4_12
  have HL5_13 := hide (HL5_12.out.below HG13.out)
  clear HL5_12
  have HL6_13 := hide (HL6_12.out.below HG13.out)
  clear HL6_12
  have HL8_13 := hide (HL8_12.out.below HG13.out)
  clear HL8_12
  have HL10_13 := hide (HL10_12.out.below HG13.out)
  clear HL10_12
  have HZ13 : Hid (V12.heap.size ≤ V13.heap.size) := HG13.out.size
  clear b0 b1 HG13 HS12
  obtain ⟨b0, b1⟩ := HS13.out.b2
  go_wp2_with fail
  refine (samec_same _ _ I1 _ (by have := HLEN.out.2.1; omega) HL5_13.out.at HL8_13.out.at).mono ?_
  rintro e V14 ⟨rfl, hg⟩
  have HG14 := hide hg
  clear hg
  have HS14 := hide (HS13.out.below HG14.out)
  have HL1_14 := hide (HL1_13.out.below HG14.out)
  clear HL1_13
  have HL2_14 := hide (HL2_13.out.below HG14.out)
  clear HL2_13
  have HL3_14 := hide (HL3_13.out.below HG14.out)
  clear HL3_13
  have HL4_14 := hide (HL4_13.out.below HG14.out)
  clear HL4_13
  have HL5_14 := hide (HL5_13.out.below HG14.out)
  clear HL5_13
  have HL6_14 := hide (HL6_13.out.below HG14.out)
  clear HL6_13
  have HL8_14 := hide (HL8_13.out.below HG14.out)
  clear HL8_13
  have HL10_14 := hide (HL10_13.out.below HG14.out)
  clear HL10_13
  have HZ14 : Hid (V13.heap.size ≤ V14.heap.size) := HG14.out.size
  clear b0 b1 HG14 HS13
  obtain ⟨b0, b1⟩ := HS14.out.b2
  go_wp2_with fail
  refine (samec_same _ _ I2 _ (by have := HLEN.out.2.2; omega) HL3_14.out.at HL10_14.out.at).mono ?_
  rintro e V15 ⟨rfl, hg⟩
  have HG15 := hide hg
  clear hg
  have HS15 := hide (HS14.out.below HG15.out)
  have HL1_15 := hide (HL1_14.out.below HG15.out)
  clear HL1_14
  have HL2_15 := hide (HL2_14.out.below HG15.out)
  clear HL2_14
  have HL3_15 := hide (HL3_14.out.below HG15.out)
  clear HL3_14
  have HL4_15 := hide (HL4_14.out.below HG15.out)
  clear HL4_14
  have HL5_15 := hide (HL5_14.out.below HG15.out)
  clear HL5_14
  have HL6_15 := hide (HL6_14.out.below HG15.out)
  clear HL6_14
  have HL8_15 := hide (HL8_14.out.below HG15.out)
  clear HL8_14
  have HL10_15 := hide (HL10_14.out.below HG15.out)
  clear HL10_14
  have HZ15 : Hid (V14.heap.size ≤ V15.heap.size) := HG15.out.size
  clear b0 b1 HG15 HS14
  obtain ⟨b0, b1⟩ := HS15.out.b2
  have HPK : Hid (∀ W, LSc w vA vB (.slice a1 n c1) (.slice a2 k c2) ga gb ca cb la lb W → ChR W (.slice (some ⟨ga, 0, none⟩) n1 ca) (la ++ [bhC]) ∧ ChR W (.slice (some ⟨gb, 0, none⟩) k1 cb) (lb ++ [bhC])) := fun W h => by
    have h1 := h.pa.at
    have h2 := h.pb.at
    rw [← HN.out.1, ← HN1.out] at h1
    rw [← HN.out.2, ← HK1.out] at h2
    exact ⟨h1, h2⟩
  go_wp2_with fail
  refine (keptc_any _ _ la _ (HPK.out _ HS15.out).1 (HRA.out.below HS15.out.hb) (by have := HUN.out; omega)).mono ?_
  rintro e V16 ⟨rfl, hg⟩
  have HG16 := hide hg
  clear hg
  have HS16 := hide (HS15.out.below HG16.out)
  have HL1_16 := hide (HL1_15.out.below HG16.out)
  clear HL1_15
  have HL2_16 := hide (HL2_15.out.below HG16.out)
  clear HL2_15
  have HL3_16 := hide (HL3_15.out.below HG16.out)
  clear HL3_15
  have HL4_16 := hide (HL4_15.out.below HG16.out)
  clear HL4_15
  have HL5_16 := hide (HL5_15.out.below HG16.out)
  clear HL5_15
  have HL6_16 := hide (HL6_15.out.below HG16.out)
  clear HL6_15
  have HL8_16 := hide (HL8_15.out.below HG16.out)
  clear HL8_15
  have HL10_16 := hide (HL10_15.out.below HG16.out)
  clear HL10_15
  have HZ16 : Hid (V15.heap.size ≤ V16.heap.size) := HG16.out.size
  clear b0 b1 HG16 HS15
  obtain ⟨b0, b1⟩ := HS16.out.b2
  go_wp2_with fail
  refine (keptc_any _ _ lb _ (HPK.out _ HS16.out).2 (HRB.out.below HS16.out.hb) (by have := HUN.out; omega)).mono ?_
  rintro e V17 ⟨rfl, hg⟩
  have HG17 := hide hg
  clear hg
  have HS17 := hide (HS16.out.below HG17.out)
  have HL1_17 := hide (HL1_16.out.below HG17.out)
  clear HL1_16
  have HL2_17 := hide (HL2_16.out.below HG17.out)
  clear HL2_16
  have HL3_17 := hide (HL3_16.out.below HG17.out)
  clear HL3_16
  have HL4_17 := hide (HL4_16.out.below HG17.out)
  clear HL4_16
  have HL5_17 := hide (HL5_16.out.below HG17.out)
  clear HL5_16
  have HL6_17 := hide (HL6_16.out.below HG17.out)
  clear HL6_16
  have HL8_17 := hide (HL8_16.out.below HG17.out)
  clear HL8_16
  have HL10_17 := hide (HL10_16.out.below HG17.out)
  clear HL10_16
  have HZ17 : Hid (V16.heap.size ≤ V17.heap.size) := HG17.out.size
  clear b0 b1 HG17 HS16
  obtain ⟨b0, b1⟩ := HS17.out.b2
  have hap := aps_five U.heap.size (fun j => if j = 0 then .slice x1 D1.length d1 else if j = 1 then .slice x2 I1.length d2 else if j = 2 then .slice x3 I2.length d3 else if j = 3 then .slice x4 D1.length d4 else .slice x5 I1.length d5) (fun j => if j = 0 then D1 else if j = 1 then I1 else if j = 2 then I2 else if j = 3 then D1 else I1) (fun j => if j = 0 then U.heap.size else if j = 1 then V1.heap.size else if j = 2 then V2.heap.size else if j = 3 then V3.heap.size else if j = 4 then V4.heap.size else V5.heap.size) V17 (fun j hj => by match j, hj with | 0, _ => exact HL1_17.out.mono (Nat.le_refl _) | 1, _ => exact HL2_17.out.mono (HZ1.out) | 2, _ => exact HL3_17.out.mono (Nat.le_trans HZ1.out HZ2.out) | 3, _ => exact HL4_17.out.mono (Nat.le_trans HZ1.out (Nat.le_trans HZ2.out HZ3.out)) | 4, _ => exact HL5_17.out.mono (Nat.le_trans HZ1.out (Nat.le_trans HZ2.out (Nat.le_trans HZ3.out HZ4.out)))) (fun j hj => by match j, hj with | 0, _ => exact HKB1.out | 1, _ => exact HKB2.out | 2, _ => exact HKB3.out | 3, _ => exact HKB4.out | 4, _ => exact HKB5.out) (fun i j hij hj => by have := HZ1.out; have := HZ2.out; have := HZ3.out; have := HZ4.out; have := HZ5.out; have hi5 : i ≤ 5 := (by omega); match i, j, hi5, hij, hj with | 0, 0, _, _, _ => simp; try omega | 0, 1, _, _, _ => simp; try omega | 0, 2, _, _, _ => simp; try omega | 0, 3, _, _, _ => simp; try omega | 0, 4, _, _, _ => simp; try omega | 0, 5, _, _, _ => simp; try omega | 1, 1, _, _, _ => simp; try omega | 1, 2, _, _, _ => simp; try omega | 1, 3, _, _, _ => simp; try omega | 1, 4, _, _, _ => simp; try omega | 1, 5, _, _, _ => simp; try omega | 2, 2, _, _, _ => simp; try omega | 2, 3, _, _, _ => simp; try omega | 2, 4, _, _, _ => simp; try omega | 2, 5, _, _, _ => simp; try omega | 3, 3, _, _, _ => simp; try omega | 3, 4, _, _, _ => simp; try omega | 3, 5, _, _, _ => simp; try omega | 4, 4, _, _, _ => simp; try omega | 4, 5, _, _, _ => simp; try omega | 5, 5, _, _, _ => simp; try omega)
  have hsa : LSc w vA vB (.slice a1 n c1) (.slice a2 k c2) ga gb ca cb la lb (V17.alloc (.cells #[.slice x1 D1.length d1, .slice x2 I1.length d2, .slice x3 I2.length d3, .slice x4 D1.length d4, .slice x5 I1.length d5] 23)) := HS17.out.below (below_new V17 _)
  have hus : U.heap.size ≤ (V17.alloc (.cells #[.slice x1 D1.length d1, .slice x2 I1.length d2, .slice x3 I2.length d3, .slice x4 D1.length d4, .slice x5 I1.length d5] 23)).heap.size := by have h9 := (below_new V17 (.cells #[.slice x1 D1.length d1, .slice x2 I1.length d2, .slice x3 I2.length d3, .slice x4 D1.length d4, .slice x5 I1.length d5] 23)).size; have := HZ1.out; have := HZ2.out; have := HZ3.out; have := HZ4.out; have := HZ5.out; have := HZ6.out; have := HZ7.out; have := HZ8.out; have := HZ9.out; have := HZ10.out; have := HZ11.out; have := HZ12.out; have := HZ13.out; have := HZ14.out; have := HZ15.out; have := HZ16.out; have := HZ17.out; omega
  have HAT := hide (apart_any U.heap.size V17.heap.size 5 5 _ _ _ (by omega) (fun j hj => by have := HLEN.out; match j, hj with | 0, _ => show D1.length ≤ _; omega | 1, _ => show I1.length ≤ _; omega | 2, _ => show I2.length ≤ _; omega | 3, _ => show D1.length ≤ _; omega | 4, _ => show I1.length ≤ _; omega) hap hus)
  have HSA := hide hsa
  have HUZ := hide hus
  clear hap hsa hus HL1_17 HL2_17 HL3_17 HL4_17 HL5_17 HL6_17 HL8_17 HL10_17
  go_wp2_with fail
  refine HAT.out.mono ?_
  rintro e U3 ⟨rfl, hbut⟩
  have HS20 : Hid (LSc w vA vB (.slice a1 n c1) (.slice a2 k c2) ga gb ca cb la lb U3) := HSA.out.under U.heap.size HUS.out.1 HUS.out.2.1 HUS.out.2.2 (hbut.below HUZ.out)
  clear hbut HSA HAT HS17 b0 b1
  go_wp2_with fail
  refine (HOT.out U3 HS20.out).mono ?_
  rintro e V20 ⟨rfl, hs⟩
  have HS20b := hide hs
  clear hs HS20
  obtain ⟨b0, b1⟩ := HS20b.out.b2
  go_wp2_with fail
  have HS20 := hide HS20b.out
  clear HS20b
  refine (HIO.out _ HS20.out).mono ?_
  rintro e V21 ⟨x21, d21, rfl, ho, hg⟩
  have HG21 := hide hg
  have HL21 := hide ho
  clear hg ho
  have HS21 := hide (HS20.out.below HG21.out)
  have HZ21 : Hid (V20.heap.size ≤ V21.heap.size) := HG21.out.size
  have HKB21 : Hid (∀ q, (Value.slice x21 I3.length d21).ownBlock = some q → V20.heap.size ≤ q ∧ q < V21.heap.size) := fun q hq => HL21.out.blk q hq
  clear b0 b1 HG21 HS20
  obtain ⟨b0, b1⟩ := HS21.out.b2
  go_wp2_with fail
  go_region_held3 (fun w' => w'.cell? ⟨w.heap.size, 2, none⟩ = some (.slice a1 n c1)) (go_keep)
    ((go_at_call 17; refine (HLO.out _ ?_).mono ?_; (first | exact HS21.out | exact HS21.out.below (Below.refl _ _).drew | exact HS21.out.below (below_drewN' (Below.refl _ _) _)); rintro e V22 ⟨x22, d22, rfl, ho, hg⟩; have HG22 : Hid (Below V21.heap.size V21 V22) := ⟨hg.os, hg.tape, hg.output, hg.size, hg.block⟩; have HL22 : Hid (ChO V22 V21.heap.size (.slice x22 D3.length d22) D3) := ho; have z0 := cell_bel HG22.out b0; clear hg ho))
  clear z0
  have HS22 := hide (HS21.out.below HG22.out)
  have HL21_22 := hide (HL21.out.below HG22.out)
  clear HL21
  have HZ22 : Hid (V21.heap.size ≤ V22.heap.size) := HG22.out.size
  have HKB22 : Hid (∀ q, (Value.slice x22 D3.length d22).ownBlock = some q → V21.heap.size ≤ q ∧ q < V22.heap.size) := fun q hq => HL22.out.blk q hq
  clear b0 b1 HG22 HS21
  obtain ⟨b0, b1⟩ := HS22.out.b2
  go_upto_region 20 with fail
  go_cut [14, 15] (fun q1 q2 wx => ∃ xr dr, q1 = .slice xr D3.length dr ∧ q2 = .int .i64 F3 ∧ ChO wx V22.heap.size (.slice xr D3.length dr) D3 ∧ Below V22.heap.size V22 wx)
  case first =>
    go_region_held3 (fun w' => w'.cell? ⟨w.heap.size, 2, none⟩ = some (.slice a1 n c1) ∧ w'.cell? ⟨w.heap.size, 3, none⟩ = some (.slice a2 k c2)) (go_keep)
      (first
        | (have qo := HO; have qb := HPB; clear qo qb; go_at_call 19; refine (HRO.out _ _ _ HO.out.at HPB.out.at).mono ?_; rintro e wn ⟨xr, dr, rfl, ho, hg⟩; have HLR : Hid (ChO wn V22.heap.size (.slice xr D3.length dr) D3) := ho.mono HGC.out.size; have HGN : Hid (Below V22.heap.size V22 wn) := Below.next HGC.out ⟨hg.os, hg.tape, hg.output, hg.size, hg.block⟩; clear HGC; have HGC := HGN; clear HGN; have v0 := cell_bel HGC.out b0; have v1 := cell_bel HGC.out b1; clear hg ho)
        | (have qa := HPA; have qb := HPB; clear qa qb; go_at_call 22; refine (HOP.out _ V22.heap.size _ _ HPA.out).mono ?_; rintro e wn ⟨rfl, ho, hg⟩; have HO : Hid (ChO wn V22.heap.size (.slice xA n dA) (othC la n)) := ho; have HQ : Hid (ChO wn V22.heap.size (.slice xB k dB) lb) := cho_same HPB.out (fun q hq => hg.block q (HPB.out.blk q hq).2 (fun e => HNE.out q e.symm hq)); clear HPB; have HPB := HQ; clear HQ; have HGN : Hid (Below V22.heap.size V22 wn) := HGC.out.grown hg HGC.out.size (fun q hq => (HPA.out.blk q hq).1); clear HGC; have HGC := HGN; clear HGN; clear HPA; have t0 := cell_bel HGC.out b0; have t1 := cell_bel HGC.out b1; clear hg ho)
        | (have qa := HPA; clear qa; go_at_call 22; refine (HOP.out _ V22.heap.size _ _ HPA.out).mono ?_; rintro e wn ⟨rfl, ho, hg⟩; have HO : Hid (ChO wn V22.heap.size (.slice xA n dA) (othC la n)) := ho; have HGN : Hid (Below V22.heap.size V22 wn) := HGC.out.grown hg HGC.out.size (fun q hq => (HPA.out.blk q hq).1); clear HGC; have HGC := HGN; clear HGN; clear HPA; have t0 := cell_bel HGC.out b0; have t1 := cell_bel HGC.out b1; clear hg ho)
        | (have qo := HO; clear qo; go_at_call_of 15 (Value.slice a2 k c2); refine ((HPP.out _ ?_).2).mono ?_; exact (HS22.out.below HGC.out).hb; rintro e wn ⟨xB, dB, rfl, ho, hg⟩; have HPB : Hid (ChO wn V22.heap.size (.slice xB k dB) lb) := ho.mono HGC.out.size; have HQ : Hid (ChO wn V22.heap.size (.slice xA n dA) (othC la n)) := HO.out.below ⟨hg.os, hg.tape, hg.output, hg.size, hg.block⟩; clear HO; have HO := HQ; clear HQ; have HGN : Hid (Below V22.heap.size V22 wn) := Below.next HGC.out ⟨hg.os, hg.tape, hg.output, hg.size, hg.block⟩; clear HGC; have HGC := HGN; clear HGN; have u0 := cell_bel HGC.out b0; have u1 := cell_bel HGC.out b1; clear hg ho)
        | (have qa := HPA; clear qa; go_at_call_of 15 (Value.slice a2 k c2); refine ((HPP.out _ ?_).2).mono ?_; exact (HS22.out.below HGC.out).hb; rintro e wn ⟨xB, dB, rfl, ho, hg⟩; have HNE : Hid (∀ q, (Value.slice xA n dA).ownBlock = some q → (Value.slice xB k dB).ownBlock ≠ some q) := fun q h1 h2 => Nat.lt_irrefl _ (Nat.lt_of_lt_of_le (HPA.out.blk q h1).2 (ho.blk q h2).1); have HPB : Hid (ChO wn V22.heap.size (.slice xB k dB) lb) := ho.mono HGC.out.size; have HQ : Hid (ChO wn V22.heap.size (.slice xA n dA) la) := HPA.out.below ⟨hg.os, hg.tape, hg.output, hg.size, hg.block⟩; clear HPA; have HPA := HQ; clear HQ; have HGN : Hid (Below V22.heap.size V22 wn) := Below.next HGC.out ⟨hg.os, hg.tape, hg.output, hg.size, hg.block⟩; clear HGC; have HGC := HGN; clear HGN; have y0 := cell_bel HGC.out b0; have y1 := cell_bel HGC.out b1; clear hg ho)
        | (have qa := HPB; clear qa; go_at_call_of 15 (Value.slice a1 n c1); refine ((HPP.out _ ?_).1).mono ?_; exact (HS22.out.below HGC.out).hb; rintro e wn ⟨xA, dA, rfl, ho, hg⟩; have HNE : Hid (∀ q, (Value.slice xA n dA).ownBlock = some q → (Value.slice xB k dB).ownBlock ≠ some q) := fun q h1 h2 => Nat.lt_irrefl _ (Nat.lt_of_lt_of_le (HPB.out.blk q h2).2 (ho.blk q h1).1); have HPA : Hid (ChO wn V22.heap.size (.slice xA n dA) la) := ho.mono HGC.out.size; have HQ : Hid (ChO wn V22.heap.size (.slice xB k dB) lb) := HPB.out.below ⟨hg.os, hg.tape, hg.output, hg.size, hg.block⟩; clear HPB; have HPB := HQ; clear HQ; have HGN : Hid (Below V22.heap.size V22 wn) := Below.next HGC.out ⟨hg.os, hg.tape, hg.output, hg.size, hg.block⟩; clear HGC; have HGC := HGN; clear HGN; have y0 := cell_bel HGC.out b0; have y1 := cell_bel HGC.out b1; clear hg ho)
        | (go_at_call_of 15 (Value.slice a2 k c2); refine ((HPP.out _ ?_).2).mono ?_; (first | exact HS22.out.hb | exact (HS22.out.below (Below.refl _ _).drew).hb | exact (HS22.out.below (below_drewN' (Below.refl _ _) _)).hb); rintro e wn ⟨xB, dB, rfl, ho, hg⟩; have HGC : Hid (Below V22.heap.size V22 wn) := ⟨hg.os, hg.tape, hg.output, hg.size, hg.block⟩; have HPB : Hid (ChO wn V22.heap.size (.slice xB k dB) lb) := ho; have z0 := cell_bel HGC.out b0; have z1 := cell_bel HGC.out b1; clear hg ho)
        | (go_at_call_of 15 (Value.slice a1 n c1); refine ((HPP.out _ ?_).1).mono ?_; (first | exact HS22.out.hb | exact (HS22.out.below (Below.refl _ _).drew).hb | exact (HS22.out.below (below_drewN' (Below.refl _ _) _)).hb); rintro e wn ⟨xA, dA, rfl, ho, hg⟩; have HGC : Hid (Below V22.heap.size V22 wn) := ⟨hg.os, hg.tape, hg.output, hg.size, hg.block⟩; have HPA : Hid (ChO wn V22.heap.size (.slice xA n dA) la) := ho; have z0 := cell_bel HGC.out b0; have z1 := cell_bel HGC.out b1; clear hg ho))
    all_goals
      go_wp2_with fail
      go_meet
      exact ⟨xr, dr, rfl, rfl, HLR.out, HGC.out⟩
  case rest =>
  obtain ⟨x23, d23, rfl, rfl, ho, hg⟩ := hcut
  have HG23 : Hid (Below V22.heap.size V22 wc) := hg
  have HL23 := hide ho
  generalize wc = V23 at *
  clear hg ho
  have HS23 := hide (HS22.out.below HG23.out)
  have HL21_23 := hide (HL21_22.out.below HG23.out)
  clear HL21_22
  have HL22_23 := hide (HL22.out.below HG23.out)
  clear HL22
  have HZ23 : Hid (V22.heap.size ≤ V23.heap.size) := HG23.out.size
  have HKB23 : Hid (∀ q, (Value.slice x23 D3.length d23).ownBlock = some q → V22.heap.size ≤ q ∧ q < V23.heap.size) := fun q hq => HL23.out.blk q hq
  clear b0 b1 HG23 HS22
  obtain ⟨b0, b1⟩ := HS23.out.b2
  go_wp2_with fail
  refine ((HPP.out _ HS23.out.hb).1).mono ?_
  rintro e Vt ⟨xt, dt, rfl, ho, hg⟩
  have HGt : Hid (Below V23.heap.size V23 Vt) := hg
  have HLt : Hid (ChO Vt V23.heap.size (.slice xt n dt) la) := ho
  clear hg ho
  go_wp2_with fail
  refine (HOP.out _ _ _ _ HLt.out).mono ?_
  rintro e V24 ⟨rfl, ho, hg⟩
  have HO := hide ho
  have HG24 : Hid (Below V23.heap.size V23 V24) := HGt.out.grown hg HGt.out.size (fun q hq => (HLt.out.blk q hq).1)
  clear hg ho HGt HLt
  have HS24 := hide (HS23.out.below HG24.out)
  have HL21_24 := hide (HL21_23.out.below HG24.out)
  clear HL21_23
  have HL22_24 := hide (HL22_23.out.below HG24.out)
  clear HL22_23
  have HL23_24 := hide (HL23.out.below HG24.out)
  clear HL23
  have HZ24 : Hid (V23.heap.size ≤ V24.heap.size) := HG24.out.size
  clear b0 b1 HG24 HS23
  obtain ⟨b0, b1⟩ := HS24.out.b2
  go_wp2_with fail
  refine (HRK.out _ _ HO.out.at).mono ?_
  rintro e V25 ⟨x25, d25, rfl, ho, hg⟩
  have HG25 := hide hg
  have HL25 := hide ho
  clear hg ho
  have HS25 := hide (HS24.out.below HG25.out)
  have HL21_25 := hide (HL21_24.out.below HG25.out)
  clear HL21_24
  have HL22_25 := hide (HL22_24.out.below HG25.out)
  clear HL22_24
  have HL23_25 := hide (HL23_24.out.below HG25.out)
  clear HL23_24
  have HZ25 : Hid (V24.heap.size ≤ V25.heap.size) := HG25.out.size
  have HKB25 : Hid (∀ q, (Value.slice x25 I3.length d25).ownBlock = some q → V24.heap.size ≤ q ∧ q < V25.heap.size) := fun q hq => HL25.out.blk q hq
  clear b0 b1 HG25 HS24
  obtain ⟨b0, b1⟩ := HS25.out.b2
  go_wp2_with fail
  have hf3 : (F3 == F3) = true := by simp
  refine (HNU3.out _ HS25.out.hb).mono ?_
  rintro e Vz ⟨rfl, rfl⟩
  go_wp2_with fail
  refine (samec_same _ _ D3 _ (by have := HD3.out.1; omega) HL22_25.out.at HL23_25.out.at).mono ?_
  rintro e V26 ⟨rfl, hg⟩
  have HG26 := hide hg
  clear hg
  have HS26 := hide (HS25.out.below HG26.out)
  have HL21_26 := hide (HL21_25.out.below HG26.out)
  clear HL21_25
  have HL22_26 := hide (HL22_25.out.below HG26.out)
  clear HL22_25
  have HL23_26 := hide (HL23_25.out.below HG26.out)
  clear HL23_25
  have HL25_26 := hide (HL25.out.below HG26.out)
  clear HL25
  have HZ26 : Hid (V25.heap.size ≤ V26.heap.size) := HG26.out.size
  clear b0 b1 HG26 HS25
  obtain ⟨b0, b1⟩ := HS26.out.b2
  go_wp2_with fail
  refine (samec_same _ _ I3 _ (by have := HD3.out.2; omega) HL21_26.out.at HL25_26.out.at).mono ?_
  rintro e V27 ⟨rfl, hg⟩
  have HG27 := hide hg
  clear hg
  have HS27 := hide (HS26.out.below HG27.out)
  have HL21_27 := hide (HL21_26.out.below HG27.out)
  clear HL21_26
  have HL22_27 := hide (HL22_26.out.below HG27.out)
  clear HL22_26
  have HL23_27 := hide (HL23_26.out.below HG27.out)
  clear HL23_26
  have HL25_27 := hide (HL25_26.out.below HG27.out)
  clear HL25_26
  have HZ27 : Hid (V26.heap.size ≤ V27.heap.size) := HG27.out.size
  clear b0 b1 HG27 HS26
  obtain ⟨b0, b1⟩ := HS27.out.b2
  go_wp2
  go_ret
  exact ⟨rfl, HS27.out.hb⟩
end Go.Proofs.YthnidlhcpelomaaDoor
