import Derived.Test.YthnidlhcpelomaaDoorDLs1
import Derived.Deep.DeepCutAuto
import Derived.Deep.CutBlock
namespace Go.Proofs.YthnidlhcpelomaaDoor
open Go.RowKit
attribute [local go_sem ↓] Go.wp_at_zero Go.wp_at_succ

/-- One more behind a new list of the same pairs. -/
theorem more_one (base : Nat) (v : Value) (l : List Pr) (W : World) (hp : PrO W base v l) (hn : l.length ≤ 1048576) (hbase : base ≤ W.heap.size) :
    ∃ g c W', (Builtin.append_ #[22, 22] 22 #[v, .slice (some ⟨W.heap.size, 0, none⟩) 1 1]).run Tryd.prog (W.alloc (.cells #[.string behindB, .string behindB] 28)) = .ok (.slice (some ⟨g, 0, none⟩) (l.length + 1) c) W' ∧ PrO W' base (.slice (some ⟨g, 0, none⟩) (l.length + 1) c) (l ++ [bhP]) ∧ l.length + 1 ≤ c ∧ Below base W W' ∧ g < W'.heap.size := by
  obtain ⟨a', c', W', hrun, hown, hgr⟩ := push_prs' base v l bhP 28 W l.length rfl hp (by omega) hbase
  have hrun' : (Builtin.append_ #[22, 22] 22 #[v, .slice (some ⟨W.heap.size, 0, none⟩) 1 1]).run Tryd.prog (W.alloc (.cells #[.string behindB, .string behindB] 28)) = .ok (.slice a' (l.length + 1) c') W' := hrun
  have hb : Below base W W' := by
    have h1 : Below base W (W.alloc (.cells #[.string behindB, .string behindB] 28)) := (Below.refl base W).alloc hbase _
    exact h1.grown hgr (Nat.le_trans hbase (below_new W _).size) (fun k hk => (World.ownsRow.lt hp k hk).1)
  rcases hown.2 with ⟨h, _⟩ | ⟨g, cap, cur, h, h1, h2, h3, _⟩
  · have := congrArg (fun v => match v with | Value.slice _ n _ => n | _ => 0) h
    simp at this
  · have hl : (l ++ [bhP]).length = l.length + 1 := by simp
    rw [hl] at h h3
    cases h
    exact ⟨g, c', W', hrun', hown, h3, hb, (Array.getElem?_eq_some_iff.1 h2).1⟩
theorem othA_ok (l : List Pr) (q : Nat) (h1 : OkL l) (h2 : ∀ p ∈ l, p.2.size ≤ 1048576) : OkL (othA l q) := fun p hp => by
  unfold othA at hp
  obtain ⟨j, hj, rfl⟩ := List.mem_mapIdx.1 hp
  have hm := List.getElem_mem hj
  split
  · refine ⟨(h1 _ hm).1, ?_⟩
    have := h2 _ hm
    unfold zP
    rw [ByteArray.size_append]
    show _ + 1 ≤ _
    omega
  · exact h1 _ hm
set_option maxHeartbeats 1000000 in
theorem other_zero (x : Option Addr) (c : Nat) (w : World) : Calls Tryd.prog 14 #[.slice x 0 c] w fun e w' => e = .returned (.slice x 0 c) ∧ w = w' := by
  go_enter Tryd.func14, Tryd.ntmps14
  go_wp2
  go_loopw [3] (fun i wr => i = .int .i64 0 ∧ w = wr) (fun _ _ => 0)
  case atStart => exact ⟨rfl, rfl⟩
  case round =>
    obtain ⟨rfl, rfl⟩ := hrel
    go_wp2
    go_ret
    exact ⟨rfl, rfl⟩
/-- Every second value is another one: any list of the call's own. -/
theorem other_own (base n c : Nat) (x : Option Addr) (l : List Pr) (w : World) (hn : n = l.length) (hown : PrO w base (.slice x n c) l) (hm : n ≤ 1048576) (hok : ∀ p ∈ l, p.2.size ≤ 1048576) :
    Calls Tryd.prog 14 #[.slice x n c] w fun e w' => e = .returned (.slice x n c) ∧ PrO w' base (.slice x n c) (othA l n) ∧ w.grownBy w' (Value.slice x n c).ownBlock := by
  rcases hown.2 with ⟨h, h0⟩ | ⟨g, cap, cur, h, _⟩
  · cases h
    have hl : l = [] := List.length_eq_zero_iff.1 hn.symm
    subst hl
    refine (other_zero none 0 w).mono ?_
    rintro e w' ⟨rfl, rfl⟩
    exact ⟨rfl, by simpa [othA] using hown, rfl, rfl, rfl, Nat.le_refl _, fun _ _ _ => rfl⟩
  · cases h
    have hown' : PrO w base (.slice (some ⟨g, 0, none⟩) (l ++ []).length c) (l ++ []) := by simpa [hn] using hown
    refine (other_any base g l.length c l [] w rfl hown' (by omega) (fun p hp => Nat.le_trans (hok p hp) (by decide))).mono ?_
    rintro e w' ⟨rfl, hp, hs⟩
    refine ⟨rfl, by simpa using hp, hs.os, hs.tape, hs.output, hs.size, fun k hk hne => hs.block k hk (fun e => hne (by rw [e]; rfl))⟩
/-- Three lists in one row. -/
theorem aps_three (base : Nat) (S0 S1 S2 : Value) (D0 D1 D2 : List Ch) (w : World) (B1 B2 : Nat) (h0 : ChO w base S0 D0) (h1 : ChO w base S1 D1) (h2 : ChO w base S2 D2) (k0 : ∀ q, S0.ownBlock = some q → q < B1) (k1 : ∀ q, S1.ownBlock = some q → B1 ≤ q ∧ q < B2) (k2 : ∀ q, S2.ownBlock = some q → B2 ≤ q) (hB : B1 ≤ B2) :
    ApS base w.heap.size 3 (fun j => if j = 0 then S0 else if j = 1 then S1 else S2) (fun j => if j = 0 then D0 else if j = 1 then D1 else D2) (w.alloc (.cells #[S0, S1, S2] 23)) := by
  have hb := below_new w (.cells #[S0, S1, S2] 23)
  have hbx := boxed_new w #[S0, S1, S2] 23
  refine ⟨fun j hj => ?_, fun j hj => ?_, ⟨_, heap_alloc_new w _, rfl⟩, fun i j q hi hj hne h1' h2' => ?_⟩
  · match j, hj with
    | 0, _ => exact h0.below hb
    | 1, _ => exact h1.below hb
    | 2, _ => exact h2.below hb
  · match j, hj with
    | 0, _ => exact hbx.2 0 (by simp)
    | 1, _ => exact hbx.2 1 (by simp)
    | 2, _ => exact hbx.2 2 (by simp)
  · match i, j, hi, hj, hne with
    | 0, 0, _, _, h => exact h rfl
    | 1, 1, _, _, h => exact h rfl
    | 2, 2, _, _, h => exact h rfl
    | 0, 1, _, _, _ => have a := k0 q h1'; have b := (k1 q h2').1; omega
    | 1, 0, _, _, _ => have a := k0 q h2'; have b := (k1 q h1').1; omega
    | 0, 2, _, _, _ => have a := k0 q h1'; have b := k2 q h2'; omega
    | 2, 0, _, _, _ => have a := k0 q h2'; have b := k2 q h1'; omega
    | 1, 2, _, _, _ => have a := (k1 q h1').2; have b := k2 q h2'; omega
    | 2, 1, _, _, _ => have a := (k1 q h2').2; have b := k2 q h1'; omega
set_option maxRecDepth 100000 in
set_option maxHeartbeats 16000000 in
theorem dlists_any (A : Nat → Addr) (vA vB vL vM : Value) (la lb : List Pr) (w : World) (hE : ErrsG 13 gAll A w) (rA : PrR w vA la) (rB : PrR w vB lb) (oA : OkL la) (oB : OkL lb) (sA : ∀ p ∈ la, p.2.size ≤ 1048576) (nA : la.length ≤ 1048576) (nB : lb.length ≤ 1048576) :
    Calls Tryd.prog 3 #[.agg #[vA, vB, vL, vM]] w fun e w' => e = .returned (.bool true) ∧ Below w.heap.size w w' := by
  obtain ⟨a1, c1, rfl⟩ : ∃ a c, vA = .slice a la.length c := by obtain ⟨x, y, h, _⟩ := rA; exact ⟨x, y, h⟩
  obtain ⟨a2, c2, rfl⟩ : ∃ a c, vB = .slice a lb.length c := by obtain ⟨x, y, h, _⟩ := rB; exact ⟨x, y, h⟩
  have HE := hide hE
  have HRA := hide rA
  have HRB := hide rB
  have HOK : Hid (OkL la ∧ OkL lb ∧ ∀ p ∈ la, p.2.size ≤ 1048576) := ⟨oA, oB, sA⟩
  obtain ⟨n, hn⟩ : ∃ n, n = la.length := ⟨_, rfl⟩
  obtain ⟨k, hk⟩ : ∃ k, k = lb.length := ⟨_, rfl⟩
  rw [← hn] at HRA nA ⊢
  rw [← hk] at HRB nB ⊢
  have HN : Hid (n = la.length ∧ k = lb.length) := ⟨hn, hk⟩
  -- the box
  obtain ⟨W1, hW1⟩ : ∃ W1, w.alloc (.cells #[.slice a1 n c1, .slice a2 k c2, vL, vM] 25) = W1 := ⟨_, rfl⟩
  have q1 : Below w.heap.size w W1 := by rw [← hW1]; exact below_new w _
  have x1 : W1.heap[w.heap.size]? = some (.cells #[.slice a1 n c1, .slice a2 k c2, vL, vM] 25 (0, 0)) := by rw [← hW1]; exact heap_alloc_new w _
  have b0 : W1.cell? ⟨w.heap.size, 0, none⟩ = some (.slice a1 n c1) := by rw [cell_of_row _ _ _ _ _ _ x1]; rfl
  have b1 : W1.cell? ⟨w.heap.size, 1, none⟩ = some (.slice a2 k c2) := by rw [cell_of_row _ _ _ _ _ _ x1]; rfl
  have HB1 := hide q1
  have HX1 := hide x1
  have HW1 := hide hW1
  have HPA := hide (lpairs_any (.slice a1 n c1) la W1 (HRA.out.below q1) (by omega))
  have HLP := hide (fun W => lastp_any W)
  clear hE rA rB oA oB sA hn hk q1 x1 hW1
  go_enter Tryd.func3, Tryd.ntmps3
  go_wp2_with fail
  rw [HW1.out]
  go_wp2_with fail
  refine HPA.out.mono ?_
  rintro e W2 ⟨va, rfl, hpa, hb2⟩
  have HPA2 := hide hpa
  have b0' := cell_bel hb2 b0
  have b1' := cell_bel hb2 b1
  have HB2 := hide hb2
  clear hpa hb2 HPA b0 b1
  go_wp2_with fail
  refine (HLP.out W2).mono ?_
  rintro e W3 ⟨rfl, hb3⟩
  obtain ⟨ga, ca, W4, hrun, hoa, hca, hb4, hga⟩ := more_one W1.heap.size va la W3 (HPA2.out.below hb3) (by have := HN.out; omega) (by have := HB2.out.size; have := hb3.size; omega)
  have hb14 : Below W1.heap.size W1 W4 := (Below.next HB2.out hb3).trans hb4
  have b0 : W4.cell? ⟨w.heap.size, 0, none⟩ = some (.slice a1 n c1) := by rw [cell_of_row _ _ _ _ _ _ ((hb14.block _ (Array.getElem?_eq_some_iff.1 HX1.out).1).trans HX1.out)]; rfl
  have b1 : W4.cell? ⟨w.heap.size, 1, none⟩ = some (.slice a2 k c2) := by rw [cell_of_row _ _ _ _ _ _ ((hb14.block _ (Array.getElem?_eq_some_iff.1 HX1.out).1).trans HX1.out)]; rfl
  rw [← HN.out.1] at hrun hca
  have hoa' : PrO W4 W1.heap.size (.slice (some ⟨ga, 0, none⟩) (n + 1) ca) (la ++ [bhP]) := by rw [HN.out.1]; exact hoa
  obtain ⟨n1, hn1⟩ : ∃ n1, n1 = n + 1 := ⟨_, rfl⟩
  rw [← hn1] at hrun hoa' hca
  have HN1 := hide hn1
  have HRUN := hide hrun
  have HOA := hide hoa'
  have HCA := hide hca
  have HB4 := hide hb14
  have HGA := hide hga
  clear hrun hoa hoa' hca hb14 hb4 hb3 hga hn1 b0' b1' HPA2 HB2
  have HPB := hide (lpairs_any (.slice a2 k c2) lb W4 (HRB.out.below (HB1.out.trans (HB4.out.mono HB1.out.size))) (by have := HN.out; omega))
  go_wp2_with (first | (at_builtin; refine wpList_append_run 22 rfl (.tmp 19) (.tmp 21) rfl rfl _ _ rfl rfl _ _ HRUN.out ?_))
  refine HPB.out.mono ?_
  rintro e W5 ⟨vb, rfl, hpb, hb5⟩
  have HPB2 := hide hpb
  have b0' := cell_bel hb5 b0
  have b1' := cell_bel hb5 b1
  have HB5 := hide hb5
  clear hpb hb5 HPB b0 b1 HRUN
  go_wp2_with fail
  refine (HLP.out W5).mono ?_
  rintro e W6 ⟨rfl, hb6⟩
  obtain ⟨gb, cb, W7, hrun, hob, hcb, hb7, hgb⟩ := more_one W4.heap.size vb lb W6 (HPB2.out.below hb6) (by have := HN.out; omega) (by have := HB5.out.size; have := hb6.size; omega)
  have hb47 : Below W4.heap.size W4 W7 := (Below.next HB5.out hb6).trans hb7
  rw [← HN.out.2] at hrun hcb
  have hob' : PrO W7 W4.heap.size (.slice (some ⟨gb, 0, none⟩) (k + 1) cb) (lb ++ [bhP]) := by rw [HN.out.2]; exact hob
  obtain ⟨k1, hk1⟩ : ∃ k1, k1 = k + 1 := ⟨_, rfl⟩
  rw [← hk1] at hrun hob' hcb
  have HK1 := hide hk1
  have HRUN := hide hrun
  have HCB := hide hcb
  have hst : LSt w (.slice a1 n c1) (.slice a2 k c2) vL vM ga gb ca cb la lb W7 := by
    have h1 := HB1.out.size
    have hb17 : Below W1.heap.size W1 W7 := Below.next HB4.out hb47
    refine ⟨Below.next HB1.out hb17, (hb17.block _ (Array.getElem?_eq_some_iff.1 HX1.out).1).trans HX1.out, ?_, ?_, ?_⟩
    · have := (HOA.out.below hb47).mono h1
      rw [HN1.out, HN.out.1] at this; exact this
    · have := hob'.mono (b2 := w.heap.size) (Nat.le_trans h1 HB4.out.size)
      rw [hk1, HN.out.2] at this; exact this
    · have h2 := (pro_blk hob').1
      have h3 := HGA.out
      omega
  have HST := hide hst
  obtain ⟨b0, b1⟩ := hst.b0
  clear hrun hob hob' hcb hb47 hb7 hb6 hgb hst hk1 b0' b1' HPB2 HB5 HOA HGA HB4 HLP
  -- the contracts
  have HUN : Hid (n = la.length ∧ k = lb.length ∧ n ≤ 1048576 ∧ k ≤ 1048576) := ⟨HN.out.1, HN.out.2, nA, nB⟩
  have HAB : Hid (∀ W, LSt w (.slice a1 n c1) (.slice a2 k c2) vL vM ga gb ca cb la lb W → Calls Tryd.prog 8 #[.slice (some ⟨ga, 0, none⟩) n ca, .slice (some ⟨gb, 0, none⟩) k cb] W fun e w' => ∃ x c, e = .returned (.tuple #[.slice x (dL la lb).length c, eL A (dR la lb)]) ∧ ChO w' W.heap.size (.slice x (dL la lb).length c) (dL la lb) ∧ Below W.heap.size W w') := fun W h => by
    rw [HN.out.1, HN.out.2]
    exact lists_u A _ _ la lb W h.ra h.rb HOK.out.1 HOK.out.2.1 (by have := HUN.out; omega) (HE.out.keep h.hb)
  have HBA : Hid (∀ W, LSt w (.slice a1 n c1) (.slice a2 k c2) vL vM ga gb ca cb la lb W → Calls Tryd.prog 8 #[.slice (some ⟨gb, 0, none⟩) k cb, .slice (some ⟨ga, 0, none⟩) n ca] W fun e w' => ∃ x c, e = .returned (.tuple #[.slice x (dL lb la).length c, eL A (dR lb la)]) ∧ ChO w' W.heap.size (.slice x (dL lb la).length c) (dL lb la) ∧ Below W.heap.size W w') := fun W h => by
    rw [HN.out.1, HN.out.2]
    exact lists_u A _ _ lb la W h.rb h.ra HOK.out.2.1 HOK.out.1 (by have := HUN.out; omega) (HE.out.keep h.hb)
  have HPP : Hid (∀ W, Below w.heap.size w W → (Calls Tryd.prog 6 #[.slice a1 n c1] W fun e w' => ∃ x c, e = .returned (.slice x n c) ∧ PrO w' W.heap.size (.slice x n c) la ∧ Below W.heap.size W w') ∧ (Calls Tryd.prog 6 #[.slice a2 k c2] W fun e w' => ∃ x c, e = .returned (.slice x k c) ∧ PrO w' W.heap.size (.slice x k c) lb ∧ Below W.heap.size W w')) := fun W h => by
    constructor
    · refine (lpairs_any _ la W (HRA.out.below h) (by have := HUN.out; omega)).mono ?_
      rintro e w' ⟨v', rfl, hp, hb⟩
      obtain ⟨x, c, rfl⟩ := hp.form
      exact ⟨x, c, by rw [HN.out.1], by rw [HN.out.1]; exact hp, hb⟩
    · refine (lpairs_any _ lb W (HRB.out.below h) (by have := HUN.out; omega)).mono ?_
      rintro e w' ⟨v', rfl, hp, hb⟩
      obtain ⟨x, c, rfl⟩ := hp.form
      exact ⟨x, c, by rw [HN.out.2], by rw [HN.out.2]; exact hp, hb⟩
  have HRL : Hid (∀ W va vb, PrR W va la → PrR W vb lb → Calls Tryd.prog 9 #[va, vb] W fun e w' => ∃ x c, e = .returned (.tuple #[.slice x (dL la lb).length c, .int .i64 (nL (dR la lb))]) ∧ ChO w' W.heap.size (.slice x (dL la lb).length c) (dL la lb) ∧ Below W.heap.size W w') := fun W va vb h1 h2 => rlists_u va vb la lb W h1 h2 (by have := HUN.out; omega)
  have HRM : Hid (∀ W va vb, PrR W va lb → PrR W vb la → Calls Tryd.prog 9 #[va, vb] W fun e w' => ∃ x c, e = .returned (.tuple #[.slice x (dL lb la).length c, .int .i64 (nL (dR lb la))]) ∧ ChO w' W.heap.size (.slice x (dL lb la).length c) (dL lb la) ∧ Below W.heap.size W w') := fun W va vb h1 h2 => rlists_u va vb lb la W h1 h2 (by have := HUN.out; omega)
  have HNU : Hid (∀ W r, Below w.heap.size w W → Calls Tryd.prog 10 #[eL A r] W fun e w' => e = .returned (.int .i64 (nL r)) ∧ W = w') := fun W r h => num_u A r W (HE.out.keep h)
  have hD3 : (dL (othA la n) lb).length ≤ 2097152 := by
    have h1 := dL_len (othA la n) lb
    rw [othA_len] at h1
    have := HUN.out
    omega
  have HOT : Hid (∀ W, LSt w (.slice a1 n c1) (.slice a2 k c2) vL vM ga gb ca cb la lb W → Calls Tryd.prog 14 #[.slice (some ⟨ga, 0, none⟩) n ca] W fun e w' => e = .returned (.slice (some ⟨ga, 0, none⟩) n ca) ∧ LSt w (.slice a1 n c1) (.slice a2 k c2) vL vM ga gb ca cb (othA la n) lb w') := fun W h => by
    have hl : (la ++ [bhP]).length = la.length + 1 := by simp
    refine (other_any w.heap.size ga n ca la [bhP] W HN.out.1 (by rw [hl]; exact h.pa) (by have := HUN.out; omega) (fun p hp => Nat.le_trans (HOK.out.2.2 p hp) (by decide))).mono ?_
    rintro e w' ⟨rfl, hp, hs⟩
    exact ⟨rfl, h.sole hs (by rw [othA_len]; rw [hl] at hp; exact hp)⟩
  have HLO : Hid (∀ W, LSt w (.slice a1 n c1) (.slice a2 k c2) vL vM ga gb ca cb (othA la n) lb W → Calls Tryd.prog 8 #[.slice (some ⟨ga, 0, none⟩) n ca, .slice (some ⟨gb, 0, none⟩) k cb] W fun e w' => ∃ x c, e = .returned (.tuple #[.slice x (dL (othA la n) lb).length c, eL A (dR (othA la n) lb)]) ∧ ChO w' W.heap.size (.slice x (dL (othA la n) lb).length c) (dL (othA la n) lb) ∧ Below W.heap.size W w') := fun W h => by
    have h1 := h.ra
    rw [othA_len, ← HN.out.1] at h1
    have h2 := h.rb
    rw [← HN.out.2] at h2
    exact lists_u A _ _ _ lb W h1 h2 (othA_ok la n HOK.out.1 HOK.out.2.2) HOK.out.2.1 (by rw [othA_len]; have := HUN.out; omega) (HE.out.keep h.hb)
  have HRO : Hid (∀ W va vb, PrR W va (othA la n) → PrR W vb lb → Calls Tryd.prog 9 #[va, vb] W fun e w' => ∃ x c, e = .returned (.tuple #[.slice x (dL (othA la n) lb).length c, .int .i64 (nL (dR (othA la n) lb))]) ∧ ChO w' W.heap.size (.slice x (dL (othA la n) lb).length c) (dL (othA la n) lb) ∧ Below W.heap.size W w') := fun W va vb h1 h2 => rlists_u va vb _ lb W h1 h2 (by rw [othA_len]; have := HUN.out; omega)
  have HOP : Hid (∀ W B x c, PrO W B (.slice x n c) la → Calls Tryd.prog 14 #[.slice x n c] W fun e w' => e = .returned (.slice x n c) ∧ PrO w' B (.slice x n c) (othA la n) ∧ W.grownBy w' (Value.slice x n c).ownBlock) := fun W B x c h => other_own B n c x la W HN.out.1 h (by have := HUN.out; omega) HOK.out.2.2
  have HNU3 : Hid (∀ W, Below w.heap.size w W → Calls Tryd.prog 10 #[eL A (dR (othA la n) lb)] W fun e w' => e = .returned (.int .i64 (nL (dR (othA la n) lb))) ∧ W = w') := fun W h => num_u A _ W (HE.out.keep h)
  have HD3 := hide hD3
  clear hD3
  generalize eL A (dR (othA la n) lb) = E3 at *
  generalize nL (dR (othA la n) lb) = F3 at *
  generalize hoD : dL (othA la n) lb = D3 at *
  clear hoD
  have HLEN : Hid ((dL la lb).length ≤ 2097152 ∧ (dL lb la).length ≤ 2097152) := by have h1 := dL_len la lb; have h2 := dL_len lb la; have := HUN.out; exact ⟨by omega, by omega⟩
  have i0 : (0 : Int) ≤ (n : Int) := by omega
  have i2 : n ≤ ca := by have := HN1.out; have := HCA.out; omega
  have i3 : (n : Int) ≤ (ca : Int) := by omega
  have j0 : (0 : Int) ≤ (k : Int) := by omega
  have j2 : k ≤ cb := by have := HK1.out; have := HCB.out; omega
  have j3 : (k : Int) ≤ (cb : Int) := by omega
  go_upto_region 3 with (first | (at_builtin; refine wpList_append_run 22 rfl (.tmp 25) (.tmp 27) rfl rfl _ _ rfl rfl _ _ HRUN.out ?_))
  clear HRUN
  go_quiet (fail)
  go_wp2_with fail
  obtain ⟨nz, hnz⟩ : ∃ nz, nz = nq := ⟨_, rfl⟩
  rw [← hnz]
  have hs0 := HST.out.below (below_drewN' (Below.refl _ W7) nz)
  have HS0 : Hid (LSt w (.slice a1 n c1) (.slice a2 k c2) vL vM ga gb ca cb la lb (W7.drewN nz)) := hs0
  generalize W7.drewN nz = U at *
  clear hs0 hnz HST b0 b1
  generalize hE1 : eL A (dR la lb) = E1 at *
  generalize hE2 : eL A (dR lb la) = E2 at *
  generalize hF1 : nL (dR la lb) = F1 at *
  generalize hF2 : nL (dR lb la) = F2 at *
  have HNU1 : Hid (∀ W, Below w.heap.size w W → Calls Tryd.prog 10 #[E1] W fun e w' => e = .returned (.int .i64 F1) ∧ W = w') := fun W h => by rw [← hE1, ← hF1]; exact HNU.out W _ h
  have HNU2 : Hid (∀ W, Below w.heap.size w W → Calls Tryd.prog 10 #[E2] W fun e w' => e = .returned (.int .i64 F2) ∧ W = w') := fun W h => by rw [← hE2, ← hF2]; exact HNU.out W _ h
  generalize hD1 : dL la lb = D1 at *
  generalize hD2 : dL lb la = D2 at *
  clear hE1 hE2 hF1 hF2 hD1 hD2
  obtain ⟨b0, b1⟩ := HS0.out.b0
  have HUS : Hid (w.heap.size ≤ U.heap.size) := HS0.out.hb.size
  go_region_held3 (fun w' => w'.cell? ⟨w.heap.size, 0, none⟩ = some (.slice a1 n c1)) (go_keep)
    ((go_at_call 8; refine (HAB.out _ ?_).mono ?_; (first | exact HS0.out | exact HS0.out.below (Below.refl _ _).drew | exact HS0.out.below (below_drewN' (Below.refl _ _) _)); rintro e V1 ⟨x1, d1, rfl, ho, hg⟩; have HG1 : Hid (Below U.heap.size U V1) := ⟨hg.os, hg.tape, hg.output, hg.size, hg.block⟩; have HL1 : Hid (ChO V1 U.heap.size (.slice x1 D1.length d1) D1) := ho; have z0 := cell_bel HG1.out b0; clear hg ho))
  have HS1 := hide (HS0.out.below HG1.out)
  have HZ1 : Hid (U.heap.size ≤ V1.heap.size) := HG1.out.size
  have HKB1 : Hid (∀ q, (Value.slice x1 D1.length d1).ownBlock = some q → U.heap.size ≤ q ∧ q < V1.heap.size) := fun q hq => HL1.out.blk q hq
  clear b0 b1 z0 HG1 HS0
  obtain ⟨b0, b1⟩ := HS1.out.b0
  go_wp2_with fail
  go_region_held3 (fun w' => w'.cell? ⟨w.heap.size, 0, none⟩ = some (.slice a1 n c1)) (go_keep)
    ((go_at_call 8; refine (HBA.out _ ?_).mono ?_; (first | exact HS1.out | exact HS1.out.below (Below.refl _ _).drew | exact HS1.out.below (below_drewN' (Below.refl _ _) _)); rintro e V2 ⟨x2, d2, rfl, ho, hg⟩; have HG2 : Hid (Below V1.heap.size V1 V2) := ⟨hg.os, hg.tape, hg.output, hg.size, hg.block⟩; have HL2 : Hid (ChO V2 V1.heap.size (.slice x2 D2.length d2) D2) := ho; have z0 := cell_bel HG2.out b0; clear hg ho))
  have HS2 := hide (HS1.out.below HG2.out)
  have HL1_2 := hide (HL1.out.below HG2.out)
  clear HL1
  have HZ2 : Hid (V1.heap.size ≤ V2.heap.size) := HG2.out.size
  have HKB2 : Hid (∀ q, (Value.slice x2 D2.length d2).ownBlock = some q → V1.heap.size ≤ q ∧ q < V2.heap.size) := fun q hq => HL2.out.blk q hq
  clear b0 b1 z0 HG2 HS1
  obtain ⟨b0, b1⟩ := HS2.out.b0
  go_wp2_with fail
  go_region_held3 (fun w' => w'.cell? ⟨w.heap.size, 0, none⟩ = some (.slice a1 n c1)) (go_keep)
    ((go_at_call 8; refine (HAB.out _ ?_).mono ?_; (first | exact HS2.out | exact HS2.out.below (Below.refl _ _).drew | exact HS2.out.below (below_drewN' (Below.refl _ _) _)); rintro e V3 ⟨x3, d3, rfl, ho, hg⟩; have HG3 : Hid (Below V2.heap.size V2 V3) := ⟨hg.os, hg.tape, hg.output, hg.size, hg.block⟩; have HL3 : Hid (ChO V3 V2.heap.size (.slice x3 D1.length d3) D1) := ho; have z0 := cell_bel HG3.out b0; clear hg ho))
  have HS3 := hide (HS2.out.below HG3.out)
  have HL1_3 := hide (HL1_2.out.below HG3.out)
  have HL2_3 := hide (HL2.out.below HG3.out)
  clear HL1_2 HL2
  have HZ3 : Hid (V2.heap.size ≤ V3.heap.size) := HG3.out.size
  have HKB3 : Hid (∀ q, (Value.slice x3 D1.length d3).ownBlock = some q → V2.heap.size ≤ q ∧ q < V3.heap.size) := fun q hq => HL3.out.blk q hq
  clear b0 b1 z0 HG3 HS2
  obtain ⟨b0, b1⟩ := HS3.out.b0
  go_upto_region 7 with fail
  go_cut [13, 14] (fun q1 q2 wx => ∃ xr dr, q1 = .slice xr D1.length dr ∧ q2 = .int .i64 F1 ∧ ChO wx V3.heap.size (.slice xr D1.length dr) D1 ∧ Below V3.heap.size V3 wx)
  case first =>
    go_region_held3 (fun w' => w'.cell? ⟨w.heap.size, 0, none⟩ = some (.slice a1 n c1) ∧ w'.cell? ⟨w.heap.size, 1, none⟩ = some (.slice a2 k c2)) (go_keep)
      (first
        | (have qa := HPA; have qb := HPB; clear qa qb; go_at_call 9; refine (HRL.out _ _ _ HPA.out.at HPB.out.at).mono ?_; rintro e wr ⟨xr, dr, rfl, ho, hg⟩; have HG3 : Hid (Below V3.heap.size V3 wr) := Below.next HG2.out ⟨hg.os, hg.tape, hg.output, hg.size, hg.block⟩; have HLR : Hid (ChO wr V3.heap.size (.slice xr D1.length dr) D1) := ho.mono HG2.out.size; have v0 := cell_bel HG3.out b0; have v1 := cell_bel HG3.out b1; clear hg ho)
        | (have qa := HPB; clear qa; go_at_call_of 6 (Value.slice a1 n c1); refine ((HPP.out _ ?_).1).mono ?_; (first | exact (HS3.out.below HG1.out).hb | exact ((HS3.out.below HG1.out).below (Below.refl _ _).drew).hb); rintro e wq ⟨xA, dA, rfl, ho, hg⟩; have HG2 : Hid (Below V3.heap.size V3 wq) := Below.next HG1.out ⟨hg.os, hg.tape, hg.output, hg.size, hg.block⟩; have HPA : Hid (PrO wq wp.heap.size (.slice xA n dA) la) := ho; have HQ := hide (HPB.out.below ⟨hg.os, hg.tape, hg.output, hg.size, hg.block⟩); clear HPB; have HPB := HQ; clear HQ; have y0 := cell_bel HG2.out b0; have y1 := cell_bel HG2.out b1; clear hg ho)
        | (have qa := HPA; clear qa; go_at_call_of 6 (Value.slice a2 k c2); refine ((HPP.out _ ?_).2).mono ?_; (first | exact (HS3.out.below HG1.out).hb | exact ((HS3.out.below HG1.out).below (Below.refl _ _).drew).hb); rintro e wq ⟨xB, dB, rfl, ho, hg⟩; have HG2 : Hid (Below V3.heap.size V3 wq) := Below.next HG1.out ⟨hg.os, hg.tape, hg.output, hg.size, hg.block⟩; have HPB : Hid (PrO wq wp.heap.size (.slice xB k dB) lb) := ho; have HQ := hide (HPA.out.below ⟨hg.os, hg.tape, hg.output, hg.size, hg.block⟩); clear HPA; have HPA := HQ; clear HQ; have y0 := cell_bel HG2.out b0; have y1 := cell_bel HG2.out b1; clear hg ho)
        | (go_at_call_of 6 (Value.slice a1 n c1); refine ((HPP.out _ ?_).1).mono ?_; (first | exact HS3.out.hb | exact (HS3.out.below (Below.refl _ _).drew).hb | exact (HS3.out.below (below_drewN' (Below.refl _ _) _)).hb); rintro e wp ⟨xA, dA, rfl, ho, hg⟩; have HG1 : Hid (Below V3.heap.size V3 wp) := ⟨hg.os, hg.tape, hg.output, hg.size, hg.block⟩; have HPA : Hid (PrO wp V3.heap.size (.slice xA n dA) la) := ho; have z0 := cell_bel HG1.out b0; have z1 := cell_bel HG1.out b1; clear hg ho)
        | (go_at_call_of 6 (Value.slice a2 k c2); refine ((HPP.out _ ?_).2).mono ?_; (first | exact HS3.out.hb | exact (HS3.out.below (Below.refl _ _).drew).hb | exact (HS3.out.below (below_drewN' (Below.refl _ _) _)).hb); rintro e wp ⟨xB, dB, rfl, ho, hg⟩; have HG1 : Hid (Below V3.heap.size V3 wp) := ⟨hg.os, hg.tape, hg.output, hg.size, hg.block⟩; have HPB : Hid (PrO wp V3.heap.size (.slice xB k dB) lb) := ho; have z0 := cell_bel HG1.out b0; have z1 := cell_bel HG1.out b1; clear hg ho))
    all_goals
      go_wp2_with fail
      go_meet
      exact ⟨xr, dr, rfl, rfl, HLR.out, HG3.out⟩
  case rest =>
  obtain ⟨x4, d4, rfl, rfl, ho, hg⟩ := hcut
  have HG4 : Hid (Below V3.heap.size V3 wc) := hg
  have HL4 := hide ho
  generalize wc = V4 at *
  have HS4 := hide (HS3.out.below HG4.out)
  have HZ4 : Hid (V3.heap.size ≤ V4.heap.size) := HG4.out.size
  have HL1_4 := hide (HL1_3.out.below HG4.out)
  have HL2_4 := hide (HL2_3.out.below HG4.out)
  have HL3_4 := hide (HL3.out.below HG4.out)
  clear HL1_3 HL2_3 HL3
  clear b0 b1 HG4 HS3 ho hg
  obtain ⟨b0, b1⟩ := HS4.out.b0
  go_upto_region 8 with fail
  go_cut [15, 16] (fun q1 q2 wx => ∃ xr dr, q1 = .slice xr D2.length dr ∧ q2 = .int .i64 F2 ∧ ChO wx V4.heap.size (.slice xr D2.length dr) D2 ∧ Below V4.heap.size V4 wx)
  case first =>
    go_region_held3 (fun w' => w'.cell? ⟨w.heap.size, 0, none⟩ = some (.slice a1 n c1) ∧ w'.cell? ⟨w.heap.size, 1, none⟩ = some (.slice a2 k c2)) (go_keep)
      (first
        | (have qa := HPA; have qb := HPB; clear qa qb; go_at_call 9; refine (HRM.out _ _ _ HPB.out.at HPA.out.at).mono ?_; rintro e wr ⟨xr, dr, rfl, ho, hg⟩; have HG3 : Hid (Below V4.heap.size V4 wr) := Below.next HG2.out ⟨hg.os, hg.tape, hg.output, hg.size, hg.block⟩; have HLR : Hid (ChO wr V4.heap.size (.slice xr D2.length dr) D2) := ho.mono HG2.out.size; have v0 := cell_bel HG3.out b0; have v1 := cell_bel HG3.out b1; clear hg ho)
        | (have qa := HPB; clear qa; go_at_call_of 6 (Value.slice a1 n c1); refine ((HPP.out _ ?_).1).mono ?_; (first | exact (HS4.out.below HG1.out).hb | exact ((HS4.out.below HG1.out).below (Below.refl _ _).drew).hb); rintro e wq ⟨xA, dA, rfl, ho, hg⟩; have HG2 : Hid (Below V4.heap.size V4 wq) := Below.next HG1.out ⟨hg.os, hg.tape, hg.output, hg.size, hg.block⟩; have HPA : Hid (PrO wq wp.heap.size (.slice xA n dA) la) := ho; have HQ := hide (HPB.out.below ⟨hg.os, hg.tape, hg.output, hg.size, hg.block⟩); clear HPB; have HPB := HQ; clear HQ; have y0 := cell_bel HG2.out b0; have y1 := cell_bel HG2.out b1; clear hg ho)
        | (have qa := HPA; clear qa; go_at_call_of 6 (Value.slice a2 k c2); refine ((HPP.out _ ?_).2).mono ?_; (first | exact (HS4.out.below HG1.out).hb | exact ((HS4.out.below HG1.out).below (Below.refl _ _).drew).hb); rintro e wq ⟨xB, dB, rfl, ho, hg⟩; have HG2 : Hid (Below V4.heap.size V4 wq) := Below.next HG1.out ⟨hg.os, hg.tape, hg.output, hg.size, hg.block⟩; have HPB : Hid (PrO wq wp.heap.size (.slice xB k dB) lb) := ho; have HQ := hide (HPA.out.below ⟨hg.os, hg.tape, hg.output, hg.size, hg.block⟩); clear HPA; have HPA := HQ; clear HQ; have y0 := cell_bel HG2.out b0; have y1 := cell_bel HG2.out b1; clear hg ho)
        | (go_at_call_of 6 (Value.slice a1 n c1); refine ((HPP.out _ ?_).1).mono ?_; (first | exact HS4.out.hb | exact (HS4.out.below (Below.refl _ _).drew).hb | exact (HS4.out.below (below_drewN' (Below.refl _ _) _)).hb); rintro e wp ⟨xA, dA, rfl, ho, hg⟩; have HG1 : Hid (Below V4.heap.size V4 wp) := ⟨hg.os, hg.tape, hg.output, hg.size, hg.block⟩; have HPA : Hid (PrO wp V4.heap.size (.slice xA n dA) la) := ho; have z0 := cell_bel HG1.out b0; have z1 := cell_bel HG1.out b1; clear hg ho)
        | (go_at_call_of 6 (Value.slice a2 k c2); refine ((HPP.out _ ?_).2).mono ?_; (first | exact HS4.out.hb | exact (HS4.out.below (Below.refl _ _).drew).hb | exact (HS4.out.below (below_drewN' (Below.refl _ _) _)).hb); rintro e wp ⟨xB, dB, rfl, ho, hg⟩; have HG1 : Hid (Below V4.heap.size V4 wp) := ⟨hg.os, hg.tape, hg.output, hg.size, hg.block⟩; have HPB : Hid (PrO wp V4.heap.size (.slice xB k dB) lb) := ho; have z0 := cell_bel HG1.out b0; have z1 := cell_bel HG1.out b1; clear hg ho))
    all_goals
      go_wp2_with fail
      go_meet
      exact ⟨xr, dr, rfl, rfl, HLR.out, HG3.out⟩
  case rest =>
  obtain ⟨x5, d5, rfl, rfl, ho, hg⟩ := hcut
  have HG5 : Hid (Below V4.heap.size V4 wc) := hg
  have HL5 := hide ho
  generalize wc = V5 at *
  have HS5 := hide (HS4.out.below HG5.out)
  have HZ5 : Hid (V4.heap.size ≤ V5.heap.size) := HG5.out.size
  have HL1_5 := hide (HL1_4.out.below HG5.out)
  have HL2_5 := hide (HL2_4.out.below HG5.out)
  have HL3_5 := hide (HL3_4.out.below HG5.out)
  have HL4_5 := hide (HL4.out.below HG5.out)
  clear HL1_4 HL2_4 HL3_4 HL4
  clear b0 b1 HG5 HS4 ho hg
  obtain ⟨b0, b1⟩ := HS5.out.b0
  go_wp2_with fail
  have hf1 : (F1 != F1) = false := by simp
  have hf2 : (F2 != F2) = false := by simp
  clear b0 b1
  refine (HNU1.out V5 HS5.out.hb).mono ?_
  rintro e V5b ⟨rfl, rfl⟩
  go_wp2_with fail
  refine (HNU2.out V5 HS5.out.hb).mono ?_
  rintro e V5b ⟨rfl, rfl⟩
  go_wp2_with fail
  refine (samec_same _ _ D1 V5 (by have := HLEN.out; omega) HL1_5.out.at HL4_5.out.at).mono ?_
  rintro e V6 ⟨rfl, hg⟩
  have HS_6 := hide (HS5.out.below hg)
  have HL1_6 := hide (HL1_5.out.below hg)
  have HL2_6 := hide (HL2_5.out.below hg)
  have HL3_6 := hide (HL3_5.out.below hg)
  have HL4_6 := hide (HL4_5.out.below hg)
  have HL5_6 := hide (HL5.out.below hg)
  clear hg HS5 HL1_5 HL2_5 HL3_5 HL4_5 HL5
  go_wp2_with fail
  refine (samec_same _ _ D2 V6 (by have := HLEN.out; omega) HL2_6.out.at HL5_6.out.at).mono ?_
  rintro e V7 ⟨rfl, hg⟩
  have HS_7 := hide (HS_6.out.below hg)
  have HL1_7 := hide (HL1_6.out.below hg)
  have HL2_7 := hide (HL2_6.out.below hg)
  have HL3_7 := hide (HL3_6.out.below hg)
  have HL4_7 := hide (HL4_6.out.below hg)
  clear hg HS_6 HL1_6 HL2_6 HL3_6 HL4_6 HL5_6
  go_wp2_with fail
  refine (samec_same _ _ D1 V7 (by have := HLEN.out; omega) HL3_7.out.at HL4_7.out.at).mono ?_
  rintro e V8 ⟨rfl, hg⟩
  have HS_8 := hide (HS_7.out.below hg)
  have HL1_8 := hide (HL1_7.out.below hg)
  have HL2_8 := hide (HL2_7.out.below hg)
  have HL3_8 := hide (HL3_7.out.below hg)
  clear hg HS_7 HL1_7 HL2_7 HL3_7 HL4_7
  obtain ⟨b0, b1⟩ := HS_8.out.b0
  have HPK : Hid (∀ W, LSt w (.slice a1 n c1) (.slice a2 k c2) vL vM ga gb ca cb la lb W → PrR W (.slice (some ⟨ga, 0, none⟩) n1 ca) (la ++ [(behindB, behindB)]) ∧ PrR W (.slice (some ⟨gb, 0, none⟩) k1 cb) (lb ++ [(behindB, behindB)])) := fun W h => by
    have h1 := h.pa.at
    have h2 := h.pb.at
    rw [← HN.out.1, ← HN1.out] at h1
    rw [← HN.out.2, ← HK1.out] at h2
    exact ⟨h1, h2⟩
  go_wp2_with fail
  refine (keptp_any _ _ la V8 (HPK.out _ HS_8.out).1 (HRA.out.below HS_8.out.hb) (by have := HUN.out; omega)).mono ?_
  rintro e V9 ⟨rfl, hg⟩
  have HS_9 := hide (HS_8.out.below hg)
  have HL1_9 := hide (HL1_8.out.below hg)
  have HL2_9 := hide (HL2_8.out.below hg)
  have HL3_9 := hide (HL3_8.out.below hg)
  clear hg HS_8 HL1_8 HL2_8 HL3_8
  clear b0 b1
  obtain ⟨b0, b1⟩ := HS_9.out.b0
  go_wp2_with fail
  refine (keptp_any _ _ lb V9 (HPK.out _ HS_9.out).2 (HRB.out.below HS_9.out.hb) (by have := HUN.out; omega)).mono ?_
  rintro e V10 ⟨rfl, hg⟩
  have HS_10 := hide (HS_9.out.below hg)
  have HL1_10 := hide (HL1_9.out.below hg)
  have HL2_10 := hide (HL2_9.out.below hg)
  have HL3_10 := hide (HL3_9.out.below hg)
  clear hg HS_9 HL1_9 HL2_9 HL3_9
  clear b0 b1
  have hap := aps_three w.heap.size (.slice x1 D1.length d1) (.slice x2 D2.length d2) (.slice x3 D1.length d3) D1 D2 D1 V10 V1.heap.size V2.heap.size (HL1_10.out.mono (by have := HUS.out; omega)) (HL2_10.out.mono (by have := HUS.out; have := HZ1.out; omega)) (HL3_10.out.mono (by have := HUS.out; have := HZ1.out; have := HZ2.out; omega)) (fun q hq => (HKB1.out q hq).2) HKB2.out (fun q hq => (HKB3.out q hq).1) HZ2.out
  have hsa : LSt w (.slice a1 n c1) (.slice a2 k c2) vL vM ga gb ca cb la lb (V10.alloc (.cells #[.slice x1 D1.length d1, .slice x2 D2.length d2, .slice x3 D1.length d3] 23)) := HS_10.out.below (below_new V10 _)
  have HAT := hide (apart_any w.heap.size V10.heap.size 3 3 _ _ _ (by omega) (fun j hj => by have := HLEN.out; match j, hj with | 0, _ => show D1.length ≤ _; omega | 1, _ => show D2.length ≤ _; omega | 2, _ => show D1.length ≤ _; omega) hap hsa.hb.size)
  have HSA := hide hsa
  clear hap hsa HL1_10 HL2_10 HL3_10
  go_wp2_with fail
  refine HAT.out.mono ?_
  rintro e U3 ⟨rfl, hbut⟩
  have HS20 := hide (HSA.out.but hbut)
  clear hbut HSA HAT HS_10
  go_wp2_with fail
  obtain ⟨b0, b1⟩ := HS20.out.b0
  go_region_held3 (fun w' => w'.cell? ⟨w.heap.size, 0, none⟩ = some (.slice a1 n c1)) (go_keep)
    (first
      | (have qa := HSO; clear qa; go_at_call 8; refine (HLO.out _ ?_).mono ?_; (first | exact HSO.out | exact HSO.out.below (Below.refl _ _).drew | exact HSO.out.below (below_drewN' (Below.refl _ _) _)); rintro e U5 ⟨x21, d21, rfl, ho, hg⟩; have HGB : Hid (Below U4.heap.size U4 U5) := ⟨hg.os, hg.tape, hg.output, hg.size, hg.block⟩; have HL21 : Hid (ChO U5 U4.heap.size (.slice x21 D3.length d21) D3) := ho; have z1 := cell_bel HGB.out z0; clear hg ho)
      | (go_at_call 14; refine (HOT.out _ ?_).mono ?_; (first | exact HS20.out | exact HS20.out.below (Below.refl _ _).drew | exact HS20.out.below (below_drewN' (Below.refl _ _) _)); rintro e U4 ⟨rfl, hs⟩; have HSO := hide hs; have z0 := hs.b0.1; clear hs))
  have HS21 := hide (HSO.out.below HGB.out)
  clear b0 b1 z0 z1 HSO HS20 HGB
  obtain ⟨b0, b1⟩ := HS21.out.b0
  go_wp2_with fail
  go_upto_region 14 with fail
  go_cut [13, 14] (fun q1 q2 wx => ∃ xr dr, q1 = .slice xr D3.length dr ∧ q2 = .int .i64 F3 ∧ ChO wx U5.heap.size (.slice xr D3.length dr) D3 ∧ Below U5.heap.size U5 wx)
  case first =>
    go_region_held3 (fun w' => w'.cell? ⟨w.heap.size, 0, none⟩ = some (.slice a1 n c1) ∧ w'.cell? ⟨w.heap.size, 1, none⟩ = some (.slice a2 k c2)) (go_keep)
      (first
        | (have qo := HO; have qb := HPB; clear qo qb; go_at_call 9; refine (HRO.out _ _ _ HO.out.at HPB.out.at).mono ?_; rintro e wn ⟨xr, dr, rfl, ho, hg⟩; have HLR : Hid (ChO wn U5.heap.size (.slice xr D3.length dr) D3) := ho.mono HGC.out.size; have HGN : Hid (Below U5.heap.size U5 wn) := Below.next HGC.out ⟨hg.os, hg.tape, hg.output, hg.size, hg.block⟩; clear HGC; have HGC := HGN; clear HGN; have v0 := cell_bel HGC.out b0; have v1 := cell_bel HGC.out b1; clear hg ho)
        | (have qa := HPA; have qb := HPB; clear qa qb; go_at_call 14; refine (HOP.out _ U5.heap.size _ _ HPA.out).mono ?_; rintro e wn ⟨rfl, ho, hg⟩; have HO : Hid (PrO wn U5.heap.size (.slice xA n dA) (othA la n)) := ho; have HQ : Hid (PrO wn U5.heap.size (.slice xB k dB) lb) := pro_same2 HPB.out (fun q hq => hg.block q (HPB.out.blk q hq).2 (fun e => HNE.out q e.symm hq)); clear HPB; have HPB := HQ; clear HQ; have HGN : Hid (Below U5.heap.size U5 wn) := HGC.out.grown hg HGC.out.size (fun q hq => (HPA.out.blk q hq).1); clear HGC; have HGC := HGN; clear HGN; clear HPA; have t0 := cell_bel HGC.out b0; have t1 := cell_bel HGC.out b1; clear hg ho)
        | (have qa := HPA; clear qa; go_at_call 14; refine (HOP.out _ U5.heap.size _ _ HPA.out).mono ?_; rintro e wn ⟨rfl, ho, hg⟩; have HO : Hid (PrO wn U5.heap.size (.slice xA n dA) (othA la n)) := ho; have HGN : Hid (Below U5.heap.size U5 wn) := HGC.out.grown hg HGC.out.size (fun q hq => (HPA.out.blk q hq).1); clear HGC; have HGC := HGN; clear HGN; clear HPA; have t0 := cell_bel HGC.out b0; have t1 := cell_bel HGC.out b1; clear hg ho)
        | (have qo := HO; clear qo; go_at_call_of 6 (Value.slice a2 k c2); refine ((HPP.out _ ?_).2).mono ?_; exact (HS21.out.below HGC.out).hb; rintro e wn ⟨xB, dB, rfl, ho, hg⟩; have HPB : Hid (PrO wn U5.heap.size (.slice xB k dB) lb) := ho.mono HGC.out.size; have HQ : Hid (PrO wn U5.heap.size (.slice xA n dA) (othA la n)) := HO.out.below ⟨hg.os, hg.tape, hg.output, hg.size, hg.block⟩; clear HO; have HO := HQ; clear HQ; have HGN : Hid (Below U5.heap.size U5 wn) := Below.next HGC.out ⟨hg.os, hg.tape, hg.output, hg.size, hg.block⟩; clear HGC; have HGC := HGN; clear HGN; have u0 := cell_bel HGC.out b0; have u1 := cell_bel HGC.out b1; clear hg ho)
        | (have qa := HPA; clear qa; go_at_call_of 6 (Value.slice a2 k c2); refine ((HPP.out _ ?_).2).mono ?_; exact (HS21.out.below HGC.out).hb; rintro e wn ⟨xB, dB, rfl, ho, hg⟩; have HNE : Hid (∀ q, (Value.slice xA n dA).ownBlock = some q → (Value.slice xB k dB).ownBlock ≠ some q) := fun q h1 h2 => Nat.lt_irrefl _ (Nat.lt_of_lt_of_le (HPA.out.blk q h1).2 (ho.blk q h2).1); have HPB : Hid (PrO wn U5.heap.size (.slice xB k dB) lb) := ho.mono HGC.out.size; have HQ : Hid (PrO wn U5.heap.size (.slice xA n dA) la) := HPA.out.below ⟨hg.os, hg.tape, hg.output, hg.size, hg.block⟩; clear HPA; have HPA := HQ; clear HQ; have HGN : Hid (Below U5.heap.size U5 wn) := Below.next HGC.out ⟨hg.os, hg.tape, hg.output, hg.size, hg.block⟩; clear HGC; have HGC := HGN; clear HGN; have y0 := cell_bel HGC.out b0; have y1 := cell_bel HGC.out b1; clear hg ho)
        | (have qb := HPB; clear qb; go_at_call_of 6 (Value.slice a1 n c1); refine ((HPP.out _ ?_).1).mono ?_; exact (HS21.out.below HGC.out).hb; rintro e wn ⟨xA, dA, rfl, ho, hg⟩; have HNE : Hid (∀ q, (Value.slice xA n dA).ownBlock = some q → (Value.slice xB k dB).ownBlock ≠ some q) := fun q h1 h2 => Nat.lt_irrefl _ (Nat.lt_of_lt_of_le (HPB.out.blk q h2).2 (ho.blk q h1).1); have HPA : Hid (PrO wn U5.heap.size (.slice xA n dA) la) := ho.mono HGC.out.size; have HQ : Hid (PrO wn U5.heap.size (.slice xB k dB) lb) := HPB.out.below ⟨hg.os, hg.tape, hg.output, hg.size, hg.block⟩; clear HPB; have HPB := HQ; clear HQ; have HGN : Hid (Below U5.heap.size U5 wn) := Below.next HGC.out ⟨hg.os, hg.tape, hg.output, hg.size, hg.block⟩; clear HGC; have HGC := HGN; clear HGN; have y0 := cell_bel HGC.out b0; have y1 := cell_bel HGC.out b1; clear hg ho)
        | (go_at_call_of 6 (Value.slice a2 k c2); refine ((HPP.out _ ?_).2).mono ?_; (first | exact HS21.out.hb | exact (HS21.out.below (Below.refl _ _).drew).hb | exact (HS21.out.below (below_drewN' (Below.refl _ _) _)).hb); rintro e wn ⟨xB, dB, rfl, ho, hg⟩; have HGC : Hid (Below U5.heap.size U5 wn) := ⟨hg.os, hg.tape, hg.output, hg.size, hg.block⟩; have HPB : Hid (PrO wn U5.heap.size (.slice xB k dB) lb) := ho; have z0 := cell_bel HGC.out b0; have z1 := cell_bel HGC.out b1; clear hg ho)
        | (go_at_call_of 6 (Value.slice a1 n c1); refine ((HPP.out _ ?_).1).mono ?_; (first | exact HS21.out.hb | exact (HS21.out.below (Below.refl _ _).drew).hb | exact (HS21.out.below (below_drewN' (Below.refl _ _) _)).hb); rintro e wn ⟨xA, dA, rfl, ho, hg⟩; have HGC : Hid (Below U5.heap.size U5 wn) := ⟨hg.os, hg.tape, hg.output, hg.size, hg.block⟩; have HPA : Hid (PrO wn U5.heap.size (.slice xA n dA) la) := ho; have z0 := cell_bel HGC.out b0; have z1 := cell_bel HGC.out b1; clear hg ho))
    all_goals
      go_wp2_with fail
      go_meet
      exact ⟨xr, dr, rfl, rfl, HLR.out, HGC.out⟩
  case rest =>
  obtain ⟨x22, d22, rfl, rfl, ho, hg⟩ := hcut
  have HS22 := hide (HS21.out.below hg)
  have HL22 := hide ho
  have HL21b := hide (HL21.out.below hg)
  have hf3 : (F3 == F3) = true := by simp
  clear b0 b1 ho hg HS21 HL21
  generalize wc = U6 at *
  go_wp2_with fail
  refine (HNU3.out U6 HS22.out.hb).mono ?_
  rintro e U7 ⟨rfl, rfl⟩
  go_wp2_with fail
  refine (samec_same _ _ D3 U6 (by have := HD3.out; omega) HL21b.out.at HL22.out.at).mono ?_
  rintro e U8 ⟨rfl, hg⟩
  have HFI := hide (HS22.out.below hg).hb
  clear hg
  go_wp2
  go_ret
  exact ⟨rfl, HFI.out⟩
end Go.Proofs.YthnidlhcpelomaaDoor
