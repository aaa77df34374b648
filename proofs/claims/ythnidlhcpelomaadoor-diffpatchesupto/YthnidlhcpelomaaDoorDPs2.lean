import Derived.Test.YthnidlhcpelomaaDoorDPs1
import Derived.Test.YthnidlhcpelomaaDoorPS
import Derived.Deep.DeepCutAuto
import Derived.Deep.CutBlock
namespace Go.Proofs.YthnidlhcpelomaaDoor
open Go.RowKit
attribute [local go_sem ↓] Go.wp_at_zero Go.wp_at_succ

set_option maxRecDepth 100000 in
set_option maxHeartbeats 32000000 in
theorem dpatch_any (A : Nat → Addr) (vA vB vL vM : Value) (la : List Pr) (lb : List Ch) (w : World) (hE : ErrsG 13 gAll A w) (rA : PrR w vA la) (rB : ChR w vL lb) (oA : OkL la) (oB : OkC lb) (sA : ∀ p ∈ la, p.2.size ≤ 1048576) (sB : ∀ p ∈ lb, p.2.new.size ≤ 1048576) (nA : la.length ≤ 1048576) (nB : lb.length ≤ 1048576) :
    Calls Tryd.prog 5 #[.agg #[vA, vB, vL, vM]] w fun e w' => e = .returned (.bool true) ∧ Below w.heap.size w w' := by
  obtain ⟨a1, c1, rfl⟩ : ∃ a c, vA = .slice a la.length c := by obtain ⟨x, y, h, _⟩ := rA; exact ⟨x, y, h⟩
  obtain ⟨a2, c2, rfl⟩ : ∃ a c, vL = .slice a lb.length c := by obtain ⟨x, y, h, _⟩ := rB; exact ⟨x, y, h⟩
  have HE := hide hE
  have HRA := hide rA
  have HRB := hide rB
  have HOK : Hid (OkL la ∧ OkC lb ∧ (∀ p ∈ la, p.2.size ≤ 1048576) ∧ ∀ p ∈ lb, p.2.new.size ≤ 1048576) := ⟨oA, oB, sA, sB⟩
  obtain ⟨n, hn⟩ : ∃ n, n = la.length := ⟨_, rfl⟩
  obtain ⟨k, hk⟩ : ∃ k, k = lb.length := ⟨_, rfl⟩
  rw [← hn] at HRA nA ⊢
  rw [← hk] at HRB nB ⊢
  have HN : Hid (n = la.length ∧ k = lb.length) := ⟨hn, hk⟩
  -- the box
  obtain ⟨W1, hW1⟩ : ∃ W1, w.alloc (.cells #[.slice a1 n c1, vB, .slice a2 k c2, vM] 25) = W1 := ⟨_, rfl⟩
  have q1 : Below w.heap.size w W1 := by rw [← hW1]; exact below_new w _
  have x1 : W1.heap[w.heap.size]? = some (.cells #[.slice a1 n c1, vB, .slice a2 k c2, vM] 25 (0, 0)) := by rw [← hW1]; exact heap_alloc_new w _
  have b0 : W1.cell? ⟨w.heap.size, 0, none⟩ = some (.slice a1 n c1) := by rw [cell_of_row _ _ _ _ _ _ x1]; rfl
  have b1 : W1.cell? ⟨w.heap.size, 2, none⟩ = some (.slice a2 k c2) := by rw [cell_of_row _ _ _ _ _ _ x1]; rfl
  have HB1 := hide q1
  have HX1 := hide x1
  have HW1 := hide hW1
  have HPA := hide (lpairs_any (.slice a1 n c1) la W1 (HRA.out.below q1) (by omega))
  have HLP := hide (fun W => lastp_any W)
  have HLC := hide (fun W => lastc_any W)
  simp only [chA] at HLC
  clear hE rA rB oA oB sA sB hn hk q1 x1 hW1
  go_enter Tryd.func5, Tryd.ntmps5
  go_wp2_with fail
  rw [HW1.out]
  go_wp2_with fail
  refine HPA.out.mono ?_
  rintro e W2 ⟨va, rfl, hpa, hb2⟩
  have HPA2 := hide hpa
  have b0' := cell_bel hb2 b0
  have b1' := cell_bel hb2 b1
  have HB2 := hide hb2
  clear hpa hb2 HPA b0 b1
  go_wp2_with fail
  refine (HLP.out W2).mono ?_
  rintro e W3 ⟨rfl, hb3⟩
  obtain ⟨ga, ca, W4, hrun, hoa, hca, hb4, hga⟩ := more_one W1.heap.size va la W3 (HPA2.out.below hb3) (by have := HN.out; omega) (by have := HB2.out.size; have := hb3.size; omega)
  have hb14 : Below W1.heap.size W1 W4 := (Below.next HB2.out hb3).trans hb4
  have b0 : W4.cell? ⟨w.heap.size, 0, none⟩ = some (.slice a1 n c1) := by rw [cell_of_row _ _ _ _ _ _ ((hb14.block _ (Array.getElem?_eq_some_iff.1 HX1.out).1).trans HX1.out)]; rfl
  have b1 : W4.cell? ⟨w.heap.size, 2, none⟩ = some (.slice a2 k c2) := by rw [cell_of_row _ _ _ _ _ _ ((hb14.block _ (Array.getElem?_eq_some_iff.1 HX1.out).1).trans HX1.out)]; rfl
  rw [← HN.out.1] at hrun hca
  have hoa' : PrO W4 W1.heap.size (.slice (some ⟨ga, 0, none⟩) (n + 1) ca) (la ++ [bhP]) := by rw [HN.out.1]; exact hoa
  obtain ⟨n1, hn1⟩ : ∃ n1, n1 = n + 1 := ⟨_, rfl⟩
  rw [← hn1] at hrun hoa' hca
  have HN1 := hide hn1
  have HRUN := hide hrun
  have HOA := hide hoa'
  have HCA := hide hca
  have HB4 := hide hb14
  have HGA := hide hga
  clear hrun hoa hoa' hca hb14 hb4 hb3 hga hn1 b0' b1' HPA2 HB2 HLP
  have HPB := hide (lchanges_any (.slice a2 k c2) lb W4 (HRB.out.below (HB1.out.trans (HB4.out.mono HB1.out.size))) (by have := HN.out; omega))
  go_wp2_with (first | (at_builtin; refine wpList_append_run 22 rfl (.tmp 19) (.tmp 21) rfl rfl _ _ rfl rfl _ _ HRUN.out ?_))
  refine HPB.out.mono ?_
  rintro e W5 ⟨vb, rfl, hpb, hb5⟩
  have HPB2 := hide hpb
  have b0' := cell_bel hb5 b0
  have b1' := cell_bel hb5 b1
  have HB5 := hide hb5
  clear hpb hb5 HPB b0 b1 HRUN
  go_wp2_with fail
  refine (HLC.out W5).mono ?_
  rintro e W6 ⟨rfl, hb6⟩
  obtain ⟨gb, cb, W7, hrun, hob, hcb, hb7, hgb⟩ := more_oneC W4.heap.size vb lb W6 (HPB2.out.below hb6) (by have := HN.out; omega) (by have := HB5.out.size; have := hb6.size; omega)
  have hb47 : Below W4.heap.size W4 W7 := (Below.next HB5.out hb6).trans hb7
  rw [← HN.out.2] at hrun hcb
  have hob' : ChO W7 W4.heap.size (.slice (some ⟨gb, 0, none⟩) (k + 1) cb) (lb ++ [bhC]) := by rw [HN.out.2]; exact hob
  obtain ⟨k1, hk1⟩ : ∃ k1, k1 = k + 1 := ⟨_, rfl⟩
  rw [← hk1] at hrun hob' hcb
  have HK1 := hide hk1
  have HRUN := hide hrun
  have HCB := hide hcb
  have hst : LSp w (.slice a1 n c1) vB (.slice a2 k c2) vM ga gb ca cb la lb W7 := by
    have h1 := HB1.out.size
    have hb17 : Below W1.heap.size W1 W7 := Below.next HB4.out hb47
    refine ⟨Below.next HB1.out hb17, (hb17.block _ (Array.getElem?_eq_some_iff.1 HX1.out).1).trans HX1.out, ?_, ?_, ?_⟩
    · have := (HOA.out.below hb47).mono h1
      rw [HN1.out, HN.out.1] at this; exact this
    · have := hob'.mono (b2 := w.heap.size) (Nat.le_trans h1 HB4.out.size)
      rw [hk1, HN.out.2] at this; exact this
    · have h2 := (cho_blk hob').1
      have h3 := HGA.out
      omega
  have HST := hide hst
  obtain ⟨b0, b1⟩ := hst.b2
  clear hrun hob hob' hcb hb47 hb7 hb6 hgb hst hk1 b0' b1' HPB2 HB5 HOA HGA HB4 HLC
  -- the contracts
  have HUN : Hid (n = la.length ∧ k = lb.length ∧ n ≤ 1048576 ∧ k ≤ 1048576) := ⟨HN.out.1, HN.out.2, nA, nB⟩
  have HC1 : Hid (∀ W, LSp w (.slice a1 n c1) vB (.slice a2 k c2) vM ga gb ca cb la lb W → Calls Tryd.prog 23 #[.slice (some ⟨ga, 0, none⟩) n ca, .slice (some ⟨gb, 0, none⟩) k cb] W fun e w' => ∃ x c, e = .returned (.tuple #[.slice x (ptL la lb).length c, eC A (ptK la lb)]) ∧ PrO w' W.heap.size (.slice x (ptL la lb).length c) (ptL la lb) ∧ Below W.heap.size W w') := fun W h => by
    have h1 := h.ra
    have h2 := h.rb
    rw [← HN.out.1] at h1; rw [← HN.out.2] at h2
    exact patch_u A _ _ _ _ W h1 h2 HOK.out.1 HOK.out.2.1 (by have := HUN.out; omega) (HE.out.keep h.hb)
  have HC2 : Hid (∀ W, LSp w (.slice a1 n c1) vB (.slice a2 k c2) vM ga gb ca cb la lb W → Calls Tryd.prog 23 #[.slice (some ⟨ga, 0, none⟩) n ca, .slice none 0 0] W fun e w' => ∃ x c, e = .returned (.tuple #[.slice x (ptL la []).length c, eC A (ptK la [])]) ∧ PrO w' W.heap.size (.slice x (ptL la []).length c) (ptL la []) ∧ Below W.heap.size W w') := fun W h => by
    have h1 := h.ra
    rw [← HN.out.1] at h1
    exact patch_u A _ _ _ _ W h1 (ChR.nil W) HOK.out.1 (fun p hp => by cases hp) (by have := HUN.out; simp; omega) (HE.out.keep h.hb)
  have HC3 : Hid (∀ W, LSp w (.slice a1 n c1) vB (.slice a2 k c2) vM ga gb ca cb la (othC lb k) W → Calls Tryd.prog 23 #[.slice (some ⟨ga, 0, none⟩) n ca, .slice (some ⟨gb, 0, none⟩) k cb] W fun e w' => ∃ x c, e = .returned (.tuple #[.slice x (ptL la (othC lb k)).length c, eC A (ptK la (othC lb k))]) ∧ PrO w' W.heap.size (.slice x (ptL la (othC lb k)).length c) (ptL la (othC lb k)) ∧ Below W.heap.size W w') := fun W h => by
    have h1 := h.ra
    have h2 := h.rb
    rw [← HN.out.1] at h1; rw [othC_len, ← HN.out.2] at h2
    exact patch_u A _ _ _ _ W h1 h2 HOK.out.1 (othC_ok lb k HOK.out.2.1 HOK.out.2.2.2) (by rw [othC_len]; have := HUN.out; omega) (HE.out.keep h.hb)
  have HC4 : Hid (∀ W, LSp w (.slice a1 n c1) vB (.slice a2 k c2) vM ga gb ca cb (othA la n) (othC lb k) W → Calls Tryd.prog 23 #[.slice (some ⟨ga, 0, none⟩) n ca, .slice (some ⟨gb, 0, none⟩) k cb] W fun e w' => ∃ x c, e = .returned (.tuple #[.slice x (ptL (othA la n) (othC lb k)).length c, eC A (ptK (othA la n) (othC lb k))]) ∧ PrO w' W.heap.size (.slice x (ptL (othA la n) (othC lb k)).length c) (ptL (othA la n) (othC lb k)) ∧ Below W.heap.size W w') := fun W h => by
    have h1 := h.ra
    have h2 := h.rb
    rw [othA_len, ← HN.out.1] at h1; rw [othC_len, ← HN.out.2] at h2
    exact patch_u A _ _ _ _ W h1 h2 (othA_ok la n HOK.out.1 HOK.out.2.2.1) (othC_ok lb k HOK.out.2.1 HOK.out.2.2.2) (by rw [othC_len, othA_len]; have := HUN.out; omega) (HE.out.keep h.hb)
  have HPP : Hid (∀ W, Below w.heap.size w W → (Calls Tryd.prog 6 #[.slice a1 n c1] W fun e w' => ∃ x c, e = .returned (.slice x n c) ∧ PrO w' W.heap.size (.slice x n c) la ∧ Below W.heap.size W w') ∧ (Calls Tryd.prog 15 #[.slice a2 k c2] W fun e w' => ∃ x c, e = .returned (.slice x k c) ∧ ChO w' W.heap.size (.slice x k c) lb ∧ Below W.heap.size W w')) := fun W h => by
    constructor
    · refine (lpairs_any _ la W (HRA.out.below h) (by have := HUN.out; omega)).mono ?_
      rintro e w' ⟨v', rfl, hp, hb⟩
      obtain ⟨x, c, rfl⟩ := hp.form
      exact ⟨x, c, by rw [HN.out.1], by rw [HN.out.1]; exact hp, hb⟩
    · refine (lchanges_any _ lb W (HRB.out.below h) (by have := HUN.out; omega)).mono ?_
      rintro e w' ⟨v', rfl, hp, hb⟩
      obtain ⟨x, c, rfl⟩ := hp.form
      exact ⟨x, c, by rw [HN.out.2], by rw [HN.out.2]; exact hp, hb⟩
  have HR1 : Hid (∀ W va vb, PrR W va la → ChR W vb lb → Calls Tryd.prog 24 #[va, vb] W fun e w' => ∃ x c, e = .returned (.tuple #[.slice x (ptL la lb).length c, .int .i64 (nC (ptK la lb))]) ∧ PrO w' W.heap.size (.slice x (ptL la lb).length c) (ptL la lb) ∧ Below W.heap.size W w') := fun W va vb h1 h2 => rpatch_u va vb _ _ W h1 h2 (by have := HUN.out; omega)
  have HR2 : Hid (∀ W va vb, PrR W va la → ChR W vb [] → Calls Tryd.prog 24 #[va, vb] W fun e w' => ∃ x c, e = .returned (.tuple #[.slice x (ptL la []).length c, .int .i64 (nC (ptK la []))]) ∧ PrO w' W.heap.size (.slice x (ptL la []).length c) (ptL la []) ∧ Below W.heap.size W w') := fun W va vb h1 h2 => rpatch_u va vb _ _ W h1 h2 (by rw [List.length_nil]; have := HUN.out; omega)
  have HR3 : Hid (∀ W va vb, PrR W va la → ChR W vb (othC lb k) → Calls Tryd.prog 24 #[va, vb] W fun e w' => ∃ x c, e = .returned (.tuple #[.slice x (ptL la (othC lb k)).length c, .int .i64 (nC (ptK la (othC lb k)))]) ∧ PrO w' W.heap.size (.slice x (ptL la (othC lb k)).length c) (ptL la (othC lb k)) ∧ Below W.heap.size W w') := fun W va vb h1 h2 => rpatch_u va vb _ _ W h1 h2 (by rw [othC_len]; have := HUN.out; omega)
  have HR4 : Hid (∀ W va vb, PrR W va (othA la n) → ChR W vb (othC lb k) → Calls Tryd.prog 24 #[va, vb] W fun e w' => ∃ x c, e = .returned (.tuple #[.slice x (ptL (othA la n) (othC lb k)).length c, .int .i64 (nC (ptK (othA la n) (othC lb k)))]) ∧ PrO w' W.heap.size (.slice x (ptL (othA la n) (othC lb k)).length c) (ptL (othA la n) (othC lb k)) ∧ Below W.heap.size W w') := fun W va vb h1 h2 => rpatch_u va vb _ _ W h1 h2 (by rw [othC_len, othA_len]; have := HUN.out; omega)
  have HOC : Hid (∀ W, LSp w (.slice a1 n c1) vB (.slice a2 k c2) vM ga gb ca cb la lb W → Calls Tryd.prog 22 #[.slice (some ⟨gb, 0, none⟩) k cb] W fun e w' => e = .returned (.slice (some ⟨gb, 0, none⟩) k cb) ∧ LSp w (.slice a1 n c1) vB (.slice a2 k c2) vM ga gb ca cb la (othC lb k) w') := fun W h => by
    have hl : (lb ++ [bhC]).length = lb.length + 1 := by simp
    refine (otherwise_any w.heap.size gb k cb lb [bhC] W HN.out.2 (by rw [hl]; exact h.pb) (by have := HUN.out; omega) (fun p hp => Nat.le_trans (HOK.out.2.2.2 p hp) (by decide))).mono ?_
    rintro e w' ⟨rfl, hp, hs⟩
    exact ⟨rfl, h.soleB hs (by rw [othC_len]; rw [hl] at hp; exact hp)⟩
  have HOA : Hid (∀ W, LSp w (.slice a1 n c1) vB (.slice a2 k c2) vM ga gb ca cb la (othC lb k) W → Calls Tryd.prog 14 #[.slice (some ⟨ga, 0, none⟩) n ca] W fun e w' => e = .returned (.slice (some ⟨ga, 0, none⟩) n ca) ∧ LSp w (.slice a1 n c1) vB (.slice a2 k c2) vM ga gb ca cb (othA la n) (othC lb k) w') := fun W h => by
    have hl : (la ++ [bhP]).length = la.length + 1 := by simp
    refine (other_any w.heap.size ga n ca la [bhP] W HN.out.1 (by rw [hl]; exact h.pa) (by have := HUN.out; omega) (fun p hp => Nat.le_trans (HOK.out.2.2.1 p hp) (by decide))).mono ?_
    rintro e w' ⟨rfl, hp, hs⟩
    exact ⟨rfl, h.soleA hs (by rw [othA_len]; rw [hl] at hp; exact hp)⟩
  have HPC : Hid (∀ W B x c, ChO W B (.slice x k c) lb → Calls Tryd.prog 22 #[.slice x k c] W fun e w' => e = .returned (.slice x k c) ∧ ChO w' B (.slice x k c) (othC lb k) ∧ W.grownBy w' (Value.slice x k c).ownBlock) := fun W B x c h => otherw_own B k c x lb W HN.out.2 h (by have := HUN.out; omega) HOK.out.2.2.2
  have HPO : Hid (∀ W B x c, PrO W B (.slice x n c) la → Calls Tryd.prog 14 #[.slice x n c] W fun e w' => e = .returned (.slice x n c) ∧ PrO w' B (.slice x n c) (othA la n) ∧ W.grownBy w' (Value.slice x n c).ownBlock) := fun W B x c h => other_own B n c x la W HN.out.1 h (by have := HUN.out; omega) HOK.out.2.2.1
  have HN1u : Hid (∀ W, Below w.heap.size w W → Calls Tryd.prog 10 #[eC A (ptK la lb)] W fun e w' => e = .returned (.int .i64 (nC (ptK la lb))) ∧ W = w') := fun W h => num_c A _ W (HE.out.keep h)
  have HN2u : Hid (∀ W, Below w.heap.size w W → Calls Tryd.prog 10 #[eC A (ptK la [])] W fun e w' => e = .returned (.int .i64 (nC (ptK la []))) ∧ W = w') := fun W h => num_c A _ W (HE.out.keep h)
  have HN3u : Hid (∀ W, Below w.heap.size w W → Calls Tryd.prog 10 #[eC A (ptK la (othC lb k))] W fun e w' => e = .returned (.int .i64 (nC (ptK la (othC lb k)))) ∧ W = w') := fun W h => num_c A _ W (HE.out.keep h)
  have HN4u : Hid (∀ W, Below w.heap.size w W → Calls Tryd.prog 10 #[eC A (ptK (othA la n) (othC lb k))] W fun e w' => e = .returned (.int .i64 (nC (ptK (othA la n) (othC lb k)))) ∧ W = w') := fun W h => num_c A _ W (HE.out.keep h)
  have HLEN : Hid ((ptL la lb).length ≤ 2097152 ∧ (ptL la []).length ≤ 2097152 ∧ (ptL la (othC lb k)).length ≤ 2097152 ∧ (ptL (othA la n) (othC lb k)).length ≤ 2097152) := by
    have h1 := ptL_len la lb
    have h2 := ptL_len la []
    have h3 := ptL_len la (othC lb k)
    have h4 := ptL_len (othA la n) (othC lb k)
    rw [othC_len] at h3 h4
    rw [othA_len] at h4
    rw [List.length_nil] at h2
    have := HUN.out
    exact ⟨by omega, by omega, by omega, by omega⟩
  generalize eC A (ptK (othA la n) (othC lb k)) = E4 at *
  generalize nC (ptK (othA la n) (othC lb k)) = F4 at *
  generalize hoD4 : ptL (othA la n) (othC lb k) = D4 at *
  generalize eC A (ptK la (othC lb k)) = E3 at *
  generalize nC (ptK la (othC lb k)) = F3 at *
  generalize hoD3 : ptL la (othC lb k) = D3 at *
  generalize eC A (ptK la []) = E2 at *
  generalize nC (ptK la []) = F2 at *
  generalize hoD2 : ptL la [] = D2 at *
  generalize eC A (ptK la lb) = E1 at *
  generalize nC (ptK la lb) = F1 at *
  generalize hoD1 : ptL la lb = D1 at *
  clear hoD1 hoD2 hoD3 hoD4
  have i0 : (0 : Int) ≤ (n : Int) := by omega
  have i2 : n ≤ ca := by have := HN1.out; have := HCA.out; omega
  have i3 : (n : Int) ≤ (ca : Int) := by omega
  have j0 : (0 : Int) ≤ (k : Int) := by omega
  have j2 : k ≤ cb := by have := HK1.out; have := HCB.out; omega
  have j3 : (k : Int) ≤ (cb : Int) := by omega
  go_upto_region 3 with (first | (at_builtin; refine wpList_append_run 23 rfl (.tmp 25) (.tmp 27) rfl rfl _ _ rfl rfl _ _ HRUN.out ?_))
  clear HRUN
  go_quiet (fail)
  go_wp2_with fail
  obtain ⟨nz, hnz⟩ : ∃ nz, nz = nq := ⟨_, rfl⟩
  rw [← hnz]
  have hs0 := HST.out.below (below_drewN' (Below.refl _ W7) nz)
  have HS0 : Hid (LSp w (.slice a1 n c1) vB (.slice a2 k c2) vM ga gb ca cb la lb (W7.drewN nz)) := hs0
  generalize W7.drewN nz = U at *
  clear hs0 hnz HST b0 b1
  obtain ⟨b0, b1⟩ := HS0.out.b2
  have HUS : Hid (w.heap.size < U.heap.size ∧ ga < U.heap.size ∧ gb < U.heap.size) := ⟨(Array.getElem?_eq_some_iff.1 HS0.out.bx).1, (pro_blk HS0.out.pa).2, (cho_blk HS0.out.pb).2⟩
  go_region_held3 (fun w' => w'.cell? ⟨w.heap.size, 0, none⟩ = some (.slice a1 n c1)) (go_keep)
    ((go_at_call 23; refine (HC1.out _ ?_).mono ?_; (first | exact HS0.out | exact HS0.out.below (Below.refl _ _).drew | exact HS0.out.below (below_drewN' (Below.refl _ _) _)); rintro e V1 ⟨x1, d1, rfl, ho, hg⟩; have HG1 : Hid (Below U.heap.size U V1) := ⟨hg.os, hg.tape, hg.output, hg.size, hg.block⟩; have HL1 : Hid (PrO V1 U.heap.size (.slice x1 D1.length d1) D1) := ho; have z0 := cell_bel HG1.out b0; clear hg ho))
  clear z0
  have HS1 := hide (HS0.out.below HG1.out)
  have HZ1 : Hid (U.heap.size ≤ V1.heap.size) := HG1.out.size
  have HKB1 : Hid (∀ q, (Value.slice x1 D1.length d1).ownBlock = some q → U.heap.size ≤ q ∧ q < V1.heap.size) := fun q hq => HL1.out.blk q hq
  clear b0 b1 HG1 HS0
  obtain ⟨b0, b1⟩ := HS1.out.b2
  go_wp2_with fail
  refine (HC2.out _ HS1.out).mono ?_
  rintro e V2 ⟨x2, d2, rfl, ho, hg⟩
  have HG2 := hide hg
  have HL2 := hide ho
  clear hg ho
  have HS2 := hide (HS1.out.below HG2.out)
  have HL1_2 := hide (HL1.out.below HG2.out)
  clear HL1
  have HZ2 : Hid (V1.heap.size ≤ V2.heap.size) := HG2.out.size
  have HKB2 : Hid (∀ q, (Value.slice x2 D2.length d2).ownBlock = some q → V1.heap.size ≤ q ∧ q < V2.heap.size) := fun q hq => HL2.out.blk q hq
  clear b0 b1 HG2 HS1
  obtain ⟨b0, b1⟩ := HS2.out.b2
  go_wp2_with fail
  go_region_held3 (fun w' => w'.cell? ⟨w.heap.size, 0, none⟩ = some (.slice a1 n c1)) (go_keep)
    ((go_at_call 23; refine (HC1.out _ ?_).mono ?_; (first | exact HS2.out | exact HS2.out.below (Below.refl _ _).drew | exact HS2.out.below (below_drewN' (Below.refl _ _) _)); rintro e V3 ⟨x3, d3, rfl, ho, hg⟩; have HG3 : Hid (Below V2.heap.size V2 V3) := ⟨hg.os, hg.tape, hg.output, hg.size, hg.block⟩; have HL3 : Hid (PrO V3 V2.heap.size (.slice x3 D1.length d3) D1) := ho; have z0 := cell_bel HG3.out b0; clear hg ho))
  clear z0
  have HS3 := hide (HS2.out.below HG3.out)
  have HL1_3 := hide (HL1_2.out.below HG3.out)
  clear HL1_2
  have HL2_3 := hide (HL2.out.below HG3.out)
  clear HL2
  have HZ3 : Hid (V2.heap.size ≤ V3.heap.size) := HG3.out.size
  have HKB3 : Hid (∀ q, (Value.slice x3 D1.length d3).ownBlock = some q → V2.heap.size ≤ q ∧ q < V3.heap.size) := fun q hq => HL3.out.blk q hq
  clear b0 b1 HG3 HS2
  obtain ⟨b0, b1⟩ := HS3.out.b2
  go_upto_region 7 with fail
  go_cut [13, 14] (fun q1 q2 wx => ∃ xr dr, q1 = .slice xr D1.length dr ∧ q2 = .int .i64 F1 ∧ PrO wx V3.heap.size (.slice xr D1.length dr) D1 ∧ Below V3.heap.size V3 wx)
  case first =>
    go_region_held3 (fun w' => w'.cell? ⟨w.heap.size, 0, none⟩ = some (.slice a1 n c1) ∧ w'.cell? ⟨w.heap.size, 2, none⟩ = some (.slice a2 k c2)) (go_keep)
      (first
        | (have qo := HPA; have qb := HPB; clear qo qb; go_at_call 24; refine (HR1.out _ _ _ HPA.out.at HPB.out.at).mono ?_; rintro e wn ⟨xr, dr, rfl, ho, hg⟩; have HLR : Hid (PrO wn V3.heap.size (.slice xr D1.length dr) D1) := ho.mono HGC.out.size; have HGN : Hid (Below V3.heap.size V3 wn) := Below.next HGC.out ⟨hg.os, hg.tape, hg.output, hg.size, hg.block⟩; clear HGC; have HGC := HGN; clear HGN; have v0 := cell_bel HGC.out b0; have v1 := cell_bel HGC.out b1; clear hg ho)
        | (have qa := HPA; clear qa; go_at_call 15; refine ((HPP.out _ ?_).2).mono ?_; exact (HS3.out.below HGC.out).hb; rintro e wn ⟨xB, dB, rfl, ho, hg⟩; have HNE : Hid (∀ q, (Value.slice xA n dA).ownBlock = some q → (Value.slice xB k dB).ownBlock ≠ some q) := fun q h1 h2 => Nat.lt_irrefl _ (Nat.lt_of_lt_of_le (HPA.out.blk q h1).2 (ho.blk q h2).1); have HPB : Hid (ChO wn V3.heap.size (.slice xB k dB) lb) := ho.mono HGC.out.size; have HQ : Hid (PrO wn V3.heap.size (.slice xA n dA) la) := HPA.out.below ⟨hg.os, hg.tape, hg.output, hg.size, hg.block⟩; clear HPA; have HPA := HQ; clear HQ; have HGN : Hid (Below V3.heap.size V3 wn) := Below.next HGC.out ⟨hg.os, hg.tape, hg.output, hg.size, hg.block⟩; clear HGC; have HGC := HGN; clear HGN; have y0 := cell_bel HGC.out b0; have y1 := cell_bel HGC.out b1; clear hg ho)
        | (go_at_call 6; refine ((HPP.out _ ?_).1).mono ?_; (first | exact HS3.out.hb | exact (HS3.out.below (Below.refl _ _).drew).hb | exact (HS3.out.below (below_drewN' (Below.refl _ _) _)).hb); rintro e wn ⟨xA, dA, rfl, ho, hg⟩; have HGC : Hid (Below V3.heap.size V3 wn) := ⟨hg.os, hg.tape, hg.output, hg.size, hg.block⟩; have HPA : Hid (PrO wn V3.heap.size (.slice xA n dA) la) := ho; have z0 := cell_bel HGC.out b0; have z1 := cell_bel HGC.out b1; clear hg ho))
    all_goals
      go_wp2_with fail
      go_meet
      exact ⟨xr, dr, rfl, rfl, HLR.out, HGC.out⟩
  case rest =>
  obtain ⟨x4, d4, rfl, rfl, ho, hg⟩ := hcut
  have HG4 : Hid (Below V3.heap.size V3 wc) := hg
  have HL4 := hide ho
  generalize wc = V4 at *
  clear hg ho
  have HS4 := hide (HS3.out.below HG4.out)
  have HL1_4 := hide (HL1_3.out.below HG4.out)
  clear HL1_3
  have HL2_4 := hide (HL2_3.out.below HG4.out)
  clear HL2_3
  have HL3_4 := hide (HL3.out.below HG4.out)
  clear HL3
  have HZ4 : Hid (V3.heap.size ≤ V4.heap.size) := HG4.out.size
  have HKB4 : Hid (∀ q, (Value.slice x4 D1.length d4).ownBlock = some q → V3.heap.size ≤ q ∧ q < V4.heap.size) := fun q hq => HL4.out.blk q hq
  clear b0 b1 HG4 HS3
  obtain ⟨b0, b1⟩ := HS4.out.b2
  go_wp2_with fail
  refine ((HPP.out _ HS4.out.hb).1).mono ?_
  rintro e V5 ⟨x5, d5, rfl, ho, hg⟩
  have HG5 := hide hg
  have HL5 := hide ho
  clear hg ho
  have HS5 := hide (HS4.out.below HG5.out)
  have HL1_5 := hide (HL1_4.out.below HG5.out)
  clear HL1_4
  have HL2_5 := hide (HL2_4.out.below HG5.out)
  clear HL2_4
  have HL3_5 := hide (HL3_4.out.below HG5.out)
  clear HL3_4
  have HL4_5 := hide (HL4.out.below HG5.out)
  clear HL4
  have HZ5 : Hid (V4.heap.size ≤ V5.heap.size) := HG5.out.size
  clear b0 b1 HG5 HS4
  obtain ⟨b0, b1⟩ := HS5.out.b2
  go_wp2_with fail
  refine (HR2.out _ _ _ HL5.out.at (ChR.nil _)).mono ?_
  rintro e V6 ⟨x6, d6, rfl, ho, hg⟩
  have HG6 := hide hg
  have HL6 := hide ho
  clear hg ho
  have HS6 := hide (HS5.out.below HG6.out)
  have HL1_6 := hide (HL1_5.out.below HG6.out)
  clear HL1_5
  have HL2_6 := hide (HL2_5.out.below HG6.out)
  clear HL2_5
  have HL3_6 := hide (HL3_5.out.below HG6.out)
  clear HL3_5
  have HL4_6 := hide (HL4_5.out.below HG6.out)
  clear HL4_5
  have HZ6 : Hid (V5.heap.size ≤ V6.heap.size) := HG6.out.size
  have HKB6 : Hid (∀ q, (Value.slice x6 D2.length d6).ownBlock = some q → V5.heap.size ≤ q ∧ q < V6.heap.size) := fun q hq => HL6.out.blk q hq
  clear b0 b1 HG6 HS5
  obtain ⟨b0, b1⟩ := HS6.out.b2
  go_wp2_with fail
  clear HL5
  have hf1 : (F1 != F1) = false := by simp
  have hf2 : (F2 != F2) = false := by simp
  refine (HN1u.out _ HS6.out.hb).mono ?_
  rintro e Vz ⟨rfl, rfl⟩
  go_wp2_with fail
  refine (HN2u.out _ HS6.out.hb).mono ?_
  rintro e Vz ⟨rfl, rfl⟩
  go_wp2_with fail
  refine (samep_same _ _ D1 _ (by have := HLEN.out.1; omega) HL1_6.out.at HL4_6.out.at).mono ?_
  rintro e V7 ⟨rfl, hg⟩
  have HG7 := hide hg
  clear hg
  have HS7 := hide (HS6.out.below HG7.out)
  have HL1_7 := hide (HL1_6.out.below HG7.out)
  clear HL1_6
  have HL2_7 := hide (HL2_6.out.below HG7.out)
  clear HL2_6
  have HL3_7 := hide (HL3_6.out.below HG7.out)
  clear HL3_6
  have HL4_7 := hide (HL4_6.out.below HG7.out)
  clear HL4_6
  have HL6_7 := hide (HL6.out.below HG7.out)
  clear HL6
  have HZ7 : Hid (V6.heap.size ≤ V7.heap.size) := HG7.out.size
  clear b0 b1 HG7 HS6
  obtain ⟨b0, b1⟩ := HS7.out.b2
  go_wp2_with fail
  refine (samep_same _ _ D2 _ (by have := HLEN.out.2.1; omega) HL2_7.out.at HL6_7.out.at).mono ?_
  rintro e V8 ⟨rfl, hg⟩
  have HG8 := hide hg
  clear hg
  have HS8 := hide (HS7.out.below HG8.out)
  have HL1_8 := hide (HL1_7.out.below HG8.out)
  clear HL1_7
  have HL2_8 := hide (HL2_7.out.below HG8.out)
  clear HL2_7
  have HL3_8 := hide (HL3_7.out.below HG8.out)
  clear HL3_7
  have HL4_8 := hide (HL4_7.out.below HG8.out)
  clear HL4_7
  have HL6_8 := hide (HL6_7.out.below HG8.out)
  clear HL6_7
  have HZ8 : Hid (V7.heap.size ≤ V8.heap.size) := HG8.out.size
  clear b0 b1 HG8 HS7
  obtain ⟨b0, b1⟩ := HS8.out.b2
  go_wp2_with fail
  refine (samep_same _ _ D1 _ (by have := HLEN.out.1; omega) HL3_8.out.at HL4_8.out.at).mono ?_
  rintro e V9 ⟨rfl, hg⟩
  have HG9 := hide hg
  clear hg
  have HS9 := hide (HS8.out.below HG9.out)
  have HL1_9 := hide (HL1_8.out.below HG9.out)
  clear HL1_8
  have HL2_9 := hide (HL2_8.out.below HG9.out)
  clear HL2_8
  have HL3_9 := hide (HL3_8.out.below HG9.out)
  clear HL3_8
  have HL4_9 := hide (HL4_8.out.below HG9.out)
  clear HL4_8
  have HL6_9 := hide (HL6_8.out.below HG9.out)
  clear HL6_8
  have HZ9 : Hid (V8.heap.size ≤ V9.heap.size) := HG9.out.size
  clear b0 b1 HG9 HS8
  obtain ⟨b0, b1⟩ := HS9.out.b2
  have HPK : Hid (∀ W, LSp w (.slice a1 n c1) vB (.slice a2 k c2) vM ga gb ca cb la lb W → PrR W (.slice (some ⟨ga, 0, none⟩) n1 ca) (la ++ [bhP]) ∧ ChR W (.slice (some ⟨gb, 0, none⟩) k1 cb) (lb ++ [bhC])) := fun W h => by
    have h1 := h.pa.at
    have h2 := h.pb.at
    rw [← HN.out.1, ← HN1.out] at h1
    rw [← HN.out.2, ← HK1.out] at h2
    exact ⟨h1, h2⟩
  go_wp2_with fail
  refine (keptp_any _ _ la _ (HPK.out _ HS9.out).1 (HRA.out.below HS9.out.hb) (by have := HUN.out; omega)).mono ?_
  rintro e V10 ⟨rfl, hg⟩
  have HG10 := hide hg
  clear hg
  have HS10 := hide (HS9.out.below HG10.out)
  have HL1_10 := hide (HL1_9.out.below HG10.out)
  clear HL1_9
  have HL2_10 := hide (HL2_9.out.below HG10.out)
  clear HL2_9
  have HL3_10 := hide (HL3_9.out.below HG10.out)
  clear HL3_9
  have HL4_10 := hide (HL4_9.out.below HG10.out)
  clear HL4_9
  have HL6_10 := hide (HL6_9.out.below HG10.out)
  clear HL6_9
  have HZ10 : Hid (V9.heap.size ≤ V10.heap.size) := HG10.out.size
  clear b0 b1 HG10 HS9
  obtain ⟨b0, b1⟩ := HS10.out.b2
  go_wp2_with fail
  refine (keptc_any _ _ lb _ (HPK.out _ HS10.out).2 (HRB.out.below HS10.out.hb) (by have := HUN.out; omega)).mono ?_
  rintro e V11 ⟨rfl, hg⟩
  have HG11 := hide hg
  clear hg
  have HS11 := hide (HS10.out.below HG11.out)
  have HL1_11 := hide (HL1_10.out.below HG11.out)
  clear HL1_10
  have HL2_11 := hide (HL2_10.out.below HG11.out)
  clear HL2_10
  have HL3_11 := hide (HL3_10.out.below HG11.out)
  clear HL3_10
  have HL4_11 := hide (HL4_10.out.below HG11.out)
  clear HL4_10
  have HL6_11 := hide (HL6_10.out.below HG11.out)
  clear HL6_10
  have HZ11 : Hid (V10.heap.size ≤ V11.heap.size) := HG11.out.size
  clear b0 b1 HG11 HS10
  obtain ⟨b0, b1⟩ := HS11.out.b2
  have hap := apq_three U.heap.size (.slice x1 D1.length d1) (.slice x2 D2.length d2) (.slice x3 D1.length d3) D1 D2 D1 V11 V1.heap.size V2.heap.size HL1_11.out (HL2_11.out.mono HZ1.out) (HL3_11.out.mono (Nat.le_trans HZ1.out HZ2.out)) (fun q hq => (HKB1.out q hq).2) HKB2.out (fun q hq => (HKB3.out q hq).1) HZ2.out
  have hsa : LSp w (.slice a1 n c1) vB (.slice a2 k c2) vM ga gb ca cb la lb (V11.alloc (.cells #[.slice x1 D1.length d1, .slice x2 D2.length d2, .slice x3 D1.length d3] 22)) := HS11.out.below (below_new V11 _)
  have hus : U.heap.size ≤ (V11.alloc (.cells #[.slice x1 D1.length d1, .slice x2 D2.length d2, .slice x3 D1.length d3] 22)).heap.size := by have h9 := (below_new V11 (.cells #[.slice x1 D1.length d1, .slice x2 D2.length d2, .slice x3 D1.length d3] 22)).size; have := HZ1.out; have := HZ2.out; have := HZ3.out; have := HZ4.out; have := HZ5.out; have := HZ6.out; have := HZ7.out; have := HZ8.out; have := HZ9.out; have := HZ10.out; have := HZ11.out; omega
  have HAT := hide (apartp_any U.heap.size V11.heap.size 3 3 _ _ _ (by omega) (fun j hj => by have := HLEN.out; match j, hj with | 0, _ => show D1.length ≤ _; omega | 1, _ => show D2.length ≤ _; omega | 2, _ => show D1.length ≤ _; omega) hap hus)
  have HSA := hide hsa
  have HUZ := hide hus
  clear hap hsa hus HL1_11 HL2_11 HL3_11 HL4_11 HL6_11
  go_wp2_with fail
  refine HAT.out.mono ?_
  rintro e U3 ⟨rfl, hbut⟩
  have HS20 : Hid (LSp w (.slice a1 n c1) vB (.slice a2 k c2) vM ga gb ca cb la lb U3) := HSA.out.under U.heap.size HUS.out.1 HUS.out.2.1 HUS.out.2.2 (hbut.below HUZ.out)
  clear hbut HSA HAT HS11 b0 b1
  obtain ⟨b0, b1⟩ := HS20.out.b2
  go_wp2_with fail
  go_region_held3 (fun w' => w'.cell? ⟨w.heap.size, 0, none⟩ = some (.slice a1 n c1)) (go_keep)
    (first
      | (have qa := HSO; clear qa; go_at_call 23; refine (HC3.out _ ?_).mono ?_; (first | exact HSO.out | exact HSO.out.below (Below.refl _ _).drew | exact HSO.out.below (below_drewN' (Below.refl _ _) _)); rintro e V21 ⟨x21, d21, rfl, ho, hg⟩; have HGB : Hid (Below V20.heap.size V20 V21) := ⟨hg.os, hg.tape, hg.output, hg.size, hg.block⟩; have HL21 : Hid (PrO V21 V20.heap.size (.slice x21 D3.length d21) D3) := ho; have z1 := cell_bel HGB.out z0; clear hg ho)
      | (go_at_call 22; refine (HOC.out _ ?_).mono ?_; (first | exact HS20.out | exact HS20.out.below (Below.refl _ _).drew | exact HS20.out.below (below_drewN' (Below.refl _ _) _)); rintro e V20 ⟨rfl, hs⟩; have HSO := hide hs; have z0 := hs.b2.1; clear hs))
  have HS21 := hide (HSO.out.below HGB.out)
  clear b0 b1 z0 z1 HSO HS20 HGB
  obtain ⟨b0, b1⟩ := HS21.out.b2
  go_upto_region 14 with fail
  go_cut [13, 14] (fun q1 q2 wx => ∃ xr dr, q1 = .slice xr D3.length dr ∧ q2 = .int .i64 F3 ∧ PrO wx V21.heap.size (.slice xr D3.length dr) D3 ∧ Below V21.heap.size V21 wx)
  case first =>
    go_region_held3 (fun w' => w'.cell? ⟨w.heap.size, 0, none⟩ = some (.slice a1 n c1) ∧ w'.cell? ⟨w.heap.size, 2, none⟩ = some (.slice a2 k c2)) (go_keep)
      (first
        | (have qo := HPA; have qb := HOB2; clear qo qb; go_at_call 24; refine (HR3.out _ _ _ HPA.out.at HOB2.out.at).mono ?_; rintro e wn ⟨xr, dr, rfl, ho, hg⟩; have HLR : Hid (PrO wn V21.heap.size (.slice xr D3.length dr) D3) := ho.mono HGC.out.size; have HGN : Hid (Below V21.heap.size V21 wn) := Below.next HGC.out ⟨hg.os, hg.tape, hg.output, hg.size, hg.block⟩; clear HGC; have HGC := HGN; clear HGN; have v0 := cell_bel HGC.out b0; have v1 := cell_bel HGC.out b1; clear hg ho)
        | (have qa := HPA; have qb := HPB; clear qa qb; go_at_call 22; refine (HPC.out _ V21.heap.size _ _ HPB.out).mono ?_; rintro e wn ⟨rfl, ho, hg⟩; have HOB2 : Hid (ChO wn V21.heap.size (.slice xB k dB) (othC lb k)) := ho; have HQ : Hid (PrO wn V21.heap.size (.slice xA n dA) la) := pro_same HPA.out (fun q hq => hg.block q (HPA.out.blk q hq).2 (fun e => HNE.out q hq e.symm)); clear HPA; have HPA := HQ; clear HQ; have HGN : Hid (Below V21.heap.size V21 wn) := HGC.out.grown hg HGC.out.size (fun q hq => (HPB.out.blk q hq).1); clear HGC; have HGC := HGN; clear HGN; clear HPB; have u0 := cell_bel HGC.out b0; have u1 := cell_bel HGC.out b1; clear hg ho)
        | (have qa := HPA; clear qa; go_at_call 15; refine ((HPP.out _ ?_).2).mono ?_; exact (HS21.out.below HGC.out).hb; rintro e wn ⟨xB, dB, rfl, ho, hg⟩; have HNE : Hid (∀ q, (Value.slice xA n dA).ownBlock = some q → (Value.slice xB k dB).ownBlock ≠ some q) := fun q h1 h2 => Nat.lt_irrefl _ (Nat.lt_of_lt_of_le (HPA.out.blk q h1).2 (ho.blk q h2).1); have HPB : Hid (ChO wn V21.heap.size (.slice xB k dB) lb) := ho.mono HGC.out.size; have HQ : Hid (PrO wn V21.heap.size (.slice xA n dA) la) := HPA.out.below ⟨hg.os, hg.tape, hg.output, hg.size, hg.block⟩; clear HPA; have HPA := HQ; clear HQ; have HGN : Hid (Below V21.heap.size V21 wn) := Below.next HGC.out ⟨hg.os, hg.tape, hg.output, hg.size, hg.block⟩; clear HGC; have HGC := HGN; clear HGN; have y0 := cell_bel HGC.out b0; have y1 := cell_bel HGC.out b1; clear hg ho)
        | (go_at_call 6; refine ((HPP.out _ ?_).1).mono ?_; (first | exact HS21.out.hb | exact (HS21.out.below (Below.refl _ _).drew).hb | exact (HS21.out.below (below_drewN' (Below.refl _ _) _)).hb); rintro e wn ⟨xA, dA, rfl, ho, hg⟩; have HGC : Hid (Below V21.heap.size V21 wn) := ⟨hg.os, hg.tape, hg.output, hg.size, hg.block⟩; have HPA : Hid (PrO wn V21.heap.size (.slice xA n dA) la) := ho; have z0 := cell_bel HGC.out b0; have z1 := cell_bel HGC.out b1; clear hg ho))
    all_goals
      go_wp2_with fail
      go_meet
      exact ⟨xr, dr, rfl, rfl, HLR.out, HGC.out⟩
  case rest =>
  obtain ⟨x22, d22, rfl, rfl, ho, hg⟩ := hcut
  have HG22 : Hid (Below V21.heap.size V21 wc) := hg
  have HL22 := hide ho
  generalize wc = V22 at *
  clear hg ho
  have HS22 := hide (HS21.out.below HG22.out)
  have HL21_22 := hide (HL21.out.below HG22.out)
  clear HL21
  have HZ22 : Hid (V21.heap.size ≤ V22.heap.size) := HG22.out.size
  have HKB22 : Hid (∀ q, (Value.slice x22 D3.length d22).ownBlock = some q → V21.heap.size ≤ q ∧ q < V22.heap.size) := fun q hq => HL22.out.blk q hq
  clear b0 b1 HG22 HS21
  obtain ⟨b0, b1⟩ := HS22.out.b2
  go_wp2_with fail
  have hf3 : (F3 != F3) = false := by simp
  refine (HN3u.out _ HS22.out.hb).mono ?_
  rintro e Vz ⟨rfl, rfl⟩
  go_wp2_with fail
  refine (samep_same _ _ D3 _ (by have := HLEN.out.2.2.1; omega) HL21_22.out.at HL22.out.at).mono ?_
  rintro e V23 ⟨rfl, hg⟩
  have HG23 := hide hg
  clear hg
  have HS23 := hide (HS22.out.below HG23.out)
  have HL21_23 := hide (HL21_22.out.below HG23.out)
  clear HL21_22
  have HL22_23 := hide (HL22.out.below HG23.out)
  clear HL22
  have HZ23 : Hid (V22.heap.size ≤ V23.heap.size) := HG23.out.size
  clear b0 b1 HG23 HS22
  obtain ⟨b0, b1⟩ := HS23.out.b2
  go_wp2_with fail
  have HS30 := hide HS23.out
  clear HS23 HL21_23 HL22_23
  go_region_held3 (fun w' => w'.cell? ⟨w.heap.size, 0, none⟩ = some (.slice a1 n c1)) (go_keep)
    (first
      | (have qa := HSO; clear qa; go_at_call 23; refine (HC4.out _ ?_).mono ?_; (first | exact HSO.out | exact HSO.out.below (Below.refl _ _).drew | exact HSO.out.below (below_drewN' (Below.refl _ _) _)); rintro e V31 ⟨x31, d31, rfl, ho, hg⟩; have HGB : Hid (Below V30.heap.size V30 V31) := ⟨hg.os, hg.tape, hg.output, hg.size, hg.block⟩; have HL31 : Hid (PrO V31 V30.heap.size (.slice x31 D4.length d31) D4) := ho; have z1 := cell_bel HGB.out z0; clear hg ho)
      | (go_at_call 14; refine (HOA.out _ ?_).mono ?_; (first | exact HS30.out | exact HS30.out.below (Below.refl _ _).drew | exact HS30.out.below (below_drewN' (Below.refl _ _) _)); rintro e V30 ⟨rfl, hs⟩; have HSO := hide hs; have z0 := hs.b2.1; clear hs))
  have HS31 := hide (HSO.out.below HGB.out)
  clear b0 b1 z0 z1 HSO HS30 HGB
  obtain ⟨b0, b1⟩ := HS31.out.b2
  go_upto_region 18 with fail
  go_cut [13, 14] (fun q1 q2 wx => ∃ xr dr, q1 = .slice xr D4.length dr ∧ q2 = .int .i64 F4 ∧ PrO wx V31.heap.size (.slice xr D4.length dr) D4 ∧ Below V31.heap.size V31 wx)
  case first =>
    go_region_held3 (fun w' => w'.cell? ⟨w.heap.size, 0, none⟩ = some (.slice a1 n c1) ∧ w'.cell? ⟨w.heap.size, 2, none⟩ = some (.slice a2 k c2)) (go_keep)
      (first
        | (have qo := HOA2; have qb := HOB2; clear qo qb; go_at_call 24; refine (HR4.out _ _ _ HOA2.out.at HOB2.out.at).mono ?_; rintro e wn ⟨xr, dr, rfl, ho, hg⟩; have HLR : Hid (PrO wn V31.heap.size (.slice xr D4.length dr) D4) := ho.mono HGC.out.size; have HGN : Hid (Below V31.heap.size V31 wn) := Below.next HGC.out ⟨hg.os, hg.tape, hg.output, hg.size, hg.block⟩; clear HGC; have HGC := HGN; clear HGN; have v0 := cell_bel HGC.out b0; have v1 := cell_bel HGC.out b1; clear hg ho)
        | (have qa := HOA2; have qb := HPB; clear qa qb; go_at_call 22; refine (HPC.out _ V31.heap.size _ _ HPB.out).mono ?_; rintro e wn ⟨rfl, ho, hg⟩; have HOB2 : Hid (ChO wn V31.heap.size (.slice xB k dB) (othC lb k)) := ho; have HQ : Hid (PrO wn V31.heap.size (.slice xA n dA) (othA la n)) := pro_same HOA2.out (fun q hq => hg.block q (HOA2.out.blk q hq).2 (fun e => HNE.out q hq e.symm)); clear HOA2; have HOA2 := HQ; clear HQ; have HGN : Hid (Below V31.heap.size V31 wn) := HGC.out.grown hg HGC.out.size (fun q hq => (HPB.out.blk q hq).1); clear HGC; have HGC := HGN; clear HGN; clear HPB; have u0 := cell_bel HGC.out b0; have u1 := cell_bel HGC.out b1; clear hg ho)
        | (have qa := HOA2; clear qa; go_at_call 15; refine ((HPP.out _ ?_).2).mono ?_; exact (HS31.out.below HGC.out).hb; rintro e wn ⟨xB, dB, rfl, ho, hg⟩; have HNE : Hid (∀ q, (Value.slice xA n dA).ownBlock = some q → (Value.slice xB k dB).ownBlock ≠ some q) := fun q h1 h2 => Nat.lt_irrefl _ (Nat.lt_of_lt_of_le (HOA2.out.blk q h1).2 (ho.blk q h2).1); have HPB : Hid (ChO wn V31.heap.size (.slice xB k dB) lb) := ho.mono HGC.out.size; have HQ : Hid (PrO wn V31.heap.size (.slice xA n dA) (othA la n)) := HOA2.out.below ⟨hg.os, hg.tape, hg.output, hg.size, hg.block⟩; clear HOA2; have HOA2 := HQ; clear HQ; have HGN : Hid (Below V31.heap.size V31 wn) := Below.next HGC.out ⟨hg.os, hg.tape, hg.output, hg.size, hg.block⟩; clear HGC; have HGC := HGN; clear HGN; have y0 := cell_bel HGC.out b0; have y1 := cell_bel HGC.out b1; clear hg ho)
        | (have qa := HPA; clear qa; go_at_call 14; refine (HPO.out _ V31.heap.size _ _ HPA.out).mono ?_; rintro e wn ⟨rfl, ho, hg⟩; have HOA2 : Hid (PrO wn V31.heap.size (.slice xA n dA) (othA la n)) := ho; have HGN : Hid (Below V31.heap.size V31 wn) := HGC.out.grown hg HGC.out.size (fun q hq => (HPA.out.blk q hq).1); clear HGC; have HGC := HGN; clear HGN; clear HPA; have t0 := cell_bel HGC.out b0; have t1 := cell_bel HGC.out b1; clear hg ho)
        | (go_at_call 6; refine ((HPP.out _ ?_).1).mono ?_; (first | exact HS31.out.hb | exact (HS31.out.below (Below.refl _ _).drew).hb | exact (HS31.out.below (below_drewN' (Below.refl _ _) _)).hb); rintro e wn ⟨xA, dA, rfl, ho, hg⟩; have HGC : Hid (Below V31.heap.size V31 wn) := ⟨hg.os, hg.tape, hg.output, hg.size, hg.block⟩; have HPA : Hid (PrO wn V31.heap.size (.slice xA n dA) la) := ho; have z0 := cell_bel HGC.out b0; have z1 := cell_bel HGC.out b1; clear hg ho))
    all_goals
      go_wp2_with fail
      go_meet
      exact ⟨xr, dr, rfl, rfl, HLR.out, HGC.out⟩
  case rest =>
  obtain ⟨x32, d32, rfl, rfl, ho, hg⟩ := hcut
  have HG32 : Hid (Below V31.heap.size V31 wc) := hg
  have HL32 := hide ho
  generalize wc = V32 at *
  clear hg ho
  have HS32 := hide (HS31.out.below HG32.out)
  have HL31_32 := hide (HL31.out.below HG32.out)
  clear HL31
  have HZ32 : Hid (V31.heap.size ≤ V32.heap.size) := HG32.out.size
  have HKB32 : Hid (∀ q, (Value.slice x32 D4.length d32).ownBlock = some q → V31.heap.size ≤ q ∧ q < V32.heap.size) := fun q hq => HL32.out.blk q hq
  clear b0 b1 HG32 HS31
  obtain ⟨b0, b1⟩ := HS32.out.b2
  go_wp2_with fail
  have hf4 : (F4 == F4) = true := by simp
  refine (HN4u.out _ HS32.out.hb).mono ?_
  rintro e Vz ⟨rfl, rfl⟩
  go_wp2_with fail
  refine (samep_same _ _ D4 _ (by have := HLEN.out.2.2.2; omega) HL31_32.out.at HL32.out.at).mono ?_
  rintro e V33 ⟨rfl, hg⟩
  have HG33 := hide hg
  clear hg
  have HS33 := hide (HS32.out.below HG33.out)
  have HL31_33 := hide (HL31_32.out.below HG33.out)
  clear HL31_32
  have HL32_33 := hide (HL32.out.below HG33.out)
  clear HL32
  have HZ33 : Hid (V32.heap.size ≤ V33.heap.size) := HG33.out.size
  clear b0 b1 HG33 HS32
  obtain ⟨b0, b1⟩ := HS33.out.b2
  go_wp2
  go_ret
  exact ⟨rfl, HS33.out.hb⟩
end Go.Proofs.YthnidlhcpelomaaDoor
