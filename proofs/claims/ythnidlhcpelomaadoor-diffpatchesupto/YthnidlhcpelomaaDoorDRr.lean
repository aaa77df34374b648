import Derived.Test.YthnidlhcpelomaaDoorDSta
import Derived.BigQuiet
namespace Go.Proofs.YthnidlhcpelomaaDoor
open Go.RowKit
attribute [local go_sem ↓] Go.wp_at_zero Go.wp_at_succ

set_option maxHeartbeats 2000000 in
theorem rprise_any (v : Value) (l : List Pr) (w : World) (hm : l.length ≤ 140737488355328) (hR : PrR w v l) :
    Calls Tryd.prog 32 #[v] w fun e w' => e = .returned (.bool (riseB l)) ∧ Below w.heap.size w w' := by
  have hkr : KeyR 2 w v (l.map Prod.fst) := hR.keys
  obtain ⟨a, c, rfl⟩ : ∃ a c, v = .slice a l.length c := by obtain ⟨x, y, h, _⟩ := hR; exact ⟨x, y, h⟩
  obtain ⟨n, hnl⟩ : ∃ n, n = l.length := ⟨_, rfl⟩
  rw [← hnl] at hkr hm ⊢
  have HR := hide hkr
  have HNL := hide hnl
  have HI := hide (riseB_idx l)
  obtain ⟨Q, hQ⟩ : ∃ Q : Ending → World → Prop, Q = fun e w' => e = .returned (.bool (riseB l)) ∧ Below w.heap.size w w' := ⟨_, rfl⟩
  rw [← hQ]
  have HQ := hide hQ
  clear hQ hR hnl hkr
  go_enter Tryd.func32, Tryd.ntmps32
  go_wp2
  go_loopw [3] (fun i wr => ∃ q nq : Nat, 1 ≤ q ∧ q ≤ n + 1 ∧ i = .int .i64 (q : Int) ∧ wr = w.drewN nq ∧ (∀ j (h : j + 1 < l.length), j + 1 < q → ltK l[j].1 l[j + 1].1 = true)) (fun i _ => n + 1 - (intOf i).toNat)
  case atStart => exact ⟨1, 0, Nat.le_refl _, by omega, rfl, rfl, fun j _ hj => by omega⟩
  case round =>
    obtain ⟨q, nq, hq1, hq, rfl, rfl, hall⟩ := hrel
    have HALL := hide hall
    clear hall
    by_cases hlt : q < n
    · have j1 : (q : Int) < (n : Int) := by omega
      have j0 : (0 : Int) ≤ (q : Int) := by omega
      obtain ⟨m, hmq⟩ : ∃ m : Nat, m + 1 = q := ⟨q - 1, by omega⟩
      have hwm : IntKind.i64.wrap ((q : Int) - 1) = (m : Int) := by rw [IntKind.wrap_i64]; omega
      have i1 : (m : Int) < (n : Int) := by omega
      have i0 : (0 : Int) ≤ (m : Int) := by omega
      have hql : q < l.length := by have := HNL.out; omega
      obtain ⟨a9, cap, he, hle, hn9, hc⟩ := HR.out
      obtain ⟨rfl, -, rfl⟩ : a = a9 ∧ n = l.length ∧ c = cap := by simpa using he
      obtain ⟨g, o, rfl, d1⟩ := hc q (by simpa using hql)
      obtain ⟨g', o', he', d0⟩ := hc m (by simp; omega)
      cases he'
      obtain ⟨k1, hk1⟩ : ∃ k, k = l[q].1 := ⟨_, rfl⟩
      obtain ⟨k0, hk0⟩ : ∃ k, k = (l[m]'(by omega)).1 := ⟨_, rfl⟩
      simp only [List.getElem_map] at d0 d1
      rw [← hk1] at d1
      rw [← hk0] at d0
      have HLT := hide hlt
      have HG := hide (gt_eq k1 k0)
      have HMQ := hide hmq
      have HSTEP : Hid (ltK k0 k1 = true → ∀ j (h : j + 1 < l.length), j + 1 < q + 1 → ltK l[j].1 l[j + 1].1 = true) := fun h j hj hjq => by
        by_cases hjq' : j + 1 < q
        · exact HALL.out j hj hjq'
        · obtain rfl : j = m := by omega
          subst hmq
          rw [← hk0, ← hk1]; exact h
      have HNO : Hid (ltK k0 k1 = false → riseB l = false) := fun h => by
        cases hr : riseB l with
        | false => rfl
        | true =>
          have := (HI.out.1 hr) m (by omega)
          subst hmq
          rw [← hk0, ← hk1, h] at this
          cases this
      clear hc hn9 he hle hk1 hk0 hmq HALL
      cases hl : ltK k0 k1 with
      | true =>
        have h1 : Op.bytesLess k1.toList k0.toList = false := ltK_asymm hl
        have hne : ¬ k1 = k0 := fun e => ltK_ne hl e.symm
        have h2 : (k1.toList == k0.toList) = false := by rw [list_eq]; simp [hne]
        clear hne
        have HS := hide (HSTEP.out hl)
        go_wp2
        go_quiet (fail)
        go_wp2
        go_roundw
        case rel => exact ⟨q + 1, _, by omega, by omega, by go_num, rfl, HS.out⟩
        case measure => have := HLT.out; simp [intOf]; omega
      | false =>
        have HN := hide (HNO.out hl)
        have h3 : (Op.bytesLess k1.toList k0.toList || k1.toList == k0.toList) = true := by
          have := HG.out
          rw [hl] at this
          revert this
          cases Op.bytesLess k1.toList k0.toList <;> cases (k1.toList == k0.toList) <;> simp
        go_wp2
        go_quiet (fail)
        go_wp2
        rw [HQ.out, HN.out]
        exact ⟨rfl, below_drewN2 (below_drewN2 (Below.refl _ _) _) _⟩
    · have j1 : ¬ (q : Int) < (n : Int) := by omega
      have HY : Hid (riseB l = true) := HI.out.2 (fun j hj => HALL.out j hj (by have := HNL.out; omega))
      go_wp2
      rw [HQ.out, HY.out]
      exact ⟨rfl, below_drewN2 (Below.refl _ _) _⟩
set_option maxHeartbeats 2000000 in
theorem rrise_any (v : Value) (l : List Ch) (w : World) (hm : l.length ≤ 140737488355328) (hR : ChR w v l) :
    Calls Tryd.prog 40 #[v] w fun e w' => e = .returned (.bool (riseB l)) ∧ Below w.heap.size w w' := by
  have hkr : KeyR 5 w v (l.map Prod.fst) := hR.keys
  obtain ⟨a, c, rfl⟩ : ∃ a c, v = .slice a l.length c := by obtain ⟨x, y, h, _⟩ := hR; exact ⟨x, y, h⟩
  obtain ⟨n, hnl⟩ : ∃ n, n = l.length := ⟨_, rfl⟩
  rw [← hnl] at hkr hm ⊢
  have HR := hide hkr
  have HNL := hide hnl
  have HI := hide (riseB_idx l)
  obtain ⟨Q, hQ⟩ : ∃ Q : Ending → World → Prop, Q = fun e w' => e = .returned (.bool (riseB l)) ∧ Below w.heap.size w w' := ⟨_, rfl⟩
  rw [← hQ]
  have HQ := hide hQ
  clear hQ hR hnl hkr
  go_enter Tryd.func40, Tryd.ntmps40
  go_wp2
  go_loopw [3] (fun i wr => ∃ q nq : Nat, 1 ≤ q ∧ q ≤ n + 1 ∧ i = .int .i64 (q : Int) ∧ wr = w.drewN nq ∧ (∀ j (h : j + 1 < l.length), j + 1 < q → ltK l[j].1 l[j + 1].1 = true)) (fun i _ => n + 1 - (intOf i).toNat)
  case atStart => exact ⟨1, 0, Nat.le_refl _, by omega, rfl, rfl, fun j _ hj => by omega⟩
  case round =>
    obtain ⟨q, nq, hq1, hq, rfl, rfl, hall⟩ := hrel
    have HALL := hide hall
    clear hall
    by_cases hlt : q < n
    · have j1 : (q : Int) < (n : Int) := by omega
      have j0 : (0 : Int) ≤ (q : Int) := by omega
      obtain ⟨m, hmq⟩ : ∃ m : Nat, m + 1 = q := ⟨q - 1, by omega⟩
      have hwm : IntKind.i64.wrap ((q : Int) - 1) = (m : Int) := by rw [IntKind.wrap_i64]; omega
      have i1 : (m : Int) < (n : Int) := by omega
      have i0 : (0 : Int) ≤ (m : Int) := by omega
      have hql : q < l.length := by have := HNL.out; omega
      obtain ⟨a9, cap, he, hle, hn9, hc⟩ := HR.out
      obtain ⟨rfl, -, rfl⟩ : a = a9 ∧ n = l.length ∧ c = cap := by simpa using he
      obtain ⟨g, o, rfl, d1⟩ := hc q (by simpa using hql)
      obtain ⟨g', o', he', d0⟩ := hc m (by simp; omega)
      cases he'
      obtain ⟨k1, hk1⟩ : ∃ k, k = l[q].1 := ⟨_, rfl⟩
      obtain ⟨k0, hk0⟩ : ∃ k, k = (l[m]'(by omega)).1 := ⟨_, rfl⟩
      simp only [List.getElem_map] at d0 d1
      rw [← hk1] at d1
      rw [← hk0] at d0
      have HLT := hide hlt
      have HG := hide (gt_eq k1 k0)
      have HMQ := hide hmq
      have HSTEP : Hid (ltK k0 k1 = true → ∀ j (h : j + 1 < l.length), j + 1 < q + 1 → ltK l[j].1 l[j + 1].1 = true) := fun h j hj hjq => by
        by_cases hjq' : j + 1 < q
        · exact HALL.out j hj hjq'
        · obtain rfl : j = m := by omega
          subst hmq
          rw [← hk0, ← hk1]; exact h
      have HNO : Hid (ltK k0 k1 = false → riseB l = false) := fun h => by
        cases hr : riseB l with
        | false => rfl
        | true =>
          have := (HI.out.1 hr) m (by omega)
          subst hmq
          rw [← hk0, ← hk1, h] at this
          cases this
      clear hc hn9 he hle hk1 hk0 hmq HALL
      cases hl : ltK k0 k1 with
      | true =>
        have h1 : Op.bytesLess k1.toList k0.toList = false := ltK_asymm hl
        have hne : ¬ k1 = k0 := fun e => ltK_ne hl e.symm
        have h2 : (k1.toList == k0.toList) = false := by rw [list_eq]; simp [hne]
        clear hne
        have HS := hide (HSTEP.out hl)
        go_wp2
        go_quiet (fail)
        go_wp2
        go_roundw
        case rel => exact ⟨q + 1, _, by omega, by omega, by go_num, rfl, HS.out⟩
        case measure => have := HLT.out; simp [intOf]; omega
      | false =>
        have HN := hide (HNO.out hl)
        have h3 : (Op.bytesLess k1.toList k0.toList || k1.toList == k0.toList) = true := by
          have := HG.out
          rw [hl] at this
          revert this
          cases Op.bytesLess k1.toList k0.toList <;> cases (k1.toList == k0.toList) <;> simp
        go_wp2
        go_quiet (fail)
        go_wp2
        rw [HQ.out, HN.out]
        exact ⟨rfl, below_drewN2 (below_drewN2 (Below.refl _ _) _) _⟩
    · have j1 : ¬ (q : Int) < (n : Int) := by omega
      have HY : Hid (riseB l = true) := HI.out.2 (fun j hj => HALL.out j hj (by have := HNL.out; omega))
      go_wp2
      rw [HQ.out, HY.out]
      exact ⟨rfl, below_drewN2 (Below.refl _ _) _⟩
end Go.Proofs.YthnidlhcpelomaaDoor
