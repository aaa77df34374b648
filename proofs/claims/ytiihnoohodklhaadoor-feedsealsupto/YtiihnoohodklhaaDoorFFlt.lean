import Derived.Test.YtiihnoohodklhaaDoorFDat
import Derived.Test.YtiihnoohodklhaaDoorDF
import Derived.BigQuiet
namespace Go.Proofs.YtiihnoohodklhaaDoor
open Go.RowKit
attribute [local go_sem ↓] Go.wp_at_zero Go.wp_at_succ

def notC (c : Ch) : Bool := !mayCh c
def isO (c : Ch) : Bool := decide (c.1 = ownB)
theorem notc_any (c : Ch) (w : World) : Calls Tryd.prog 18 #[chA c.1 c.2] w fun e w' => e = .returned (.bool (notC c)) ∧ Below w.heap.size w w' := maynot_any c w
theorem iso_any (c : Ch) (w : World) : Calls Tryd.prog 20 #[chA c.1 c.2] w fun e w' => e = .returned (.bool (isO c)) ∧ Below w.heap.size w w' := isown_any c w
set_option maxHeartbeats 2000000 in
theorem frises_any (v : Value) (l : List Ch) (w : World) (hm : l.length ≤ 140737488355328) (hR : ChR w v l) :
    Calls Tryd.prog 19 #[v] w fun e w' => e = .returned (.bool (riseB l)) ∧ Below w.heap.size w w' := by
  have hkr : KeyR 5 w v (l.map Prod.fst) := hR.keys
  obtain ⟨a, c, rfl⟩ : ∃ a c, v = .slice a l.length c := by obtain ⟨x, y, h, _⟩ := hR; exact ⟨x, y, h⟩
  obtain ⟨n, hnl⟩ : ∃ n, n = l.length := ⟨_, rfl⟩
  rw [← hnl] at hkr hm ⊢
  have HR := hide hkr
  have HNL := hide hnl
  have HI := hide (riseB_idx l)
  obtain ⟨Q, hQ⟩ : ∃ Q : Ending → World → Prop, Q = fun e w' => e = .returned (.bool (riseB l)) ∧ Below w.heap.size w w' := ⟨_, rfl⟩
  rw [← hQ]
  have HQ := hide hQ
  clear hQ hR hnl hkr
  go_enter Tryd.func19, Tryd.ntmps19
  go_wp2
  go_loopw [3] (fun i wr => ∃ q nq : Nat, 1 ≤ q ∧ q ≤ n + 1 ∧ i = .int .i64 (q : Int) ∧ wr = w.drewN nq ∧ (∀ j (h : j + 1 < l.length), j + 1 < q → ltK l[j].1 l[j + 1].1 = true)) (fun i _ => n + 1 - (intOf i).toNat)
  case atStart => exact ⟨1, 0, Nat.le_refl _, by omega, rfl, rfl, fun j _ hj => by omega⟩
  case round =>
    obtain ⟨q, nq, hq1, hq, rfl, rfl, hall⟩ := hrel
    have HALL := hide hall
    clear hall
    by_cases hlt : q < n
    · have j1 : (q : Int) < (n : Int) := by omega
      have j0 : (0 : Int) ≤ (q : Int) := by omega
      obtain ⟨m, hmq⟩ : ∃ m : Nat, m + 1 = q := ⟨q - 1, by omega⟩
      have hwm : IntKind.i64.wrap ((q : Int) - 1) = (m : Int) := by rw [IntKind.wrap_i64]; omega
      have i1 : (m : Int) < (n : Int) := by omega
      have i0 : (0 : Int) ≤ (m : Int) := by omega
      have hql : q < l.length := by have := HNL.out; omega
      obtain ⟨a9, cap, he, hle, hn9, hc⟩ := HR.out
      obtain ⟨rfl, -, rfl⟩ : a = a9 ∧ n = l.length ∧ c = cap := by simpa using he
      obtain ⟨g, o, rfl, d1⟩ := hc q (by simpa using hql)
      obtain ⟨g', o', he', d0⟩ := hc m (by simp; omega)
      cases he'
      obtain ⟨k1, hk1⟩ : ∃ k, k = l[q].1 := ⟨_, rfl⟩
      obtain ⟨k0, hk0⟩ : ∃ k, k = (l[m]'(by omega)).1 := ⟨_, rfl⟩
      simp only [List.getElem_map] at d0 d1
      rw [← hk1] at d1
      rw [← hk0] at d0
      have HLT := hide hlt
      have HMQ := hide hmq
      have HSTEP : Hid (ltK k0 k1 = true → ∀ j (h : j + 1 < l.length), j + 1 < q + 1 → ltK l[j].1 l[j + 1].1 = true) := fun h j hj hjq => by
        by_cases hjq' : j + 1 < q
        · exact HALL.out j hj hjq'
        · obtain rfl : j = m := by omega
          subst hmq
          rw [← hk0, ← hk1]; exact h
      have HNO : Hid (ltK k0 k1 = false → riseB l = false) := fun h => by
        cases hr : riseB l with
        | false => rfl
        | true =>
          have := (HI.out.1 hr) m (by omega)
          subst hmq
          rw [← hk0, ← hk1, h] at this
          cases this
      clear hc hn9 he hle hk1 hk0 hmq HALL
      cases hl : ltK k0 k1 with
      | true =>
        have h1 : Op.bytesLess k0.toList k1.toList = true := hl
        have HS := hide (HSTEP.out hl)
        go_wp2
        go_quiet (fail)
        go_wp2
        go_roundw
        case rel => exact ⟨q + 1, _, by omega, by omega, by go_num, rfl, HS.out⟩
        case measure => have := HLT.out; simp [intOf]; omega
      | false =>
        have HN := hide (HNO.out hl)
        have h3 : Op.bytesLess k0.toList k1.toList = false := hl
        go_wp2
        go_quiet (fail)
        go_wp2
        rw [HQ.out, HN.out]
        exact ⟨rfl, below_drewN2 (below_drewN2 (Below.refl _ _) _) _⟩
    · have j1 : ¬ (q : Int) < (n : Int) := by omega
      have HY : Hid (riseB l = true) := HI.out.2 (fun j hj => HALL.out j hj (by have := HNL.out; omega))
      go_wp2
      rw [HQ.out, HY.out]
      exact ⟨rfl, below_drewN2 (Below.refl _ _) _⟩
set_option maxHeartbeats 2000000 in
theorem anynoti_any (v : Value) (l : List Ch) (w : World) (hm : l.length ≤ 140737488355328) (hr : ChR w v l) :
    Calls Tryd.prog 30 #[v, .func (.func 18) #[] #[]] w fun e w' => ((l.any notC = false ∧ e = .returned (.int .i64 (-1))) ∨ (l.any notC = true ∧ ∃ k : Nat, e = .returned (.int .i64 (k : Int)))) ∧ Below w.heap.size w w' := by
  obtain ⟨a, cap, hv⟩ := hr.form
  subst hv
  obtain ⟨n, hn⟩ : ∃ n, n = l.length := ⟨_, rfl⟩
  rw [← hn] at hr hm ⊢
  have HR := hide hr
  have HN := hide hn
  obtain ⟨Q, hQ⟩ : ∃ Q : Ending → World → Prop, Q = fun e w' => ((l.any notC = false ∧ e = .returned (.int .i64 (-1))) ∨ (l.any notC = true ∧ ∃ k : Nat, e = .returned (.int .i64 (k : Int)))) ∧ Below w.heap.size w w' := ⟨_, rfl⟩
  rw [← hQ]
  have HQ := hide hQ
  clear hn hr hQ
  go_enter Tryd.func30, Tryd.ntmps30
  go_wp2
  go_loopw [8] (fun i wr => ∃ k : Nat, k ≤ n ∧ i = .int .i64 k ∧ (∀ j (h : j < l.length), j < k → notC l[j] = false) ∧ Below w.heap.size w wr) (fun i _ => n - (intOf i).toNat)
  case atStart => exact ⟨0, Nat.zero_le _, rfl, fun j _ h => absurd h (Nat.not_lt_zero _), Below.refl _ _⟩
  case round =>
    obtain ⟨k, hk, rfl, hpre, hbw⟩ := hrel
    have HP := hide hpre
    clear hpre
    by_cases hlt : k < n
    · have hkl : k < l.length := by have := HN.out; omega
      obtain ⟨a9, cap9, he, _, _, hc⟩ := HR.out.below hbw
      obtain ⟨g, o, ha, c0, c1, c2, c3, c4⟩ := hc k (by have := HN.out; omega)
      obtain ⟨rfl, -, rfl⟩ : a = a9 ∧ n = l.length ∧ cap = cap9 := by simpa using he
      subst ha
      have HF := hide (fun W => notc_any l[k] W)
      have HNX : Hid (notC l[k] = false → ∀ j (h : j < l.length), j < k + 1 → notC l[j] = false) := fun hl j h hj => by
        by_cases he : j = k
        · subst he; exact hl
        · exact HP.out j h (by omega)
      have HAT : Hid (notC l[k] = true → l.any notC = true) := fun hl => by rw [List.any_eq_true]; exact ⟨l[k], List.getElem_mem _, hl⟩
      obtain ⟨p, hp⟩ : ∃ p, p = l[k] := ⟨_, rfl⟩
      rw [← hp] at c0 c1 c2 c3 c4 HF HNX HAT
      have hltI : (k : Int) < (n : Int) := by omega
      have j0 : (0 : Int) ≤ (k : Int) := by omega
      have HB := hide hbw
      simp only [chA] at HF
      clear hp hbw hc he
      cases hb : notC p with
      | false =>
        rw [show (notC p) = false from hb] at HF
        have HNX2 := hide (HNX.out hb)
        clear HNX HAT hb
        go_wp2_with fail
        refine (HF.out _).mono ?_
        rintro e w1 ⟨rfl, hb1⟩
        have HB1 := hide (Below.next HB.out hb1)
        clear hb1 HB HF c0 c1 c2 c3 c4
        go_wp2
        go_roundw
        case rel => exact ⟨k + 1, by omega, by go_num, HNX2.out, HB1.out⟩
        case measure => simp [intOf]; omega
      | true =>
        rw [show (notC p) = true from hb] at HF
        have HAT2 := hide (HAT.out hb)
        clear HNX HAT hb
        go_wp2_with fail
        refine (HF.out _).mono ?_
        rintro e w1 ⟨rfl, hb1⟩
        have HB1 := hide (Below.next HB.out hb1)
        clear hb1 HB HF c0 c1 c2 c3 c4
        go_wp2
        rw [HQ.out]
        exact ⟨.inr ⟨HAT2.out, k, rfl⟩, HB1.out⟩
    · have hltI : ¬ (k : Int) < (n : Int) := by omega
      have HALL : Hid (l.any notC = false) := List.any_eq_false.2 (fun p hp => by
        obtain ⟨i, hi, rfl⟩ := List.getElem_of_mem hp
        have := HP.out i hi (by have := HN.out; omega)
        rw [this]; simp)
      have HB := hide hbw
      clear hbw HP
      go_wp2
      rw [HQ.out]
      exact ⟨.inl ⟨HALL.out, rfl⟩, HB.out⟩
set_option maxHeartbeats 1000000 in
theorem anynot_any (v : Value) (l : List Ch) (w : World) (hm : l.length ≤ 140737488355328) (hr : ChR w v l) :
    Calls Tryd.prog 17 #[v, .func (.func 18) #[] #[]] w fun e w' => e = .returned (.bool (l.any notC)) ∧ Below w.heap.size w w' := by
  have HI := hide (anynoti_any v l w hm hr)
  obtain ⟨a, cap, hv⟩ := hr.form
  subst hv
  clear hr
  go_enter Tryd.func17, Tryd.ntmps17
  go_wp2_with fail
  refine HI.out.mono ?_
  rintro e w1 ⟨⟨hall, rfl⟩ | ⟨hall, k, rfl⟩, hb1⟩
  · have HB := hide hb1
    have HA := hide hall
    clear hb1 hall HI
    go_wp2
    go_ret
    exact ⟨by rw [HA.out]; rfl, HB.out⟩
  · have HB := hide hb1
    have HA := hide hall
    have hk : (0 : Int) ≤ (k : Int) := by omega
    clear hb1 hall HI
    go_wp2
    go_ret
    exact ⟨by rw [HA.out]; rfl, HB.out⟩
set_option maxHeartbeats 2000000 in
theorem anyowni_any (v : Value) (l : List Ch) (w : World) (hm : l.length ≤ 140737488355328) (hr : ChR w v l) :
    Calls Tryd.prog 30 #[v, .func (.func 20) #[] #[]] w fun e w' => ((l.any isO = false ∧ e = .returned (.int .i64 (-1))) ∨ (l.any isO = true ∧ ∃ k : Nat, e = .returned (.int .i64 (k : Int)))) ∧ Below w.heap.size w w' := by
  obtain ⟨a, cap, hv⟩ := hr.form
  subst hv
  obtain ⟨n, hn⟩ : ∃ n, n = l.length := ⟨_, rfl⟩
  rw [← hn] at hr hm ⊢
  have HR := hide hr
  have HN := hide hn
  obtain ⟨Q, hQ⟩ : ∃ Q : Ending → World → Prop, Q = fun e w' => ((l.any isO = false ∧ e = .returned (.int .i64 (-1))) ∨ (l.any isO = true ∧ ∃ k : Nat, e = .returned (.int .i64 (k : Int)))) ∧ Below w.heap.size w w' := ⟨_, rfl⟩
  rw [← hQ]
  have HQ := hide hQ
  clear hn hr hQ
  go_enter Tryd.func30, Tryd.ntmps30
  go_wp2
  go_loopw [8] (fun i wr => ∃ k : Nat, k ≤ n ∧ i = .int .i64 k ∧ (∀ j (h : j < l.length), j < k → isO l[j] = false) ∧ Below w.heap.size w wr) (fun i _ => n - (intOf i).toNat)
  case atStart => exact ⟨0, Nat.zero_le _, rfl, fun j _ h => absurd h (Nat.not_lt_zero _), Below.refl _ _⟩
  case round =>
    obtain ⟨k, hk, rfl, hpre, hbw⟩ := hrel
    have HP := hide hpre
    clear hpre
    by_cases hlt : k < n
    · have hkl : k < l.length := by have := HN.out; omega
      obtain ⟨a9, cap9, he, _, _, hc⟩ := HR.out.below hbw
      obtain ⟨g, o, ha, c0, c1, c2, c3, c4⟩ := hc k (by have := HN.out; omega)
      obtain ⟨rfl, -, rfl⟩ : a = a9 ∧ n = l.length ∧ cap = cap9 := by simpa using he
      subst ha
      have HF := hide (fun W => iso_any l[k] W)
      have HNX : Hid (isO l[k] = false → ∀ j (h : j < l.length), j < k + 1 → isO l[j] = false) := fun hl j h hj => by
        by_cases he : j = k
        · subst he; exact hl
        · exact HP.out j h (by omega)
      have HAT : Hid (isO l[k] = true → l.any isO = true) := fun hl => by rw [List.any_eq_true]; exact ⟨l[k], List.getElem_mem _, hl⟩
      obtain ⟨p, hp⟩ : ∃ p, p = l[k] := ⟨_, rfl⟩
      rw [← hp] at c0 c1 c2 c3 c4 HF HNX HAT
      have hltI : (k : Int) < (n : Int) := by omega
      have j0 : (0 : Int) ≤ (k : Int) := by omega
      have HB := hide hbw
      simp only [chA] at HF
      clear hp hbw hc he
      cases hb : isO p with
      | false =>
        rw [show (isO p) = false from hb] at HF
        have HNX2 := hide (HNX.out hb)
        clear HNX HAT hb
        go_wp2_with fail
        refine (HF.out _).mono ?_
        rintro e w1 ⟨rfl, hb1⟩
        have HB1 := hide (Below.next HB.out hb1)
        clear hb1 HB HF c0 c1 c2 c3 c4
        go_wp2
        go_roundw
        case rel => exact ⟨k + 1, by omega, by go_num, HNX2.out, HB1.out⟩
        case measure => simp [intOf]; omega
      | true =>
        rw [show (isO p) = true from hb] at HF
        have HAT2 := hide (HAT.out hb)
        clear HNX HAT hb
        go_wp2_with fail
        refine (HF.out _).mono ?_
        rintro e w1 ⟨rfl, hb1⟩
        have HB1 := hide (Below.next HB.out hb1)
        clear hb1 HB HF c0 c1 c2 c3 c4
        go_wp2
        rw [HQ.out]
        exact ⟨.inr ⟨HAT2.out, k, rfl⟩, HB1.out⟩
    · have hltI : ¬ (k : Int) < (n : Int) := by omega
      have HALL : Hid (l.any isO = false) := List.any_eq_false.2 (fun p hp => by
        obtain ⟨i, hi, rfl⟩ := List.getElem_of_mem hp
        have := HP.out i hi (by have := HN.out; omega)
        rw [this]; simp)
      have HB := hide hbw
      clear hbw HP
      go_wp2
      rw [HQ.out]
      exact ⟨.inl ⟨HALL.out, rfl⟩, HB.out⟩
set_option maxHeartbeats 1000000 in
theorem anyown_any (v : Value) (l : List Ch) (w : World) (hm : l.length ≤ 140737488355328) (hr : ChR w v l) :
    Calls Tryd.prog 17 #[v, .func (.func 20) #[] #[]] w fun e w' => e = .returned (.bool (l.any isO)) ∧ Below w.heap.size w w' := by
  have HI := hide (anyowni_any v l w hm hr)
  obtain ⟨a, cap, hv⟩ := hr.form
  subst hv
  clear hr
  go_enter Tryd.func17, Tryd.ntmps17
  go_wp2_with fail
  refine HI.out.mono ?_
  rintro e w1 ⟨⟨hall, rfl⟩ | ⟨hall, k, rfl⟩, hb1⟩
  · have HB := hide hb1
    have HA := hide hall
    clear hb1 hall HI
    go_wp2
    go_ret
    exact ⟨by rw [HA.out]; rfl, HB.out⟩
  · have HB := hide hb1
    have HA := hide hall
    have hk : (0 : Int) ≤ (k : Int) := by omega
    clear hb1 hall HI
    go_wp2
    go_ret
    exact ⟨by rw [HA.out]; rfl, HB.out⟩
end Go.Proofs.YtiihnoohodklhaaDoor
