import Derived.Test.YtagldlchamlpdabDoorBSizes
namespace Go.Proofs.YtagldlchamlpdabDoor
open Go.RowKit

/-- The first k links rise. -/
theorem riseK_step {l : List Lk} {k : Nat} (hk : k < l.length) (h : ∀ i (hi : i + 1 < l.length), i + 1 < k → ltK l[i].1 l[i + 1].1 = true) (hl : ∀ (h0 : 0 < k), ltK (l[k - 1]'(by omega)).1 l[k].1 = true) : ∀ i (hi : i + 1 < l.length), i + 1 < k + 1 → ltK l[i].1 l[i + 1].1 = true := fun i hi hik => by
  by_cases he : i + 1 = k
  · have := hl (by omega)
    simp only [show k = i + 1 by omega] at this
    exact this
  · exact h i hi (by omega)

set_option maxRecDepth 20000 in
set_option maxHeartbeats 2000000 in
theorem rising_any (v : Value) (l : List Lk) (w : World) (hm : l.length ≤ 140737488355328) (hr : LkR w v l) :
    Calls Tryd.prog 31 #[v] w fun e w' => e = .returned (.bool (decide (RiseK l))) ∧ Below w.heap.size w w' := by
  obtain ⟨a, cap, hv⟩ := hr.form
  subst hv
  obtain ⟨n, hn⟩ : ∃ n, n = l.length := ⟨_, rfl⟩
  rw [← hn] at hr hm ⊢
  have HR := hide hr
  have HN := hide hn
  obtain ⟨Q, hQ⟩ : ∃ Q : Ending → World → Prop, Q = fun e w' => e = .returned (.bool (decide (RiseK l))) ∧ Below w.heap.size w w' := ⟨_, rfl⟩
  rw [← hQ]
  have HQ := hide hQ
  clear hn hr hQ
  go_enter Tryd.func31, Tryd.ntmps31
  go_wp2
  go_loopw [7] (fun i wr => ∃ k : Nat, k ≤ n ∧ i = .int .i64 k ∧ (∀ i (hi : i + 1 < l.length), i + 1 < k → ltK l[i].1 l[i + 1].1 = true) ∧ Below w.heap.size w wr) (fun i _ => n - (intOf i).toNat)
  case atStart => exact ⟨0, Nat.zero_le _, rfl, fun j _ h => absurd h (Nat.not_lt_zero _), Below.refl _ _⟩
  case round =>
    obtain ⟨k, hk, rfl, hpre, hbw⟩ := hrel
    have HP := hide hpre
    clear hpre
    by_cases hlt : k < n
    · have hkl : k < l.length := by have := HN.out; omega
      obtain ⟨g, o, ha, c1, c2⟩ := (HR.out.below hbw).spot k hkl
      have hltI : (k : Int) < (n : Int) := by omega
      have j0 : (0 : Int) ≤ (k : Int) := by omega
      have hbn := below_new wr (.cells #[.string l[k].1, .int .i64 l[k].2] 54)
      have HB := hide (Below.next hbw hbn)
      have hx := RowAt.new wr #[.string l[k].1, .int .i64 l[k].2] 54
      have b0 := hx.c0
      by_cases h0 : k = 0
      · have HST := hide (riseK_step hkl HP.out (fun h => by omega))
        generalize l[k].1 = x1 at *
        generalize l[k].2 = x2 at *
        subst ha
        have hz : decide ((0 : Int) < (k : Int)) = false := decide_eq_false (by omega)
        have hz2 : decide (0 < k) = false := decide_eq_false (by omega)
        have HH0 := hide h0
        clear hbw hbn hx h0
        go_wp2
        go_quiet (fail)
        go_wp2
        go_roundw
        case rel => exact ⟨k + 1, by omega, by go_num, HST.out, below_drewN' HB.out _⟩
        case measure => simp [intOf]; omega
      · have hk1l : k - 1 < l.length := by omega
        obtain ⟨g', o', ha', d1, d2⟩ := (HR.out.below hbw).spot (k - 1) hk1l
        rw [ha] at ha'
        cases ha'
        subst ha
        have HST : Hid (ltK (l[k - 1]'hk1l).1 l[k].1 = true → ∀ i (hi : i + 1 < l.length), i + 1 < k + 1 → ltK l[i].1 l[i + 1].1 = true) := fun h => riseK_step hkl HP.out (fun _ => h)
        have HNO : Hid (ltK (l[k - 1]'hk1l).1 l[k].1 = false → ¬ RiseK l) := fun h hr => by
          have := hr (k - 1) (by omega)
          simp only [show k - 1 + 1 = k by omega] at this
          rw [h] at this; cases this
        obtain ⟨k1, hk1⟩ : ∃ k1, k1 = k - 1 := ⟨_, rfl⟩
        have hw1 : IntKind.i64.wrap ((k : Int) - 1) = (k1 : Int) := by rw [IntKind.wrap_i64]; omega
        have hz : (0 : Int) < (k : Int) := by omega
        have hz2 : 0 < k := by omega
        have j1 : (k1 : Int) < (n : Int) := by omega
        have j2 : (0 : Int) ≤ (k1 : Int) := by omega
        generalize (l[k - 1]'hk1l).1 = y1 at *
        rw [← hk1] at d1
        have e1 := (hbn.cell (p := ⟨g, o + k1 * 2, none⟩) (World.block_lt_of_cell? wr _ d1)).trans d1
        generalize l[k].1 = x1 at *
        generalize l[k].2 = x2 at *
        clear hbw hbn hx h0 hk1 d1 d2 hk1l
        cases hb : ltK y1 x1 with
        | true =>
          have hbl : Op.bytesLess y1.toList x1.toList = true := hb
          have HS2 := hide (HST.out hb)
          clear hb HST HNO
          go_wp2
          go_quiet (fail)
          go_wp2
          go_roundw
          case rel => exact ⟨k + 1, by omega, by go_num, HS2.out, below_drewN' HB.out _⟩
          case measure => simp [intOf]; omega
        | false =>
          have hbl : Op.bytesLess y1.toList x1.toList = false := hb
          have HS2 := hide (HNO.out hb)
          clear hb HST HNO
          go_wp2
          go_quiet (fail)
          go_wp2
          rw [HQ.out]
          exact ⟨by rw [decide_eq_false HS2.out]; rfl, below_drewN' HB.out _⟩
    · have hltI : ¬ (k : Int) < (n : Int) := by omega
      have HALL : Hid (RiseK l) := fun i hi => HP.out i hi (by have := HN.out; omega)
      have HB := hide hbw
      clear hbw HP
      go_wp2
      rw [HQ.out]
      exact ⟨by rw [decide_eq_true HALL.out], HB.out⟩

end Go.Proofs.YtagldlchamlpdabDoor
