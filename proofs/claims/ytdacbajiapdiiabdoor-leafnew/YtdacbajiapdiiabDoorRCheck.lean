import Derived.Test.YtdacbajiapdiiabDoorChk2
namespace Go.Proofs.YtdacbajiapdiiabDoor
open Go.RowKit

set_option maxHeartbeats 400000 in
theorem rmay_any (p : Pr) (w : World) :
    Calls Tryd.prog 54 #[.agg #[.string p.1, .string p.2]] w fun e w' => e = .returned (.bool (mayP p)) ∧ Below w.heap.size w w' := by
  have hbn := below_new w (.cells #[.string p.1, .string p.2] 45)
  by_cases h1 : 1 ≤ p.1.size
  · by_cases h2 : p.1.size ≤ 255
    · by_cases h3 : p.2.size ≤ 700
      · have hm : mayP p = true := decide_eq_true ⟨h1, h2, h3⟩
        rw [hm]
        have i1 : (1 : Int) ≤ (p.1.size : Int) := by omega
        have i2 : (p.1.size : Int) ≤ 255 := by omega
        have i3 : (p.2.size : Int) ≤ 700 := by omega
        clear hm
        go_enter Tryd.func54, Tryd.ntmps54
        go_wp2
        go_ret
        exact ⟨rfl, hbn⟩
      · have hm : mayP p = false := decide_eq_false (fun h => h3 h.2.2)
        rw [hm]
        have i1 : (1 : Int) ≤ (p.1.size : Int) := by omega
        have i2 : (p.1.size : Int) ≤ 255 := by omega
        have i3 : ¬ (p.2.size : Int) ≤ 700 := by omega
        clear hm
        go_enter Tryd.func54, Tryd.ntmps54
        go_wp2
        go_ret
        exact ⟨rfl, hbn⟩
    · have hm : mayP p = false := decide_eq_false (fun h => h2 h.2.1)
      rw [hm]
      have i1 : (1 : Int) ≤ (p.1.size : Int) := by omega
      have i2 : ¬ (p.1.size : Int) ≤ 255 := by omega
      clear hm
      go_enter Tryd.func54, Tryd.ntmps54
      go_wp2
      go_ret
      exact ⟨rfl, hbn⟩
  · have hm : mayP p = false := decide_eq_false (fun h => h1 h.1)
    rw [hm]
    have i1 : ¬ (1 : Int) ≤ (p.1.size : Int) := by omega
    clear hm
    go_enter Tryd.func54, Tryd.ntmps54
    go_wp2
    go_ret
    exact ⟨rfl, hbn⟩

set_option maxHeartbeats 1000000 in
theorem rlsize_any (v : Value) (l : List Pr) (w : World) (hok : OkL l) (hm : l.length ≤ 140737488355328) (hr : PrR w v l) :
    Calls Tryd.prog 41 #[v] w fun e w' => e = .returned (.int .i64 (wsz (szL l))) ∧ Below w.heap.size w w' := by
  obtain ⟨a, cap, rfl, hcap, _, hc⟩ := hr
  have HC := hide hc
  obtain ⟨n, hn⟩ : ∃ n, n = l.length := ⟨_, rfl⟩
  rw [← hn] at hm ⊢
  have HN := hide hn
  have HOK := hide hok
  clear hc hn hcap hok
  go_enter Tryd.func41, Tryd.ntmps41
  go_wp2
  go_loopw [3, 4] (fun r i wr => ∃ k nq : Nat, k ≤ n ∧ i = .int .i64 k ∧ r = .int .i64 (wsz (szL (l.take k))) ∧ wr = w.drewN nq) (fun _ i _ => n - (intOf i).toNat)
  case atStart => exact ⟨0, 0, Nat.zero_le _, rfl, rfl, rfl⟩
  case round =>
    obtain ⟨k, nq, hk, rfl, rfl, rfl⟩ := hrel
    by_cases hlt : k < n
    · have hkl : k < l.length := by have := HN.out; omega
      obtain ⟨g, o, rfl, c1, c2⟩ := HC.out k hkl
      have hp0 := HOK.out l[k] (List.getElem_mem _)
      obtain ⟨x, hx⟩ : ∃ x, x = wsz (szL (l.take k)) := ⟨_, rfl⟩
      obtain ⟨x1, hx1⟩ : ∃ x1, x1 = wsz (szL (l.take k) + 5) := ⟨_, rfl⟩
      obtain ⟨x2, hx2⟩ : ∃ x2, x2 = wsz (szL (l.take k) + 5 + l[k].1.size) := ⟨_, rfl⟩
      obtain ⟨y, hy⟩ : ∃ y, y = wsz (szL (l.take (k + 1))) := ⟨_, rfl⟩
      have e1 : IntKind.i64.wrap (x + 5) = x1 := by rw [hx, hx1, ← wsz_add]; rfl
      have e2 : IntKind.i64.wrap (x1 + (l[k].1.size : Int)) = x2 := by rw [hx1, hx2, wsz_add]
      have e3 : IntKind.i64.wrap (x2 + (l[k].2.size : Int)) = y := by
        rw [hx2, hy, wsz_add, szL_take_succ l k hkl]; unfold szP; congr 1; omega
      have HY := hide hy
      rw [← hx]
      generalize l[k].1 = s1 at *
      generalize l[k].2 = s2 at *
      have hltI : (k : Int) < (n : Int) := by omega
      have j0 : (0 : Int) ≤ (k : Int) := by omega
      clear hx hx1 hx2 hy HC hp0
      go_wp2
      go_quiet (fail)
      go_wp2
      go_roundw
      case rel => exact ⟨k + 1, _, by omega, by go_num, by rw [← HY.out], rfl⟩
      case measure => simp [intOf]; omega
    · have hall : l.take k = l := by rw [List.take_of_length_le]; have := HN.out; omega
      rw [hall]
      have hltI : ¬ (k : Int) < (n : Int) := by omega
      obtain ⟨x, hx⟩ : ∃ x, x = wsz (szL l) := ⟨_, rfl⟩
      rw [← hx]
      have HX := hide hx
      clear HC hall hx
      go_wp2
      go_ret
      exact ⟨by rw [← HX.out]; rfl, below_drewN' (Below.refl _ _) _⟩

set_option maxRecDepth 20000 in
set_option maxHeartbeats 2000000 in
theorem rlcheck_any (v : Value) (l : List Pr) (root : Bool) (w : World) (hok : OkL l) (hm : l.length ≤ 140737488355328) (hr : PrR w v l) :
    Calls Tryd.prog 30 #[v, .bool root] w fun e w' => e = .returned (.int .i64 (numE (chk l root) : Int)) ∧ Below w.heap.size w w' := by
  have HSZ : Hid (∀ W, Below w.heap.size w W → Calls Tryd.prog 41 #[v] W fun e w' => e = .returned (.int .i64 (wsz (szL l))) ∧ Below W.heap.size W w') := fun W h => rlsize_any v l W hok hm (hr.below h)
  rw [← chkW_eq l root hm]
  obtain ⟨a, cap, rfl, hcap, _, hc⟩ := hr
  have HC := hide hc
  obtain ⟨n, hn⟩ : ∃ n, n = l.length := ⟨_, rfl⟩
  rw [← hn] at hm HSZ ⊢
  have HN := hide hn
  obtain ⟨Q, hQ⟩ : ∃ Q : Ending → World → Prop, Q = fun e w' => e = .returned (.int .i64 (numE (chkW l root) : Int)) ∧ Below w.heap.size w w' := ⟨_, rfl⟩
  rw [← hQ]
  have HQ := hide hQ
  clear hc hn hcap hok hQ
  go_enter Tryd.func30, Tryd.ntmps30
  go_wp2
  go_loopw [5] (fun i wr => ∃ k : Nat, k ≤ n ∧ i = .int .i64 k ∧ (∀ j (h : j < l.length), j < k → mayP l[j] = true) ∧ Below w.heap.size w wr) (fun i _ => n - (intOf i).toNat)
  case atStart => exact ⟨0, Nat.zero_le _, rfl, fun j _ h => absurd h (Nat.not_lt_zero _), Below.refl _ _⟩
  case round =>
    obtain ⟨k, hk, rfl, hpre, hbw⟩ := hrel
    have HP := hide hpre
    clear hpre
    by_cases hlt : k < n
    · have hkl : k < l.length := by have := HN.out; omega
      have hltI : (k : Int) < (n : Int) := by omega
      obtain ⟨g, o, rfl, f1, f2⟩ := HC.out k hkl
      have c1 : wr.cell? ⟨g, o + k * 2, none⟩ = some (.string l[k].1) := (hbw.cell (p := ⟨g, o + k * 2, none⟩) (World.block_lt_of_cell? w _ f1)).trans f1
      have c2 : wr.cell? ⟨g, o + k * 2 + 1, none⟩ = some (.string l[k].2) := (hbw.cell (p := ⟨g, o + k * 2 + 1, none⟩) (World.block_lt_of_cell? w _ f2)).trans f2
      have HNX : Hid (mayP l[k] = true → ∀ j (h : j < l.length), j < k + 1 → mayP l[j] = true) := fun hl j h hj => by
        by_cases he : j = k
        · subst he; exact hl
        · exact HP.out j h (by omega)
      have HNO : Hid (mayP l[k] = false → chkW l root = some 0) := fun hl => by
        unfold chkW; rw [if_pos]; rw [List.all_eq_false]; exact ⟨l[k], List.getElem_mem _, by simp [hl]⟩
      have HB := hide hbw
      have HMY := hide (fun W => rmay_any l[k] W)
      cases hmy : mayP l[k] with
      | false =>
        rw [hmy] at HMY
        have HNO2 := hide (HNO.out hmy)
        obtain ⟨p, hp⟩ : ∃ p, p = l[k] := ⟨_, rfl⟩
        rw [← hp] at c1 c2 HMY
        clear hp HNX HNO hmy HC hbw f1 f2 HSZ
        go_wp2_with fail
        refine (HMY.out _).mono ?_
        rintro e w2 ⟨rfl, hb2⟩
        have HB2 := hide (Below.next HB.out hb2)
        clear hb2 HB HMY c1 c2
        go_wp2
        rw [HQ.out]
        exact ⟨by rw [HNO2.out]; rfl, HB2.out⟩
      | true =>
        rw [hmy] at HMY
        have HNX2 := hide (HNX.out hmy)
        obtain ⟨p, hp⟩ : ∃ p, p = l[k] := ⟨_, rfl⟩
        rw [← hp] at c1 c2 HMY
        clear hp HNX HNO hmy HC hbw f1 f2 HSZ
        go_wp2_with fail
        refine (HMY.out _).mono ?_
        rintro e w2 ⟨rfl, hb2⟩
        have HB2 := hide (Below.next HB.out hb2)
        clear hb2 HB HMY c1 c2
        go_wp2
        go_roundw
        case rel => exact ⟨k + 1, by omega, by go_num, HNX2.out, HB2.out⟩
        case measure => simp [intOf]; omega
    · have hltI : ¬ (k : Int) < (n : Int) := by omega
      have HMAY : Hid (l.all mayP = true) := List.all_eq_true.2 (fun p hp => by
        obtain ⟨i, hi, rfl⟩ := List.getElem_of_mem hp
        exact HP.out i hi (by have := HN.out; omega))
      have HB := hide hbw
      clear hbw HP
      go_wp2
      go_loopw [7] (fun i wr => ∃ k : Nat, 1 ≤ k ∧ (k ≤ n ∨ k = 1) ∧ i = .int .i64 k ∧ (∀ j (h : j + 1 < l.length), j + 1 < k → ltK l[j].1 l[j + 1].1 = true) ∧ Below w.heap.size w wr) (fun i _ => n - (intOf i).toNat)
      case atStart => exact ⟨1, Nat.le_refl _, .inr rfl, rfl, fun j _ h => absurd h (by omega), HB.out⟩
      case round =>
        obtain ⟨m, hm1, hm2, rfl, hpre, hbw⟩ := hrel
        clear HB
        have HP := hide hpre
        clear hpre
        by_cases hlt2 : m < n
        · have hml : m < l.length := by have := HN.out; omega
          have hm1l : m - 1 < l.length := by omega
          have hltI2 : (m : Int) < (n : Int) := by omega
          obtain ⟨g, o, rfl, f1, f2⟩ := HC.out m hml
          obtain ⟨g', o', he, d1, d2⟩ := HC.out (m - 1) hm1l
          cases he
          have c1 : wr.cell? ⟨g, o + m * 2, none⟩ = some (.string l[m].1) := (hbw.cell (p := ⟨g, o + m * 2, none⟩) (World.block_lt_of_cell? w _ f1)).trans f1
          have HNX : Hid (ltK (l[m - 1]'hm1l).1 l[m].1 = true → ∀ j (h : j + 1 < l.length), j + 1 < m + 1 → ltK l[j].1 l[j + 1].1 = true) := fun hl j h hj => by
            by_cases he : j + 1 = m
            · subst he; exact hl
            · exact HP.out j h (by omega)
          have HNO : Hid (ltK (l[m - 1]'hm1l).1 l[m].1 = false → chkW l root = some 11) := fun hl => by
            have hnr : ¬ Rise l := fun hr => by
              have := hr (m - 1) (by omega)
              simp only [show m - 1 + 1 = m by omega] at this
              rw [hl] at this; cases this
            unfold chkW; rw [if_neg (by rw [HMAY.out]; simp), if_pos hnr]
          obtain ⟨x, hx⟩ : ∃ x, x = (l[m - 1]'hm1l).1 := ⟨_, rfl⟩
          obtain ⟨y, hy⟩ : ∃ y, y = l[m].1 := ⟨_, rfl⟩
          rw [← hx] at d1 HNX HNO
          rw [← hy] at c1 HNX HNO
          obtain ⟨m1, hmm⟩ : ∃ m1, m1 = m - 1 := ⟨_, rfl⟩
          have hw1 : IntKind.i64.wrap ((m : Int) - 1) = (m1 : Int) := by rw [IntKind.wrap_i64]; omega
          rw [← hmm] at d1
          have e1 : wr.cell? ⟨g, o + m1 * 2, none⟩ = some (.string x) := (hbw.cell (p := ⟨g, o + m1 * 2, none⟩) (World.block_lt_of_cell? w _ d1)).trans d1
          have j1 : (m1 : Int) < (n : Int) := by omega
          have j0 : (0 : Int) ≤ (m1 : Int) := by omega
          have j2 : (0 : Int) ≤ (m : Int) := by omega
          have HB := hide hbw
          clear hx hy hbw f1 f2 d1 d2 hmm hm1l HC HSZ
          cases hb : ltK x y with
          | true =>
            have hbl : Op.bytesLess x.toList y.toList = true := hb
            have HNX2 := hide (HNX.out hb)
            clear hb HNX HNO
            go_wp2
            go_quiet (fail)
            go_wp2
            go_roundw
            case rel => exact ⟨m + 1, by omega, .inl (by omega), by go_num, HNX2.out, below_drewN' HB.out _⟩
            case measure => simp [intOf]; omega
          | false =>
            have hbl : Op.bytesLess x.toList y.toList = false := hb
            have HNO2 := hide (HNO.out hb)
            clear hb HNX HNO
            go_wp2
            go_quiet (fail)
            go_wp2
            rw [HQ.out]
            exact ⟨by rw [HNO2.out]; rfl, below_drewN' HB.out _⟩
        · have hltI2 : ¬ (m : Int) < (n : Int) := by omega
          have hris : Rise l := fun j h => HP.out j h (by have := HN.out; omega)
          have HFIN : Hid (chkW l root = roomF l root) := by
            show chkW l root = roomF l root
            unfold chkW; rw [if_neg (by rw [HMAY.out]; simp), if_neg (by simpa using hris)]
          have HB := hide hbw
          have HS2 := hide (HSZ.out _ hbw)
          obtain ⟨x, hx⟩ : ∃ x, x = wsz (szL l) := ⟨_, rfl⟩
          have HRM : Hid (roomF l root = if (4072 : Int) < x then some 2 else if n = 0 ∨ root = false ∧ x < 1556 then some 3 else none) := by rw [hx, HN.out]; exact rfl
          rw [← hx] at HS2
          clear hx hris hbw HP HSZ HC
          go_wp2_with fail
          refine HS2.out.mono ?_
          rintro e w2 ⟨rfl, hb2⟩
          have HB2 := hide (Below.next HB.out hb2)
          clear hb2 HB HS2
          by_cases h1 : (4072 : Int) < x
          · have HR1 : Hid (chkW l root = some 2) := by show _ = _; rw [HFIN.out, HRM.out, if_pos h1]
            go_wp2
            rw [HQ.out]
            exact ⟨by rw [HR1.out]; rfl, HB2.out⟩
          · by_cases h2 : n = 0
            · have HR1 : Hid (chkW l root = some 3) := by show _ = _; rw [HFIN.out, HRM.out, if_neg h1, if_pos (.inl h2)]
              have h2' : ((n : Int) == 0) = true := by rw [beq_iff_eq]; omega
              have HH := hide h2
              clear h2
              go_wp2
              rw [HQ.out]
              exact ⟨by rw [HR1.out]; rfl, HB2.out⟩
            · have h2' : ((n : Int) == 0) = false := by rw [beq_eq_false_iff_ne]; omega
              cases root with
              | true =>
                have HR1 : Hid (chkW l true = none) := by show _ = _; rw [HFIN.out, HRM.out, if_neg h1, if_neg (by simp [h2])]
                go_wp2
                rw [HQ.out]
                exact ⟨by rw [HR1.out]; rfl, HB2.out⟩
              | false =>
                by_cases h3 : x < 1556
                · have HR1 : Hid (chkW l false = some 3) := by show _ = _; rw [HFIN.out, HRM.out, if_neg h1, if_pos (.inr ⟨rfl, h3⟩)]
                  go_wp2
                  rw [HQ.out]
                  exact ⟨by rw [HR1.out]; rfl, HB2.out⟩
                · have HR1 : Hid (chkW l false = none) := by show _ = _; rw [HFIN.out, HRM.out, if_neg h1, if_neg (by simp [h2, h3])]
                  go_wp2
                  rw [HQ.out]
                  exact ⟨by rw [HR1.out]; rfl, HB2.out⟩

end Go.Proofs.YtdacbajiapdiiabDoor
