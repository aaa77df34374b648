import Derived.Test.YtddhjnfcbpookaaDoorFault
namespace Go.Proofs.YtddhjnfcbpookaaDoor
open Go.RowKit

theorem ret_i64 {a b : Int} (h : a = b) : Ending.returned (.int .i64 a) = .returned (.int .i64 b) := by rw [h]
def RecF (rec : List It → Nat) (d : Int) : Prop := d < 4 → ∀ (l : List It) (v : Value) (w : World), ItsAt w anyB v l → Calls Tryd.prog 44 #[v, .int .i64 (d + 1)] w fun e w' => e = .returned (.int .i64 (rec l : Nat)) ∧ Below w.heap.size w w'

set_option maxHeartbeats 1000000 in
theorem rfault_one (rec : List It → Nat) (d : Int) (hd0 : 0 ≤ d) (hd4 : d ≤ 4) (ih : RecF rec d) (i4 : ¬ d < 4 → ∀ l, rec l = 3) (x : It) (va : Value) (w : World) (hv : ItsAt w anyB va x.list) :
    Calls Tryd.prog 63 #[.agg #[.int .i64 x.kind, .int .i64 x.num, .string x.text, va], .int .i64 d] w fun e w' => e = .returned (.int .i64 (oneF rec x : Nat)) ∧ Below w.heap.size w w' := by
  have ht : (⟨#[]⟩ : ByteArray).toList = [] := by rw [ByteArray.toList_eq]
  obtain ⟨aa, ca, rfl⟩ := hv.form
  obtain ⟨nt, hnt⟩ : ∃ nt, (x.text.toList == []) = nt := ⟨_, rfl⟩
  obtain ⟨nl, hnl⟩ : ∃ nl, ((x.list.length : Int) == 0) = nl := ⟨_, rfl⟩
  obtain ⟨n0, hn0⟩ : ∃ n0, (x.num == 0) = n0 := ⟨_, rfl⟩
  obtain ⟨n1, hn1⟩ : ∃ n1, (x.num == 1) = n1 := ⟨_, rfl⟩
  have HF : Hid (oneF rec x = if (if x.kind = 1 then n0 && nt && nl else if x.kind = 2 then (n0 || n1) && nt && nl else if x.kind = 3 then nt && nl else if x.kind = 4 then n0 && nl else if x.kind = 5 then n0 && nt else false) = false then 1 else if x.kind = 5 then rec x.list else 0) := by
    show oneF rec x = _
    rw [← hnt, ← hnl, ← hn0, ← hn1]; rfl
  have b1 := below_new w (.cells #[.int .i64 x.kind, .int .i64 x.num, .string x.text, .slice aa x.list.length ca] 59)
  have hv1 := hv.keep b1
  have HB : Hid (Below w.heap.size w (w.alloc (.cells #[.int .i64 x.kind, .int .i64 x.num, .string x.text, .slice aa x.list.length ca] 59))) := b1
  have HV : Hid (ItsAt (w.alloc (.cells #[.int .i64 x.kind, .int .i64 x.num, .string x.text, .slice aa x.list.length ca] 59)) anyB (.slice aa x.list.length ca) x.list) := hv1
  have IH : Hid (RecF rec d ∧ (¬ d < 4 → ∀ l, rec l = 3)) := ⟨ih, i4⟩
  clear b1 hv1 hv ih i4
  generalize oneF rec x = R at *
  generalize x.kind = k at *
  generalize x.num = n at *
  generalize x.text = t at *
  generalize x.list = xl at *
  go_enter Tryd.func63, Tryd.ntmps63
  by_cases k1 : k = 1
  · subst k1
    cases nt <;> cases nl <;> cases n0
    all_goals
      have hR := HF.out
      simp at hR
      subst hR
      go_wp2_with fail
      go_ret
      exact ⟨rfl, HB.out⟩
  · have g1 : (k == 1) = false := by simpa using k1
    by_cases k2 : k = 2
    · subst k2
      cases nt <;> cases nl <;> cases n0 <;> cases n1
      all_goals
        have hR := HF.out
        simp at hR
        subst hR
        go_wp2_with fail
        first | go_ret | (go_quiet (fail); go_wp2_with fail; go_ret)
        first | exact ⟨rfl, HB.out⟩ | exact ⟨rfl, below_drewN HB.out _⟩
    · have g2 : (k == 2) = false := by simpa using k2
      by_cases k3 : k = 3
      · subst k3
        cases nt <;> cases nl
        all_goals
          have hR := HF.out
          simp at hR
          subst hR
          go_wp2_with fail
          go_ret
          exact ⟨rfl, HB.out⟩
      · have g3 : (k == 3) = false := by simpa using k3
        by_cases k4 : k = 4
        · subst k4
          cases nl <;> cases n0
          all_goals
            have hR := HF.out
            simp at hR
            subst hR
            go_wp2_with fail
            go_ret
            exact ⟨rfl, HB.out⟩
        · have g4 : (k == 4) = false := by simpa using k4
          by_cases k5 : k = 5
          · subst k5
            by_cases hn : (n0 && nt) = true
            · simp only [Bool.and_eq_true] at hn
              obtain ⟨rfl, rfl⟩ := hn
              have hR := HF.out
              simp at hR
              by_cases hd : d < 4
              · have hw : IntKind.i64.wrap (d + 1) = d + 1 := wrap_i64 _ (by omega) (by omega)
                have HR : Hid (R = rec xl) := hR
                clear hR
                go_wp2_with fail
                refine (IH.out.1 hd _ _ _ HV.out).mono ?_
                rintro e w3 ⟨rfl, hb3⟩
                go_wp2_with fail
                go_ret
                exact ⟨by rw [HR.out]; rfl, Below.next HB.out hb3⟩
              · rw [IH.out.2 hd xl] at hR
                subst hR
                go_wp2_with fail
                go_ret
                exact ⟨rfl, HB.out⟩
            · cases nt <;> cases n0
              all_goals
                first
                | (exact absurd rfl hn)
                | (have hR := HF.out
                   simp at hR
                   subst hR
                   clear hn
                   go_wp2_with fail
                   go_ret
                   exact ⟨rfl, HB.out⟩)
          · have g5 : (k == 5) = false := by simpa using k5
            have hR : R = 1 := by rw [HF.out, if_neg k1, if_neg k2, if_neg k3, if_neg k4, if_neg k5]; rfl
            subst hR
            clear HF k1 k2 k3 k4 k5
            go_wp2_with fail
            go_ret
            exact ⟨rfl, HB.out⟩

set_option maxHeartbeats 1000000 in
theorem rfaults_step (rec : List It → Nat) (d : Int) (hd0 : 0 ≤ d) (hd4 : d ≤ 4) (ih : RecF rec d) (i4 : ¬ d < 4 → ∀ l, rec l = 3) (l : List It) (v : Value) (w : World) (hv : ItsAt w anyB v l) :
    Calls Tryd.prog 44 #[v, .int .i64 d] w fun e w' => e = .returned (.int .i64 ((if 16 < l.length then 3 else firstF (oneF rec) l : Nat) : Int)) ∧ Below w.heap.size w w' := by
  obtain ⟨a, g, off, cap, l, vs, hlen, ha, hok, h0, h1, h2, h3, hin⟩ := hv
  have FO : Hid (∀ (x : It) (va : Value) (w : World), ItsAt w anyB va x.list → Calls Tryd.prog 63 #[.agg #[.int .i64 x.kind, .int .i64 x.num, .string x.text, va], .int .i64 d] w fun e w' => e = .returned (.int .i64 (oneF rec x : Nat)) ∧ Below w.heap.size w w') := fun x va w h => rfault_one rec d hd0 hd4 ih i4 x va w h
  clear ih i4
  by_cases h16 : 16 < l.length
  · rw [if_pos h16]
    clear ha hok h0 h1 h2 h3 hin
    go_enter Tryd.func44, Tryd.ntmps44
    go_wp2_with fail
    go_ret
    exact ⟨rfl, Below.refl _ _⟩
  · rw [if_neg h16]
    go_enter Tryd.func44, Tryd.ntmps44
    go_wp2_with fail
    go_loopw [5] (fun i wr => ∃ j : Nat, j ≤ l.length ∧ i = .int .i64 j ∧ firstF (oneF rec) (l.take j) = 0 ∧ Below w.heap.size w wr) (fun i _ => l.length - (intOf i).toNat)
    case atStart => exact ⟨0, Nat.zero_le _, rfl, rfl, Below.refl _ _⟩
    case round =>
      obtain ⟨j, hj, rfl, hfj, hbl⟩ := hrel
      have HFJ : Hid (firstF (oneF rec) (l.take j) = 0) := hfj
      clear hfj
      by_cases hlt : j < l.length
      · obtain ⟨rfl, -⟩ := ha (by omega)
        have c0 := cell_below hbl (h0 j hlt)
        have c1 := cell_below hbl (h1 j hlt)
        have c2 := cell_below hbl (h2 j hlt)
        have c3 := cell_below hbl (h3 j hlt)
        have ia := (hin j hlt).keep hbl
        have HS : Hid (oneF rec l[j] ≠ 0 → firstF (oneF rec) l = oneF rec l[j]) := fun h => firstF_stop _ l j hlt HFJ.out h
        have HN : Hid (oneF rec l[j] = 0 → firstF (oneF rec) (l.take (j + 1)) = 0) := fun h => by rw [firstF_take _ l j hlt HFJ.out, h]
        have FX := fun w' => FO.out l[j] (vs j) w'
        have FXH : Hid (∀ w', ItsAt w' anyB (vs j) l[j].list → Calls Tryd.prog 63 #[.agg #[.int .i64 l[j].kind, .int .i64 l[j].num, .string l[j].text, vs j], .int .i64 d] w' fun e w'' => e = .returned (.int .i64 (oneF rec l[j] : Nat)) ∧ Below w'.heap.size w' w'') := FX
        clear FX FO
        generalize oneF rec l[j] = R at *
        generalize l[j] = x at *
        generalize vs j = va at *
        have j0 : (0 : Int) ≤ (j : Int) := Int.natCast_nonneg _
        have j1 : (j : Int) < (l.length : Int) := by omega
        clear h0 h1 h2 h3 hin hok ha
        generalize x.kind = xk at *
        generalize x.num = xn at *
        generalize x.text = xt at *
        generalize x.list = xl at *
        go_wp2_with fail
        refine (FXH.out _ ia).mono ?_
        rintro e w3 ⟨rfl, hb3⟩
        have HB3 : Hid (Below w.heap.size w w3) := Below.next hbl hb3
        clear hbl hb3 ia c0 c1 c2 c3 FXH
        by_cases hR : R = 0
        · have HQ : Hid (firstF (oneF rec) (l.take (j + 1)) = 0) := HN.out hR
          subst hR
          clear HS HN
          go_wp2_with fail
          go_roundw
          case rel => exact ⟨j + 1, by omega, by go_num, HQ.out, HB3.out⟩
          case measure => simp [intOf]; omega
        · have HQ : Hid (firstF (oneF rec) l = R) := HS.out hR
          have hne : ((R : Int) != 0) = true := by rw [bne_iff_ne]; omega
          clear HS HN
          go_wp2_with fail
          go_ret
          exact ⟨ret_i64 (by rw [HQ.out]), HB3.out⟩
      · have hke : j = l.length := by omega
        have HQ : Hid (firstF (oneF rec) l = 0) := by
          have := HFJ.out
          rwa [List.take_of_length_le (by omega)] at this
        subst hke
        clear h0 h1 h2 h3 hin hok ha HFJ FO
        go_wp2_with fail
        go_ret
        exact ⟨ret_i64 (by rw [HQ.out]; rfl), hbl⟩

theorem rfaults_any (r : Nat) : ∀ (l : List It) (d : Int) (v : Value) (w : World), r ≤ 4 → d = 4 - r → ItsAt w anyB v l →
    Calls Tryd.prog 44 #[v, .int .i64 d] w fun e w' => e = .returned (.int .i64 (faultR r l : Nat)) ∧ Below w.heap.size w w' := by
  induction r with
  | zero =>
    intro l d v w _ hd hv
    exact rfaults_step (fun _ => 3) d (by omega) (by omega) (fun h => by omega) (fun _ _ => rfl) l v w hv
  | succ r ih =>
    intro l d v w hr hd hv
    exact rfaults_step (faultR r) d (by omega) (by omega) (fun _ l v w hv => ih l (d + 1) v w (by omega) (by omega) hv) (fun h => by omega) l v w hv

end Go.Proofs.YtddhjnfcbpookaaDoor
