import Derived.Test.YtagldlchamlpdabDoorBSizes
import Derived.WalkMore
namespace Go.Proofs.YtagldlchamlpdabDoor
open Go.RowKit

/-- What a machine's word keeps of a size. -/
def wsz (n : Nat) : Int := IntKind.i64.wrap (n : Int)
theorem wsz_add (a b : Nat) : IntKind.i64.wrap (wsz a + (b : Int)) = wsz (a + b) := by
  unfold wsz; rw [IntKind.wrap_i64, IntKind.wrap_i64, IntKind.wrap_i64]; omega
theorem wsz_small {n : Nat} (h : n ≤ 4611686018427387904) : wsz n = (n : Int) := by
  unfold wsz; rw [IntKind.wrap_i64]; omega

set_option maxHeartbeats 1000000 in
theorem bsize_any (f : Int) (v : Value) (l : List Lk) (w : World) (hok : OkK l) (hm : l.length ≤ 140737488355328) (hr : LkR w v l) :
    Calls Tryd.prog 26 #[.agg #[.int .i64 f, v]] w fun e w' => e = .returned (.int .i64 (wsz (szB l))) ∧ Below w.heap.size w w' := by
  obtain ⟨a, cap, hv⟩ := hr.form
  subst hv
  obtain ⟨n, hn⟩ : ∃ n, n = l.length := ⟨_, rfl⟩
  rw [← hn] at hr hm ⊢
  have q0 := below_new w (.cells #[.int .i64 f, .slice a n cap] 30)
  have x0 := RowAt.new w #[.int .i64 f, .slice a n cap] 30
  generalize hW0 : w.alloc (.cells #[.int .i64 f, .slice a n cap] 30) = W0 at *
  have p1 := x0.c1
  have HR := hide (hr.below q0)
  have HN := hide hn
  have HOK := hide hok
  have HQ := hide q0
  have H0 : Hid (wsz (szB (l.take 0)) = 6) := by show _ = _; simp [szB_nil, wsz_small]
  clear hn hok hr q0 x0
  go_enter Tryd.func26, Tryd.ntmps26
  go_wp2
  clear p1
  go_loopw [3, 9] (fun r i wr => ∃ k : Nat, k ≤ n ∧ i = .int .i64 k ∧ r = .int .i64 (wsz (szB (l.take k))) ∧ Below W0.heap.size W0 wr) (fun _ i _ => n - (intOf i).toNat)
  case atStart => exact ⟨0, Nat.zero_le _, rfl, by rw [H0.out], Below.refl _ _⟩
  case round =>
    obtain ⟨k, hk, rfl, rfl, hbw⟩ := hrel
    by_cases hlt : k < n
    · have hkl : k < l.length := by have := HN.out; omega
      obtain ⟨g, o, rfl, c1, c2⟩ := (HR.out.below hbw).spot k hkl
      have hp0 := HOK.out l[k] (List.getElem_mem _)
      have hws : IntKind.i64.wrap (wsz (szB (l.take k)) + (szK l[k] : Int)) = wsz (szB (l.take (k + 1))) := by rw [wsz_add, ← szB_take_succ l k hkl]
      obtain ⟨p, hp⟩ : ∃ p, p = l[k] := ⟨_, rfl⟩
      rw [← hp] at c1 c2 hws hp0
      have HZ := hide (fun W => bsizeOf_any p W hp0)
      obtain ⟨x, hx⟩ : ∃ x, x = wsz (szB (l.take k)) := ⟨_, rfl⟩
      obtain ⟨y, hy⟩ : ∃ y, y = wsz (szB (l.take (k + 1))) := ⟨_, rfl⟩
      obtain ⟨z, hz⟩ : ∃ z, z = szK p := ⟨_, rfl⟩
      rw [← hx, ← hy, ← hz] at hws
      rw [← hx]
      rw [← hz] at HZ
      have HY := hide hy
      have hltI : (k : Int) < (n : Int) := by omega
      have HB := hide (Below.next hbw (below_new wr (.cells #[.string p.1, .int .i64 p.2] 54)))
      clear hp hx hy hz hbw hp0
      go_wp2_with fail
      refine (HZ.out _).mono ?_
      rintro e w1 ⟨rfl, hb1⟩
      have HB1 := hide (Below.next HB.out hb1)
      clear hb1 HB HZ c1 c2
      go_wp2
      go_roundw
      case rel => exact ⟨k + 1, by omega, by go_num, by rw [← HY.out], HB1.out⟩
      case measure => simp [intOf]; omega
    · have hall : l.take k = l := by rw [List.take_of_length_le]; have := HN.out; omega
      rw [hall]
      have HB := hide (Below.next HQ.out hbw)
      have hltI : ¬ (k : Int) < (n : Int) := by omega
      obtain ⟨x, hx⟩ : ∃ x, x = wsz (szB l) := ⟨_, rfl⟩
      rw [← hx]
      have HX := hide hx
      clear hbw hall hx
      go_wp2
      go_ret
      exact ⟨by rw [← HX.out]; rfl, HB.out⟩

set_option maxHeartbeats 400000 in
theorem mayc_any (n : Int) (w : World) : Calls Tryd.prog 56 #[.int .i64 n] w fun e w' => e = .returned (.bool (childB n)) ∧ w = w' := by
  by_cases h1 : 2 ≤ n
  · by_cases h2 : n < 1048576
    · have hm : childB n = true := decide_eq_true ⟨h1, h2⟩
      rw [hm]; clear hm
      go_enter Tryd.func56, Tryd.ntmps56
      go_wp2
      go_ret
      exact ⟨rfl, rfl⟩
    · have hm : childB n = false := decide_eq_false (fun h => h2 h.2)
      rw [hm]; clear hm
      go_enter Tryd.func56, Tryd.ntmps56
      go_wp2
      go_ret
      exact ⟨rfl, rfl⟩
  · have hm : childB n = false := decide_eq_false (fun h => h1 h.1)
    rw [hm]; clear hm
    go_enter Tryd.func56, Tryd.ntmps56
    go_wp2
    go_ret
    exact ⟨rfl, rfl⟩

set_option maxHeartbeats 800000 in
theorem may_any (p : Lk) (w : World) :
    Calls Tryd.prog 59 #[.agg #[.string p.1, .int .i64 p.2]] w fun e w' => e = .returned (.bool (mayK p)) ∧ Below w.heap.size w w' := by
  have HB := hide (below_new w (.cells #[.string p.1, .int .i64 p.2] 54))
  by_cases h1 : 1 ≤ p.1.size
  · have i1 : (1 : Int) ≤ (p.1.size : Int) := by omega
    by_cases h2 : p.1.size ≤ 255
    · have i2 : (p.1.size : Int) ≤ 255 := by omega
      have hm : mayK p = childB p.2 := by
        unfold mayK childB
        congr 1
        apply propext
        exact ⟨fun h => h.2.2, fun h => ⟨h1, h2, h⟩⟩
      rw [hm]
      have HC := hide (fun W => mayc_any p.2 W)
      generalize childB p.2 = cb at *
      clear hm
      go_enter Tryd.func59, Tryd.ntmps59
      go_wp2_with fail
      refine (HC.out _).mono ?_
      rintro e w1 ⟨rfl, rfl⟩
      go_wp2
      go_ret
      exact ⟨rfl, HB.out⟩
    · have i2 : ¬ (p.1.size : Int) ≤ 255 := by omega
      have hm : mayK p = false := decide_eq_false (fun h => h2 h.2.1)
      rw [hm]; clear hm
      go_enter Tryd.func59, Tryd.ntmps59
      go_wp2
      go_ret
      exact ⟨rfl, HB.out⟩
  · have i1 : ¬ (1 : Int) ≤ (p.1.size : Int) := by omega
    have hm : mayK p = false := decide_eq_false (fun h => h1 h.1)
    rw [hm]; clear hm
    go_enter Tryd.func59, Tryd.ntmps59
    go_wp2
    go_ret
    exact ⟨rfl, HB.out⟩

set_option maxHeartbeats 400000 in
theorem allf_any (p : Lk) (w : World) :
    Calls Tryd.prog 58 #[.agg #[.string p.1, .int .i64 p.2]] w fun e w' => e = .returned (.bool (!mayK p)) ∧ Below w.heap.size w w' := by
  have HB := hide (below_new w (.cells #[.string p.1, .int .i64 p.2] 54))
  have HC := hide (fun W => may_any p W)
  generalize mayK p = cb at *
  go_enter Tryd.func58, Tryd.ntmps58
  go_wp2_with fail
  refine (HC.out _).mono ?_
  rintro e w1 ⟨rfl, hb1⟩
  have HB1 := hide (Below.next HB.out hb1)
  clear hb1
  go_wp2
  go_ret
  exact ⟨rfl, HB1.out⟩

set_option maxHeartbeats 1000000 in
theorem kidxf_any (v : Value) (l : List Lk) (w : World) (hm : l.length ≤ 140737488355328) (hr : LkR w v l) :
    Calls Tryd.prog 80 #[v, .func (.func 58) #[] #[]] w fun e w' => ((l.all mayK = true ∧ e = .returned (.int .i64 (-1))) ∨ (l.all mayK = false ∧ ∃ k : Nat, e = .returned (.int .i64 (k : Int)))) ∧ Below w.heap.size w w' := by
  obtain ⟨a, cap, hv⟩ := hr.form
  subst hv
  obtain ⟨n, hn⟩ : ∃ n, n = l.length := ⟨_, rfl⟩
  rw [← hn] at hr hm ⊢
  have HR := hide hr
  have HN := hide hn
  obtain ⟨Q, hQ⟩ : ∃ Q : Ending → World → Prop, Q = fun e w' => ((l.all mayK = true ∧ e = .returned (.int .i64 (-1))) ∨ (l.all mayK = false ∧ ∃ k : Nat, e = .returned (.int .i64 (k : Int)))) ∧ Below w.heap.size w w' := ⟨_, rfl⟩
  rw [← hQ]
  have HQ := hide hQ
  clear hn hr hQ
  go_enter Tryd.func80, Tryd.ntmps80
  go_wp2
  go_loopw [8] (fun i wr => ∃ k : Nat, k ≤ n ∧ i = .int .i64 k ∧ (∀ j (h : j < l.length), j < k → mayK l[j] = true) ∧ Below w.heap.size w wr) (fun i _ => n - (intOf i).toNat)
  case atStart => exact ⟨0, Nat.zero_le _, rfl, fun j _ h => absurd h (Nat.not_lt_zero _), Below.refl _ _⟩
  case round =>
    obtain ⟨k, hk, rfl, hpre, hbw⟩ := hrel
    have HP := hide hpre
    clear hpre
    by_cases hlt : k < n
    · have hkl : k < l.length := by have := HN.out; omega
      obtain ⟨g, o, rfl, c1, c2⟩ := (HR.out.below hbw).spot k hkl
      have HF := hide (fun W => allf_any l[k] W)
      have HNX : Hid (mayK l[k] = true → ∀ j (h : j < l.length), j < k + 1 → mayK l[j] = true) := fun hl j h hj => by
        by_cases he : j = k
        · subst he; exact hl
        · exact HP.out j h (by omega)
      have HAT : Hid (mayK l[k] = false → l.all mayK = false) := fun hl => by rw [List.all_eq_false]; exact ⟨l[k], List.getElem_mem _, by simp [hl]⟩
      obtain ⟨p, hp⟩ : ∃ p, p = l[k] := ⟨_, rfl⟩
      rw [← hp] at c1 c2 HF HNX HAT
      have hltI : (k : Int) < (n : Int) := by omega
      have j0 : (0 : Int) ≤ (k : Int) := by omega
      have HB := hide hbw
      clear hp hbw
      cases hb : mayK p with
      | true =>
        rw [hb] at HF
        have HNX2 := hide (HNX.out hb)
        clear HNX HAT hb
        go_wp2_with fail
        refine (HF.out _).mono ?_
        rintro e w1 ⟨rfl, hb1⟩
        have HB1 := hide (Below.next HB.out hb1)
        clear hb1 HB HF c1 c2
        go_wp2
        go_roundw
        case rel => exact ⟨k + 1, by omega, by go_num, HNX2.out, HB1.out⟩
        case measure => simp [intOf]; omega
      | false =>
        rw [hb] at HF
        have HAT2 := hide (HAT.out hb)
        clear HNX HAT hb
        go_wp2_with fail
        refine (HF.out _).mono ?_
        rintro e w1 ⟨rfl, hb1⟩
        have HB1 := hide (Below.next HB.out hb1)
        clear hb1 HB HF c1 c2
        go_wp2
        rw [HQ.out]
        exact ⟨.inr ⟨HAT2.out, k, rfl⟩, HB1.out⟩
    · have hltI : ¬ (k : Int) < (n : Int) := by omega
      have HALL : Hid (l.all mayK = true) := List.all_eq_true.2 (fun p hp => by
        obtain ⟨i, hi, rfl⟩ := List.getElem_of_mem hp
        exact HP.out i hi (by have := HN.out; omega))
      have HB := hide hbw
      clear hbw HP
      go_wp2
      rw [HQ.out]
      exact ⟨.inl ⟨HALL.out, rfl⟩, HB.out⟩

set_option maxHeartbeats 400000 in
theorem kcontf_any (v : Value) (l : List Lk) (w : World) (hm : l.length ≤ 140737488355328) (hr : LkR w v l) :
    Calls Tryd.prog 57 #[v, .func (.func 58) #[] #[]] w fun e w' => e = .returned (.bool (!l.all mayK)) ∧ Below w.heap.size w w' := by
  have HI := hide (kidxf_any v l w hm hr)
  obtain ⟨a, cap, hv⟩ := hr.form
  subst hv
  clear hr
  go_enter Tryd.func57, Tryd.ntmps57
  go_wp2_with fail
  refine HI.out.mono ?_
  rintro e w1 ⟨⟨hall, rfl⟩ | ⟨hall, k, rfl⟩, hb1⟩
  · have HB := hide hb1
    have HA := hide hall
    clear hb1 hall HI
    go_wp2
    go_ret
    exact ⟨by rw [HA.out]; rfl, HB.out⟩
  · have HB := hide hb1
    have HA := hide hall
    have hk : (0 : Int) ≤ (k : Int) := by omega
    clear hb1 hall HI
    go_wp2
    go_ret
    exact ⟨by rw [HA.out]; rfl, HB.out⟩

set_option maxHeartbeats 800000 in
theorem allmay_any (f : Int) (v : Value) (l : List Lk) (w : World) (hm : l.length ≤ 140737488355328) (hr : LkR w v l) :
    Calls Tryd.prog 30 #[.agg #[.int .i64 f, v]] w fun e w' => e = .returned (.bool (childB f && l.all mayK)) ∧ Below w.heap.size w w' := by
  obtain ⟨a, cap, hv⟩ := hr.form
  subst hv
  have q0 := below_new w (.cells #[.int .i64 f, .slice a l.length cap] 30)
  have x0 := RowAt.new w #[.int .i64 f, .slice a l.length cap] 30
  generalize hW0 : w.alloc (.cells #[.int .i64 f, .slice a l.length cap] 30) = W0 at *
  have p0 := x0.c0
  have p1 := x0.c1
  have HK := hide (kcontf_any _ l W0 hm (hr.below q0))
  have HC := hide (mayc_any f W0)
  have HQ := hide q0
  generalize l.length = n at *
  generalize l.all mayK = lb at *
  clear q0 x0 hr
  cases hc : childB f with
  | true =>
    rw [hc] at HC
    clear hc
    go_enter Tryd.func30, Tryd.ntmps30
    go_wp2_with fail
    refine HC.out.mono ?_
    rintro e w1 ⟨rfl, rfl⟩
    go_wp2_with fail
    refine HK.out.mono ?_
    rintro e w2 ⟨rfl, hb2⟩
    have HB := hide (Below.next HQ.out hb2)
    clear hb2 HK HC p0 p1
    go_wp2
    go_ret
    exact ⟨by cases lb <;> rfl, HB.out⟩
  | false =>
    rw [hc] at HC
    clear hc
    go_enter Tryd.func30, Tryd.ntmps30
    go_wp2_with fail
    refine HC.out.mono ?_
    rintro e w1 ⟨rfl, rfl⟩
    clear HC HK
    go_wp2
    go_ret
    exact ⟨by cases lb <;> rfl, HQ.out⟩

end Go.Proofs.YtagldlchamlpdabDoor
