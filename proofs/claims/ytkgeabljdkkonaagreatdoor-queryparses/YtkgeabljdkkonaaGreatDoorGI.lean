import Derived.Test.YtkgeabljdkkonaaGreatDoorGF
import Derived.Test.YtkgeabljdkkonaaGreatDoorGD
import Derived.Test.YtkgeabljdkkonaaGreatDoorGH
import Derived.Test.YtkgeabljdkkonaaGreatDoorPWr2
namespace Go.Proofs.YtkgeabljdkkonaaGreatDoor
open Go.RowKit

/-! Numbers, hexadecimal digits, signs: where they end. -/
def dcount : List UInt8 → Nat
  | [] => 0
  | c :: r => if digitB c = true then dcount r + 1 else 0
theorem dcount_le : ∀ (l : List UInt8), dcount l ≤ l.length
  | [] => Nat.le_refl _
  | c :: r => by
    rw [dcount]
    split
    · have := dcount_le r; simp only [List.length_cons]; omega
    · simp
def numLen : List UInt8 → Nat
  | [] => 0
  | c :: r => if c = 45 then dcount r + 1 else dcount (c :: r)
set_option maxHeartbeats 4000000 in
set_option maxRecDepth 100000 in
theorem number_any (s : ByteArray) (at' : Nat) (w : World) (hs : s.size ≤ 70368744177664) (ha : at' < s.size) :
    Calls Tryz.prog 47 #[.string s, .int .i64 (at' : Int)] w fun e w' => e = .returned (.int .i64 (numLen (s.data.toList.drop at') : Nat)) ∧ w = w' := by
  obtain ⟨r, hr⟩ : ∃ r, r = numLen (s.data.toList.drop at') := ⟨_, rfl⟩
  rw [← hr]
  have hd := q_drop s at' ha
  rw [hd, numLen, ← hd] at hr
  have HR := hide hr
  have haI : (at' : Int) < (s.size : Int) := by omega
  have a0 : (0 : Int) ≤ (at' : Int) := by omega
  obtain ⟨x, hx⟩ : ∃ x : UInt8, x = s[at'] := ⟨_, rfl⟩
  have hxx : s[at'] = x := hx.symm
  rw [← hx] at HR
  clear hr hd hx
  go_enter Tryz.func47, Tryz.ntmps47
  go_upto_if 9 with fail
  go_cut [5] (fun v wx => ∃ k : Nat, v = .int .i64 (k : Int) ∧ k ≤ 1 ∧ Hid (r = k + dcount (s.data.toList.drop (at' + k))) ∧ wx = w)
  case first =>
    by_cases h45 : x = 45
    · subst h45
      have HE : Hid (r = 1 + dcount (s.data.toList.drop (at' + 1))) := by show _ = _; rw [HR.out, if_pos rfl]; omega
      clear HR
      go_wp2_with fail
      go_meet
      exact ⟨1, rfl, Nat.le_refl _, HE, rfl⟩
    · have hx1 : ((x.toNat : Int) == 45) = false := u8_ne (k := 45) (by decide) h45
      have HE : Hid (r = 0 + dcount (s.data.toList.drop (at' + 0))) := by show _ = _; rw [HR.out, if_neg h45]; simp
      clear HR
      go_wp2_with fail
      go_meet
      exact ⟨0, rfl, by omega, HE, rfl⟩
  case rest =>
    obtain ⟨k0, rfl, hk0, hE, hwc⟩ := hcut
    subst hwc
    clear HR hxx x
    go_wp2_with fail
    go_loopw [5] (fun v wr => ∃ k : Nat, v = .int .i64 (k : Int) ∧ at' + k ≤ s.size ∧ Hid (r = k + dcount (s.data.toList.drop (at' + k))) ∧ wr = wc) (fun v _ => s.size - at' - (intOf v).toNat)
    case atStart => exact ⟨k0, rfl, by omega, hE, rfl⟩
    case round =>
      obtain ⟨k, rfl, hk, hall, rfl⟩ := hrel
      by_cases hlt : at' + k < s.size
      · have hltI : (at' : Int) + (k : Int) < (s.size : Int) := by omega
        have e0 : (0 : Int) ≤ (at' : Int) + (k : Int) := by omega
        have hd := q_drop s (at' + k) hlt
        have hall2 : r = k + dcount (s[at' + k] :: s.data.toList.drop (at' + k + 1)) := by rw [← hd]; exact hall.out
        rw [dcount] at hall2
        have HA := hide hall2
        have HDG := hide (digit_any s[at' + k] wr)
        clear hall2 hd hall
        go_wp2_with fail
        refine HDG.out.mono ?_
        rintro e w' ⟨rfl, rfl⟩
        cases hdb : digitB s[at' + k] with
        | true =>
          have HA2 : Hid (r = k + 1 + dcount (s.data.toList.drop (at' + (k + 1)))) := by
            show _ = _
            rw [HA.out, hdb, if_pos rfl, show at' + (k + 1) = at' + k + 1 by omega]; omega
          clear hdb HA HDG
          go_wp2
          go_roundw
          case rel => exact ⟨k + 1, by go_num, by omega, HA2, by first | trivial | rfl⟩
          case measure => simp [intOf]; omega
        | false =>
          have HE : Hid (r = k) := by
            show _ = _
            rw [HA.out, hdb]; simp
          clear hdb HA HDG
          go_wp2
          go_ret
          exact ⟨by rw [HE.out]; rfl, rfl⟩
      · have hltI : ¬ (at' : Int) + (k : Int) < (s.size : Int) := by omega
        have HE : Hid (r = k) := by
          show _ = _
          rw [hall.out, q_drop_end s (at' + k) (by omega)]; rfl
        clear hall
        go_wp2
        go_ret
        exact ⟨by rw [HE.out]; rfl, rfl⟩
def hexI (c : UInt8) : Int := if digitB c = true then (c.toNat : Int) - 48 else if 97 ≤ c.toNat ∧ c.toNat ≤ 102 then (c.toNat : Int) - 87 else if 65 ≤ c.toNat ∧ c.toNat ≤ 70 then (c.toNat : Int) - 55 else -1
theorem hexI_lt (c : UInt8) : -1 ≤ hexI c ∧ hexI c ≤ 15 := by
  unfold hexI
  split
  · rename_i h
    simp only [digitB, decide_eq_true_eq] at h
    omega
  split
  · omega
  split <;> omega
set_option maxHeartbeats 2000000 in
theorem hex_any (c : UInt8) (w : World) : Calls Tryz.prog 91 #[.int .u8 (c.toNat : Int)] w fun e w' => e = .returned (.int .i64 (hexI c)) ∧ w = w' := by
  obtain ⟨r, hr⟩ : ∃ r, r = hexI c := ⟨_, rfl⟩
  rw [← hr]
  unfold hexI at hr
  have HR := hide hr
  have HDG := hide (digit_any c w)
  obtain ⟨db, hdb⟩ : ∃ db, db = digitB c := ⟨_, rfl⟩
  have HDB : Hid (db = decide (48 ≤ c.toNat ∧ c.toNat ≤ 57)) := hdb
  rw [← hdb] at HR HDG
  have hc := UInt8.toNat_lt c
  obtain ⟨n, hn⟩ : ∃ n, n = c.toNat := ⟨_, rfl⟩
  rw [← hn] at HR HDG HDB hc ⊢
  clear hn hdb hr
  go_enter Tryz.func91, Tryz.ntmps91
  go_wp2_with fail
  refine HDG.out.mono ?_
  rintro e w' ⟨rfl, rfl⟩
  clear HDG
  cases db with
  | true =>
    have h1 := of_decide_eq_true HDB.out.symm
    have hw1 : IntKind.u8.wrap ((n : Int) - 48) = (n : Int) - 48 := by simp [IntKind.wrap, IntKind.bits, IntKind.signed]; omega
    have hw2 : IntKind.i64.wrap ((n : Int) - 48) = (n : Int) - 48 := wrap_i64 _ (by omega) (by omega)
    have HE : Hid (r = (n : Int) - 48) := by show _ = _; rw [HR.out, if_pos rfl]
    clear HR HDB h1
    go_wp2
    go_ret
    exact ⟨by rw [HE.out]; rfl, rfl⟩
  | false =>
    have h1 := of_decide_eq_false HDB.out.symm
    rw [if_neg (by simp)] at HR
    clear HDB h1
    by_cases h2 : 97 ≤ n
    · have h2I : (97 : Int) ≤ (n : Int) := by omega
      by_cases h3 : n ≤ 102
      · have h3I : (n : Int) ≤ 102 := by omega
        have hw1 : IntKind.u8.wrap ((n : Int) - 97) = (n : Int) - 97 := by simp [IntKind.wrap, IntKind.bits, IntKind.signed]; omega
        have hw2 : IntKind.i64.wrap ((n : Int) - 97) = (n : Int) - 97 := wrap_i64 _ (by omega) (by omega)
        have hw3 : IntKind.i64.wrap ((n : Int) - 97 + 10) = (n : Int) - 97 + 10 := wrap_i64 _ (by omega) (by omega)
        have HE : Hid (r = (n : Int) - 97 + 10) := by show _ = _; rw [HR.out, if_pos ⟨h2, h3⟩]; omega
        clear HR
        go_wp2
        go_ret
        exact ⟨by rw [HE.out]; rfl, rfl⟩
      · have h3I : ¬ (n : Int) ≤ 102 := by omega
        have h4I : (65 : Int) ≤ (n : Int) := by omega
        have h5I : ¬ (n : Int) ≤ 70 := by omega
        have HE : Hid (r = -1) := by show _ = _; rw [HR.out, if_neg (by omega), if_neg (by omega)]
        clear HR
        go_wp2
        go_ret
        exact ⟨by rw [HE.out]; rfl, rfl⟩
    · have h2I : ¬ (97 : Int) ≤ (n : Int) := by omega
      by_cases h4 : 65 ≤ n
      · have h4I : (65 : Int) ≤ (n : Int) := by omega
        by_cases h5 : n ≤ 70
        · have h5I : (n : Int) ≤ 70 := by omega
          have hw1 : IntKind.u8.wrap ((n : Int) - 65) = (n : Int) - 65 := by simp [IntKind.wrap, IntKind.bits, IntKind.signed]; omega
          have hw2 : IntKind.i64.wrap ((n : Int) - 65) = (n : Int) - 65 := wrap_i64 _ (by omega) (by omega)
          have hw3 : IntKind.i64.wrap ((n : Int) - 65 + 10) = (n : Int) - 65 + 10 := wrap_i64 _ (by omega) (by omega)
          have HE : Hid (r = (n : Int) - 65 + 10) := by show _ = _; rw [HR.out, if_neg (by omega), if_pos ⟨h4, h5⟩]; omega
          clear HR
          go_wp2
          go_ret
          exact ⟨by rw [HE.out]; rfl, rfl⟩
        · have h5I : ¬ (n : Int) ≤ 70 := by omega
          have HE : Hid (r = -1) := by show _ = _; rw [HR.out, if_neg (by omega), if_neg (by omega)]
          clear HR
          go_wp2
          go_ret
          exact ⟨by rw [HE.out]; rfl, rfl⟩
      · have h4I : ¬ (65 : Int) ≤ (n : Int) := by omega
        have HE : Hid (r = -1) := by show _ = _; rw [HR.out, if_neg (by omega), if_neg (by omega)]
        clear HR
        go_wp2
        go_ret
        exact ⟨by rw [HE.out]; rfl, rfl⟩
end Go.Proofs.YtkgeabljdkkonaaGreatDoor

namespace Go.Proofs.YtkgeabljdkkonaaGreatDoor
open Go.RowKit

def sgnLen : List UInt8 → Nat
  | [] => 0
  | c :: r => if (c = 60 ∨ c = 62) ∧ r.head? = some 61 then 2 else if c = 61 ∨ c = 60 ∨ c = 62 ∨ c = 91 ∨ c = 93 ∨ c = 44 then 1 else 0
set_option maxHeartbeats 4000000 in
set_option maxRecDepth 100000 in
theorem sign_any (s : ByteArray) (at' : Nat) (w : World) (hs : s.size ≤ 70368744177664) (ha : at' < s.size) :
    Calls Tryz.prog 49 #[.string s, .int .i64 (at' : Int)] w fun e w' => e = .returned (.int .i64 (sgnLen (s.data.toList.drop at') : Nat)) ∧ w = w' := by
  obtain ⟨r, hr⟩ : ∃ r, r = sgnLen (s.data.toList.drop at') := ⟨_, rfl⟩
  rw [← hr]
  rw [q_drop s at' ha, sgnLen] at hr
  have HR := hide hr
  have haI : (at' : Int) < (s.size : Int) := by omega
  have a0 : (0 : Int) ≤ (at' : Int) := by omega
  obtain ⟨x, hx⟩ : ∃ x : UInt8, x = s[at'] := ⟨_, rfl⟩
  have hxx : s[at'] = x := hx.symm
  rw [← hx] at HR
  clear hr hx
  by_cases h2 : x = 60 ∨ x = 62
  · by_cases hn : at' + 1 < s.size
    · have hnI : (at' : Int) + 1 < (s.size : Int) := by omega
      have n0 : (0 : Int) ≤ (at' : Int) + 1 := by omega
      have hh : (s.data.toList.drop (at' + 1)).head? = some s[at' + 1] := by rw [q_drop s (at' + 1) hn]; rfl
      obtain ⟨y, hy⟩ : ∃ y : UInt8, y = s[at' + 1] := ⟨_, rfl⟩
      have hyy : s[at' + 1] = y := hy.symm
      rw [← hy] at hh
      clear hy
      by_cases h61 : y = 61
      · have HE : Hid (r = 2) := by show _ = _; rw [HR.out, if_pos ⟨h2, by rw [hh, h61]⟩]
        clear HR hh
        subst h61
        rcases h2 with rfl | rfl
        all_goals
          go_enter Tryz.func49, Tryz.ntmps49
          go_wp2
          go_ret
          exact ⟨by rw [HE.out]; rfl, rfl⟩
      · have HE : Hid (r = 1) := by show _ = _; rw [HR.out, if_neg (by rw [hh]; rintro ⟨-, e⟩; exact h61 (Option.some.inj e)), if_pos (by rcases h2 with e | e <;> simp [e])]
        have hy1 : ((y.toNat : Int) == 61) = false := u8_ne (k := 61) (by decide) h61
        clear HR hh h61
        rcases h2 with rfl | rfl
        all_goals
          go_enter Tryz.func49, Tryz.ntmps49
          go_wp2
          go_ret
          exact ⟨by rw [HE.out]; rfl, rfl⟩
    · have hnI : ¬ (at' : Int) + 1 < (s.size : Int) := by omega
      have HE : Hid (r = 1) := by show _ = _; rw [HR.out, q_drop_end s (at' + 1) (by omega), if_neg (by simp), if_pos (by rcases h2 with e | e <;> simp [e])]
      clear HR
      rcases h2 with rfl | rfl
      all_goals
        go_enter Tryz.func49, Tryz.ntmps49
        go_wp2
        go_ret
        exact ⟨by rw [HE.out]; rfl, rfl⟩
  · have g0 : ((x.toNat : Int) == 60) = false := u8_ne (k := 60) (by decide) fun e => h2 (.inl e)
    have g1 : ((x.toNat : Int) == 62) = false := u8_ne (k := 62) (by decide) fun e => h2 (.inr e)
    have HR2 : Hid (r = if x = 61 ∨ x = 60 ∨ x = 62 ∨ x = 91 ∨ x = 93 ∨ x = 44 then 1 else 0) := by show _ = _; rw [HR.out, if_neg (fun h => h2 h.1)]
    clear HR
    by_cases h3 : x = 61 ∨ x = 91 ∨ x = 93 ∨ x = 44
    · have HE : Hid (r = 1) := by show _ = _; rw [HR2.out, if_pos (by rcases h3 with e | e | e | e <;> simp [e])]
      clear HR2 h2 g0 g1
      rcases h3 with rfl | rfl | rfl | rfl
      all_goals
        go_enter Tryz.func49, Tryz.ntmps49
        go_wp2
        go_ret
        exact ⟨by rw [HE.out]; rfl, rfl⟩
    · have HE : Hid (r = 0) := by
        show _ = _
        rw [HR2.out, if_neg]
        rintro (e | e | e | e | e | e)
        · exact h3 (.inl e)
        · exact h2 (.inl e)
        · exact h2 (.inr e)
        · exact h3 (.inr (.inl e))
        · exact h3 (.inr (.inr (.inl e)))
        · exact h3 (.inr (.inr (.inr e)))
      have g2 : ((x.toNat : Int) == 61) = false := u8_ne (k := 61) (by decide) fun e => h3 (.inl e)
      have g3 : ((x.toNat : Int) == 91) = false := u8_ne (k := 91) (by decide) fun e => h3 (.inr (.inl e))
      have g4 : ((x.toNat : Int) == 93) = false := u8_ne (k := 93) (by decide) fun e => h3 (.inr (.inr (.inl e)))
      have g5 : ((x.toNat : Int) == 44) = false := u8_ne (k := 44) (by decide) fun e => h3 (.inr (.inr (.inr e)))
      clear HR2 h2 h3
      go_enter Tryz.func49, Tryz.ntmps49
      go_wp2
      go_ret
      exact ⟨by rw [HE.out]; rfl, rfl⟩
def escX : List UInt8 → UInt8 × Nat
  | a :: b :: _ => if hexI a < 0 ∨ hexI b < 0 then (0, 0) else (UInt8.ofNat (16 * hexI a + hexI b).toNat, 4)
  | _ => (0, 0)
def escD : List UInt8 → UInt8 × Nat
  | _ :: c :: r => if c = 34 ∨ c = 92 then (c, 2) else if c = 120 then escX r else (0, 0)
  | _ => (0, 0)
set_option maxHeartbeats 4000000 in
set_option maxRecDepth 100000 in
theorem esc_any (s : ByteArray) (i : Nat) (w : World) (hs : s.size ≤ 70368744177664) (hi : i < s.size) :
    Calls Tryz.prog 70 #[.string s, .int .i64 (i : Int)] w fun e w' => e = .returned (.tuple #[.int .u8 ((escD (s.data.toList.drop i)).1.toNat : Int), .int .i64 ((escD (s.data.toList.drop i)).2 : Nat)]) ∧ w = w' := by
  obtain ⟨r, hr⟩ : ∃ r, r = escD (s.data.toList.drop i) := ⟨_, rfl⟩
  rw [← hr]
  rw [q_drop s i hi] at hr
  by_cases h1 : i + 1 < s.size
  · have h1I : (i : Int) + 1 < (s.size : Int) := by omega
    have h1J : ¬ (s.size : Int) ≤ (i : Int) + 1 := by omega
    have n1 : (0 : Int) ≤ (i : Int) + 1 := by omega
    rw [q_drop s (i + 1) h1, escD, show i + 1 + 1 = i + 2 from rfl] at hr
    have HR := hide hr
    obtain ⟨c, hc⟩ : ∃ c : UInt8, c = s[i + 1] := ⟨_, rfl⟩
    have hcc : s[i + 1] = c := hc.symm
    rw [← hc] at HR
    clear hr hc
    by_cases h2 : c = 34 ∨ c = 92
    · have HE : Hid (r = (c, 2)) := by show _ = _; rw [HR.out, if_pos h2]
      clear HR
      rcases h2 with rfl | rfl
      all_goals
        go_enter Tryz.func70, Tryz.ntmps70
        go_wp2
        go_ret2
        exact ⟨by rw [HE.out]; rfl, rfl⟩
    · have g1 : ((c.toNat : Int) == 34) = false := u8_ne (k := 34) (by decide) fun e => h2 (.inl e)
      have g2 : ((c.toNat : Int) == 92) = false := u8_ne (k := 92) (by decide) fun e => h2 (.inr e)
      rw [if_neg h2] at HR
      clear h2
      by_cases h3 : c = 120
      · rw [if_pos h3] at HR
        subst h3
        by_cases h4 : i + 3 < s.size
        · have h4I : ¬ (s.size : Int) ≤ (i : Int) + 3 := by omega
          have h4J : (i : Int) + 3 < (s.size : Int) := by omega
          have h2J : (i : Int) + 2 < (s.size : Int) := by omega
          have n2 : (0 : Int) ≤ (i : Int) + 2 := by omega
          have n3 : (0 : Int) ≤ (i : Int) + 3 := by omega
          rw [q_drop s (i + 2) (by omega), show i + 2 + 1 = i + 3 from rfl, q_drop s (i + 3) h4, escX] at HR
          have H2 := hide (hex_any s[i + 2] w)
          have H3 := hide (hex_any s[i + 3] w)
          have b2 := hexI_lt s[i + 2]
          have b3 := hexI_lt s[i + 3]
          generalize hexI s[i + 2] = A at *
          generalize hexI s[i + 3] = B at *
          go_enter Tryz.func70, Tryz.ntmps70
          go_wp2_with fail
          refine H2.out.mono ?_
          rintro e w' ⟨rfl, rfl⟩
          clear H2
          go_wp2_with fail
          refine H3.out.mono ?_
          rintro e w' ⟨rfl, rfl⟩
          clear H3
          by_cases hA : A < 0
          · have HE : Hid (r = (0, 0)) := by show _ = _; rw [HR.out, if_pos (.inl hA)]
            clear HR
            go_wp2
            go_ret2
            exact ⟨by rw [HE.out]; rfl, rfl⟩
          · by_cases hB : B < 0
            · have HE : Hid (r = (0, 0)) := by show _ = _; rw [HR.out, if_pos (.inr hB)]
              clear HR
              go_wp2
              go_ret2
              exact ⟨by rw [HE.out]; rfl, rfl⟩
            · have HE : Hid (r.1.toNat = (16 * A + B).toNat ∧ r.2 = 4) := by
                show _ ∧ _
                rw [HR.out, if_neg (by omega)]
                refine ⟨?_, rfl⟩
                show (UInt8.ofNat (16 * A + B).toNat).toNat = _
                rw [UInt8.toNat_ofNat']
                omega
              have HE2 : Hid (((16 * A + B).toNat : Int) = 16 * A + B) := by show _ = _; omega
              have hw1 : IntKind.i64.wrap (16 * A) = 16 * A := wrap_i64 _ (by omega) (by omega)
              have hw2 : IntKind.i64.wrap (16 * A + B) = 16 * A + B := wrap_i64 _ (by omega) (by omega)
              have hw3 : IntKind.u8.wrap (16 * A + B) = 16 * A + B := by rw [wrap_u8]; omega
              clear HR
              go_wp2
              go_ret2
              exact ⟨by rw [HE.out.1, HE.out.2, HE2.out]; rfl, rfl⟩
        · have h4I : (s.size : Int) ≤ (i : Int) + 3 := by omega
          have HE : Hid (r = (0, 0)) := by
            show _ = _
            rw [HR.out]
            by_cases h5 : i + 2 < s.size
            · rw [q_drop s (i + 2) h5, q_drop_end s (i + 2 + 1) (by omega)]; rfl
            · rw [q_drop_end s (i + 2) (by omega)]; rfl
          clear HR
          go_enter Tryz.func70, Tryz.ntmps70
          go_wp2
          go_ret2
          exact ⟨by rw [HE.out]; rfl, rfl⟩
      · have HE : Hid (r = (0, 0)) := by show _ = _; rw [HR.out, if_neg h3]
        have g4 : ((c.toNat : Int) == 120) = false := u8_ne (k := 120) (by decide) h3
        have g3 : ((c.toNat : Int) != 120) = true := by rw [bne, g4]; rfl
        clear HR h3
        go_enter Tryz.func70, Tryz.ntmps70
        go_wp2
        go_ret2
        exact ⟨by rw [HE.out]; rfl, rfl⟩
  · have h1J : (s.size : Int) ≤ (i : Int) + 1 := by omega
    rw [q_drop_end s (i + 1) (by omega)] at hr
    have HE : Hid (r = (0, 0)) := hr
    clear hr
    go_enter Tryz.func70, Tryz.ntmps70
    go_wp2
    go_ret2
    exact ⟨by rw [HE.out]; rfl, rfl⟩
end Go.Proofs.YtkgeabljdkkonaaGreatDoor

namespace Go.Proofs.YtkgeabljdkkonaaGreatDoor
open Go.RowKit

/-! The number that a text is. -/
def decV (l : List UInt8) : Nat := l.foldl (fun u c => u * 10 + (c.toNat - 48)) 0
theorem decV_snoc (l : List UInt8) (c : UInt8) : decV (l ++ [c]) = decV l * 10 + (c.toNat - 48) := by
  unfold decV
  rw [List.foldl_append]; rfl
theorem digit_le {c : UInt8} (h : digitB c = true) : 48 ≤ c.toNat ∧ c.toNat ≤ 57 := by simpa [digitB] using h
theorem decV_lt : ∀ (n : Nat) (l : List UInt8), l.length = n → (∀ c ∈ l, digitB c = true) → decV l < 10 ^ n
  | 0, l, h, _ => by
    rw [List.length_eq_zero_iff.1 h]; decide
  | n + 1, l, h, hd => by
    have hne : l ≠ [] := fun e => by rw [e] at h; simp at h
    have e := List.dropLast_concat_getLast hne
    have h1 := decV_lt n l.dropLast (by rw [List.length_dropLast]; omega) fun c hc => hd c ((List.dropLast_sublist l).subset hc)
    have h2 := digit_le (hd _ (List.getLast_mem hne))
    rw [← e, decV_snoc, Nat.pow_succ]
    omega
def badN (low : Bool) (t : List UInt8) : Bool := decide (t = []) || decide (19 < t.length) || (decide (t.head? = some 48) && (decide (1 < t.length) || low))
def natOk (low : Bool) (t : List UInt8) : Bool := !badN low t && t.all digitB && decide (decV t ≤ if low then 9223372036854775808 else 9223372036854775807)
def lowB (l : List UInt8) : Bool := decide (l.head? = some 45)
def bodyL (l : List UInt8) : List UInt8 := if lowB l then l.tail else l
def numOk (l : List UInt8) : Bool := natOk (lowB l) (bodyL l)
def numV (l : List UInt8) : Int := if lowB l then - (decV (bodyL l) : Int) else (decV (bodyL l) : Int)
theorem ex_tail (s : ByteArray) : (s.extract 1 s.size).data.toList = s.data.toList.tail := by
  rw [ByteArray.data_extract]
  simp
  exact List.take_of_length_le (by simp)
theorem size_list (s : ByteArray) : s.size = s.data.toList.length := (q_len s).symm
theorem emp_list (s : ByteArray) : s = ⟨#[]⟩ ↔ s.data.toList = [] := by
  constructor
  · intro h; subst h; rfl
  · intro h
    apply ByteArray.ext
    simpa using h
theorem head_list (s : ByteArray) (h : 0 < s.size) : s.data.toList.head? = some s[0] := by
  have := q_drop s 0 h
  rw [List.drop_zero] at this
  rw [this]; rfl
def numR (l : List UInt8) : Int := if (!badN (lowB l) (bodyL l) && (bodyL l).all digitB) = true then (if lowB l then IntKind.i64.wrap (IntKind.u64.wrap (-(decV (bodyL l) : Int))) else IntKind.i64.wrap (decV (bodyL l) : Int)) else 0
theorem wrap_neg (D : Nat) (h : D ≤ 9223372036854775808) : IntKind.i64.wrap (IntKind.u64.wrap (-(D : Int))) = -(D : Int) := by
  simp [IntKind.wrap, IntKind.bits, IntKind.signed]
  omega
theorem numR_ok {l : List UInt8} (h : numOk l = true) : numR l = numV l := by
  unfold numOk natOk at h
  rw [Bool.and_eq_true, decide_eq_true_eq] at h
  obtain ⟨h1, h2⟩ := h
  rw [numR, if_pos h1, numV]
  cases hl : lowB l with
  | true =>
    rw [hl, if_pos rfl] at h2
    rw [if_pos rfl, if_pos rfl]
    exact wrap_neg _ h2
  | false =>
    rw [hl, if_neg (by simp)] at h2
    rw [if_neg (by simp), if_neg (by simp)]
    exact wrap_i64 _ (by omega) (by omega)
set_option maxHeartbeats 4000000 in
set_option maxRecDepth 100000 in
theorem num_any (s : ByteArray) (w : World) (hs : s.size ≤ 70368744177664) :
    Calls Tryz.prog 48 #[.string s] w fun e w' => e = .returned (.tuple #[.int .i64 (numR s.data.toList), .bool (numOk s.data.toList)]) ∧ w = w' := by
  obtain ⟨ok, hok⟩ : ∃ ok, ok = numOk s.data.toList := ⟨_, rfl⟩
  obtain ⟨vv, hvv⟩ : ∃ vv, vv = numR s.data.toList := ⟨_, rfl⟩
  rw [← hok, ← hvv]
  obtain ⟨lo, hlo⟩ : ∃ lo, lo = lowB s.data.toList := ⟨_, rfl⟩
  obtain ⟨t, ht⟩ : ∃ t : ByteArray, t = if lo then s.extract 1 s.size else s := ⟨_, rfl⟩
  have htl : t.data.toList = bodyL s.data.toList := by
    rw [ht, bodyL, ← hlo]
    cases lo
    · rfl
    · exact ex_tail s
  rw [numOk, ← hlo, ← htl] at hok
  rw [numR, ← hlo, ← htl] at hvv
  have HOK := hide hok
  have HVV := hide hvv
  have HT := hide ht
  have HLO := hide hlo
  have HLS : Hid (lo = true → 0 < s.size) := fun e => by
    rw [HLO.out, lowB, decide_eq_true_eq] at e
    rw [size_list]
    cases hz : s.data.toList with
    | nil => rw [hz] at e; simp at e
    | cons _ _ => simp
  have hts : t.size ≤ 70368744177664 := by
    rw [ht]
    cases lo
    · exact hs
    · show (s.extract 1 s.size).size ≤ _
      rw [ByteArray.size_extract]; omega
  clear hok hvv hlo ht htl
  go_enter Tryz.func48, Tryz.ntmps48
  go_upto_region 1 with fail
  go_cut [4] (fun v wx => v = .bool lo ∧ wx = w)
  case first =>
    by_cases h0 : 0 < s.size
    · have h0I : (0 : Int) < (s.size : Int) := by omega
      have hh := head_list s h0
      obtain ⟨x, hx⟩ : ∃ x : UInt8, x = s[0] := ⟨_, rfl⟩
      have hxx : s[0] = x := hx.symm
      rw [← hx] at hh
      have HE : Hid (lo = decide (x = 45)) := by show _ = _; rw [HLO.out, lowB, hh]; simp
      clear hx hh HLS HLO HT HVV HOK
      by_cases h45 : x = 45
      · subst h45
        go_wp2_with fail
        go_meet
        exact ⟨by rw [HE.out]; rfl, rfl⟩
      · have hx1 : ((x.toNat : Int) == 45) = false := u8_ne (k := 45) (by decide) h45
        rw [decide_eq_false h45] at HE
        clear h45
        go_wp2_with fail
        go_meet
        exact ⟨by rw [HE.out], rfl⟩
    · have h0I : ¬ (0 : Int) < (s.size : Int) := by omega
      have HE : Hid (lo = false) := by
        show _ = _
        cases lo with
        | false => rfl
        | true => exact absurd (HLS.out rfl) h0
      clear HLS HLO HT HVV HOK
      go_wp2_with fail
      go_meet
      exact ⟨by rw [HE.out], rfl⟩
  case rest =>
    obtain ⟨rfl, hwc⟩ := hcut
    subst hwc
    go_upto_if 15 with fail
    go_cut [0] (fun v wx => v = .string t ∧ wx = wc)
    case first =>
      cases lo with
      | true =>
        have h0 := HLS.out rfl
        have h0I : (0 : Int) < (s.size : Int) := by omega
        have h1I : (1 : Int) ≤ (s.size : Int) := by omega
        have HE : Hid (t = s.extract 1 s.size) := HT.out
        clear HLS HLO HT HVV HOK h0
        go_wp2_with fail
        go_meet
        exact ⟨by rw [HE.out], rfl⟩
      | false =>
        have HE : Hid (t = s) := HT.out
        clear HLS HLO HT HVV HOK
        go_wp2_with fail
        go_meet
        exact ⟨by rw [HE.out], rfl⟩
    case rest =>
      obtain ⟨rfl, hwc⟩ := hcut
      subst hwc
      clear HLS HLO HT hs
      obtain ⟨bd, hbd⟩ : ∃ bd, bd = badN lo t.data.toList := ⟨_, rfl⟩
      have HBD := hide hbd
      clear hbd
      go_upto_region 4 with fail
      go_cut [37] (fun v wx => v = .bool bd ∧ wx = wc)
      case first =>
        clear HOK HVV
        by_cases he : t = ⟨#[]⟩
        · subst he
          have HE : Hid (bd = true) := HBD.out
          clear HBD
          go_wp2_with fail
          go_meet
          exact ⟨by rw [HE.out], rfl⟩
        · have hne : t.data.toList ≠ [] := fun e => he ((emp_list t).2 e)
          have h0 : 0 < t.size := by rw [size_list]; exact List.length_pos_iff.2 hne
          have hq : (t.toList == (⟨#[]⟩ : ByteArray).toList) = false := str_ne he
          have hq2 : t.toList.isEmpty = false := by
            cases hz : t.toList with
            | nil => rw [hz] at hq; simp at hq
            | cons _ _ => rfl
          have h0I : (0 : Int) < (t.size : Int) := by omega
          have hh := head_list t h0
          obtain ⟨x, hx⟩ : ∃ x : UInt8, x = t[0] := ⟨_, rfl⟩
          have hxx : t[0] = x := hx.symm
          rw [← hx] at hh
          have HB2 : Hid (bd = (decide (19 < t.size) || (decide (x = 48) && (decide (1 < t.size) || lo)))) := by
            show _ = _
            rw [HBD.out, badN, decide_eq_false hne, Bool.false_or, hh, ← size_list]
            simp
          clear hx hh HBD hne he
          by_cases h19 : 19 < t.size
          · have h19I : (19 : Int) < (t.size : Int) := by omega
            rw [decide_eq_true h19, Bool.true_or] at HB2
            clear h19
            go_wp2_with fail
            go_meet
            exact ⟨by rw [HB2.out], rfl⟩
          · have h19I : ¬ (19 : Int) < (t.size : Int) := by omega
            rw [decide_eq_false h19, Bool.false_or] at HB2
            clear h19
            by_cases h48 : x = 48
            · subst h48
              rw [decide_eq_true rfl, Bool.true_and] at HB2
              by_cases h1 : 1 < t.size
              · have h1I : (1 : Int) < (t.size : Int) := by omega
                rw [decide_eq_true h1, Bool.true_or] at HB2
                clear h1
                go_wp2_with fail
                go_meet
                exact ⟨by rw [HB2.out], rfl⟩
              · have h1I : ¬ (1 : Int) < (t.size : Int) := by omega
                rw [decide_eq_false h1, Bool.false_or] at HB2
                clear h1
                go_wp2_with fail
                go_meet
                exact ⟨by rw [HB2.out], rfl⟩
            · have hx1 : ((x.toNat : Int) == 48) = false := u8_ne (k := 48) (by decide) h48
              rw [decide_eq_false h48, Bool.false_and] at HB2
              clear h48
              go_wp2_with fail
              go_meet
              exact ⟨by rw [HB2.out], rfl⟩
      case rest =>
        obtain ⟨rfl, hwc⟩ := hcut
        subst hwc
        cases bd with
        | true =>
          have HE : Hid (ok = false ∧ vv = 0) := by
            refine ⟨?_, ?_⟩
            · rw [HOK.out, natOk, ← HBD.out]; rfl
            · rw [HVV.out, ← HBD.out]; rfl
          clear HBD HOK HVV
          go_wp2
          go_ret2
          exact ⟨by rw [HE.out.1, HE.out.2]; rfl, rfl⟩
        | false =>
          have h19 : t.size ≤ 19 := by
            have e := HBD.out
            unfold badN at e
            rw [← size_list] at e
            simp only [Bool.false_eq, Bool.or_eq_false_iff, decide_eq_false_iff_not] at e
            omega
          have HO : Hid (ok = (t.data.toList.all digitB && decide (decV t.data.toList ≤ if lo then 9223372036854775808 else 9223372036854775807))) := by
            show _ = _
            rw [HOK.out, natOk, ← HBD.out]; rfl
          have HV : Hid (vv = if t.data.toList.all digitB = true then (if lo then IntKind.i64.wrap (IntKind.u64.wrap (-(decV t.data.toList : Int))) else IntKind.i64.wrap (decV t.data.toList : Int)) else 0) := by
            show _ = _
            rw [HVV.out, ← HBD.out]; rfl
          clear HBD HOK HVV
          go_wp2_with fail
          go_loopw [5, 6] (fun uv iv wr => ∃ k D : Nat, uv = .int .u64 (D : Int) ∧ iv = .int .i64 (k : Int) ∧ k ≤ t.size ∧ Hid (D = decV (t.data.toList.take k) ∧ ∀ c ∈ t.data.toList.take k, digitB c = true) ∧ wr = wc) (fun _ iv _ => t.size - (intOf iv).toNat)
          case atStart => exact ⟨0, 0, rfl, rfl, Nat.zero_le _, ⟨by simp [decV], by simp⟩, rfl⟩
          case round =>
            obtain ⟨k, D, rfl, rfl, hk, hD, rfl⟩ := hrel
            have hDl : D < 10 ^ k := by
              rw [hD.out.1]
              exact decV_lt k _ (by rw [List.length_take, ← size_list]; omega) hD.out.2
            by_cases hlt : k < t.size
            · have hltI : (k : Int) < (t.size : Int) := by omega
              have e0 : (0 : Int) ≤ (k : Int) := by omega
              have hD18 : D < 1000000000000000000 := Nat.lt_of_lt_of_le hDl (Nat.pow_le_pow_right (by decide) (show k ≤ 18 by omega))
              have hkl : k < t.data.toList.length := by rw [← size_list]; exact hlt
              have htk : t.data.toList.take (k + 1) = t.data.toList.take k ++ [(t[k]'hlt)] := List.take_succ_eq_append_getElem hkl
              have hmem : (t[k]'hlt) ∈ t.data.toList := List.getElem_mem hkl
              have HDG := hide (digit_any (t[k]'hlt) wr)
              have HDD := hide hD.out
              obtain ⟨x, hx⟩ : ∃ x : UInt8, x = (t[k]'hlt) := ⟨_, rfl⟩
              have hxx : (t[k]'hlt) = x := hx.symm
              rw [← hx] at HDG htk hmem
              have HTK := hide htk
              have HME := hide hmem
              clear htk hmem hx hDl hkl hD
              go_wp2_with fail
              refine HDG.out.mono ?_
              rintro e w' ⟨rfl, rfl⟩
              clear HDG
              cases hdb : digitB x with
              | false =>
                have HE : Hid (ok = false ∧ vv = 0) := by
                  have hall : t.data.toList.all digitB = false := List.all_eq_false.2 ⟨x, HME.out, by simp [hdb]⟩
                  refine ⟨?_, ?_⟩
                  · rw [HO.out, hall]; rfl
                  · rw [HV.out, hall]; rfl
                clear hdb HO HV HME HTK HDD
                go_wp2
                go_ret2
                exact ⟨by rw [HE.out.1, HE.out.2]; rfl, rfl⟩
              | true =>
                have hdl := digit_le hdb
                have HN : Hid (D * 10 + (x.toNat - 48) = decV (t.data.toList.take (k + 1)) ∧ ∀ c ∈ t.data.toList.take (k + 1), digitB c = true) := by
                  refine ⟨?_, fun c hc => ?_⟩
                  · rw [HTK.out, decV_snoc, ← HDD.out.1]
                  · rw [HTK.out] at hc
                    rcases List.mem_append.1 hc with h | h
                    · exact HDD.out.2 c h
                    · rw [List.mem_singleton] at h; rw [h]; exact hdb
                obtain ⟨n, hn⟩ : ∃ n, n = x.toNat := ⟨_, rfl⟩
                obtain ⟨m, hm⟩ : ∃ m, m = n - 48 := ⟨_, rfl⟩
                rw [← hn] at hdl HN
                have hxn : (x.toNat : Int) = (n : Int) := by rw [hn]
                obtain ⟨E, hE⟩ : ∃ E, E = D * 10 + m := ⟨_, rfl⟩
                rw [← hm, ← hE] at HN
                have hw1 : IntKind.u8.wrap ((n : Int) - 48) = (m : Int) := by rw [wrap_u8]; omega
                have hw2 : IntKind.u64.wrap (m : Int) = (m : Int) := by simp [IntKind.wrap, IntKind.bits, IntKind.signed]; omega
                have hw3 : IntKind.u64.wrap ((D : Int) * 10) = (D : Int) * 10 := by simp [IntKind.wrap, IntKind.bits, IntKind.signed]; omega
                have hw4 : IntKind.u64.wrap ((D : Int) * 10 + (m : Int)) = (E : Int) := by simp [IntKind.wrap, IntKind.bits, IntKind.signed]; omega
                clear hdb HTK HDD HME hE hm hn
                go_wp2
                go_roundw
                case rel => exact ⟨k + 1, E, by go_num, by go_num, by omega, HN, by first | trivial | rfl⟩
                case measure => simp [intOf]; omega
            · have hltI : ¬ (k : Int) < (t.size : Int) := by omega
              have hDe : D = decV t.data.toList ∧ t.data.toList.all digitB = true := by
                have h1 := hD.out
                rw [List.take_of_length_le (by rw [← size_list]; omega)] at h1
                exact ⟨h1.1, List.all_eq_true.2 h1.2⟩
              have hD19 : D < 10000000000000000000 := Nat.lt_of_lt_of_le hDl (Nat.pow_le_pow_right (by decide) (show k ≤ 19 by omega))
              have HO2 : Hid (ok = decide (D ≤ if lo then 9223372036854775808 else 9223372036854775807)) := by show _ = _; rw [HO.out, hDe.2, ← hDe.1]; rfl
              have HV2 : Hid (vv = if lo then IntKind.i64.wrap (IntKind.u64.wrap (-(D : Int))) else IntKind.i64.wrap (D : Int)) := by show _ = _; rw [HV.out, hDe.2, ← hDe.1]; rfl
              clear hDe hD HO HV hDl
              cases lo with
              | true =>
                obtain ⟨U, hU⟩ : ∃ U, IntKind.u64.wrap (-(D : Int)) = U := ⟨_, rfl⟩
                obtain ⟨R, hR⟩ : ∃ R, IntKind.i64.wrap U = R := ⟨_, rfl⟩
                have HE1 : Hid (vv = R) := by show _ = _; rw [HV2.out, if_pos rfl, hU, hR]
                have HE2 : Hid (ok = decide ((D : Int) ≤ 9223372036854775808)) := by
                  show _ = _
                  rw [HO2.out, if_pos rfl]
                  exact decide_eq_decide.2 (by omega)
                clear HO2 HV2
                go_wp2
                go_ret2
                exact ⟨by rw [HE1.out, HE2.out]; rfl, rfl⟩
              | false =>
                obtain ⟨R, hR⟩ : ∃ R, IntKind.i64.wrap (D : Int) = R := ⟨_, rfl⟩
                have HE1 : Hid (vv = R) := by show _ = _; rw [HV2.out, if_neg (by simp), hR]
                have HE2 : Hid (ok = decide ((D : Int) ≤ 9223372036854775807)) := by
                  show _ = _
                  rw [HO2.out, if_neg (by simp)]
                  exact decide_eq_decide.2 (by omega)
                clear HO2 HV2
                go_wp2
                go_ret2
                exact ⟨by rw [HE1.out, HE2.out]; rfl, rfl⟩
end Go.Proofs.YtkgeabljdkkonaaGreatDoor

namespace Go.Proofs.YtkgeabljdkkonaaGreatDoor
open Go.RowKit

/-! A quoted name: what stands behind its first back quote. -/
def qnm : List UInt8 → Option (List UInt8 × Nat)
  | [] => none
  | [c] => if c.toNat < 33 ∨ 126 < c.toNat then none else if c = 96 then some ([], 1) else none
  | c :: d :: r => if c.toNat < 33 ∨ 126 < c.toNat then none else if c = 96 then (if d = 96 then (qnm r).map fun p => (96 :: p.1, p.2 + 2) else some ([], 1)) else (qnm (d :: r)).map fun p => (c :: p.1, p.2 + 1)
theorem qnm_bad {c : UInt8} (r : List UInt8) (h : c.toNat < 33 ∨ 126 < c.toNat) : qnm (c :: r) = none := by
  cases r <;> rw [qnm, if_pos h]
theorem qnm_plain {c : UInt8} (r : List UInt8) (h : ¬ (c.toNat < 33 ∨ 126 < c.toNat)) (h2 : c ≠ 96) : qnm (c :: r) = (qnm r).map fun p => (c :: p.1, p.2 + 1) := by
  cases r with
  | nil => simp only [qnm, if_neg h, if_neg h2]; rfl
  | cons d r => rw [qnm, if_neg h, if_neg h2]
theorem qnm_two (r : List UInt8) : qnm (96 :: 96 :: r) = (qnm r).map fun p => (96 :: p.1, p.2 + 2) := by
  rw [qnm, if_neg (by decide), if_pos rfl, if_pos rfl]
theorem qnm_end (r : List UInt8) (h : r.head? ≠ some 96) : qnm (96 :: r) = some ([], 1) := by
  cases r with
  | nil => rw [qnm, if_neg (by decide), if_pos rfl]
  | cons d r => rw [qnm, if_neg (by decide), if_pos rfl, if_neg (fun e => h (by rw [e]; rfl))]
def qnmR (l : List UInt8) : ByteArray × Nat := match qnm l with | none => (⟨#[]⟩, 0) | some p => (⟨p.1.toArray⟩, p.2 + 1)
def qcat (p : List UInt8) (n : Nat) (o : Option (List UInt8 × Nat)) : Option (List UInt8 × Nat) := o.map fun q => (p ++ q.1, n + q.2)
theorem qcat_map (p : List UInt8) (n : Nat) (c : UInt8) (k : Nat) (o : Option (List UInt8 × Nat)) : qcat p n (o.map fun q => (c :: q.1, q.2 + k)) = qcat (p ++ [c]) (n + k) o := by
  cases o with
  | none => rfl
  | some q => simp [qcat]; omega
set_option maxHeartbeats 4000000 in
set_option maxRecDepth 100000 in
theorem qname_any (s : ByteArray) (at' : Nat) (w : World) (hs : s.size ≤ 1000000) (ha : at' < s.size) :
    Calls Tryz.prog 44 #[.string s, .int .i64 (at' : Int)] w fun e w' => e = .returned (.tuple #[.string (qnmR (s.data.toList.drop (at' + 1))).1, .int .i64 ((qnmR (s.data.toList.drop (at' + 1))).2 : Nat)]) ∧ Below w.heap.size w w' := by
  obtain ⟨i0, hi, hz0, hz1, hz2⟩ := info_parts Tryz.info5
  obtain ⟨R0, hR0⟩ : ∃ R0, R0 = qnm (s.data.toList.drop (at' + 1)) := ⟨_, rfl⟩
  obtain ⟨r, hr⟩ : ∃ r, r = qnmR (s.data.toList.drop (at' + 1)) := ⟨_, rfl⟩
  rw [← hr]
  unfold qnmR at hr
  rw [← hR0] at hr
  have HN : Hid (R0 = none → r = (⟨#[]⟩, 0)) := fun e => by rw [hr, e]
  have HS : Hid (∀ p n, R0 = some (p, n) → r = (⟨p.toArray⟩, n + 1)) := fun p n e => by rw [hr, e]
  have HST : Hid (R0 = qcat [] 0 (qnm (s.data.toList.drop (at' + 1)))) := by
    show _ = _
    rw [← hR0]
    cases R0 with
    | none => rfl
    | some q => simp [qcat]
  clear hr hR0
  go_enter Tryz.func44, Tryz.ntmps44
  go_wp2_with fail
  go_loopw [6, 7, 8] (fun v i _ wr => ∃ (I : Nat) (p : List UInt8), at' + 1 ≤ I ∧ I ≤ s.size + 1 ∧ p.length ≤ I ∧ i = .int .i64 (I : Int) ∧ Hid (R0 = qcat p (I - (at' + 1)) (qnm (s.data.toList.drop I))) ∧ wr.ownsRow w.heap.size 5 1 v p.length (u8s p) ∧ Below w.heap.size w wr) (fun _ i _ _ => s.size + 1 - (intOf i).toNat)
  case atStart => exact ⟨at' + 1, [], Nat.le_refl _, by omega, by simp, by go_num, by rw [Nat.sub_self]; exact HST, ⟨rfl, .inl ⟨rfl, rfl⟩⟩, Below.refl _ _⟩
  case round =>
    obtain ⟨I, p, hI1, hI2, hpI, rfl, hq, hown, hbl⟩ := hrel
    have hbs := hbl.size
    by_cases hlt : I < s.size
    · have j0 : (0 : Int) ≤ (I : Int) := by omega
      have j1 : (I : Int) < (s.size : Int) := by omega
      have hm1 : p.length + 1 ≤ maxLen := by unfold maxLen; omega
      have hm2 : (p.length + 1) * 1 ≤ 140737488355328 := by omega
      have HQ := hide hq.out
      rw [q_drop s I hlt] at HQ
      obtain ⟨x, hx⟩ : ∃ x : UInt8, x = s[I] := ⟨_, rfl⟩
      have hxx : s[I] = x := hx.symm
      rw [← hx] at HQ
      have HK1 : Hid (at' + 1 ≤ I + 1 ∧ I + 1 ≤ s.size + 1) := by show _ ∧ _; omega
      clear hx hq
      by_cases hbad : x.toNat < 33 ∨ 126 < x.toNat
      · have HE : Hid (r = (⟨#[]⟩, 0)) := HN.out (by rw [HQ.out, qnm_bad _ hbad]; rfl)
        have hcs : ((x.toNat : Int) < 33) ∨ (¬ (x.toNat : Int) < 33 ∧ (126 : Int) < (x.toNat : Int)) := by omega
        have HB := hide hbl
        clear HQ HN HS HST hbad hown hbl
        rcases hcs with h1 | ⟨h1, h2⟩
        all_goals
          go_wp2
          go_ret2
          exact ⟨by rw [HE.out]; rfl, HB.out⟩
      · have h1I : ¬ (x.toNat : Int) < 33 := by omega
        have h2I : ¬ (126 : Int) < (x.toNat : Int) := by omega
        by_cases h96 : x = 96
        · subst h96
          by_cases hnx : (s.data.toList.drop (I + 1)).head? = some 96
          · have hlt2 : I + 1 < s.size := by
              apply Classical.byContradiction
              intro h
              rw [q_drop_end s (I + 1) (by omega)] at hnx
              simp at hnx
            have j2 : ¬ (s.size : Int) ≤ (I : Int) + 1 := by omega
            have j3 : (I : Int) + 1 < (s.size : Int) := by omega
            have j4 : (0 : Int) ≤ (I : Int) + 1 := by omega
            have hdd := q_drop s (I + 1) hlt2
            have hy : s[I + 1] = 96 := by
              rw [hdd] at hnx
              exact Option.some.inj hnx
            have HN2 : Hid (R0 = qcat (p ++ [96]) (I + 2 - (at' + 1)) (qnm (s.data.toList.drop (I + 2)))) := by
              show _ = _
              rw [HQ.out, hdd, hy, qnm_two, qcat_map, show I - (at' + 1) + 2 = I + 2 - (at' + 1) by omega]
            have HK2 : Hid (at' + 1 ≤ I + 2 ∧ I + 2 ≤ s.size + 1) := by show _ ∧ _; omega
            clear HQ hbad hnx hdd
            go_wp2_with (first
              | (at_builtin; refine wpList_append_lies _ rfl _ _ 108 rfl w.heap.size 5 i0 (.int .u8 0) 1 1 Tryz.underlying108 hi hz0 hz1 hz2 rfl (by decide) _ _ _ rfl (hown.alloc _) ⟨wr.heap.size, 0, none⟩ 1 1 [.int .u8 96] rfl rfl (news1 _ (wr.heap.size) 96 (by simp)) (u8s_single _) (by decide) hm1 hm2 (by simp; omega) (wr.heap.size + 1) (by simp) ?_))
            intro g cap w3 hown' hgrow hat hlg
            obtain ⟨hown2, hb1⟩ := pushed (es := [96]) (by omega) hown hown' hgrow
            have HB : Hid (Below w.heap.size w w3) := hbl.trans hb1
            have HO : Hid (w3.ownsRow w.heap.size 5 1 (.slice (some ⟨g, 0, none⟩) (p.length + 1) cap) (p ++ [96]).length (u8s (p ++ [96]))) := hown2
            clear hown' hgrow hown hat hlg hbl hb1 hown2
            go_wp2_with fail
            go_roundw
            case rel => exact ⟨I + 2, p ++ [96], HK2.out.1, HK2.out.2, by rw [List.length_append, List.length_singleton]; omega, by go_num, HN2, HO.out, HB.out⟩
            case measure => simp [intOf]; omega
          · have HE : Hid (r = (⟨p.toArray⟩, I + 1 - at')) := by
              have e := HS.out p (I - (at' + 1) + 1) (by rw [HQ.out, qnm_end _ hnx]; simp [qcat])
              show _ = _
              rw [e, show I - (at' + 1) + 1 + 1 = I + 1 - at' by omega]
            have HE2 : Hid (((I + 1 - at' : Nat) : Int) = (I : Int) + 1 - (at' : Int)) := by show _ = _; omega
            have hcv := conv_back hown
            have HB := hide hbl
            obtain ⟨a2, c2, rfl⟩ := owns_form hown
            by_cases hlt2 : I + 1 < s.size
            · have j2 : ¬ (s.size : Int) ≤ (I : Int) + 1 := by omega
              have j3 : (I : Int) + 1 < (s.size : Int) := by omega
              have j4 : (0 : Int) ≤ (I : Int) + 1 := by omega
              have hy : s[I + 1] ≠ 96 := fun e => hnx (by rw [q_drop s (I + 1) hlt2, e]; rfl)
              have g1 : ((s[I + 1].toNat : Int) == 96) = false := u8_ne (k := 96) (by decide) hy
              have g2 : ((s[I + 1].toNat : Int) != 96) = true := by rw [bne, g1]; rfl
              clear HQ HN HS HST hbad hown hbl hnx hy
              go_wp2
              go_ret2
              exact ⟨by rw [HE.out]; simp only [HE2.out]; rfl, HB.out⟩
            · have j2 : (s.size : Int) ≤ (I : Int) + 1 := by omega
              clear HQ HN HS HST hbad hown hbl hnx
              go_wp2
              go_ret2
              exact ⟨by rw [HE.out]; simp only [HE2.out]; rfl, HB.out⟩
        · have hx1 : ((x.toNat : Int) == 96) = false := u8_ne (k := 96) (by decide) h96
          have HN2 : Hid (R0 = qcat (p ++ [x]) (I + 1 - (at' + 1)) (qnm (s.data.toList.drop (I + 1)))) := by
            show _ = _
            rw [HQ.out, qnm_plain _ hbad h96, qcat_map, show I - (at' + 1) + 1 = I + 1 - (at' + 1) by omega]
          clear HQ hbad h96
          go_wp2_with (first
            | (at_builtin; refine wpList_append_lies _ rfl _ _ 108 rfl w.heap.size 5 i0 (.int .u8 0) 1 1 Tryz.underlying108 hi hz0 hz1 hz2 rfl (by decide) _ _ _ rfl (hown.alloc _) ⟨wr.heap.size, 0, none⟩ 1 1 [.int .u8 (x.toNat : Int)] rfl rfl (news1 _ (wr.heap.size) (x.toNat : Int) (by simp)) (u8s_single _) (by decide) hm1 hm2 (by simp; omega) (wr.heap.size + 1) (by simp) ?_))
          intro g cap w3 hown' hgrow hat hlg
          obtain ⟨hown2, hb1⟩ := pushed (es := [x]) (by omega) hown hown' hgrow
          have HB : Hid (Below w.heap.size w w3) := hbl.trans hb1
          have HO : Hid (w3.ownsRow w.heap.size 5 1 (.slice (some ⟨g, 0, none⟩) (p.length + 1) cap) (p ++ [x]).length (u8s (p ++ [x]))) := hown2
          clear hown' hgrow hown hat hlg hbl hb1 hown2
          go_wp2_with fail
          go_roundw
          case rel => exact ⟨I + 1, p ++ [x], HK1.out.1, HK1.out.2, by rw [List.length_append, List.length_singleton]; omega, by go_num, HN2, HO.out, HB.out⟩
          case measure => simp [intOf]; omega
    · have j1 : ¬ (I : Int) < (s.size : Int) := by omega
      have HE : Hid (r = (⟨#[]⟩, 0)) := HN.out (by rw [hq.out, q_drop_end s I (by omega)]; rfl)
      have HB := hide hbl
      clear hq HN HS HST hown hbl
      go_wp2
      go_ret2
      exact ⟨by rw [HE.out]; rfl, HB.out⟩
end Go.Proofs.YtkgeabljdkkonaaGreatDoor

namespace Go.Proofs.YtkgeabljdkkonaaGreatDoor
open Go.RowKit

/-! A text: what stands behind its first double quote. -/
theorem escX_le (l : List UInt8) : (escX l).2 ≤ l.length + 2 ∧ ((escX l).2 = 0 ∨ (escX l).2 = 4 ∧ 2 ≤ l.length) := by
  match l with
  | [] => exact ⟨by simp [escX], .inl rfl⟩
  | [a] => exact ⟨by simp [escX], .inl rfl⟩
  | a :: b :: r =>
    rw [escX]
    split
    · exact ⟨by simp, .inl rfl⟩
    · exact ⟨by simp, .inr ⟨rfl, by simp⟩⟩
theorem escD_le (l : List UInt8) : (escD l).2 ≤ l.length ∧ (escD l).2 ≤ 4 := by
  match l with
  | [] => exact ⟨by simp [escD], by simp [escD]⟩
  | [a] => exact ⟨by simp [escD], by simp [escD]⟩
  | a :: c :: r =>
    rw [escD]
    split
    · exact ⟨by simp, by simp⟩
    split
    · have h := escX_le r
      simp only [List.length_cons]
      rcases h.2 with e | ⟨e, h2⟩
      · rw [e]; omega
      · rw [e]; omega
    · exact ⟨by simp, by simp⟩
def qtx : List UInt8 → Option (List UInt8 × Nat)
  | [] => none
  | c :: r => if c = 34 then some ([], 1) else if c.toNat < 32 ∨ 126 < c.toNat then none else if c = 92 then (if _h : (escD (c :: r)).2 = 0 then none else (qtx ((c :: r).drop (escD (c :: r)).2)).map fun p => ((escD (c :: r)).1 :: p.1, p.2 + (escD (c :: r)).2)) else (qtx r).map fun p => (c :: p.1, p.2 + 1)
termination_by l => l.length
decreasing_by
  · rw [List.length_drop, List.length_cons]; omega
  · simp
def qtxR (l : List UInt8) : ByteArray × Nat := match qtx l with | none => (⟨#[]⟩, 0) | some p => (⟨p.1.toArray⟩, p.2 + 1)
set_option maxHeartbeats 4000000 in
set_option maxRecDepth 100000 in
theorem qtext_any (s : ByteArray) (at' : Nat) (w : World) (hs : s.size ≤ 1000000) (ha : at' < s.size) :
    Calls Tryz.prog 45 #[.string s, .int .i64 (at' : Int)] w fun e w' => e = .returned (.tuple #[.string (qtxR (s.data.toList.drop (at' + 1))).1, .int .i64 ((qtxR (s.data.toList.drop (at' + 1))).2 : Nat)]) ∧ Below w.heap.size w w' := by
  obtain ⟨i0, hi, hz0, hz1, hz2⟩ := info_parts Tryz.info5
  obtain ⟨R0, hR0⟩ : ∃ R0, R0 = qtx (s.data.toList.drop (at' + 1)) := ⟨_, rfl⟩
  obtain ⟨r, hr⟩ : ∃ r, r = qtxR (s.data.toList.drop (at' + 1)) := ⟨_, rfl⟩
  rw [← hr]
  unfold qtxR at hr
  rw [← hR0] at hr
  have HN : Hid (R0 = none → r = (⟨#[]⟩, 0)) := fun e => by rw [hr, e]
  have HS : Hid (∀ p n, R0 = some (p, n) → r = (⟨p.toArray⟩, n + 1)) := fun p n e => by rw [hr, e]
  have HST : Hid (R0 = qcat [] 0 (qtx (s.data.toList.drop (at' + 1)))) := by
    show _ = _
    rw [← hR0]
    cases R0 with
    | none => rfl
    | some q => simp [qcat]
  clear hr hR0
  go_enter Tryz.func45, Tryz.ntmps45
  go_wp2_with fail
  go_loopw [6, 7, 8, 9] (fun v i _ _ wr => ∃ (I : Nat) (p : List UInt8), at' + 1 ≤ I ∧ I ≤ s.size ∧ p.length ≤ I ∧ i = .int .i64 (I : Int) ∧ Hid (R0 = qcat p (I - (at' + 1)) (qtx (s.data.toList.drop I))) ∧ wr.ownsRow w.heap.size 5 1 v p.length (u8s p) ∧ Below w.heap.size w wr) (fun _ i _ _ _ => s.size - (intOf i).toNat)
  case atStart => exact ⟨at' + 1, [], Nat.le_refl _, by omega, by simp, by go_num, by rw [Nat.sub_self]; exact HST, ⟨rfl, .inl ⟨rfl, rfl⟩⟩, Below.refl _ _⟩
  case round =>
    obtain ⟨I, p, hI1, hI2, hpI, rfl, hq, hown, hbl⟩ := hrel
    have hbs := hbl.size
    by_cases hlt : I < s.size
    · have j0 : (0 : Int) ≤ (I : Int) := by omega
      have j1 : (I : Int) < (s.size : Int) := by omega
      have hm1 : p.length + 1 ≤ maxLen := by unfold maxLen; omega
      have hm2 : (p.length + 1) * 1 ≤ 140737488355328 := by omega
      have hdr := q_drop s I hlt
      have hq2 := hq.out
      rw [hdr, qtx, ← hdr] at hq2
      have HQ := hide hq2
      have HEC := hide (esc_any s I wr (by omega) hlt)
      have hel := escD_le (s.data.toList.drop I)
      rw [List.length_drop, q_len] at hel
      obtain ⟨ed, hed⟩ : ∃ ed, ed = escD (s.data.toList.drop I) := ⟨_, rfl⟩
      rw [← hed] at HQ HEC hel
      obtain ⟨eb, en⟩ := ed
      simp only at HQ HEC hel
      obtain ⟨x, hx⟩ : ∃ x : UInt8, x = s[I] := ⟨_, rfl⟩
      have hxx : s[I] = x := hx.symm
      rw [← hx] at HQ
      clear hx hq hq2 hdr hed
      by_cases h34 : x = 34
      · subst h34
        have HE : Hid (r = (⟨p.toArray⟩, I + 1 - at')) := by
          have e := HS.out p (I - (at' + 1) + 1) (by rw [HQ.out, if_pos rfl]; simp [qcat])
          show _ = _
          rw [e, show I - (at' + 1) + 1 + 1 = I + 1 - at' by omega]
        have HE2 : Hid (((I + 1 - at' : Nat) : Int) = (I : Int) + 1 - (at' : Int)) := by show _ = _; omega
        have hcv := conv_back hown
        have HB := hide hbl
        obtain ⟨a2, c2, rfl⟩ := owns_form hown
        clear HQ HN HS HST hown hbl HEC
        go_wp2
        go_ret2
        exact ⟨by rw [HE.out]; simp only [HE2.out]; rfl, HB.out⟩
      · rw [if_neg h34] at HQ
        have g1 : ((x.toNat : Int) == 34) = false := u8_ne (k := 34) (by decide) h34
        clear h34
        by_cases hbad : x.toNat < 32 ∨ 126 < x.toNat
        · have HE : Hid (r = (⟨#[]⟩, 0)) := HN.out (by rw [HQ.out, if_pos hbad]; rfl)
          have hcs : ((x.toNat : Int) < 32) ∨ (¬ (x.toNat : Int) < 32 ∧ (126 : Int) < (x.toNat : Int)) := by omega
          have HB := hide hbl
          clear HQ HN HS HST hbad hown hbl HEC
          rcases hcs with h1 | ⟨h1, h2⟩
          all_goals
            go_wp2
            go_ret2
            exact ⟨by rw [HE.out]; rfl, HB.out⟩
        · rw [if_neg hbad] at HQ
          have h1I : ¬ (x.toNat : Int) < 32 := by omega
          have h2I : ¬ (126 : Int) < (x.toNat : Int) := by omega
          clear hbad
          by_cases h92 : x = 92
          · rw [if_pos h92] at HQ
            subst h92
            go_wp2_with fail
            refine HEC.out.mono ?_
            rintro e w5 ⟨rfl, rfl⟩
            clear HEC
            by_cases hn0 : en = 0
            · have HE : Hid (r = (⟨#[]⟩, 0)) := HN.out (by rw [HQ.out, dif_pos hn0]; rfl)
              have HB := hide hbl
              subst hn0
              clear HQ HN HS HST hown hbl
              go_wp2
              go_ret2
              exact ⟨by rw [HE.out]; rfl, HB.out⟩
            · have HN2 : Hid (R0 = qcat (p ++ [eb]) (I + en - (at' + 1)) (qtx (s.data.toList.drop (I + en)))) := by
                show _ = _
                rw [HQ.out, dif_neg hn0, List.drop_drop, qcat_map, show I - (at' + 1) + en = I + en - (at' + 1) by omega]
              have hnI : ((en : Int) == 0) = false := by simp [hn0]
              have HK1 : Hid (at' + 1 ≤ I + en ∧ I + en ≤ s.size ∧ p.length + 1 ≤ I + en) := by show _ ∧ _; omega
              clear HQ
              go_wp2_with (first
                | (at_builtin; refine wpList_append_lies _ rfl _ _ 108 rfl w.heap.size 5 i0 (.int .u8 0) 1 1 Tryz.underlying108 hi hz0 hz1 hz2 rfl (by decide) _ _ _ rfl (hown.alloc _) ⟨wr.heap.size, 0, none⟩ 1 1 [.int .u8 (eb.toNat : Int)] rfl rfl (news1 _ (wr.heap.size) (eb.toNat : Int) (by simp)) (u8s_single _) (by decide) hm1 hm2 (by simp; omega) (wr.heap.size + 1) (by simp) ?_))
              intro g cap w3 hown' hgrow hat hlg
              obtain ⟨hown2, hb1⟩ := pushed (es := [eb]) (by omega) hown hown' hgrow
              have HB : Hid (Below w.heap.size w w3) := hbl.trans hb1
              have HO : Hid (w3.ownsRow w.heap.size 5 1 (.slice (some ⟨g, 0, none⟩) (p.length + 1) cap) (p ++ [eb]).length (u8s (p ++ [eb]))) := hown2
              clear hown' hgrow hown hat hlg hbl hb1 hown2
              go_wp2_with fail
              go_roundw
              case rel => exact ⟨I + en, p ++ [eb], HK1.out.1, HK1.out.2.1, by rw [List.length_append, List.length_singleton]; exact HK1.out.2.2, by go_num, HN2, HO.out, HB.out⟩
              case measure => simp [intOf]; omega
          · have hx1 : ((x.toNat : Int) == 92) = false := u8_ne (k := 92) (by decide) h92
            rw [if_neg h92] at HQ
            have HN2 : Hid (R0 = qcat (p ++ [x]) (I + 1 - (at' + 1)) (qtx (s.data.toList.drop (I + 1)))) := by
              show _ = _
              rw [HQ.out, qcat_map, show I - (at' + 1) + 1 = I + 1 - (at' + 1) by omega]
            have HK1 : Hid (at' + 1 ≤ I + 1 ∧ I + 1 ≤ s.size) := by show _ ∧ _; omega
            clear HQ h92 HEC
            go_wp2_with (first
              | (at_builtin; refine wpList_append_lies _ rfl _ _ 108 rfl w.heap.size 5 i0 (.int .u8 0) 1 1 Tryz.underlying108 hi hz0 hz1 hz2 rfl (by decide) _ _ _ rfl (hown.alloc _) ⟨wr.heap.size, 0, none⟩ 1 1 [.int .u8 (x.toNat : Int)] rfl rfl (news1 _ (wr.heap.size) (x.toNat : Int) (by simp)) (u8s_single _) (by decide) hm1 hm2 (by simp; omega) (wr.heap.size + 1) (by simp) ?_))
            intro g cap w3 hown' hgrow hat hlg
            obtain ⟨hown2, hb1⟩ := pushed (es := [x]) (by omega) hown hown' hgrow
            have HB : Hid (Below w.heap.size w w3) := hbl.trans hb1
            have HO : Hid (w3.ownsRow w.heap.size 5 1 (.slice (some ⟨g, 0, none⟩) (p.length + 1) cap) (p ++ [x]).length (u8s (p ++ [x]))) := hown2
            clear hown' hgrow hown hat hlg hbl hb1 hown2
            go_wp2_with fail
            go_roundw
            case rel => exact ⟨I + 1, p ++ [x], HK1.out.1, HK1.out.2, by rw [List.length_append, List.length_singleton]; omega, by go_num, HN2, HO.out, HB.out⟩
            case measure => simp [intOf]; omega
    · have j1 : ¬ (I : Int) < (s.size : Int) := by omega
      have HE : Hid (r = (⟨#[]⟩, 0)) := HN.out (by rw [hq.out, q_drop_end s I (by omega), qtx]; rfl)
      have HB := hide hbl
      clear hq HN HS HST hown hbl
      go_wp2
      go_ret2
      exact ⟨by rw [HE.out]; rfl, HB.out⟩
end Go.Proofs.YtkgeabljdkkonaaGreatDoor

namespace Go.Proofs.YtkgeabljdkkonaaGreatDoor
open Go.RowKit

/-! One token. -/
structure Tk where
  kind : Int
  num : Int
  text : ByteArray
def tkV (t : Tk) : Array Value := #[.int .i64 t.kind, .int .i64 t.num, .string t.text]
def tk0 : Tk := ⟨0, 0, ⟨#[]⟩⟩
def oneD (l : List UInt8) : Tk × Nat :=
  match l with
  | [] => (tk0, 0)
  | c :: r => if letterB c = true then (⟨1, 0, ⟨(l.take (wfrom true l)).toArray⟩⟩, wfrom true l)
    else if c = 96 then (⟨2, 0, (qnmR r).1⟩, (qnmR r).2)
    else if c = 34 then (⟨4, 0, (qtxR r).1⟩, (qtxR r).2)
    else if c = 45 ∨ digitB c = true then (if numOk (l.take (numLen l)) = true then (⟨3, numV (l.take (numLen l)), ⟨#[]⟩⟩, numLen l) else (tk0, 0))
    else (⟨5, 0, ⟨(l.take (sgnLen l)).toArray⟩⟩, sgnLen l)
theorem ex_sub (s : ByteArray) (a n : Nat) : s.extract a (a + n) = ⟨((s.data.toList.drop a).take n).toArray⟩ := by
  apply ByteArray.ext
  rw [ByteArray.data_extract]
  apply Array.toList_inj.1
  simp [List.take_drop]
theorem numLen_le (l : List UInt8) : numLen l ≤ l.length := by
  cases l with
  | nil => exact Nat.le_refl _
  | cons c r =>
    rw [numLen]
    split
    · have := dcount_le r; simp only [List.length_cons]; omega
    · exact dcount_le _
theorem sgnLen_le (l : List UInt8) : sgnLen l ≤ l.length := by
  cases l with
  | nil => exact Nat.le_refl _
  | cons c r =>
    rw [sgnLen]
    split
    · rename_i h
      cases r with
      | nil => simp at h
      | cons _ _ => simp
    split <;> simp
theorem below_row {a w : World} {H : Nat} (h : Below a.heap.size a w) (hH : a.heap.size ≤ H) (cs : Array Value) : Below a.heap.size a (w.setRow H cs) := below_setRow h hH cs
set_option maxHeartbeats 4000000 in
set_option maxRecDepth 100000 in
theorem one_any (s : ByteArray) (at' : Nat) (w : World) (hs : s.size ≤ 1000000) (ha : at' < s.size) :
    Calls Tryz.prog 26 #[.string s, .int .i64 (at' : Int)] w fun e w' => e = .returned (.tuple #[.agg (tkV (oneD (s.data.toList.drop at')).1), .int .i64 ((oneD (s.data.toList.drop at')).2 : Nat)]) ∧ Below w.heap.size w w' := by
  obtain ⟨r, hr⟩ : ∃ r, r = oneD (s.data.toList.drop at') := ⟨_, rfl⟩
  rw [← hr]
  have hd := q_drop s at' ha
  have hlen : (s.data.toList.drop at').length = s.size - at' := by rw [List.length_drop, q_len]
  unfold oneD at hr
  rw [hd] at hr
  simp only at hr
  rw [← hd] at hr
  have HR := hide hr
  have q1 := below_new w (.cells #[.int .i64 0, .int .i64 0, .string ⟨#[]⟩] 70)
  have x1 := RowAt.new w #[.int .i64 0, .int .i64 0, .string ⟨#[]⟩] 70
  obtain ⟨W1, hW1⟩ : ∃ W1, w.alloc (.cells #[.int .i64 0, .int .i64 0, .string ⟨#[]⟩] 70) = W1 := ⟨_, rfl⟩
  rw [hW1] at q1 x1
  have HW := hide hW1
  have HX := hide x1
  have HB := hide q1
  have haI : (at' : Int) < (s.size : Int) := by omega
  have a0 : (0 : Int) ≤ (at' : Int) := by omega
  have HLE := hide (letter_any s[at'] W1)
  have HDG := hide (digit_any s[at'] W1)
  have HWD := hide (word_any s at' W1 (by omega) (by omega))
  have HNM := hide (qname_any s at' W1 hs ha)
  have HTX := hide (qtext_any s at' W1 hs ha)
  have HNB := hide (number_any s at' W1 (by omega) ha)
  have HSG := hide (sign_any s at' W1 (by omega) ha)
  obtain ⟨x, hx⟩ : ∃ x : UInt8, x = s[at'] := ⟨_, rfl⟩
  have hxx : s[at'] = x := hx.symm
  rw [← hx] at HR HLE HDG
  clear hr hd hx q1 x1 hW1
  go_enter Tryz.func26, Tryz.ntmps26
  go_wp2_with fail
  rw [HW.out]
  refine HLE.out.mono ?_
  rintro e w' ⟨rfl, rfl⟩
  clear HLE
  cases hlb : letterB x with
  | true =>
    obtain ⟨n, hn⟩ : ∃ n, n = wfrom true (s.data.toList.drop at') := ⟨_, rfl⟩
    have hnl : at' + n ≤ s.size := by
      have := wfrom_le true (s.data.toList.drop at')
      omega
    rw [← hn] at HWD HR
    have HE : Hid (r = (⟨1, 0, s.extract at' (at' + n)⟩, n)) := by show _ = _; rw [HR.out, hlb, if_pos rfl, ex_sub]
    have k1 : (at' : Int) + (n : Int) ≤ (s.size : Int) := by omega
    have k2 : (at' : Int) ≤ (at' : Int) + (n : Int) := by omega
    have k3 : (0 : Int) ≤ (at' : Int) + (n : Int) := by omega
    have k4 : ((at' : Int) + (n : Int)).toNat = at' + n := by omega
    have HST := hide (store_row W1 w.heap.size 70 _ #[.int .i64 1, .int .i64 0, .string (s.extract at' (at' + n))] HX.out (by kernel_rfl) rfl (by simp [Value.oneCell']))
    clear hlb HR HDG HNM HTX HNB HSG hn
    go_wp2_with fail
    refine HWD.out.mono ?_
    rintro e w' ⟨rfl, rfl⟩
    clear HWD
    go_wp2_with (refine wpList_store_eq rfl 70 _ _ rfl _ _ rfl rfl HST.out ?_)
    refine bodyPost_ret (results_row_tmp rfl _ _ w.heap.size 70 _ (0, 0) _ rfl (row_set _ _ _ _ _ HX.out) Tryz.underlying70 rfl (by kernel_rfl)) rfl ?_
    exact ⟨by rw [HE.out]; rfl, below_row HB.out (Nat.le_refl _) _⟩
  | false =>
    have HR1 := hide HR.out
    rw [hlb, if_neg (by simp)] at HR1
    clear hlb HR HWD
    by_cases h96 : x = 96
    · rw [if_pos h96] at HR1
      subst h96
      clear HDG HTX HNB HSG
      obtain ⟨qt, hqt⟩ : ∃ qt, qt = qnmR (s.data.toList.drop (at' + 1)) := ⟨_, rfl⟩
      rw [← hqt] at HNM HR1
      obtain ⟨tx, tn⟩ := qt
      simp only at HNM HR1
      clear hqt
      go_wp2_with fail
      refine HNM.out.mono ?_
      rintro e w3 ⟨rfl, hb3⟩
      have HX3 := hide (HX.out.below hb3)
      have HB3 := hide (Below.next HB.out hb3)
      have HST := hide (store_row w3 w.heap.size 70 _ #[.int .i64 2, .int .i64 0, .string tx] HX3.out (by kernel_rfl) rfl (by simp [Value.oneCell']))
      clear HNM hb3
      go_wp2_with (refine wpList_store_eq rfl 70 _ _ rfl _ _ rfl rfl HST.out ?_)
      refine bodyPost_ret (results_row_tmp rfl _ _ w.heap.size 70 _ (0, 0) _ rfl (row_set _ _ _ _ _ HX3.out) Tryz.underlying70 rfl (by kernel_rfl)) rfl ?_
      exact ⟨by rw [HR1.out]; rfl, below_row HB3.out (Nat.le_refl _) _⟩
    · rw [if_neg h96] at HR1
      have g96 : ((x.toNat : Int) == 96) = false := u8_ne (k := 96) (by decide) h96
      clear h96 HNM
      by_cases h34 : x = 34
      · rw [if_pos h34] at HR1
        subst h34
        clear HDG HNB HSG
        obtain ⟨qt, hqt⟩ : ∃ qt, qt = qtxR (s.data.toList.drop (at' + 1)) := ⟨_, rfl⟩
        rw [← hqt] at HTX HR1
        obtain ⟨tx, tn⟩ := qt
        simp only at HTX HR1
        clear hqt
        go_wp2_with fail
        refine HTX.out.mono ?_
        rintro e w3 ⟨rfl, hb3⟩
        have HX3 := hide (HX.out.below hb3)
        have HB3 := hide (Below.next HB.out hb3)
        have HST := hide (store_row w3 w.heap.size 70 _ #[.int .i64 4, .int .i64 0, .string tx] HX3.out (by kernel_rfl) rfl (by simp [Value.oneCell']))
        clear HTX hb3
        go_wp2_with (refine wpList_store_eq rfl 70 _ _ rfl _ _ rfl rfl HST.out ?_)
        refine bodyPost_ret (results_row_tmp rfl _ _ w.heap.size 70 _ (0, 0) _ rfl (row_set _ _ _ _ _ HX3.out) Tryz.underlying70 rfl (by kernel_rfl)) rfl ?_
        exact ⟨by rw [HR1.out]; rfl, below_row HB3.out (Nat.le_refl _) _⟩
      · rw [if_neg h34] at HR1
        have g34 : ((x.toNat : Int) == 34) = false := u8_ne (k := 34) (by decide) h34
        clear h34 HTX
        by_cases hnum : x = 45 ∨ digitB x = true
        · rw [if_pos hnum] at HR1
          obtain ⟨n, hn⟩ : ∃ n, n = numLen (s.data.toList.drop at') := ⟨_, rfl⟩
          have hnl : at' + n ≤ s.size := by
            have := numLen_le (s.data.toList.drop at')
            omega
          rw [← hn] at HNB HR1
          have k1 : (at' : Int) + (n : Int) ≤ (s.size : Int) := by omega
          have k2 : (at' : Int) ≤ (at' : Int) + (n : Int) := by omega
          have k3 : (0 : Int) ≤ (at' : Int) + (n : Int) := by omega
          have k4 : ((at' : Int) + (n : Int)).toNat = at' + n := by omega
          have HNU := hide (num_any (s.extract at' (at' + n)) W1 (by rw [ByteArray.size_extract]; omega))
          have hxl : (s.extract at' (at' + n)).data.toList = (s.data.toList.drop at').take n := by rw [ex_sub]
          rw [hxl] at HNU
          have hok := @numR_ok ((s.data.toList.drop at').take n)
          generalize numR ((s.data.toList.drop at').take n) = vv at HNU hok
          generalize numV ((s.data.toList.drop at').take n) = v2 at HR1 hok
          generalize numOk ((s.data.toList.drop at').take n) = ok at HNU HR1 hok
          have HR2 : Hid (r = if ok = true then (⟨3, vv, ⟨#[]⟩⟩, n) else (tk0, 0)) := by
            show _ = _
            cases ok with
            | true => rw [HR1.out, hok rfl]
            | false => rw [HR1.out]; rfl
          clear hok hxl hn HR1 HSG
          by_cases h45 : x = 45
          · subst h45
            clear HDG hnum
            go_wp2_with fail
            refine HNB.out.mono ?_
            rintro e w' ⟨rfl, rfl⟩
            clear HNB
            go_wp2_with fail
            refine HNU.out.mono ?_
            rintro e w' ⟨rfl, rfl⟩
            clear HNU
            cases ok with
            | true =>
              have HST := hide (store_row W1 w.heap.size 70 _ #[.int .i64 3, .int .i64 vv, .string ⟨#[]⟩] HX.out (by kernel_rfl) rfl (by simp [Value.oneCell']))
              have HE := hide (HR2.out)
              rw [if_pos rfl] at HE
              clear HR2
              go_wp2_with (refine wpList_store_eq rfl 70 _ _ rfl _ _ rfl rfl HST.out ?_)
              refine bodyPost_ret (results_row_tmp rfl _ _ w.heap.size 70 _ (0, 0) _ rfl (row_set _ _ _ _ _ HX.out) Tryz.underlying70 rfl (by kernel_rfl)) rfl ?_
              exact ⟨by rw [HE.out]; rfl, below_row HB.out (Nat.le_refl _) _⟩
            | false =>
              have HST := hide (store_row W1 w.heap.size 70 _ #[.int .i64 0, .int .i64 0, .string ⟨#[]⟩] HX.out (by kernel_rfl) rfl (by simp [Value.oneCell']))
              have HE := hide (HR2.out)
              rw [if_neg (by simp)] at HE
              clear HR2
              go_wp2_with (refine wpList_store_eq rfl 70 _ _ rfl _ _ rfl rfl HST.out ?_)
              refine bodyPost_ret (results_row_tmp rfl _ _ w.heap.size 70 _ (0, 0) _ rfl (row_set _ _ _ _ _ HX.out) Tryz.underlying70 rfl (by kernel_rfl)) rfl ?_
              exact ⟨by rw [HE.out]; rfl, below_row HB.out (Nat.le_refl _) _⟩
          · have g45 : ((x.toNat : Int) == 45) = false := u8_ne (k := 45) (by decide) h45
            have hdb : digitB x = true := by
              rcases hnum with e | e
              · exact absurd e h45
              · exact e
            rw [hdb] at HDG
            clear h45 hnum hdb
            go_wp2_with fail
            refine HDG.out.mono ?_
            rintro e w' ⟨rfl, rfl⟩
            clear HDG
            go_wp2_with fail
            refine HNB.out.mono ?_
            rintro e w' ⟨rfl, rfl⟩
            clear HNB
            go_wp2_with fail
            refine HNU.out.mono ?_
            rintro e w' ⟨rfl, rfl⟩
            clear HNU
            cases ok with
            | true =>
              have HST := hide (store_row W1 w.heap.size 70 _ #[.int .i64 3, .int .i64 vv, .string ⟨#[]⟩] HX.out (by kernel_rfl) rfl (by simp [Value.oneCell']))
              have HE := hide (HR2.out)
              rw [if_pos rfl] at HE
              clear HR2
              go_wp2_with (refine wpList_store_eq rfl 70 _ _ rfl _ _ rfl rfl HST.out ?_)
              refine bodyPost_ret (results_row_tmp rfl _ _ w.heap.size 70 _ (0, 0) _ rfl (row_set _ _ _ _ _ HX.out) Tryz.underlying70 rfl (by kernel_rfl)) rfl ?_
              exact ⟨by rw [HE.out]; rfl, below_row HB.out (Nat.le_refl _) _⟩
            | false =>
              have HST := hide (store_row W1 w.heap.size 70 _ #[.int .i64 0, .int .i64 0, .string ⟨#[]⟩] HX.out (by kernel_rfl) rfl (by simp [Value.oneCell']))
              have HE := hide (HR2.out)
              rw [if_neg (by simp)] at HE
              clear HR2
              go_wp2_with (refine wpList_store_eq rfl 70 _ _ rfl _ _ rfl rfl HST.out ?_)
              refine bodyPost_ret (results_row_tmp rfl _ _ w.heap.size 70 _ (0, 0) _ rfl (row_set _ _ _ _ _ HX.out) Tryz.underlying70 rfl (by kernel_rfl)) rfl ?_
              exact ⟨by rw [HE.out]; rfl, below_row HB.out (Nat.le_refl _) _⟩
        · rw [if_neg hnum] at HR1
          have h45 : x ≠ 45 := fun e => hnum (.inl e)
          have g45 : ((x.toNat : Int) == 45) = false := u8_ne (k := 45) (by decide) h45
          have hdb : digitB x = false := by
            cases hz : digitB x with
            | false => rfl
            | true => exact absurd (.inr hz) hnum
          rw [hdb] at HDG
          obtain ⟨n, hn⟩ : ∃ n, n = sgnLen (s.data.toList.drop at') := ⟨_, rfl⟩
          have hnl : at' + n ≤ s.size := by
            have := sgnLen_le (s.data.toList.drop at')
            omega
          rw [← hn] at HSG HR1
          have HE : Hid (r = (⟨5, 0, s.extract at' (at' + n)⟩, n)) := by show _ = _; rw [HR1.out, ex_sub]
          have k1 : (at' : Int) + (n : Int) ≤ (s.size : Int) := by omega
          have k2 : (at' : Int) ≤ (at' : Int) + (n : Int) := by omega
          have k3 : (0 : Int) ≤ (at' : Int) + (n : Int) := by omega
          have k4 : ((at' : Int) + (n : Int)).toNat = at' + n := by omega
          have HST := hide (store_row W1 w.heap.size 70 _ #[.int .i64 5, .int .i64 0, .string (s.extract at' (at' + n))] HX.out (by kernel_rfl) rfl (by simp [Value.oneCell']))
          clear h45 hnum hdb hn HR1 HNB
          go_wp2_with fail
          refine HDG.out.mono ?_
          rintro e w' ⟨rfl, rfl⟩
          clear HDG
          go_wp2_with fail
          refine HSG.out.mono ?_
          rintro e w' ⟨rfl, rfl⟩
          clear HSG
          go_wp2_with (refine wpList_store_eq rfl 70 _ _ rfl _ _ rfl rfl HST.out ?_)
          refine bodyPost_ret (results_row_tmp rfl _ _ w.heap.size 70 _ (0, 0) _ rfl (row_set _ _ _ _ _ HX.out) Tryz.underlying70 rfl (by kernel_rfl)) rfl ?_
          exact ⟨by rw [HE.out]; rfl, below_row HB.out (Nat.le_refl _) _⟩
end Go.Proofs.YtkgeabljdkkonaaGreatDoor

namespace Go.Proofs.YtkgeabljdkkonaaGreatDoor
open Go.RowKit

/-! The program's tokens: names and words. -/
structure Pt where
  kind : Int
  text : ByteArray
  num : Int
abbrev ptV (t : Pt) : Array Value := #[.int .i64 t.kind, .string t.text, .int .i64 t.num]
def pt0 : Pt := ⟨0, ⟨#[]⟩, 0⟩
def ptBad : Pt := ⟨1, ⟨#[]⟩, 0⟩
theorem pt_set0 {w : World} {b : Nat} {x y z : Value} {t : TypeId} (h : RowAt w b #[x, y, z] t) (x' : Value) : RowAt (w.setCell ⟨b, 0, none⟩ x') b #[x', y, z] t := by
  unfold RowAt at h ⊢
  rw [setCell_eq_setRow w b 0 #[x, y, z] t (0, 0) x' h]
  exact setRow_heap w b _ _ t _ h
theorem pt_set1 {w : World} {b : Nat} {x y z : Value} {t : TypeId} (h : RowAt w b #[x, y, z] t) (y' : Value) : RowAt (w.setCell ⟨b, 1, none⟩ y') b #[x, y', z] t := by
  unfold RowAt at h ⊢
  rw [setCell_eq_setRow w b 1 #[x, y, z] t (0, 0) y' h]
  exact setRow_heap w b _ _ t _ h
theorem pt_set2 {w : World} {b : Nat} {x y z : Value} {t : TypeId} (h : RowAt w b #[x, y, z] t) (z' : Value) : RowAt (w.setCell ⟨b, 2, none⟩ z') b #[x, y, z'] t := by
  unfold RowAt at h ⊢
  rw [setCell_eq_setRow w b 2 #[x, y, z] t (0, 0) z' h]
  exact setRow_heap w b _ _ t _ h
/-- A token stored cell by cell. -/
theorem pt_put {w : World} {b : Nat} {x y z : Value} {t : TypeId} (h : RowAt w b #[x, y, z] t) (x' y' z' : Value) : RowAt (((w.setCell ⟨b, 0, none⟩ x').setCell ⟨b, 1, none⟩ y').setCell ⟨b, 2, none⟩ z') b #[x', y', z'] t := pt_set2 (pt_set1 (pt_set0 h x') y') z'
theorem pt_below {base b : Nat} {a w : World} (h : Below base a w) (hb : base ≤ b) (x' y' z' : Value) : Below base a (((w.setCell ⟨b, 0, none⟩ x').setCell ⟨b, 1, none⟩ y').setCell ⟨b, 2, none⟩ z') := ((h.setCell (p := ⟨b, 0, none⟩) hb x').setCell (p := ⟨b, 1, none⟩) hb y').setCell (p := ⟨b, 2, none⟩) hb z'
theorem pt_cells {w : World} {b : Nat} {x y z : Value} {t : TypeId} (h : RowAt w b #[x, y, z] t) : (w.cell? ⟨b, 0, none⟩ = some x ∧ w.cell? ⟨b, 1, none⟩ = some y ∧ w.cell? ⟨b, 2, none⟩ = some z) ∧ w.frozen? ⟨b, 0, none⟩ = false ∧ w.frozen? ⟨b, 1, none⟩ = false ∧ w.frozen? ⟨b, 2, none⟩ = false := ⟨⟨h.cell 0 (by simp), h.cell 1 (by simp), h.cell 2 (by simp)⟩, h.free 0, h.free 1, h.free 2⟩
def namedD (s : ByteArray) : Pt := if isNameD s = true then ⟨3, s, 0⟩ else ptBad
set_option maxHeartbeats 2000000 in
set_option maxRecDepth 100000 in
theorem pnamed_any (s : ByteArray) (w : World) (hs : s.size ≤ 140737488355328) :
    Calls Tryz.prog 76 #[.string s] w fun e w' => e = .returned (.agg (ptV (namedD s))) ∧ Below w.heap.size w w' := by
  have q1 := below_new w (.cells (ptV pt0) 55)
  have x1 := RowAt.new w (ptV pt0) 55
  unfold pt0 ptV at q1 x1
  obtain ⟨W1, hW1⟩ : ∃ W1, w.alloc (.cells #[.int .i64 0, .string ⟨#[]⟩, .int .i64 0] 55) = W1 := ⟨_, rfl⟩
  rw [hW1] at q1 x1
  have HW := hide hW1
  have HX := hide x1
  have HB := hide q1
  have HN := hide (pisname_any s W1 hs)
  have HC := hide (sclone_any s W1 (by omega))
  obtain ⟨t, ht⟩ : ∃ t, t = namedD s := ⟨_, rfl⟩
  rw [← ht]
  have HT := hide ht
  clear ht hW1 q1 x1
  cases hn : isNameD s with
  | true =>
    rw [hn] at HN
    have HE : Hid (t = ⟨3, s, 0⟩) := by show _ = _; rw [HT.out, namedD, if_pos hn]
    clear hn HT
    go_enter Tryz.func76, Tryz.ntmps76
    go_wp2_with fail
    rw [HW.out]
    refine HN.out.mono ?_
    rintro e w' ⟨rfl, rfl⟩
    clear HN
    go_wp2_with fail
    refine HC.out.mono ?_
    rintro e w2 ⟨rfl, hb2⟩
    have HST := hide (store_row w2 w.heap.size 55 _ #[.int .i64 3, .string s, .int .i64 0] (HX.out.below hb2) (by kernel_rfl) rfl (by simp [Value.oneCell']))
    have HX2 := hide (HX.out.below hb2)
    have HB2 := hide (Below.next HB.out hb2)
    clear HC hb2
    go_wp2_with (refine wpList_store_eq rfl 55 _ _ rfl _ _ rfl rfl HST.out ?_)
    refine bodyPost_ret (results_cell_row rfl _ _ w.heap.size 55 _ (0, 0) _ rfl (row_set _ _ _ _ _ HX2.out) Tryz.underlying55 rfl (by kernel_rfl)) rfl ?_
    exact ⟨by rw [HE.out], below_row HB2.out (Nat.le_refl _) _⟩
  | false =>
    rw [hn] at HN
    have HE : Hid (t = ptBad) := by show _ = _; rw [HT.out, namedD, hn, if_neg (by simp)]
    have HST := hide (store_row W1 w.heap.size 55 _ #[.int .i64 1, .string ⟨#[]⟩, .int .i64 0] HX.out (by kernel_rfl) rfl (by simp [Value.oneCell']))
    clear hn HT HC
    go_enter Tryz.func76, Tryz.ntmps76
    go_wp2_with fail
    rw [HW.out]
    refine HN.out.mono ?_
    rintro e w' ⟨rfl, rfl⟩
    clear HN
    go_wp2_with (refine wpList_store_eq rfl 55 _ _ rfl _ _ rfl rfl HST.out ?_)
    refine bodyPost_ret (results_cell_row rfl _ _ w.heap.size 55 _ (0, 0) _ rfl (row_set _ _ _ _ _ HX.out) Tryz.underlying55 rfl (by kernel_rfl)) rfl ?_
    exact ⟨by rw [HE.out]; rfl, below_row HB.out (Nat.le_refl _) _⟩
end Go.Proofs.YtkgeabljdkkonaaGreatDoor
