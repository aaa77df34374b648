import Derived.Test.YtddhjnfcbpookaaDoorQRef2
import Derived.Test.YtddhjnfcbpookaaDoorRPack
import Derived.Deep.RegionLaw
namespace Go.Proofs.YtddhjnfcbpookaaDoor
open Go.RowKit

/-! Letters, digits, words, reserved words: the document's own. -/
theorem q_drop (s : ByteArray) (k : Nat) (h : k < s.size) : s.data.toList.drop k = s[k] :: s.data.toList.drop (k + 1) := by
  have h1 : k < s.data.toList.length := by rw [q_len]; exact h
  exact List.drop_eq_getElem_cons h1
theorem q_drop_end (s : ByteArray) (k : Nat) (h : s.size ≤ k) : s.data.toList.drop k = [] := List.drop_eq_nil_of_le (by rw [q_len]; exact h)
theorem u8_ne {c : UInt8} {k : Nat} (hk : k < 256) (h : ¬ c = UInt8.ofNat k) : ((c.toNat : Int) == (k : Int)) = false := by
  rw [beq_eq_false_iff_ne]
  intro e
  refine h (UInt8.toNat_inj.1 ?_)
  rw [UInt8.toNat_ofNat', Nat.mod_eq_of_lt hk]
  omega
def letterB (c : UInt8) : Bool := decide ((97 ≤ c.toNat ∧ c.toNat ≤ 122) ∨ (65 ≤ c.toNat ∧ c.toNat ≤ 90) ∨ c.toNat = 95)
def digitB (c : UInt8) : Bool := decide (48 ≤ c.toNat ∧ c.toNat ≤ 57)
set_option maxHeartbeats 2000000 in
theorem digit_any (c : UInt8) (w : World) : Calls Tryd.prog 87 #[.int .u8 (c.toNat : Int)] w fun e w' => e = .returned (.bool (digitB c)) ∧ w = w' := by
  obtain ⟨r, hr⟩ : ∃ r, r = digitB c := ⟨_, rfl⟩
  rw [← hr]
  unfold digitB at hr
  have HR := hide hr
  clear hr
  by_cases h1 : 48 ≤ c.toNat
  · have h1I : (48 : Int) ≤ (c.toNat : Int) := by omega
    by_cases h2 : c.toNat ≤ 57
    · have h2I : (c.toNat : Int) ≤ 57 := by omega
      go_enter Tryd.func87, Tryd.ntmps87
      go_wp2
      go_ret
      exact ⟨by rw [HR.out]; simp [h1, h2], rfl⟩
    · have h2I : ¬ (c.toNat : Int) ≤ 57 := by omega
      go_enter Tryd.func87, Tryd.ntmps87
      go_wp2
      go_ret
      exact ⟨by rw [HR.out]; simp [h2], rfl⟩
  · have h1I : ¬ (48 : Int) ≤ (c.toNat : Int) := by omega
    go_enter Tryd.func87, Tryd.ntmps87
    go_wp2
    go_ret
    exact ⟨by rw [HR.out]; simp [h1], rfl⟩
set_option maxHeartbeats 2000000 in
theorem letter_any (c : UInt8) (w : World) : Calls Tryd.prog 86 #[.int .u8 (c.toNat : Int)] w fun e w' => e = .returned (.bool (letterB c)) ∧ w = w' := by
  obtain ⟨r, hr⟩ : ∃ r, r = letterB c := ⟨_, rfl⟩
  rw [← hr]
  unfold letterB at hr
  have HR := hide hr
  clear hr
  obtain ⟨n, hn⟩ : ∃ n, n = c.toNat := ⟨_, rfl⟩
  rw [← hn] at HR ⊢
  clear hn
  by_cases h1 : 97 ≤ n
  · have h1I : (97 : Int) ≤ (n : Int) := by omega
    by_cases h2 : n ≤ 122
    · have h2I : (n : Int) ≤ 122 := by omega
      have HE : Hid (r = true) := by show _ = _; rw [HR.out]; simp [h1, h2]
      clear HR
      go_enter Tryd.func86, Tryd.ntmps86
      go_wp2
      go_ret
      exact ⟨by rw [HE.out]; rfl, rfl⟩
    · have h2I : ¬ (n : Int) ≤ 122 := by omega
      have h3I : (65 : Int) ≤ (n : Int) := by omega
      have h4I : ¬ (n : Int) ≤ 90 := by omega
      have h5I : ((n : Int) == 95) = false := by rw [beq_eq_false_iff_ne]; omega
      have HE : Hid (r = false) := by show _ = _; rw [HR.out, decide_eq_false_iff_not]; omega
      clear HR
      go_enter Tryd.func86, Tryd.ntmps86
      go_wp2
      go_ret
      exact ⟨by rw [HE.out]; rfl, rfl⟩
  · have h1I : ¬ (97 : Int) ≤ (n : Int) := by omega
    by_cases h3 : 65 ≤ n
    · have h3I : (65 : Int) ≤ (n : Int) := by omega
      by_cases h4 : n ≤ 90
      · have h4I : (n : Int) ≤ 90 := by omega
        have HE : Hid (r = true) := by show _ = _; rw [HR.out]; simp [h3, h4]
        clear HR
        go_enter Tryd.func86, Tryd.ntmps86
        go_wp2
        go_ret
        exact ⟨by rw [HE.out]; rfl, rfl⟩
      · have h4I : ¬ (n : Int) ≤ 90 := by omega
        by_cases h5 : n = 95
        · have h5I : ((n : Int) == 95) = true := by rw [h5]; rfl
          have HE : Hid (r = true) := by show _ = _; rw [HR.out]; simp [h5]
          clear HR
          go_enter Tryd.func86, Tryd.ntmps86
          go_wp2
          go_ret
          exact ⟨by rw [HE.out]; rfl, rfl⟩
        · have h5I : ((n : Int) == 95) = false := by rw [beq_eq_false_iff_ne]; omega
          have HE : Hid (r = false) := by show _ = _; rw [HR.out, decide_eq_false_iff_not]; omega
          clear HR
          go_enter Tryd.func86, Tryd.ntmps86
          go_wp2
          go_ret
          exact ⟨by rw [HE.out]; rfl, rfl⟩
    · have h3I : ¬ (65 : Int) ≤ (n : Int) := by omega
      have h5I : ((n : Int) == 95) = false := by rw [beq_eq_false_iff_ne]; omega
      have HE : Hid (r = false) := by show _ = _; rw [HR.out, decide_eq_false_iff_not]; omega
      clear HR
      go_enter Tryd.func86, Tryd.ntmps86
      go_wp2
      go_ret
      exact ⟨by rw [HE.out]; rfl, rfl⟩
/-- How many bytes are a word's; b: the next one must be a letter. -/
def wfrom : Bool → List UInt8 → Nat
  | _, [] => 0
  | b, c :: r => if (letterB c || (!b && digitB c)) = true then wfrom false r + 1 else 0
theorem wfrom_le : ∀ (b : Bool) (l : List UInt8), wfrom b l ≤ l.length
  | _, [] => Nat.le_refl _
  | b, c :: r => by
    rw [wfrom]
    split
    · have := wfrom_le false r; simp only [List.length_cons]; omega
    · simp
set_option maxHeartbeats 4000000 in
set_option maxRecDepth 100000 in
theorem word_any (s : ByteArray) (at' : Nat) (w : World) (hs : s.size ≤ 70368744177664) (ha : at' ≤ s.size) :
    Calls Tryd.prog 71 #[.string s, .int .i64 (at' : Int)] w fun e w' => e = .returned (.int .i64 (wfrom true (s.data.toList.drop at') : Nat)) ∧ w = w' := by
  obtain ⟨r, hr⟩ : ∃ r, r = wfrom true (s.data.toList.drop at') := ⟨_, rfl⟩
  rw [← hr]
  have HR := hide hr
  clear hr
  go_enter Tryd.func71, Tryd.ntmps71
  go_wp2
  go_loopw [5] (fun v wr => ∃ k : Nat, v = .int .i64 (k : Int) ∧ at' + k ≤ s.size ∧ Hid (r = k + wfrom (decide (k = 0)) (s.data.toList.drop (at' + k))) ∧ wr = w) (fun v _ => s.size - at' - (intOf v).toNat)
  case atStart => exact ⟨0, rfl, by omega, by show _ = _; rw [HR.out]; simp, rfl⟩
  case round =>
    obtain ⟨k, rfl, hk, hall, rfl⟩ := hrel
    by_cases hlt : at' + k < s.size
    · have hltI : (at' : Int) + (k : Int) < (s.size : Int) := by omega
      have e0 : (0 : Int) ≤ (at' : Int) + (k : Int) := by omega
      have hd := q_drop s (at' + k) hlt
      have hall2 : r = k + wfrom (decide (k = 0)) (s[at' + k] :: s.data.toList.drop (at' + k + 1)) := by rw [← hd]; exact hall.out
      rw [wfrom] at hall2
      have HA := hide hall2
      have HL := hide (letter_any s[at' + k] wr)
      have HDG := hide (digit_any s[at' + k] wr)
      clear hall2 hd hall
      go_wp2_with fail
      refine HL.out.mono ?_
      rintro e w' ⟨rfl, rfl⟩
      cases hlb : letterB s[at' + k] with
      | true =>
        have HA2 : Hid (r = k + 1 + wfrom (decide (k + 1 = 0)) (s.data.toList.drop (at' + (k + 1)))) := by
          show _ = _
          rw [HA.out, hlb, Bool.true_or, if_pos rfl, show decide (k + 1 = 0) = false by simp, show at' + (k + 1) = at' + k + 1 by omega]; omega
        clear hlb HA HL HDG
        go_wp2
        go_roundw
        case rel => exact ⟨k + 1, by go_num, by omega, HA2, by first | trivial | rfl⟩
        case measure => simp [intOf]; omega
      | false =>
        by_cases hk0 : k = 0
        · subst hk0
          have HE : Hid (r = 0) := by
            show _ = _
            rw [HA.out, hlb]; simp
          clear hlb HA HL HDG
          go_wp2
          go_ret
          exact ⟨by rw [HE.out]; rfl, rfl⟩
        · have hkI : (0 : Int) < (k : Int) := by omega
          have hkd : decide (k = 0) = false := decide_eq_false hk0
          rw [hlb, hkd, Bool.false_or, Bool.not_false, Bool.true_and] at HA
          clear hlb HL
          go_wp2_with fail
          refine HDG.out.mono ?_
          rintro e w' ⟨rfl, rfl⟩
          cases hdb : digitB s[at' + k] with
          | true =>
            have HA2 : Hid (r = k + 1 + wfrom (decide (k + 1 = 0)) (s.data.toList.drop (at' + (k + 1)))) := by
              show _ = _
              rw [HA.out, hdb, if_pos rfl, show decide (k + 1 = 0) = false by simp, show at' + (k + 1) = at' + k + 1 by omega]; omega
            clear hdb HA HDG hkd
            go_wp2
            go_roundw
            case rel => exact ⟨k + 1, by go_num, by omega, HA2, by first | trivial | rfl⟩
            case measure => simp [intOf]; omega
          | false =>
            have HE : Hid (r = k) := by
              show _ = _
              rw [HA.out, hdb]; simp
            clear hdb HA HDG hkd
            go_wp2
            go_ret
            exact ⟨by rw [HE.out]; rfl, rfl⟩
    · have hltI : ¬ (at' : Int) + (k : Int) < (s.size : Int) := by omega
      have HE : Hid (r = k) := by
        show _ = _
        rw [hall.out, q_drop_end s (at' + k) (by omega)]; cases decide (k = 0) <;> rfl
      clear hall
      go_wp2
      go_ret
      exact ⟨by rw [HE.out]; rfl, rfl⟩
/-- The reserved words. -/
def resL : List ByteArray := [⟨#[102, 114, 111, 109]⟩, ⟨#[119, 104, 101, 114, 101]⟩, ⟨#[97, 110, 100]⟩, ⟨#[111, 114, 100, 101, 114]⟩, ⟨#[98, 121]⟩, ⟨#[102, 97, 108, 108, 105, 110, 103]⟩, ⟨#[108, 105, 109, 105, 116]⟩, ⟨#[110, 117, 108, 108]⟩, ⟨#[116, 114, 117, 101]⟩, ⟨#[102, 97, 108, 115, 101]⟩]
def resB (s : ByteArray) : Bool := resL.any fun x => decide (x = s)
set_option maxHeartbeats 4000000 in
set_option maxRecDepth 100000 in
theorem res_any (s : ByteArray) (w : World) : Calls Tryd.prog 72 #[.string s] w fun e w' => e = .returned (.bool (resB s)) ∧ Below w.heap.size w w' := by
  obtain ⟨r, hr⟩ : ∃ r, r = resB s := ⟨_, rfl⟩
  rw [← hr]
  have HR := hide hr
  have q1 := below_new w (.cells (resL.map Value.string).toArray 9)
  have x1 := RowAt.new w (resL.map Value.string).toArray 9
  have hlen : resL.length = 10 := rfl
  obtain ⟨W1, hW1⟩ : ∃ W1, w.alloc (.cells (resL.map Value.string).toArray 9) = W1 := ⟨_, rfl⟩
  rw [hW1] at q1 x1
  have HB := hide q1
  have HX : Hid (∀ k (h : k < resL.length), W1.cell? ⟨w.heap.size, k, none⟩ = some (.string resL[k])) := fun k h => by
    have := x1.cell k (by simpa using h)
    rw [this]; simp
  have HW : Hid (w.alloc (.cells #[.string ⟨#[102, 114, 111, 109]⟩, .string ⟨#[119, 104, 101, 114, 101]⟩, .string ⟨#[97, 110, 100]⟩, .string ⟨#[111, 114, 100, 101, 114]⟩, .string ⟨#[98, 121]⟩, .string ⟨#[102, 97, 108, 108, 105, 110, 103]⟩, .string ⟨#[108, 105, 109, 105, 116]⟩, .string ⟨#[110, 117, 108, 108]⟩, .string ⟨#[116, 114, 117, 101]⟩, .string ⟨#[102, 97, 108, 115, 101]⟩] 9) = W1) := hW1
  clear hr q1 x1 hW1 hlen
  go_enter Tryd.func72, Tryd.ntmps72
  go_wp2_with fail
  rw [HW.out]
  go_loopw [4] (fun v wr => ∃ k : Nat, v = .int .i64 (k : Int) ∧ k ≤ 10 ∧ Hid (∀ j (h : j < resL.length), j < k → resL[j] ≠ s) ∧ wr = W1) (fun v _ => 10 - (intOf v).toNat)
  case atStart => exact ⟨0, rfl, by omega, fun j _ h => by omega, rfl⟩
  case round =>
    obtain ⟨k, rfl, hk, hall, rfl⟩ := hrel
    by_cases hlt : k < 10
    · have hltI : (k : Int) < 10 := by omega
      have e0 : (0 : Int) ≤ (k : Int) := by omega
      have hkl : k < resL.length := hlt
      have s0 := HX.out k hkl
      have HT : Hid (resL[k]'hkl = s → r = true) := fun h => by
        rw [HR.out, resB, List.any_eq_true]
        exact ⟨_, List.getElem_mem hkl, decide_eq_true h⟩
      have HN : Hid (resL[k]'hkl ≠ s → ∀ j (h : j < resL.length), j < k + 1 → resL[j] ≠ s) := fun h0 j h hj => by
        by_cases e : j = k
        · subst e; exact h0
        · exact hall.out j h (by omega)
      generalize resL[k]'hkl = x at s0 HT HN
      clear hkl hall
      by_cases h1 : x = s
      · have hq : (x.toList == s.toList) = true := by rw [h1]; exact str_eq _
        have HE := hide (HT.out h1)
        clear HT HN h1
        go_wp2
        go_ret
        exact ⟨by rw [HE.out]; rfl, HB.out⟩
      · have hq := str_ne h1
        have HA := hide (HN.out h1)
        clear HT HN h1
        go_wp2
        go_roundw
        case rel => exact ⟨k + 1, by go_num, by omega, HA.out, by first | trivial | rfl⟩
        case measure => simp [intOf]; omega
    · have hltI : ¬ (k : Int) < 10 := by omega
      have HE : Hid (r = false) := by
        show _ = _
        rw [HR.out, resB, List.any_eq_false]
        intro x hm
        obtain ⟨j, hj, rfl⟩ := List.getElem_of_mem hm
        have h10 : resL.length = 10 := rfl
        simpa using hall.out j hj (by omega)
      clear hall HX
      go_wp2
      go_ret
      exact ⟨by rw [HE.out]; rfl, HB.out⟩
end Go.Proofs.YtddhjnfcbpookaaDoor

namespace Go.Proofs.YtddhjnfcbpookaaDoor
open Go.RowKit

/-! How the document writes a name. -/
def plainB (s : ByteArray) : Bool := decide (s ≠ ⟨#[]⟩) && decide (wfrom true s.data.toList = s.size) && !resB s
set_option maxHeartbeats 4000000 in
set_option maxRecDepth 100000 in
theorem plain_any (s : ByteArray) (w : World) (hs : s.size ≤ 70368744177664) : Calls Tryd.prog 50 #[.string s] w fun e w' => e = .returned (.bool (plainB s)) ∧ Below w.heap.size w w' := by
  obtain ⟨r, hr⟩ : ∃ r, r = plainB s := ⟨_, rfl⟩
  rw [← hr]
  have HR := hide hr
  have HWD := hide (word_any s 0 w hs (Nat.zero_le _))
  rw [List.drop_zero, show ((0 : Nat) : Int) = 0 from rfl] at HWD
  have HRS := hide (res_any s w)
  clear hr
  by_cases h0 : s = ⟨#[]⟩
  · subst h0
    have HE : Hid (r = false) := by show _ = _; rw [HR.out]; rfl
    clear HR HWD HRS
    go_enter Tryd.func50, Tryd.ntmps50
    go_wp2
    go_ret
    exact ⟨by rw [HE.out]; rfl, Below.refl _ _⟩
  · have hq : (s.toList == (⟨#[]⟩ : ByteArray).toList) = false := str_ne h0
    have hq2 : s.toList.isEmpty = false := by
      cases hz : s.toList with
      | nil => rw [hz] at hq; simp at hq
      | cons _ _ => rfl
    have hq3 : (s.toList != (⟨#[]⟩ : ByteArray).toList) = true := by simp only [bne, hq]; rfl
    obtain ⟨n, hn⟩ : ∃ n, n = wfrom true s.data.toList := ⟨_, rfl⟩
    rw [← hn] at HWD
    have HRR : Hid (r = (decide (n = s.size) && !resB s)) := by show _ = _; rw [HR.out, plainB, hn]; simp [h0]
    clear h0 hn HR
    go_enter Tryd.func50, Tryd.ntmps50
    go_wp2_with fail
    refine HWD.out.mono ?_
    rintro e w' ⟨rfl, rfl⟩
    by_cases hns : n = s.size
    · have h1 : ((n : Int) == (s.size : Int)) = true := by simp [hns]
      have HE : Hid (r = !resB s) := by show _ = _; rw [HRR.out]; simp [hns]
      clear hns HRR
      go_wp2_with fail
      refine HRS.out.mono ?_
      rintro e w1 ⟨rfl, hb⟩
      have HB := hide hb
      clear hb HRS
      go_wp2
      go_ret
      exact ⟨by rw [HE.out]; rfl, HB.out⟩
    · have h1 : ((n : Int) == (s.size : Int)) = false := by rw [beq_eq_false_iff_ne]; omega
      have HE : Hid (r = false) := by show _ = _; rw [HRR.out]; simp [hns]
      clear hns HRR HRS
      go_wp2
      go_ret
      exact ⟨by rw [HE.out]; rfl, Below.refl _ _⟩
def qescL (l : List UInt8) : List UInt8 := l.flatMap fun c => if c = 96 then [96, 96] else [c]
def nameL (s : ByteArray) : List UInt8 := if plainB s = true then s.data.toList else 96 :: (qescL s.data.toList ++ [96])
theorem qescL_take (t : List UInt8) (k : Nat) (h : k < t.length) : qescL (t.take (k + 1)) = qescL (t.take k) ++ (if t[k] = 96 then [96, 96] else [t[k]]) := by
  unfold qescL
  rw [List.take_succ_eq_append_getElem h, List.flatMap_append]
  congr 1
  simp
theorem qescL_len (l : List UInt8) : (qescL l).length ≤ 2 * l.length := by
  induction l with
  | nil => simp [qescL]
  | cons c l ih =>
    have : qescL (c :: l) = (if c = 96 then [96, 96] else [c]) ++ qescL l := rfl
    rw [this, List.length_append]
    have h : (if c = 96 then [96, 96] else [c] : List UInt8).length ≤ 2 := by split <;> simp
    simp only [List.length_cons]; omega
set_option maxHeartbeats 4000000 in
set_option maxRecDepth 100000 in
theorem nameText_any (s : ByteArray) (w : World) (hs : s.size ≤ 1000000) : Calls Tryd.prog 32 #[.string s] w fun e w' => e = .returned (.string ⟨(nameL s).toArray⟩) ∧ Below w.heap.size w w' := by
  obtain ⟨i0, hi, hz0, hz1, hz2⟩ := info_parts Tryd.info5
  obtain ⟨r, hr⟩ : ∃ r : ByteArray, r = ⟨(nameL s).toArray⟩ := ⟨_, rfl⟩
  rw [← hr]
  have HR := hide hr
  have HPL := hide (plain_any s w (by omega))
  clear hr
  go_enter Tryd.func32, Tryd.ntmps32
  go_wp2_with fail
  refine HPL.out.mono ?_
  rintro e w1 ⟨rfl, hb1⟩
  have HB1 := hide hb1
  clear hb1 HPL
  cases hp : plainB s with
  | true =>
    have HE : Hid (r = s) := by show _ = _; rw [HR.out, nameL, if_pos hp]
    clear hp HR
    go_wp2
    go_ret
    exact ⟨by rw [HE.out]; rfl, HB1.out⟩
  | false =>
    have HE : Hid (r = ⟨(96 :: (qescL s.data.toList ++ [96])).toArray⟩) := by show _ = _; rw [HR.out, nameL, if_neg (by simp [hp])]
    clear hp HR
    have x1 := RowAt.new w1 #[.int .u8 96] 5
    have q1 := below_new w1 (.cells #[.int .u8 96] 5)
    have hown0 : (w1.alloc (.cells #[.int .u8 96] 5)).ownsRow w1.heap.size 5 1 (.slice (some ⟨w1.heap.size, 0, none⟩) 1 1) 1 (u8s [96]) := ⟨by simp [u8s], .inr ⟨w1.heap.size, 1, #[.int .u8 96], rfl, Nat.le_refl _, x1, Nat.le_refl _, by unfold maxLen; omega, rfl, rfl⟩⟩
    obtain ⟨W1, hW1⟩ : ∃ W1, w1.alloc (.cells #[.int .u8 96] 5) = W1 := ⟨_, rfl⟩
    rw [hW1] at hown0 q1
    have HW := hide hW1
    have HO0 := hide hown0
    have HQ1 := hide q1
    clear hown0 q1 x1 hW1
    go_wp2_with fail
    rw [HW.out]
    go_loopw [4, 5] (fun v i wr => ∃ (k : Nat) (p : List UInt8), k ≤ s.size ∧ i = .int .i64 k ∧ p = 96 :: qescL (s.data.toList.take k) ∧ wr.ownsRow w1.heap.size 5 1 v p.length (u8s p) ∧ Below w1.heap.size w1 wr) (fun _ i _ => s.size - (intOf i).toNat)
    case atStart => exact ⟨0, [96], Nat.zero_le _, rfl, rfl, HO0.out, HQ1.out⟩
    case round =>
      obtain ⟨k, p, hk, rfl, hpe, hown, hbl⟩ := hrel
      have hbs := hbl.size
      have hpb : p.length ≤ 2000010 := by
        have h1 := qescL_len (s.data.toList.take k)
        rw [List.length_take, q_len] at h1
        rw [hpe, List.length_cons]; omega
      have HP := hide hpe
      clear hpe
      have hm1 : p.length + 1 ≤ maxLen := by unfold maxLen; omega
      have hm2 : (p.length + 1) * 1 ≤ 140737488355328 := by omega
      by_cases hlt : k < s.size
      · have hkl : k < s.data.toList.length := by simpa using hlt
        have HS : Hid (qescL (s.data.toList.take (k + 1)) = qescL (s.data.toList.take k) ++ (if s[k] = 96 then [96, 96] else [s[k]])) := qescL_take s.data.toList k hkl
        have j0 : (0 : Int) ≤ (k : Int) := Int.natCast_nonneg _
        have j1 : (k : Int) < (s.size : Int) := by omega
        obtain ⟨x, hx⟩ : ∃ x : UInt8, x = s[k] := ⟨_, rfl⟩
        have hxx : s[k] = x := hx.symm
        rw [← hx] at HS
        clear hx
        go_wp2_with (first
          | (at_builtin; refine wpList_append_lies _ rfl _ _ 79 rfl w1.heap.size 5 i0 (.int .u8 0) 1 1 Tryd.underlying79 hi hz0 hz1 hz2 rfl (by decide) _ _ _ rfl (hown.alloc _) ⟨wr.heap.size, 0, none⟩ 1 1 [.int .u8 (x.toNat : Int)] rfl rfl (news1 _ (wr.heap.size) (x.toNat : Int) (by simp)) (u8s_single _) (by decide) hm1 hm2 (by simp; omega) (wr.heap.size + 1) (by simp) ?_))
        intro g cap w3 hown' hgrow hat hlg
        obtain ⟨hown2, hb1⟩ := pushed (es := [x]) (by omega) hown hown' hgrow
        have hb2 : Below w1.heap.size w1 w3 := hbl.trans hb1
        have hbs2 := hb2.size
        clear hown' hgrow hown hat hlg hbl hb1
        by_cases hx0 : x = 96
        · subst hx0
          have HQ : Hid ((p ++ [96]) ++ [96] = 96 :: qescL (s.data.toList.take (k + 1))) := by
            show _ = _
            rw [HS.out, if_pos rfl, List.append_assoc, HP.out]; rfl
          have hown : w3.ownsRow w1.heap.size 5 1 (.slice (some ⟨g, 0, none⟩) (p.length + 1) cap) (p ++ [96]).length (u8s (p ++ [96])) := hown2
          have hl2 : (p ++ [(96 : UInt8)]).length = p.length + 1 := by simp
          have hn1 : (p ++ [(96 : UInt8)]).length + 1 ≤ maxLen := by rw [hl2]; unfold maxLen; omega
          have hn2 : ((p ++ [(96 : UInt8)]).length + 1) * 1 ≤ 140737488355328 := by rw [hl2]; omega
          have HL2 : Hid ((p ++ [(96 : UInt8)]).length = p.length + 1) := hl2
          clear hown2 HP HS hl2
          go_wp2_with (first
            | (at_builtin; refine wpList_append_lies _ rfl _ _ 79 rfl w1.heap.size 5 i0 (.int .u8 0) 1 1 Tryd.underlying79 hi hz0 hz1 hz2 rfl (by decide) _ _ _ rfl (hown.alloc _) ⟨w3.heap.size, 0, none⟩ 1 1 [.int .u8 96] rfl rfl (news1 _ (w3.heap.size) 96 (by simp)) (u8s_single _) (by decide) hn1 hn2 (by simp; omega) (w3.heap.size + 1) (by simp) ?_))
          intro g2 cap2 w4 hown' hgrow hat hlg
          obtain ⟨hown2, hb1⟩ := pushed (es := [96]) (by omega) hown (by first | exact hown' | (rw [HL2.out]; exact hown')) hgrow
          have HB : Hid (Below w1.heap.size w1 w4) := hb2.trans hb1
          have HO := hown2
          clear hown' hgrow hown hat hlg hb2 hb1
          go_wp2_with fail
          go_roundw
          case rel => exact ⟨k + 1, (p ++ [96]) ++ [96], by omega, by go_num, HQ.out, HO, HB.out⟩
          case measure => simp [intOf]; omega
        · have HQ : Hid (p ++ [x] = 96 :: qescL (s.data.toList.take (k + 1))) := by
            show _ = _
            rw [HS.out, if_neg hx0, HP.out]; rfl
          have hx1 : ((x.toNat : Int) == 96) = false := u8_ne (k := 96) (by decide) hx0
          have HO : Hid (w3.ownsRow w1.heap.size 5 1 (.slice (some ⟨g, 0, none⟩) (p.length + 1) cap) (p ++ [x]).length (u8s (p ++ [x]))) := hown2
          clear hown2 HP HS
          go_wp2_with fail
          go_roundw
          case rel => exact ⟨k + 1, p ++ [x], by omega, by go_num, HQ.out, HO.out, hb2⟩
          case measure => simp [intOf]; omega
      · have hke : k = s.size := by omega
        have j1 : ¬ (k : Int) < (s.size : Int) := by omega
        have HQ : Hid (r = (⟨p.toArray⟩ : ByteArray) ++ ⟨#[96]⟩) := by
          show _ = _
          rw [HE.out, HP.out, List.take_of_length_le (by simp; omega)]
          apply ByteArray.ext
          rw [ByteArray.data_append]
          simp
        have hcv := conv_back hown
        have HBE := hide (Below.next HB1.out hbl)
        obtain ⟨a2, c2, rfl⟩ := owns_form hown
        clear HP hown hbl HE
        go_wp2_with fail
        go_ret
        exact ⟨by rw [HQ.out]; rfl, HBE.out⟩
end Go.Proofs.YtddhjnfcbpookaaDoor

namespace Go.Proofs.YtddhjnfcbpookaaDoor
open Go.RowKit
attribute [local go_sem ↓] Go.wp_at_zero Go.wp_at_succ

/-! How the document writes a text. -/
def hexC (n : Nat) : UInt8 := if n < 10 then UInt8.ofNat (48 + n) else UInt8.ofNat (87 + n)
def quoB (b : UInt8) : List UInt8 := if b.toNat < 32 ∨ 126 < b.toNat then [92, 120, hexC (b.toNat / 16), hexC (b.toNat % 16)] else if b = 34 ∨ b = 92 then [92, b] else [b]
def quoL (l : List UInt8) : List UInt8 := l.flatMap quoB
def digB : ByteArray := ⟨#[48, 49, 50, 51, 52, 53, 54, 55, 56, 57, 97, 98, 99, 100, 101, 102]⟩
theorem dig_hex : ∀ n : Fin 16, digB[n.1]'n.2 = hexC n.1 := by decide
theorem quoL_take (t : List UInt8) (k : Nat) (h : k < t.length) : quoL (t.take (k + 1)) = quoL (t.take k) ++ quoB t[k] := by
  unfold quoL
  rw [List.take_succ_eq_append_getElem h, List.flatMap_append]
  congr 1
  simp
theorem quoB_len (b : UInt8) : (quoB b).length ≤ 4 := by
  unfold quoB
  split
  · simp
  · split <;> simp
theorem quoL_len (l : List UInt8) : (quoL l).length ≤ 4 * l.length := by
  induction l with
  | nil => simp [quoL]
  | cons c l ih =>
    have : quoL (c :: l) = quoB c ++ quoL l := rfl
    rw [this, List.length_append]
    have := quoB_len c
    simp only [List.length_cons]; omega
def quotedL (s : ByteArray) : List UInt8 := 34 :: (quoL s.data.toList ++ [34])
set_option maxHeartbeats 8000000 in
set_option maxRecDepth 100000 in
theorem quoted_any (s : ByteArray) (w : World) (hs : s.size ≤ 20000000) : Calls Tryd.prog 51 #[.string s] w fun e w' => e = .returned (.string ⟨(quotedL s).toArray⟩) ∧ Below w.heap.size w w' := by
  obtain ⟨i0, hi, hz0, hz1, hz2⟩ := info_parts Tryd.info5
  obtain ⟨r, hr⟩ : ∃ r : ByteArray, r = ⟨(quotedL s).toArray⟩ := ⟨_, rfl⟩
  rw [← hr]
  have HE : Hid (r = ⟨(34 :: (quoL s.data.toList ++ [34])).toArray⟩) := hr
  clear hr
  have x1 := RowAt.new w #[.int .u8 34] 5
  have q1 := below_new w (.cells #[.int .u8 34] 5)
  have hown0 : (w.alloc (.cells #[.int .u8 34] 5)).ownsRow w.heap.size 5 1 (.slice (some ⟨w.heap.size, 0, none⟩) 1 1) 1 (u8s [34]) := ⟨by simp [u8s], .inr ⟨w.heap.size, 1, #[.int .u8 34], rfl, Nat.le_refl _, x1, Nat.le_refl _, by unfold maxLen; omega, rfl, rfl⟩⟩
  obtain ⟨W1, hW1⟩ : ∃ W1, w.alloc (.cells #[.int .u8 34] 5) = W1 := ⟨_, rfl⟩
  rw [hW1] at hown0 q1
  have HW := hide hW1
  have HO0 := hide hown0
  have HQ1 := hide q1
  clear hown0 q1 x1 hW1
  go_enter Tryd.func51, Tryd.ntmps51
  go_wp2_with fail
  rw [HW.out]
  go_loopw [4, 5, 6] (fun v i _ wr => ∃ (k : Nat) (p : List UInt8), k ≤ s.size ∧ i = .int .i64 k ∧ p = 34 :: quoL (s.data.toList.take k) ∧ wr.ownsRow w.heap.size 5 1 v p.length (u8s p) ∧ Below w.heap.size w wr) (fun _ i _ _ => s.size - (intOf i).toNat)
  case atStart => exact ⟨0, [34], Nat.zero_le _, rfl, rfl, HO0.out, HQ1.out⟩
  case round =>
    obtain ⟨k, p, hk, rfl, hpe, hown, hbl⟩ := hrel
    have hbs := hbl.size
    have hpb : p.length ≤ 80000010 := by
      have h1 := quoL_len (s.data.toList.take k)
      rw [List.length_take, q_len] at h1
      rw [hpe, List.length_cons]; omega
    have HP := hide hpe
    clear hpe
    by_cases hlt : k < s.size
    · have hkl : k < s.data.toList.length := by simpa using hlt
      have HS : Hid (quoL (s.data.toList.take (k + 1)) = quoL (s.data.toList.take k) ++ quoB s[k]) := quoL_take s.data.toList k hkl
      have j0 : (0 : Int) ≤ (k : Int) := Int.natCast_nonneg _
      have j1 : (k : Int) < (s.size : Int) := by omega
      obtain ⟨x, hx⟩ : ∃ x : UInt8, x = s[k] := ⟨_, rfl⟩
      have hxx : s[k] = x := hx.symm
      rw [← hx] at HS
      have HK1 : Hid (k + 1 ≤ s.size) := by show _ ≤ _; omega
      obtain ⟨pa, pc, hvf⟩ := owns_form hown
      subst hvf
      clear hx
      by_cases hns : x.toNat < 32 ∨ 126 < x.toNat
      · obtain ⟨hi', hhi⟩ : ∃ hi', hi' = x.toNat / 16 := ⟨_, rfl⟩
        obtain ⟨lo, hlo⟩ : ∃ lo, lo = x.toNat % 16 := ⟨_, rfl⟩
        have hb := x.toNat_lt
        have hsh : (x.toNat : Int) / 16 = (hi' : Int) := by omega
        have hsl : (x.toNat : Int) % 16 = (lo : Int) := by omega
        have i1 : hi' < 16 := by omega
        have i2 : lo < 16 := by omega
        have hq : quoB x = [92, 120, digB[hi']'i1, digB[lo]'i2] := by
          unfold quoB
          rw [if_pos hns, ← hhi, ← hlo, dig_hex ⟨hi', i1⟩, dig_hex ⟨lo, i2⟩]
        have HQ : Hid (p ++ [92, 120, digB[hi']'i1, digB[lo]'i2] = 34 :: quoL (s.data.toList.take (k + 1))) := by
          show _ = _
          rw [HS.out, hq, HP.out]; rfl
        have hm1 : p.length + 4 ≤ maxLen := by unfold maxLen; omega
        have hm2 : (p.length + 4) * 1 ≤ 140737488355328 := by omega
        have i1I : (hi' : Int) < 16 := by omega
        have i2I : (lo : Int) < 16 := by omega
        have i10 : (0 : Int) ≤ (hi' : Int) := by omega
        have i20 : (0 : Int) ≤ (lo : Int) := by omega
        have hcs : ((x.toNat : Int) < 32) ∨ (¬ (x.toNat : Int) < 32 ∧ (126 : Int) < (x.toNat : Int)) := by omega
        have HOW := hide hown
        have HBL := hide hbl
        have HBS : Hid (w.heap.size ≤ wr.heap.size) := hbs
        clear hq hhi hlo hb hns HP HS hown hbl hbs
        have hsh2 : Int.tdiv (x.toNat : Int) 16 = (hi' : Int) := by rw [Int.tdiv_eq_ediv_of_nonneg (by omega)]; exact hsh
        have hsl2 : Int.tmod (x.toNat : Int) 16 = (lo : Int) := by rw [Int.tmod_eq_emod_of_nonneg (by omega)]; exact hsl
        have hwu : IntKind.u8.wrap (hi' : Int) = (hi' : Int) := by simp [IntKind.wrap, IntKind.bits, IntKind.signed]; omega
        have hwl : IntKind.u8.wrap (lo : Int) = (lo : Int) := by simp [IntKind.wrap, IntKind.bits, IntKind.signed]; omega
        have HO4 : Hid (∀ n o, ((wr.drewN n).alloc o).ownsRow w.heap.size 5 1 (.slice pa p.length pc) p.length (u8s p)) := fun n o => (owns_keep HOW.out (below_drewN' (Below.refl _ _) n)).alloc _
        rcases hcs with h1 | ⟨h1, h2⟩
        all_goals
          go_wp2_with fail
          go_region_law (refine step_append_lies _ (by rfl) _ _ 79 (by rfl) w.heap.size 5 i0 (.int .u8 0) 1 1 Tryd.underlying79 hi hz0 hz1 hz2 rfl (by decide) (.slice pa p.length pc) p.length (u8s p) (by rfl) (by first | exact HOW.out.alloc _ | exact HO4.out _ _ | exact owns_keep (HOW.out.alloc _) ((Below.refl _ _).drew) | exact owns_keep (HOW.out.alloc _) (below_drewN' (Below.refl _ _) _)) ⟨wr.heap.size, 0, none⟩ 4 4 (u8s [92, 120, digB[hi']'i1, digB[lo]'i2]) (by rfl) rfl (World.news_of_block (by first | exact heap_alloc_new wr _ | exact heap_alloc_new _ _)) (u8s_one _) (by decide) hm1 hm2 (by first | (simp; have := HBS.out; omega) | (have := HBS.out; show _ ≤ wr.heap.size + 1; omega)) (wr.heap.size + 1) (by first | simp | rfl) ?_; intro g2 cap2 w3 hown' hgrow hat hlg)
          all_goals
            have hg3 : (wr.alloc (.cells (u8s [92, 120, digB[hi']'i1, digB[lo]'i2]).toArray 5)).grownBy w3 (Value.slice pa p.length pc).ownBlock := ⟨hgrow.os, hgrow.tape, hgrow.output, hgrow.size, hgrow.block⟩
            obtain ⟨hown2, hb1⟩ := pushed (es := [92, 120, digB[hi']'i1, digB[lo]'i2]) HBS.out HOW.out hown' hg3
            have HOZ := hide hown2
            have HBZ := hide (HBL.out.trans hb1)
            clear hown' hgrow hat hlg hg3 hown2 hb1 HO4
            go_wp2
            go_roundw
            case rel => exact ⟨k + 1, p ++ [92, 120, digB[hi']'i1, digB[lo]'i2], HK1.out, by go_num, HQ.out, HOZ.out, HBZ.out⟩
            case measure => simp [intOf]; omega
      · have h1I : ¬ (x.toNat : Int) < 32 := by omega
        have h2I : ¬ (126 : Int) < (x.toNat : Int) := by omega
        have hm1 : p.length + 1 ≤ maxLen := by unfold maxLen; omega
        have hm2 : (p.length + 1) * 1 ≤ 140737488355328 := by omega
        by_cases hqx : x = 34 ∨ x = 92
        · have HQ : Hid ((p ++ [92]) ++ [x] = 34 :: quoL (s.data.toList.take (k + 1))) := by
            show _ = _
            rw [HS.out, quoB, if_neg hns, if_pos hqx, List.append_assoc, HP.out]; rfl
          have hcs : ((x.toNat : Int) == 34) = true ∨ (((x.toNat : Int) == 34) = false ∧ ((x.toNat : Int) == 92) = true) := by
            rcases hqx with e | e
            · left; rw [e]; rfl
            · right; rw [e]; exact ⟨rfl, rfl⟩
          clear hns hqx HP HS
          rcases hcs with e1 | ⟨e1, e2⟩
          all_goals
            go_wp2_with (first
              | (at_builtin; refine wpList_append_lies _ rfl _ _ 79 rfl w.heap.size 5 i0 (.int .u8 0) 1 1 Tryd.underlying79 hi hz0 hz1 hz2 rfl (by decide) _ _ _ rfl (hown.alloc _) ⟨wr.heap.size, 0, none⟩ 1 1 [.int .u8 92] rfl rfl (news1 _ (wr.heap.size) 92 (by simp)) (u8s_single _) (by decide) hm1 hm2 (by simp; omega) (wr.heap.size + 1) (by simp) ?_))
            intro g cap w3 hown' hgrow hat hlg
            obtain ⟨hown2, hb1⟩ := pushed (es := [92]) (by omega) hown hown' hgrow
            have hb2 : Below w.heap.size w w3 := hbl.trans hb1
            have hbs2 := hb2.size
            have hown : w3.ownsRow w.heap.size 5 1 (.slice (some ⟨g, 0, none⟩) (p.length + 1) cap) (p ++ [92]).length (u8s (p ++ [92])) := hown2
            have hl2 : (p ++ [(92 : UInt8)]).length = p.length + 1 := by simp
            have hn1 : (p ++ [(92 : UInt8)]).length + 1 ≤ maxLen := by rw [hl2]; unfold maxLen; omega
            have hn2 : ((p ++ [(92 : UInt8)]).length + 1) * 1 ≤ 140737488355328 := by rw [hl2]; omega
            have HL2 : Hid ((p ++ [(92 : UInt8)]).length = p.length + 1) := hl2
            clear hown' hgrow hat hlg hbl hb1 hown2 hl2
            go_wp2_with (first
              | (at_builtin; refine wpList_append_lies _ rfl _ _ 79 rfl w.heap.size 5 i0 (.int .u8 0) 1 1 Tryd.underlying79 hi hz0 hz1 hz2 rfl (by decide) _ _ _ rfl (hown.alloc _) ⟨w3.heap.size, 0, none⟩ 1 1 [.int .u8 (x.toNat : Int)] rfl rfl (news1 _ (w3.heap.size) (x.toNat : Int) (by simp)) (u8s_single _) (by decide) hn1 hn2 (by simp; omega) (w3.heap.size + 1) (by simp) ?_))
            intro g2 cap2 w4 hown' hgrow hat hlg
            obtain ⟨hown2, hb1⟩ := pushed (es := [x]) (by omega) hown (by first | exact hown' | (rw [HL2.out]; exact hown')) hgrow
            have HB : Hid (Below w.heap.size w w4) := hb2.trans hb1
            have HO := hown2
            clear hown' hgrow hown hat hlg hb2 hb1
            go_wp2_with fail
            go_roundw
            case rel => exact ⟨k + 1, (p ++ [92]) ++ [x], HK1.out, by go_num, HQ.out, HO, HB.out⟩
            case measure => simp [intOf]; omega
        · have e1 : ((x.toNat : Int) == 34) = false := u8_ne (k := 34) (by decide) (fun e => hqx (.inl e))
          have e2 : ((x.toNat : Int) == 92) = false := u8_ne (k := 92) (by decide) (fun e => hqx (.inr e))
          have HQ : Hid (p ++ [x] = 34 :: quoL (s.data.toList.take (k + 1))) := by
            show _ = _
            rw [HS.out, quoB, if_neg hns, if_neg hqx, HP.out]; rfl
          clear hns hqx HP HS
          go_wp2_with (first
            | (at_builtin; refine wpList_append_lies _ rfl _ _ 79 rfl w.heap.size 5 i0 (.int .u8 0) 1 1 Tryd.underlying79 hi hz0 hz1 hz2 rfl (by decide) _ _ _ rfl (hown.alloc _) ⟨wr.heap.size, 0, none⟩ 1 1 [.int .u8 (x.toNat : Int)] rfl rfl (news1 _ (wr.heap.size) (x.toNat : Int) (by simp)) (u8s_single _) (by decide) hm1 hm2 (by simp; omega) (wr.heap.size + 1) (by simp) ?_))
          intro g cap w3 hown' hgrow hat hlg
          obtain ⟨hown2, hb1⟩ := pushed (es := [x]) (by omega) hown hown' hgrow
          have HB : Hid (Below w.heap.size w w3) := hbl.trans hb1
          have HO : Hid (w3.ownsRow w.heap.size 5 1 (.slice (some ⟨g, 0, none⟩) (p.length + 1) cap) (p ++ [x]).length (u8s (p ++ [x]))) := hown2
          clear hown' hgrow hown hat hlg hbl hb1 hown2
          go_wp2_with fail
          go_roundw
          case rel => exact ⟨k + 1, p ++ [x], HK1.out, by go_num, HQ.out, HO.out, HB.out⟩
          case measure => simp [intOf]; omega
    · have hke : k = s.size := by omega
      have j1 : ¬ (k : Int) < (s.size : Int) := by omega
      have HQ : Hid (r = (⟨p.toArray⟩ : ByteArray) ++ ⟨#[34]⟩) := by
        show _ = _
        rw [HE.out, HP.out, List.take_of_length_le (by simp; omega)]
        apply ByteArray.ext
        rw [ByteArray.data_append]
        simp
      have hcv := conv_back hown
      have HBE := hide hbl
      obtain ⟨a2, c2, rfl⟩ := owns_form hown
      clear HP hown hbl HE
      go_wp2_with fail
      go_ret
      exact ⟨by rw [HQ.out]; rfl, HBE.out⟩
end Go.Proofs.YtddhjnfcbpookaaDoor
