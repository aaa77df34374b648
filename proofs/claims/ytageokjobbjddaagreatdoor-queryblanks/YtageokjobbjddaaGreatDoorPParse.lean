import Derived.Test.YtageokjobbjddaaGreatDoorGRH
import Derived.Lib.Walk
import Derived.Lib.ConvBytes
import Derived.Lib.AtoiAllMem
import Derived.Lib.AtoiErrMem
import Derived.Lib.IfaceEq
import Derived.Laws.Strings3
import Derived.Laws.Closers25
import Derived.Laws.Closers25b
import Derived.BigCall
import Derived.BigGuard
import Derived.RegionTactic
import Derived.Deep.RegionWith

namespace Go.Proofs.YtageokjobbjddaaGreatDoor
open Go.RowKit

def hexN (c : UInt8) : Option Nat :=
  if 48 ≤ c.toNat ∧ c.toNat ≤ 57 then some (c.toNat - 48)
  else if 97 ≤ c.toNat ∧ c.toNat ≤ 102 then some (c.toNat - 87)
  else if 65 ≤ c.toNat ∧ c.toNat ≤ 70 then some (c.toNat - 55) else none
def lowN (c : Nat) : Int := bits BinOp.or IntKind.u8 (c : Int) 32
theorem low_all : ∀ c : Fin 256, ((97 ≤ lowN c.1 ∧ lowN c.1 ≤ 102 ∧ ((97 ≤ c.1 ∧ c.1 ≤ 102 ∧ lowN c.1 = c.1) ∨ (65 ≤ c.1 ∧ c.1 ≤ 70 ∧ lowN c.1 = c.1 + 32))) ∨ (103 ≤ lowN c.1 ∧ lowN c.1 ≤ 122) ∨ lowN c.1 < 97 ∨ 122 < lowN c.1) ∧ ((97 ≤ c.1 ∧ c.1 ≤ 102) ∨ (65 ≤ c.1 ∧ c.1 ≤ 70) → 97 ≤ lowN c.1 ∧ lowN c.1 ≤ 102) := by decide +kernel
/-- What lower makes of a byte, and what digit it is. -/
theorem low_case (c : UInt8) (hd : ¬ (48 ≤ c.toNat ∧ c.toNat ≤ 57)) :
    (97 ≤ lowN c.toNat ∧ lowN c.toNat ≤ 102 ∧ hexN c = some (lowN c.toNat - 87).toNat) ∨ (103 ≤ lowN c.toNat ∧ lowN c.toNat ≤ 122 ∧ hexN c = none) ∨ (lowN c.toNat < 97 ∧ hexN c = none) ∨ (122 < lowN c.toNat ∧ hexN c = none) := by
  have h := low_all ⟨c.toNat, c.toNat_lt⟩
  simp only at h
  unfold hexN
  rw [if_neg hd]
  by_cases h1 : 97 ≤ c.toNat ∧ c.toNat ≤ 102
  · rw [if_pos h1]
    have h3 := h.2 (.inl h1)
    refine .inl ⟨h3.1, h3.2, ?_⟩
    rcases h.1 with ⟨_, _, ⟨_, _, e⟩ | ⟨a, b, _⟩⟩ | h4 | h4 | h4
    · rw [e]; congr 1; omega
    · omega
    · omega
    · omega
    · omega
  · rw [if_neg h1]
    by_cases h2 : 65 ≤ c.toNat ∧ c.toNat ≤ 70
    · rw [if_pos h2]
      have h3 := h.2 (.inr h2)
      refine .inl ⟨h3.1, h3.2, ?_⟩
      rcases h.1 with ⟨_, _, ⟨a, b, _⟩ | ⟨_, _, e⟩⟩ | h4 | h4 | h4
      · omega
      · rw [e]; congr 1; omega
      · omega
      · omega
      · omega
    · rw [if_neg h2]
      rcases h.1 with ⟨_, _, ⟨a, b, _⟩ | ⟨a, b, _⟩⟩ | h4 | h4 | h4
      · exact absurd ⟨a, b⟩ h1
      · exact absurd ⟨a, b⟩ h2
      · exact .inr (.inl ⟨h4.1, h4.2, rfl⟩)
      · exact .inr (.inr (.inl ⟨h4, rfl⟩))
      · exact .inr (.inr (.inr ⟨h4, rfl⟩))
theorem lower_any (c : Nat) (w : World) : Calls Tryz.prog 130 #[.int .u8 (c : Int)] w fun e w' => e = .returned (.int .u8 (lowN c)) ∧ w' = w := by
  go_enter Tryz.func130, Tryz.ntmps130
  go_wp2
  go_ret
  exact ⟨rfl, rfl⟩
/-- A numeral of base 16. -/
def par16 : Nat → List UInt8 → Option Nat
  | acc, [] => some acc
  | acc, c :: r => match hexN c with
    | none => none
    | some d => par16 (acc * 16 + d) r
theorem hexN_lt {c : UInt8} {d : Nat} (h : hexN c = some d) : d < 16 := by
  unfold hexN at h
  split at h
  · cases h; omega
  · split at h
    · cases h; omega
    · split at h
      · cases h; omega
      · cases h
def parV (o : Option Nat) : Value := match o with
  | some n => .tuple #[.int .u64 (n : Int), .nilIface]
  | none => .tuple #[.int .u64 0, .iface 144 (.int .i64 2)]
set_option maxHeartbeats 8000000 in
set_option maxRecDepth 100000 in
theorem ipuint_any (t : ByteArray) (h2 : t.size = 2) (w : World) :
    Calls Tryz.prog 121 #[.string t, .int .i64 16, .int .i64 8] w fun e w' => e = .returned (parV (par16 0 t.data.toList)) ∧ Below w.heap.size w w' := by
  have hemp : t.toList.isEmpty = false := by
    rw [← decide_eq_emptyBytes]
    exact decide_eq_false (fun h => by rw [h] at h2; cases h2)
  have hcv := Lib.run_convert_string_bytes (P := Tryz.prog) w 9 48 5 t (u := .string) Tryz.underlying9 Tryz.underlying48 Tryz.underlying5
  have hB : ∀ j, j < t.size → (Lib.bytesWorld w 5 t).cell? ⟨w.heap.size, j, none⟩ = some (.int .u8 (t.data.toList.getD j 0).toNat) := fun j hj => Lib.bytesWorld_cell w 5 t j hj
  have HBW := hide (Lib.bytesWorld_below w 5 t)
  obtain ⟨W1, hW1⟩ : ∃ W1, W1 = Lib.bytesWorld w 5 t := ⟨_, rfl⟩
  rw [← hW1] at hcv hB HBW
  clear hW1
  obtain ⟨bs, hL⟩ : ∃ bs, bs = t.data.toList := ⟨_, rfl⟩
  have hLn : bs.length = t.size := by rw [hL, q_len]
  rw [← hL] at hB ⊢
  clear hL
  have HB := hide hB
  have HLN := hide hLn
  clear hB hLn
  have hmv : IntKind.u64.wrap (IntKind.u64.wrap 256 - 1) = 255 := by decide
  obtain ⟨N, hN⟩ : ∃ N, N = t.size := ⟨_, rfl⟩
  rw [← hN] at hcv
  have HN : Hid (N = t.size ∧ N = 2) := ⟨hN, by omega⟩
  obtain ⟨cp, hcp⟩ : ∃ cp, cp = grownCap w N 0 5 := ⟨_, rfl⟩
  rw [← hcp] at hcv
  have hN2 : N ≤ 2 := by omega
  clear hcp hN h2
  go_enter Tryz.func121, Tryz.ntmps121
  go_wp2
  go_loop [12, 13, 101] (fun vu vn vi => ∃ (k acc : Nat) (a : Int), vu = .bool false ∧ vn = .int .u64 a ∧ vi = .int .i64 k ∧ k ≤ N ∧ Hid (a = (acc : Int) ∧ acc < 16 ^ k ∧ par16 0 bs = par16 acc (bs.drop k)))
    (fun _ _ vi => N - (intOf vi).toNat)
  case atStart => exact ⟨0, 0, 0, rfl, rfl, rfl, Nat.zero_le _, rfl, by decide, rfl⟩
  case round =>
    obtain ⟨k, acc, a, rfl, rfl, rfl, hk, hh⟩ := hrel
    obtain ⟨ha, hacc, hdec⟩ := hh.out
    clear hh
    by_cases hkn : k < N
    · have hkI : (k : Int) < (N : Int) := by omega
      have hbk : k < bs.length := by have := HLN.out; have := HN.out.1; omega
      have hc := HB.out k (by have := HN.out.1; omega)
      have hdrop : bs.drop k = bs[k] :: bs.drop (k + 1) := List.drop_eq_getElem_cons hbk
      have hget : bs.getD k 0 = bs[k] := by simp [List.getD, List.getElem?_eq_getElem hbk]
      rw [hdrop] at hdec
      rw [hget] at hc
      generalize bs[k] = c at hc hdec
      have hc256 : c.toNat < 256 := c.toNat_lt
      have hacc16 : acc < 16 := by
        have := HN.out.2
        have h01 : k = 0 ∨ k = 1 := by omega
        rcases h01 with rfl | rfl
        · have : acc < 1 := hacc
          omega
        · exact hacc
      have a0 : 0 ≤ a := by omega
      have a1 : a < 16 := by omega
      have hpow : ∀ d, d < 16 → acc * 16 + d < 16 ^ (k + 1) := fun d hd => by
        rw [Nat.pow_succ]
        have : acc + 1 ≤ 16 ^ k := hacc
        have := Nat.mul_le_mul_right 16 this
        omega
      clear hdrop hget
      have hstep : par16 acc (c :: bs.drop (k + 1)) = match hexN c with | none => none | some d => par16 (acc * 16 + d) (bs.drop (k + 1)) := rfl
      by_cases hdig : 48 ≤ c.toNat ∧ c.toNat ≤ 57
      · obtain ⟨hd0, hd1⟩ := hdig
        have hx : hexN c = some (c.toNat - 48) := by unfold hexN; rw [if_pos ⟨hd0, hd1⟩]
        rw [hstep, hx] at hdec
        simp only at hdec
        have hd0I : (48 : Int) ≤ (c.toNat : Int) := by omega
        have hd1I : (c.toNat : Int) ≤ 57 := by omega
        have HNX : Hid (a * 16 + ((c.toNat : Int) - 48) = ((acc * 16 + (c.toNat - 48) : Nat) : Int) ∧ acc * 16 + (c.toNat - 48) < 16 ^ (k + 1) ∧ par16 0 bs = par16 (acc * 16 + (c.toNat - 48)) (bs.drop (k + 1))) := ⟨by omega, hpow _ (by omega), hdec⟩
        clear hstep hx hdec ha hacc hacc16 hpow hd0 hd1
        go_wp2
        refine ⟨⟨k + 1, acc * 16 + (c.toNat - 48), a * 16 + ((c.toNat : Int) - 48), rfl, (by first | rfl | (congr 1; omega)), (by first | rfl | (congr 1; omega)), by omega, HNX⟩, by simp [intOf]; omega⟩
      · by_cases h95 : c.toNat = 95
        · have hx : hexN c = none := by unfold hexN; rw [h95]; rfl
          rw [hstep, hx] at hdec
          simp only at hdec
          have HR : Hid (par16 0 bs = none) := hdec
          have HLO := hide (lower_any 95)
          rw [show lowN 95 = 127 by decide +kernel] at HLO
          rw [h95] at hc
          have hc9 : W1.cell? ⟨w.heap.size, k, none⟩ = some (.int .u8 95) := hc
          clear hstep hx hdec ha hacc hacc16 hpow hc h95 hc256 hdig
          go_wp2_with (go_at_call 130; refine (HLO.out _).mono ?_; rintro e w' ⟨rfl, rfl⟩)
          go_ret2
          exact ⟨by rw [HR.out]; rfl, HBW.out⟩
        · have h95I : ((c.toNat : Int) == 95) = false := by rw [beq_eq_false_iff_ne]; omega
          clear h95
          have HLO := hide (lower_any c.toNat)
          have hcs := low_case c hdig
          have hdI : ¬ ((48 : Int) ≤ (c.toNat : Int)) ∨ ((48 : Int) ≤ (c.toNat : Int) ∧ ¬ (c.toNat : Int) ≤ 57) := by omega
          obtain ⟨lw, hlw⟩ : ∃ lw, lowN c.toNat = lw := ⟨_, rfl⟩
          rw [hlw] at HLO hcs
          clear hlw hdig
          rcases hcs with ⟨l0, l1, hx⟩ | ⟨l0, l1, hx⟩ | ⟨l0, hx⟩ | ⟨l0, hx⟩
          · rw [hstep, hx] at hdec
            simp only at hdec
            have HNX : Hid (a * 16 + (lw - 87) = ((acc * 16 + (lw - 87).toNat : Nat) : Int) ∧ acc * 16 + (lw - 87).toNat < 16 ^ (k + 1) ∧ par16 0 bs = par16 (acc * 16 + (lw - 87).toNat) (bs.drop (k + 1))) := ⟨by omega, hpow _ (by omega), hdec⟩
            have l2 : lw ≤ 122 := by omega
            clear hstep hx hdec ha hacc hacc16 hpow
            rcases hdI with d1 | ⟨d1, d2⟩
            all_goals
              go_wp2_with (go_at_call 130; refine (HLO.out _).mono ?_; rintro e w' ⟨rfl, rfl⟩)
              refine ⟨⟨k + 1, acc * 16 + (lw - 87).toNat, a * 16 + (lw - 87), rfl, (by first | rfl | (congr 1; omega)), (by first | rfl | (congr 1; omega)), by omega, HNX⟩, by simp [intOf]; omega⟩
          all_goals
            rw [hstep, hx] at hdec
            simp only at hdec
            have HR : Hid (par16 0 bs = none) := hdec
            clear hstep hx hdec ha hacc hacc16 hpow
            rcases hdI with d1 | ⟨d1, d2⟩
            all_goals
              go_wp2_with (go_at_call 130; refine (HLO.out _).mono ?_; rintro e w' ⟨rfl, rfl⟩)
              all_goals
                go_ret2
                exact ⟨by rw [HR.out]; rfl, HBW.out⟩
    · have hkk : k = N := by omega
      subst hkk
      have HF : Hid (par16 0 bs = some acc) := by
        show _ = _
        rw [hdec, List.drop_eq_nil_of_le (by have := HLN.out; have := HN.out.1; omega)]; rfl
      subst ha
      clear hacc hdec
      go_wp2
      go_ret2
      exact ⟨by rw [HF.out]; rfl, HBW.out⟩
end Go.Proofs.YtageokjobbjddaaGreatDoor
