import Derived.Test.YtagldlchamlpdabDoorCStr
import Derived.Test.YtagldlchamlpdabDoorErrs
import Derived.Test.YtagldlchamlpdabDoorRowT
namespace Go.Proofs.YtagldlchamlpdabDoor
open Go.RowKit

set_option maxHeartbeats 1000000 in
theorem size_any (v : Value) (l : List ByteArray) (w : World) (hm : sizeL l ≤ 1152921504606846976) (hr : StrR w v l) :
    Calls Tryd.prog 65 #[v] w fun e w' => e = .returned (.int .i64 ((sizeL l : Nat) : Int)) ∧ w = w' := by
  obtain ⟨a, cap, rfl, hcap, hc⟩ := hr
  have HC := hide hc
  obtain ⟨n, hn⟩ : ∃ n, n = l.length := ⟨_, rfl⟩
  rw [← hn]
  have HN := hide hn
  have HM := hide hm
  have h2 : n ≤ 576460752303423488 := by
    have : sizeL l = 2 * l.length + (flatTo l l.length).length := rfl
    omega
  have hw : IntKind.i64.wrap (2 * (n : Int)) = ((endL l 0 : Nat) : Int) := by rw [IntKind.wrap_i64, endL_zero]; omega
  clear hc hn hm hcap
  go_enter Tryd.func65, Tryd.ntmps65
  go_wp2
  go_loop [3, 11] (fun r i => ∃ k : Nat, k ≤ n ∧ i = .int .i64 k ∧ r = .int .i64 ((endL l k : Nat) : Int)) (fun _ i => n - (intOf i).toNat)
  case atStart => exact ⟨0, Nat.zero_le _, rfl, rfl⟩
  case round =>
    obtain ⟨k, hk, rfl, rfl⟩ := hrel
    clear hw
    by_cases hlt : k < n
    · have hkl : k < l.length := by have := HN.out; omega
      obtain ⟨g, o, rfl, f1⟩ := HC.out k hkl
      have HS := hide (endL_succ l k hkl)
      have HL := hide (endL_mono l (k + 1) l.length (by omega) (Nat.le_refl _))
      obtain ⟨p, hp⟩ : ∃ p, p = endL l k := ⟨_, rfl⟩
      rw [← hp] at HS ⊢
      obtain ⟨q, hq⟩ : ∃ q, q = endL l (k + 1) := ⟨_, rfl⟩
      rw [← hq] at HS HL
      have HQ := hide hq
      generalize l[k] = x at *
      have hw : IntKind.i64.wrap ((p : Int) + (x.size : Int)) = (q : Int) := by
        rw [IntKind.wrap_i64]
        have h1 := HS.out
        have h2 := HL.out
        have h3 : endL l l.length ≤ 1152921504606846976 := HM.out
        omega
      have hltI : (k : Int) < (n : Int) := by omega
      clear hp hq HC
      go_wp2
      go_round
      case rel => exact ⟨k + 1, by omega, by go_num, by rw [← HQ.out]⟩
      case measure => simp [intOf]; omega
    · have hkn : k = n := by omega
      have HF : Hid (endL l k = sizeL l) := by show _ = _; rw [hkn, HN.out]; rfl
      obtain ⟨p, hp⟩ : ∃ p, p = endL l k := ⟨_, rfl⟩
      rw [← hp] at HF ⊢
      have hltI : ¬ (k : Int) < (n : Int) := by omega
      clear hp HC
      go_wp2
      go_ret
      exact ⟨by rw [← HF.out]; rfl, rfl⟩

theorem u8s_set (l : List UInt8) (k : Nat) (x : UInt8) : (u8s l).set k (.int .u8 (x.toNat : Int)) = u8s (l.set k x) := by simp [u8s, List.map_set]
theorem RowT.set {t : TypeId} {w : World} {g : Nat} {l : List UInt8} (h : RowT t w g l) (k : Nat) (x : UInt8) : RowT t (w.setCell ⟨g, k, none⟩ (.int .u8 (x.toNat : Int))) g (l.set k x) := by
  unfold RowT
  rw [heap_setCell_same w g k _ t _ h, ← u8s_set]
  simp
theorem RowT.frozen {t : TypeId} {w : World} {g : Nat} {l : List UInt8} (h : RowT t w g l) (k : Nat) : w.frozen? ⟨g, k, none⟩ = false := frozen_of_row _ _ _ _ _ h

set_option maxHeartbeats 1000000 in
theorem setSlot_any (t : TypeId) (b i e n : Nat) (l : List UInt8) (w : World) (he : e ≤ 4072) (hl : l.length = n) (hi : 2 * i + 1 < n) (hn : n ≤ 4072) (hr : RowT t w b l) :
    Calls Tryd.prog 66 #[.slice (some ⟨b, 0, none⟩) n n, .int .i64 (i : Int), .int .i64 (e : Int)] w fun ev w' => ev = .returned (.tuple #[]) ∧ RowT t w' b ((l.set (2 * i) (hi8 e)).set (2 * i + 1) (lo8 e)) ∧ Sole b w w' := by
  obtain ⟨p, hp⟩ : ∃ p, p = 2 * i := ⟨_, rfl⟩
  obtain ⟨q, hq⟩ : ∃ q, q = p + 1 := ⟨_, rfl⟩
  have hw : IntKind.i64.wrap (2 * (i : Int)) = (p : Int) := by rw [IntKind.wrap_i64]; omega
  have hw2 : IntKind.i64.wrap ((p : Int) + 1) = (q : Int) := by rw [IntKind.wrap_i64]; omega
  have h1 : (p : Int) < (n : Int) := by omega
  have h2 : (q : Int) < (n : Int) := by omega
  have h1' : p < n := by omega
  have h2' : q < n := by omega
  have hpq : ¬ q = p := by omega
  have c1 := hr.cell p (by omega)
  have c2 := hr.cell q (by omega)
  have z1 := hr.frozen p
  have z2 := hr.frozen q
  have HR : Hid (RowT t ((w.setCell ⟨b, p, none⟩ (.int .u8 ((hi8 e).toNat : Int))).setCell ⟨b, q, none⟩ (.int .u8 ((lo8 e).toNat : Int))) b ((l.set (2 * i) (hi8 e)).set (2 * i + 1) (lo8 e))) := by
    have := (hr.set p (hi8 e)).set q (lo8 e)
    rw [hq, hp] at this
    rw [hq, hp]; exact this
  have HS : Hid (Sole b w ((w.setCell ⟨b, p, none⟩ (.int .u8 ((hi8 e).toNat : Int))).setCell ⟨b, q, none⟩ (.int .u8 ((lo8 e).toNat : Int)))) := (Sole.set b p w _).trans (Sole.set b q _ _)
  rw [hi8_toNat e he, lo8_toNat] at HR HS
  have e1 : ((e / 256 : Nat) : Int) = (e : Int) / 256 := by omega
  have e2 : ((e % 256 : Nat) : Int) = (e : Int) % 256 := by omega
  rw [e1, e2] at HR HS
  generalize l[p] = y1 at *
  generalize l[q] = y2 at *
  clear hp hq hl hi hr e1 e2
  go_enter Tryd.func66, Tryd.ntmps66
  go_wp2
  go_end0
  exact ⟨rfl, HR.out, HS.out⟩

end Go.Proofs.YtagldlchamlpdabDoor
