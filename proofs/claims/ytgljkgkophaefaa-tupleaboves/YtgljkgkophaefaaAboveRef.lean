import Derived.Test.YtgljkgkophaefaaAboveFn
import Derived.Deep.RegionHeld3
namespace Go.Proofs.Ytgljkgkophaefaa
open Go.RowKit

theorem cat_up (s : ByteArray) (m : Nat) (h : m < s.size) : s.extract 0 m ++ (⟨#[s[m] + 1]⟩ : ByteArray) = ⟨(upL s.data.toList (m + 1)).toArray⟩ := by
  apply ByteArray.ext
  simp only [ByteArray.data_append, ByteArray.data_extract]
  apply Array.toList_inj.1
  have : s.data[m]? = some s[m] := by
    rw [Array.getElem?_eq_getElem (by simpa using h)]; rfl
  simp [upL, this]

set_option maxHeartbeats 400000 in
theorem rabove_any (s : ByteArray) (w : World) (hs : s.size ≤ 140737488351232) :
    Calls Try.prog 6 #[.string s] w fun e w' => e = .returned (.tuple #[.string (aboveB s), .bool (hasUp s)]) ∧ Below w.heap.size w w' := by
  go_enter Try.func6, Try.ntmps6
  go_wp2_with fail
  go_loop [4] (fun i => ∃ k : Nat, k ≤ s.size ∧ i = .int .i64 k ∧ cutFF s.data.toList k = cutN s) (fun i => (intOf i).toNat)
  case atStart => exact ⟨s.size, Nat.le_refl _, rfl, rfl⟩
  case round =>
    obtain ⟨k, hk, rfl, hcut⟩ := hrel
    have HC : Hid (cutFF s.data.toList k = cutN s) := hcut
    clear hcut
    cases k with
    | zero =>
      have H0 : Hid (cutN s = 0) := HC.out.symm
      have HU : Hid (hasUp s = false) := by show hasUp s = _; simp [hasUp, H0.out]
      have HA : Hid (aboveB s = ⟨#[]⟩) := by show aboveB s = _; simp [aboveB, H0.out]
      go_wp2_with fail
      go_ret2
      exact ⟨by rw [HA.out, HU.out]; rfl, Below.refl _ _⟩
    | succ m =>
      have hm : m < s.size := by omega
      have hsm : s.data.toList[m]? = some s[m] := by
        rw [List.getElem?_eq_getElem (by simpa using hm)]; rfl
      obtain ⟨x, hx⟩ : ∃ x : Nat, x = s[m].toNat := ⟨_, rfl⟩
      have hx256 : x < 256 := by rw [hx]; exact UInt8.toNat_lt _
      have hidx : s[m].toNat = x := hx.symm
      have j0 : (0 : Int) ≤ (m : Int) := Int.natCast_nonneg _
      have j1 : (m : Int) < (s.size : Int) := by omega
      by_cases h255 : x = 255
      · have HN : Hid (cutFF s.data.toList m = cutN s) := by
          show cutFF _ m = _
          rw [← HC.out]
          have : s[m] = 255 := UInt8.toNat_inj.1 (by rw [hidx, h255]; rfl)
          simp [cutFF, hsm, this]
        have hg : ((x : Int) == 255) = true := by rw [h255]; rfl
        rw [h255] at hidx
        clear hx hsm
        go_wp2_with fail
        go_round
        case rel => exact ⟨m, by omega, by go_num, HN.out⟩
        case measure => simp [intOf]
      · have hN : cutN s = m + 1 := by
          rw [← HC.out]
          have : s[m] ≠ 255 := fun h => h255 (by rw [← hidx, h]; rfl)
          simp [cutFF, hsm, this]
        have hg : ((x : Int) == 255) = false := by simp; omega
        have hx255 : x < 255 := by omega
        have HN : Hid (cutN s = m + 1) := hN
        have HU : Hid (hasUp s = true) := by show hasUp s = _; simp [hasUp, HN.out]
        have HR : Hid (aboveB s = s.extract 0 m ++ (⟨#[s[m] + 1]⟩ : ByteArray)) := by show aboveB s = _; rw [cat_up s m hm]; simp [aboveB, HN.out]
        clear hx hsm hN
        go_wp2_with fail
        have hx1 : (s[m] + 1).toNat = x + 1 := by
          rw [UInt8.toNat_add, hidx]; exact Nat.mod_eq_of_lt (by show x + 1 < 256; omega)
        have hback : (convert 29 9 (.slice (some ⟨w.heap.size, 0, none⟩) 1 1)).run Try.prog (w.alloc (.cells #[.int .u8 ((x : Int) + 1)] 5)).drew = .ok (.string ⟨#[s[m] + 1]⟩) (w.alloc (.cells #[.int .u8 ((x : Int) + 1)] 5)).drew :=
          run_convert_bytes_back (P := Try.prog) _ 29 9 5 ⟨w.heap.size, 0, none⟩ 1 [s[m] + 1] Try.underlying29 Try.underlying5 Try.underlying9 (fun j hj => by
            obtain rfl : j = 0 := by simpa using hj
            rw [addr_at]
            show (w.alloc _).cell? _ = _
            rw [World.cell?_alloc_mark]
            simp [hx1])
        clear hx1
        go_region
        go_wp2_with fail
        go_ret2
        exact ⟨by rw [HR.out, HU.out]; rfl, ((Below.refl _ _).alloc (Nat.le_refl _) _).drew⟩

end Go.Proofs.Ytgljkgkophaefaa
