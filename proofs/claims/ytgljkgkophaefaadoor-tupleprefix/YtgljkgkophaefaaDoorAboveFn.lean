import Derived.Test.YtgljkgkophaefaaDoorUp
namespace Go.Proofs.YtgljkgkophaefaaDoor
open Go.RowKit

theorem conv_bytes (s : ByteArray) (w : World) : ∃ cap w1, (convert 9 63 (.string s)).run Tryd.prog w = .ok (.slice (some ⟨w.heap.size, 0, none⟩) s.size cap) w1 ∧ Below w.heap.size w w1 ∧ w.heap.size < w1.heap.size ∧
    (∀ j (h : j < s.size), w1.cell? ⟨w.heap.size, j, none⟩ = some (.int .u8 (s[j].toNat : Int))) ∧ (∀ j, j < s.size → w1.frozen? ⟨w.heap.size, j, none⟩ = false) := by
  have h := run_bytes_of_string (P := Tryd.prog) w 9 63 5 s Tryd.underlying9 Tryd.underlying63 Tryd.underlying5
  refine ⟨_, _, h, ((Below.refl _ _).drew).alloc (Nat.le_refl _) _, by simp, fun j hj => ?_, fun j hj => ?_⟩
  · show (w.alloc _).cell? _ = _
    rw [World.cell?_alloc_mark, bytesRow_at s _ j hj]
    rfl
  · show (w.alloc _).frozen? _ = _
    rw [World.frozen?_alloc_mark]
    have : s.size ≤ (bytesRow s (grownCap w s.size 0 5)).size := by
      rw [bytesRow, Array.size_append, Array.size_map]; exact Nat.le_add_right _ _
    have : ∀ n : Nat, j < n → (decide (n ≤ j) && decide (j < n + 1)) = false := fun n hn => by simp; omega
    exact this _ (by omega)

theorem addr_at (b j : Nat) : (⟨b, 0, none⟩ : Addr).add j = ⟨b, j, none⟩ := by
  by_cases h : j = 0
  · subst h; rfl
  · simp [Addr.add]
    omega
theorem upL_last (l : List UInt8) (m : Nat) (h : m < l.length) (hj : m < (upL l (m + 1)).length) : (upL l (m + 1))[m] = l[m] + 1 := by
  apply Option.some.inj
  rw [← List.getElem?_eq_getElem hj]
  unfold upL
  rw [List.getElem?_append_right (by simp; omega)]
  simp [Nat.min_eq_left (Nat.le_of_lt h), h]
theorem upL_at (l : List UInt8) (m j : Nat) (h : m < l.length) (hjm : j < m) (hj : j < (upL l (m + 1)).length) : (upL l (m + 1))[j] = l[j] := by
  apply Option.some.inj
  rw [← List.getElem?_eq_getElem hj]
  unfold upL
  rw [List.getElem?_append_left (by simp; omega)]
  simp [hjm, show j < l.length by omega]
theorem upL_len (l : List UInt8) (m : Nat) (h : m < l.length) : (upL l (m + 1)).length = m + 1 := by simp [upL]; omega

set_option maxHeartbeats 400000 in
theorem above_any (s : ByteArray) (w : World) (hs : s.size ≤ 140737488351232) :
    Calls Tryd.prog 21 #[.string s] w fun e w' => e = .returned (.tuple #[.string (aboveB s), .bool (hasUp s)]) ∧ Below w.heap.size w w' := by
  go_enter Tryd.func21, Tryd.ntmps21
  go_wp2_with fail
  go_loop [4] (fun i => ∃ k : Nat, k ≤ s.size ∧ i = .int .i64 k ∧ cutFF s.data.toList k = cutN s) (fun i => (intOf i).toNat)
  case atStart => exact ⟨s.size, Nat.le_refl _, rfl, rfl⟩
  case round =>
    obtain ⟨k, hk, rfl, hcut⟩ := hrel
    have HC : Hid (cutFF s.data.toList k = cutN s) := hcut
    clear hcut
    cases k with
    | zero =>
      have H0 : Hid (cutN s = 0) := HC.out.symm
      have HU : Hid (hasUp s = false) := by show hasUp s = _; simp [hasUp, H0.out]
      have HA : Hid (aboveB s = ⟨#[]⟩) := by show aboveB s = _; simp [aboveB, H0.out]
      go_wp2_with fail
      go_ret2
      exact ⟨by rw [HA.out, HU.out]; rfl, Below.refl _ _⟩
    | succ m =>
      have hm : m < s.size := by omega
      have hsm : s.data.toList[m]? = some s[m] := by
        rw [List.getElem?_eq_getElem (by simpa using hm)]; rfl
      obtain ⟨x, hx⟩ : ∃ x : Nat, x = s[m].toNat := ⟨_, rfl⟩
      have hx256 : x < 256 := by rw [hx]; exact UInt8.toNat_lt _
      have hidx : s[m].toNat = x := hx.symm
      have j0 : (0 : Int) ≤ (m : Int) := Int.natCast_nonneg _
      have j1 : (m : Int) < (s.size : Int) := by omega
      by_cases h255 : x = 255
      · have HN : Hid (cutFF s.data.toList m = cutN s) := by
          show cutFF _ m = _
          rw [← HC.out]
          have : s[m] = 255 := UInt8.toNat_inj.1 (by rw [hidx, h255]; rfl)
          simp [cutFF, hsm, this]
        have hg : ((x : Int) == 255) = true := by rw [h255]; rfl
        rw [h255] at hidx
        clear hx hsm
        go_wp2_with fail
        go_round
        case rel => exact ⟨m, by omega, by go_num, HN.out⟩
        case measure => simp [intOf]
      · have hN : cutN s = m + 1 := by
          rw [← HC.out]
          have : s[m] ≠ 255 := fun h => h255 (by rw [← hidx, h]; rfl)
          simp [cutFF, hsm, this]
        have hg : ((x : Int) == 255) = false := by simp; omega
        have hx255 : x < 255 := by omega
        have HN : Hid (cutN s = m + 1) := hN
        have hext : (s.extract 0 (m + 1)).size = m + 1 := by simp [ByteArray.size_extract]; omega
        obtain ⟨cap, w1, hconv, hb1, hlt1, hc1, hf1⟩ := conv_bytes (s.extract 0 (m + 1)) w
        rw [hext] at hconv
        have hfz := hf1 m (by omega)
        have hcm : w1.cell? ⟨w.heap.size, m, none⟩ = some (.int .u8 (x : Int)) := by
          rw [hc1 m (by omega)]
          simp [ByteArray.getElem_extract, hidx]
        have HU : Hid (hasUp s = true) := by show hasUp s = _; simp [hasUp, HN.out]
        have HR : Hid (aboveB s = ⟨(upL s.data.toList (m + 1)).toArray⟩) := by show aboveB s = _; simp [aboveB, HN.out]
        have hul := upL_len s.data.toList m (by simpa using hm)
        have hback : (convert 63 9 (.slice (some ⟨w.heap.size, 0, none⟩) (m + 1) cap)).run Tryd.prog (w1.setCell ⟨w.heap.size, m, none⟩ (.int .u8 ((x : Int) + 1))) = .ok (.string ⟨(upL s.data.toList (m + 1)).toArray⟩) (w1.setCell ⟨w.heap.size, m, none⟩ (.int .u8 ((x : Int) + 1))) := by
          have h := run_convert_bytes_back (P := Tryd.prog) (w1.setCell ⟨w.heap.size, m, none⟩ (.int .u8 ((x : Int) + 1))) 63 9 5 ⟨w.heap.size, 0, none⟩ cap (upL s.data.toList (m + 1)) Tryd.underlying63 Tryd.underlying5 Tryd.underlying9 (fun j hj => by
            rw [hul] at hj
            rw [addr_at]
            by_cases hjm : j = m
            · subst hjm
              rw [World.cell?_setCell_same _ _ _ hcm]
              rw [upL_last _ _ (by simpa using hm), UInt8.toNat_add]
              have : (s.data.toList[j]'(by simpa using hm)).toNat = x := hidx
              rw [this]
              congr 2
              have : (x + (1 : UInt8).toNat) % 2 ^ 8 = x + 1 := Nat.mod_eq_of_lt (by show x + 1 < 256; omega)
              rw [this]; rfl
            · rw [World.cell?_setCell_other _ _ _ _ (by simp), hc1 j (by omega), upL_at _ _ _ (by simpa using hm) (by omega)]
              simp [ByteArray.getElem_extract]
              rfl)
          rw [hul] at h
          exact h
        clear hc1 hf1 hx hsm hN hext hul
        go_wp2_with fail
        go_ret2
        exact ⟨by rw [HR.out, HU.out]; rfl, hb1.setCell (Nat.le_refl _) _⟩

end Go.Proofs.YtgljkgkophaefaaDoor
