import Derived.Test.YtocfedakjcghnaaDoorRLay
namespace Go.Proofs.YtocfedakjcghnaaDoor
open Go.RowKit

def zS : ByteArray := ⟨#[122]⟩
/-- The texts, k of them from both ends changed. -/
def sw (l : List ByteArray) (k : Nat) : List ByteArray := (List.range l.length).map fun j => if j < k ∨ l.length - k ≤ j then l.getD (l.length - 1 - j) ByteArray.empty else l.getD j ByteArray.empty
def turnL (l : List ByteArray) : List ByteArray := (sw l (l.length / 2)).set (l.length - 1) ((sw l (l.length / 2)).getD (l.length - 1) ByteArray.empty ++ zS)
theorem sw_len (l : List ByteArray) (k : Nat) : (sw l k).length = l.length := by simp [sw]
theorem turnL_len (l : List ByteArray) : (turnL l).length = l.length := by simp [turnL, sw_len]
theorem sw_get (l : List ByteArray) (k j : Nat) (h : j < (sw l k).length) : (sw l k)[j] = if j < k ∨ l.length - k ≤ j then l.getD (l.length - 1 - j) ByteArray.empty else l.getD j ByteArray.empty := by
  simp [sw]
theorem sw_zero (l : List ByteArray) : sw l 0 = l := by
  refine List.ext_getElem (sw_len l 0) (fun j h1 h2 => ?_)
  rw [sw_get, if_neg (by rw [sw_len] at h1; omega), List.getD_eq_getElem?_getD, List.getElem?_eq_getElem h2]; rfl
theorem sw_step (l : List ByteArray) (k : Nat) (hk : k < l.length / 2) (h1 : l.length - 1 - k < (sw l k).length) (h2 : k < (sw l k).length) :
    ((sw l k).set k (sw l k)[l.length - 1 - k]).set (l.length - 1 - k) (sw l k)[k] = sw l (k + 1) := by
  refine List.ext_getElem (by simp [sw_len]) (fun j g1 g2 => ?_)
  have hj : j < l.length := by rw [sw_len] at g2; exact g2
  have hk0 := sw_get l k k h2
  have hk1 := sw_get l k (l.length - 1 - k) h1
  have hk2 := sw_get l k j (by rw [sw_len]; exact hj)
  generalize (sw l k)[k] = X at *
  generalize (sw l k)[l.length - 1 - k] = Y at *
  rw [List.getElem_set, List.getElem_set, hk2, sw_get, hk0, hk1]
  · by_cases e1 : l.length - 1 - k = j
    · rw [if_pos e1, if_neg (by omega), if_pos (by omega)]
      congr 1; omega
    · rw [if_neg e1]
      by_cases e2 : k = j
      · rw [if_pos e2, if_neg (by omega), if_pos (by omega)]
        congr 1; omega
      · rw [if_neg e2]
        by_cases e3 : j < k ∨ l.length - k ≤ j
        · rw [if_pos e3, if_pos (by omega)]
        · rw [if_neg e3, if_neg (by omega)]
theorem strs_set (l : List ByteArray) (k : Nat) (x : ByteArray) : (strs l).set k (.string x) = strs (l.set k x) := by simp [strs, List.map_set]
theorem getD_eq (l : List ByteArray) (j : Nat) (h : j < l.length) : l.getD j ByteArray.empty = l[j] := by
  rw [List.getD_eq_getElem?_getD, List.getElem?_eq_getElem h]; rfl
theorem flat_bound (M : Nat) : ∀ l : List ByteArray, (∀ c ∈ l, c.size ≤ M) → (l.flatMap (fun c => c.data.toList)).length ≤ l.length * M
  | [], _ => by simp
  | x :: r, h => by
    have h1 := flat_bound M r (fun c hc => h c (List.mem_cons_of_mem _ hc))
    have h2 := h x List.mem_cons_self
    rw [List.flatMap_cons, List.length_append, bsize, List.length_cons, Nat.succ_mul]
    omega
theorem mem_size : ∀ (l : List ByteArray) (c : ByteArray), c ∈ l → c.size ≤ (l.flatMap (fun c => c.data.toList)).length
  | x :: r, c, h => by
    rw [List.flatMap_cons, List.length_append, bsize]
    rcases List.mem_cons.1 h with rfl | h
    · omega
    · have := mem_size r c h; omega
theorem sizeL_eq (l : List ByteArray) : sizeL l = 2 * l.length + (l.flatMap (fun c => c.data.toList)).length := by
  show 2 * l.length + (flatTo l l.length).length = _
  unfold flatTo; rw [List.take_of_length_le (Nat.le_refl _)]
theorem size_z (x : ByteArray) : (x ++ zS).size = x.size + 1 := by rw [ByteArray.size_append]; rfl
theorem turn_size (l : List ByteArray) (h1 : l.length ≤ 1048576) (h2 : sizeL l ≤ 4194304) : sizeL (turnL l) ≤ 1152921504606846976 := by
  rw [sizeL_eq] at h2
  have hm : ∀ c ∈ sw l (l.length / 2), c.size ≤ 4194304 := by
    intro c hc
    obtain ⟨j, hj, rfl⟩ := List.getElem_of_mem hc
    rw [sw_len] at hj
    rw [sw_get]
    split
    · rw [getD_eq l _ (by omega)]
      have := mem_size l _ (List.getElem_mem (show l.length - 1 - j < l.length by omega)); omega
    · rw [getD_eq l _ hj]
      have := mem_size l _ (List.getElem_mem hj); omega
  have hb : ∀ c ∈ turnL l, c.size ≤ 4194305 := by
    intro c hc
    rcases List.mem_or_eq_of_mem_set hc with h | rfl
    · have := hm c h; omega
    · rw [size_z]
      by_cases h0 : l.length = 0
      · have : sw l (l.length / 2) = [] := List.length_eq_zero_iff.1 (by rw [sw_len]; exact h0)
        rw [this]; simp
      · rw [getD_eq _ _ (by rw [sw_len]; omega)]
        have := hm _ (List.getElem_mem (show l.length - 1 < (sw l (l.length / 2)).length by rw [sw_len]; omega)); omega
  have := flat_bound 4194305 (turnL l) hb
  rw [sizeL_eq, turnL_len] at *
  have h3 : l.length * 4194305 ≤ 1048576 * 4194305 := Nat.mul_le_mul_right _ h1
  omega

set_option maxHeartbeats 400000 in
theorem turn_nil (a : Option Addr) (c : Nat) (w : World) : Calls Tryd.prog 20 #[.slice a 0 c] w fun e w' => e = .returned (.slice a 0 c) ∧ w = w' := by
  go_enter Tryd.func20, Tryd.ntmps20
  go_wp2
  go_loop [3] (fun i => i = .int .i64 0) (fun _ => 0)
  case atStart => rfl
  case round =>
    subst hrel
    go_wp2
    go_ret
    exact ⟨rfl, rfl⟩

set_option maxRecDepth 100000 in
set_option maxHeartbeats 4000000 in
theorem turn_some (base g n m c : Nat) (l tl : List ByteArray) (w : World) (hn : l.length = n) (h0 : 0 < n) (hm : n ≤ 1048576) (hnm : n ≤ m) (hs : sizeL l ≤ 4194304) (ho : w.ownsRow base 9 1 (.slice (some ⟨g, 0, none⟩) m c) m (strs (l ++ tl))) :
    Calls Tryd.prog 20 #[.slice (some ⟨g, 0, none⟩) n c] w fun e w' => e = .returned (.slice (some ⟨g, 0, none⟩) n c) ∧ w'.ownsRow base 9 1 (.slice (some ⟨g, 0, none⟩) m c) m (strs (turnL l ++ tl)) ∧ Sole g w w' := by
  have HN := hide hn
  have HO := hide ho
  have HSZ := hide hs
  obtain ⟨h, hh⟩ : ∃ h, h = n / 2 := ⟨_, rfl⟩
  have hd : (n : Int).tdiv 2 = (h : Int) := by rw [Int.tdiv_eq_ediv_of_nonneg (by omega)]; omega
  have hwd : IntKind.i64.wrap (h : Int) = (h : Int) := by rw [IntKind.wrap_i64]; omega
  have HH := hide hh
  have hhn : 2 * h ≤ n := by omega
  have hw1 : IntKind.i64.wrap ((n : Int) - 1) = (n : Int) - 1 := by rw [IntKind.wrap_i64]; omega
  clear hn ho hs hh
  go_enter Tryd.func20, Tryd.ntmps20
  go_wp2
  go_loopw [3] (fun i wr => ∃ k : Nat, k ≤ h ∧ i = .int .i64 k ∧ wr.ownsRow base 9 1 (.slice (some ⟨g, 0, none⟩) m c) m (strs (sw l k ++ tl)) ∧ Sole g w wr) (fun i _ => h - (intOf i).toNat)
  case atStart => exact ⟨0, Nat.zero_le _, rfl, by rw [sw_zero]; exact HO.out, Sole.refl _ _⟩
  case round =>
    obtain ⟨k, hk, rfl, hown, hsole⟩ := hrel
    clear HO
    by_cases hlt : k < h
    · obtain ⟨j, hj⟩ : ∃ j, j = n - 1 - k := ⟨_, rfl⟩
      have hjn : j < n := by omega
      have hkn : k < n := by omega
      have hkj : ¬ k = j := by omega
      have hjk : ¬ j = k := by omega
      have lk : k < (sw l k).length := by rw [sw_len, HN.out]; exact hkn
      have lj : j < (sw l k).length := by rw [sw_len, HN.out]; exact hjn
      have hml : m = l.length + tl.length := by
        have := hown.1
        rw [strs_length, List.length_append, sw_len] at this; omega
      have ck := hown.cellAt k (by omega)
      rw [strs_get _ k (by rw [List.length_append]; omega), List.getElem_append_left lk] at ck
      have cj := hown.cellAt j (by omega)
      rw [strs_get _ j (by rw [List.length_append]; omega), List.getElem_append_left lj] at cj
      have zk := hown.frozenAt k
      have zj := hown.frozenAt j
      have hst := sw_step l k (by have := HH.out; have := HN.out; omega) (by rw [sw_len, HN.out]; omega) lk
      simp only [HN.out, ← hj] at hst
      obtain ⟨x, hx⟩ : ∃ x, x = (sw l k)[k] := ⟨_, rfl⟩
      obtain ⟨y, hy⟩ : ∃ y, y = (sw l k)[j] := ⟨_, rfl⟩
      rw [← hx] at ck hst
      rw [← hy] at cj hst
      have ho2 := ((hown.stored k (.string y)).1.stored j (.string x)).1
      rw [strs_set, strs_set, List.set_append_left _ _ lk, List.set_append_left _ _ (by rw [List.length_set]; exact lj), hst] at ho2
      have HO2 := hide ho2
      have HS2 : Hid (Sole g w ((wr.setCell ⟨g, k, none⟩ (.string y)).setCell ⟨g, j, none⟩ (.string x))) := (hsole.trans (Sole.set g k wr _)).trans (Sole.set g j _ _)
      have hw2 : IntKind.i64.wrap ((n : Int) - 1 - (k : Int)) = (j : Int) := by rw [IntKind.wrap_i64]; omega
      have hltI : (k : Int) < (h : Int) := by omega
      have hkI : (k : Int) < (n : Int) := by omega
      have hjI : (j : Int) < (n : Int) := by omega
      have j0 : (0 : Int) ≤ (j : Int) := by omega
      clear hx hy hst ho2 hown hsole hml hj lk lj
      go_wp2
      go_roundw
      case rel => exact ⟨k + 1, by omega, by go_num, HO2.out, HS2.out⟩
      case measure => simp [intOf]; omega
    · have hkh : k = h := by omega
      have hltI : ¬ (k : Int) < (h : Int) := by omega
      obtain ⟨j, hj⟩ : ∃ j, j = n - 1 := ⟨_, rfl⟩
      have hjn : j < n := by omega
      have lj : j < (sw l k).length := by rw [sw_len, HN.out]; exact hjn
      have cj := hown.cellAt j (by omega)
      rw [strs_get _ j (by rw [List.length_append]; omega), List.getElem_append_left lj] at cj
      have zj := hown.frozenAt j
      have ht : (sw l k).set j ((sw l k)[j] ++ zS) = turnL l := by
        unfold turnL
        have hh2 : l.length / 2 = k := by rw [HN.out]; have := HH.out; omega
        rw [hh2, HN.out, ← hj, getD_eq _ _ lj]
      obtain ⟨x, hx⟩ : ∃ x, x = (sw l k)[j] := ⟨_, rfl⟩
      rw [← hx] at cj ht
      have hxs : x.size ≤ 4194304 := by
        rw [hx, sw_get]
        have h2 := HSZ.out
        rw [sizeL_eq] at h2
        split
        · rw [getD_eq l _ (by have := HN.out; omega)]
          have := mem_size l _ (List.getElem_mem (show l.length - 1 - j < l.length by have := HN.out; omega)); omega
        · rw [getD_eq l _ (by have := HN.out; omega)]
          have := mem_size l _ (List.getElem_mem (show j < l.length by have := HN.out; omega)); omega
      have ho2 := (hown.stored j (.string (x ++ zS))).1
      rw [strs_set, List.set_append_left _ _ lj, ht] at ho2
      have HO2 := hide ho2
      have HS2 : Hid (Sole g w (wr.setCell ⟨g, j, none⟩ (.string (x ++ zS)))) := hsole.trans (Sole.set g j wr _)
      have hw2 : IntKind.i64.wrap ((n : Int) - 1) = (j : Int) := by rw [IntKind.wrap_i64]; omega
      have hjI : (j : Int) < (n : Int) := by omega
      have h0I : (0 : Int) < (n : Int) := by omega
      clear hx ht ho2 hown hsole hj lj hw1
      go_wp2
      go_ret
      exact ⟨rfl, HO2.out, HS2.out⟩

end Go.Proofs.YtocfedakjcghnaaDoor
