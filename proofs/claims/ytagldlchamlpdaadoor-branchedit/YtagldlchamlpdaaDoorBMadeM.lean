import Derived.Test.YtagldlchamlpdaaDoorBMade2
import Derived.Test.YtagldlchamlpdaaDoorBrMath3
namespace Go.Proofs.YtagldlchamlpdaaDoor

theorem bl3 (a b c d e f : Nat) (x y : List UInt8) (ha : a < 256) (hb : b < 256) (hc : c < 256) (hd : d < 256) (he : e < 256) (hf : f < 256) (h : a < d ∨ (a = d ∧ (b < e ∨ (b = e ∧ c < f)))) :
    Op.bytesLess (UInt8.ofNat a :: UInt8.ofNat b :: UInt8.ofNat c :: x) (UInt8.ofNat d :: UInt8.ofNat e :: UInt8.ofNat f :: y) = true := by
  have lt : ∀ m n : Nat, m < 256 → n < 256 → m < n → UInt8.ofNat m < UInt8.ofNat n := fun m n hm hn hmn => by
    rw [UInt8.lt_iff_toNat_lt]; simp; omega
  simp only [Op.bytesLess, Bool.or_eq_true, decide_eq_true_eq, Bool.and_eq_true, beq_iff_eq]
  rcases h with h | ⟨rfl, h⟩
  · exact .inl (lt a d ha hd h)
  · refine .inr ⟨rfl, ?_⟩
    rcases h with h | ⟨rfl, h⟩
    · exact .inl (lt b e hb he h)
    · exact .inr ⟨rfl, .inl (lt c f hc hf h)⟩
theorem keyAt_list (T : List ByteArray) (i : Nat) : ∃ x, (keyAt T i).toList = threeL i ++ x := by
  unfold keyAt
  split
  · exact ⟨_, by rw [ByteArray.toList_eq, ByteArray.data_append, Array.toList_append]; rfl⟩
  · exact ⟨[], by rw [ByteArray.toList_eq, List.append_nil]; rfl⟩
theorem keyAt_lt (T : List ByteArray) (i : Nat) (hi : i + 1 < 17576) : ltK (keyAt T i) (keyAt T (i + 1)) = true := by
  obtain ⟨x, hx⟩ := keyAt_list T i
  obtain ⟨y, hy⟩ := keyAt_list T (i + 1)
  unfold ltK
  rw [hx, hy]
  unfold threeL
  exact bl3 _ _ _ _ _ _ x y (by omega) (by omega) (by omega) (by omega) (by omega) (by omega) (by omega)
theorem linksTo_get (T : List ByteArray) (k i : Nat) (h : i < (linksTo T k).length) : (linksTo T k)[i] = linkAt T i := by simp [linksTo]
theorem linksTo_rise (T : List ByteArray) (k : Nat) (hk : k ≤ 1000) : RiseK (linksTo T k) := fun i hi => by
  rw [linksTo_get, linksTo_get]
  rw [linksTo_len] at hi
  exact keyAt_lt T i (by omega)
theorem linksTo_may (T : List ByteArray) (k : Nat) (hk : k ≤ 1000) : ∀ p ∈ linksTo T k, mayK p = true := fun p hp => by
  obtain ⟨i, hi, rfl⟩ := List.getElem_of_mem hp
  rw [linksTo_get]
  rw [linksTo_len] at hi
  have := keyAt_size T i
  exact decide_eq_true ⟨by show 1 ≤ (keyAt T i).size; omega, by show (keyAt T i).size ≤ 255; omega, by show (2 : Int) ≤ 3 + (i : Int); omega, by show 3 + (i : Int) < 1048576; omega⟩
theorem linksTo_kids (T : List ByteArray) (k : Nat) : (kids 2 (linksTo T k)).Nodup := by
  rw [List.nodup_iff_pairwise_ne, List.pairwise_iff_getElem]
  intro i j hi hj hij
  obtain ⟨j', rfl⟩ : ∃ j', j = j' + 1 := ⟨j - 1, by omega⟩
  cases i with
  | zero =>
    simp only [kids, List.getElem_cons_zero, List.getElem_cons_succ, List.getElem_map, linksTo_get, linkAt]
    intro h; omega
  | succ i =>
    simp only [kids, List.getElem_cons_succ, List.getElem_map, linksTo_get, linkAt]
    intro h; omega
theorem chkB_made (T : List ByteArray) (k : Nat) (root : Bool) (h1 : 1 ≤ k) (hk : k ≤ 1000) : chkB 2 (linksTo T k) root = if 4072 < szB (linksTo T k) then some 2 else if root = false ∧ szB (linksTo T k) < 1777 then some 3 else none := by
  have hne : linksTo T k ≠ [] := fun h => by
    have := linksTo_len T k
    rw [h] at this
    simp at this
    omega
  have hal : (linksTo T k).all mayK = true := List.all_eq_true.2 (linksTo_may T k hk)
  unfold chkB
  rw [if_neg hne, if_neg (by rw [hal]; decide), if_neg (fun h => h (linksTo_rise T k hk)), if_neg (fun h => h (linksTo_kids T k))]
theorem linksTo_ok (T : List ByteArray) (k : Nat) : OkK (linksTo T k) := fun p hp => by
  obtain ⟨i, hi, rfl⟩ := List.getElem_of_mem hp
  rw [linksTo_get]
  have := (keyAt_size T i).2
  show (keyAt T i).size ≤ 140737488355328
  omega

/-- A body has one number of cells alone. -/
theorem decB_one {f : Int} {l : List Lk} {n : Nat} (h : chkB f l true = none) (hd : DecB n (layL (cellsK f l))) : n = l.length + 1 := by
  obtain ⟨h1, h2, h3, h4, h5, h6, h7⟩ := chkB_none h
  obtain ⟨g1, g2, g3, g4, g5, g6, g7⟩ := chkB_none hd.2.2
  obtain ⟨L, hL⟩ : ∃ L, L = cellsK f l := ⟨_, rfl⟩
  have hlen : L.length = l.length + 1 := by rw [hL, cellsK_len]
  have hs : sizeL L ≤ 4072 := by rw [hL, size_cellsK]; exact h6
  rw [← hL] at hd g3
  have s2 : 0 < n := by
    rcases Nat.eq_zero_or_pos n with h0 | h0
    · have hob := hd.2.1
      rw [h0, List.length_eq_zero_iff.1 (cellsB_len (layL L) 0)] at hob
      cases hob
    · exact h0
  rcases Nat.lt_trichotomy n (l.length + 1) with hlt | he | hgt
  · exfalso
    obtain ⟨m, rfl⟩ : ∃ m, n = m + 1 := ⟨n - 1, by omega⟩
    have hz := hd.1.2.2 (endL L (m + 1))
    have e : endB (layL L) (m + 1) (m + 1) = endL L (m + 1) := slot_lay L hs m (by omega)
    rw [e] at hz
    have hn : m + 1 < L.length := by omega
    have hml : m < l.length := by omega
    have hLm : L[m + 1] = cellK l[m] := by simp only [hL, cellsK, List.getElem_cons_succ, List.getElem_map]
    have hsz : L[m + 1].size = 5 + l[m].1.size := by rw [hLm]; exact cellK_size _
    have hle := endL_le hs (show m + 2 ≤ L.length by omega)
    rw [endL_succ L (m + 1) hn] at hle
    have := hz (Nat.le_refl _) (by omega)
    rw [first_byte L hs (m + 1) hn (by omega)] at this
    have hk := mayK_parts (h3 l[m] (List.getElem_mem _))
    rw [hLm, cellK_list] at this
    have := congrArg UInt8.toNat this
    simp at this
    omega
  · exact he
  · exfalso
    obtain ⟨m, hm⟩ : ∃ m, l.length + 1 = m + 1 := ⟨l.length, rfl⟩
    have e : endB (layL L) n (l.length + 1) = sizeL L := by
      rw [hm]
      show slotN (layL L) m = _
      rw [slot_lay L hs m (by omega)]
      unfold sizeL; rw [hlen, hm]
    have hz := (lay_ok L hs).2.2
    have e2 : endB (layL L) L.length L.length = sizeL L := endB_lay L hs _ (Nat.le_refl _)
    rw [e2] at hz
    have hg := cellsB_get (layL L) n (l.length + 1) (by rw [cellsB_len]; exact hgt)
    have hmem : (cellsB (layL L) n)[l.length + 1]'(by rw [cellsB_len]; exact hgt) ∈ (cellsB (layL L) n).drop 1 := by
      rw [List.mem_iff_getElem]
      refine ⟨l.length, by rw [List.length_drop, cellsB_len]; omega, ?_⟩
      rw [List.getElem_drop]
      simp only [Nat.add_comm 1 l.length]
    generalize (cellsB (layL L) n)[l.length + 1]'(by rw [cellsB_len]; exact hgt) = c at hmem hg
    have hmay := mayK_parts (g3 (linkC c) (List.mem_map.2 ⟨c, hmem, rfl⟩))
    have hokc : okK c = true := by
      have hob := hd.2.1
      cases hcl : cellsB (layL L) n with
      | nil => rw [hcl] at hob; cases hob
      | cons c0 cs =>
        rw [hcl] at hob hmem
        simp only [okBr, Bool.and_eq_true, List.all_eq_true] at hob
        exact hob.2 c (by simpa using hmem)
    obtain ⟨k1, k2⟩ := of_decide_eq_true hokc
    have h0 : c.data.toList.getD 0 0 = 0 := by
      rw [hg]
      unfold cellB
      rw [e, List.getD_eq_getElem?_getD, List.getElem?_take]
      split
      · rw [List.getElem?_drop, Nat.add_zero, ← List.getD_eq_getElem?_getD]
        by_cases h' : sizeL L < 4072
        · exact hz _ (Nat.le_refl _) h'
        · rw [List.getD_eq_getElem?_getD, List.getElem?_eq_none (by rw [layL_len L hs]; omega)]; rfl
      · rfl
    rw [h0] at k2
    rw [linkC_key c k1] at hmay
    have : (0 : UInt8).toNat = 0 := rfl
    omega

end Go.Proofs.YtagldlchamlpdaaDoor
