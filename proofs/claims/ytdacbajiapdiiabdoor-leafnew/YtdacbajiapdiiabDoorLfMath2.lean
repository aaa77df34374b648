import Derived.Test.YtdacbajiapdiiabDoorBase
namespace Go.Proofs.YtdacbajiapdiiabDoor

/-! The cells of pairs, as data. -/
def headP (k v : Nat) : List UInt8 := [UInt8.ofNat k, hi8 v, lo8 v]
def cellP (p : Pr) : ByteArray := ⟨(headP p.1.size p.2.size ++ (p.1.data.toList ++ p.2.data.toList)).toArray⟩
theorem cellP_list (p : Pr) : (cellP p).data.toList = headP p.1.size p.2.size ++ (p.1.data.toList ++ p.2.data.toList) := by simp [cellP]
theorem cellP_size (p : Pr) : (cellP p).size = 3 + p.1.size + p.2.size := by
  rw [← bsize, cellP_list]; simp [headP]; omega
theorem flat_cellP (l : List Pr) : (flatTo (l.map cellP) (l.map cellP).length).length + 2 * l.length = szL l := by
  unfold flatTo
  rw [List.take_of_length_le (Nat.le_refl _)]
  induction l with
  | nil => rfl
  | cons p l ih =>
    rw [List.map_cons, List.flatMap_cons, List.length_append, bsize, cellP_size, szL_cons, List.length_cons]
    unfold szP; omega
theorem size_cellP (l : List Pr) : sizeL (l.map cellP) = szL l := by
  have := flat_cellP l
  unfold sizeL endL
  rw [List.length_map] at *
  omega
def encL (l : List Pr) : ByteArray := ⟨(layL (l.map cellP)).toArray⟩

/-- The pair of a cell of three bytes or more, if it is one's. -/
def keyC (c : List UInt8) : Nat := min (c.getD 0 0).toNat (c.length - 3)
def pairC (c : ByteArray) : Pr := (⟨((c.data.toList.drop 3).take (keyC c.data.toList)).toArray⟩, ⟨((c.data.toList.drop 3).drop (keyC c.data.toList)).toArray⟩)
def okC (c : ByteArray) : Bool := decide (3 ≤ c.size ∧ cellP (pairC c) = c)
theorem keyC_le (c : List UInt8) : keyC c ≤ 255 ∧ keyC c ≤ c.length - 3 := by
  have := (c.getD 0 0).toNat_lt
  unfold keyC; omega
theorem pairC_k (c : ByteArray) : (pairC c).1.size = keyC c.data.toList := by
  have := (keyC_le c.data.toList).2
  rw [← bsize]; simp only [pairC]
  rw [List.length_take, List.length_drop]; omega
theorem pairC_v (c : ByteArray) : (pairC c).2.size = c.size - 3 - keyC c.data.toList := by
  rw [← bsize]; simp only [pairC]
  rw [List.length_drop, List.length_drop, bsize]
theorem pairC_flat (c : ByteArray) : (pairC c).1.data.toList ++ (pairC c).2.data.toList = c.data.toList.drop 3 := by
  simp only [pairC]; rw [List.take_append_drop]
/-- Just if the three bytes are the lengths. -/
theorem okC_head (c : ByteArray) (h : 3 ≤ c.size) : okC c = decide (headP (pairC c).1.size (pairC c).2.size = c.data.toList.take 3) := by
  unfold okC
  congr 1
  apply propext
  constructor
  · rintro ⟨_, he⟩
    have := congrArg (fun b : ByteArray => b.data.toList.take 3) he
    simp only [cellP_list] at this
    rw [List.take_append_of_le_length (by simp [headP]), List.take_of_length_le (by simp [headP])] at this
    exact this
  · intro he
    refine ⟨h, ba_ext' ?_⟩
    rw [cellP_list, he, pairC_flat, List.take_append_drop]
theorem hi8_eq {a b : Nat} (ha : a < 65536) (hb : b < 65536) (h1 : hi8 a = hi8 b) (h2 : lo8 a = lo8 b) : a = b := by
  have e1 := congrArg UInt8.toNat h1
  have e2 := congrArg UInt8.toNat h2
  simp [hi8, lo8] at e1 e2
  omega
theorem key_cellP (p : Pr) (hk : p.1.size ≤ 255) : keyC (cellP p).data.toList = p.1.size := by
  unfold keyC
  rw [bsize, cellP_size, cellP_list]
  have : ((headP p.1.size p.2.size ++ (p.1.data.toList ++ p.2.data.toList)).getD 0 0).toNat = p.1.size := by
    simp [headP]; omega
  rw [this]; omega
theorem pair_cellP (p : Pr) (hk : p.1.size ≤ 255) : pairC (cellP p) = p := by
  unfold pairC
  rw [key_cellP p hk, cellP_list]
  have e : (headP p.1.size p.2.size ++ (p.1.data.toList ++ p.2.data.toList)).drop 3 = p.1.data.toList ++ p.2.data.toList := by simp [headP]
  rw [e, ← bsize p.1, List.take_left, List.drop_left]
theorem ok_cellP (p : Pr) (hk : p.1.size ≤ 255) : okC (cellP p) = true := by
  unfold okC
  rw [pair_cellP p hk, cellP_size]
  simp; omega
theorem may_parts {p : Pr} (h : mayP p = true) : 1 ≤ p.1.size ∧ p.1.size ≤ 255 ∧ p.2.size ≤ 700 := by simpa [mayP] using h

/-- What Decode answers. -/
def DecOk (n : Nat) (b : List UInt8) : Prop := OkR b n ∧ (∀ c ∈ cellsB b n, okC c = true) ∧ chk ((cellsB b n).map pairC) true = none
def decL (n : Nat) (b : List UInt8) : List Pr := (cellsB b n).map pairC
theorem decL_len (n : Nat) (b : List UInt8) : (decL n b).length = n := by simp [decL, cellsB_len]
theorem dec_cells {n : Nat} {b : List UInt8} (h : DecOk n b) : (decL n b).map cellP = cellsB b n := by
  unfold decL
  rw [List.map_map]
  conv => rhs; rw [← List.map_id (cellsB b n)]
  refine List.map_congr_left (fun c hc => ?_)
  have := h.2.1 c hc
  unfold okC at this
  exact (of_decide_eq_true this).2
theorem dec_enc {n : Nat} {b : List UInt8} (h : DecOk n b) : layL ((decL n b).map cellP) = b := by
  rw [dec_cells h, lay_cells h.1]
theorem enc_dec {l : List Pr} (h : chk l true = none) : DecOk l.length (layL (l.map cellP)) ∧ decL l.length (layL (l.map cellP)) = l := by
  obtain ⟨h1, h2, h3, h4, h5⟩ := chk_none h
  have hs : sizeL (l.map cellP) ≤ 4072 := by rw [size_cellP]; exact h3
  have hc := cells_lay (l.map cellP) hs
  rw [List.length_map] at hc
  have he : ((l.map cellP).map pairC) = l := by
    rw [List.map_map]
    conv => rhs; rw [← List.map_id l]
    exact List.map_congr_left (fun p hp => pair_cellP p (may_parts (h1 p hp)).2.1)
  refine ⟨⟨?_, ?_, ?_⟩, ?_⟩
  · have := lay_ok (l.map cellP) hs
    rwa [List.length_map] at this
  · rw [hc]
    intro c hcm
    obtain ⟨p, hp, rfl⟩ := List.mem_map.1 hcm
    exact ok_cellP p (may_parts (h1 p hp)).2.1
  · rw [hc, he]; exact h
  · unfold decL; rw [hc, he]
theorem first_byte (L : List ByteArray) (h : sizeL L ≤ 4072) (i : Nat) (hi : i < L.length) (h0 : 0 < L[i].size) : (layL L).getD (endL L i) 0 = L[i].data.toList.getD 0 0 := by
  have e := lay_cell L h i hi
  rw [← e]
  unfold cellB
  rw [endB_lay L h i (by omega), endB_lay L h (i + 1) (by omega), endL_succ L i hi]
  rw [List.getD_eq_getElem?_getD, List.getD_eq_getElem?_getD, List.getElem?_take, if_pos (by omega), List.getElem?_drop, Nat.add_zero]
/-- A body has one number of pairs alone. -/
theorem dec_one {l : List Pr} {n : Nat} (h : chk l true = none) (hd : DecOk n (layL (l.map cellP))) : n = l.length := by
  obtain ⟨h1, h2, h3, h4, h5⟩ := chk_none h
  obtain ⟨g1, g2, g3, g4, g5⟩ := chk_none hd.2.2
  have s1 : 0 < l.length := List.length_pos_iff.2 h4
  have s2 : 0 < n := by
    have := List.length_pos_iff.2 g4
    simpa [cellsB_len] using this
  obtain ⟨L, hL⟩ : ∃ L, L = l.map cellP := ⟨_, rfl⟩
  have hlen : L.length = l.length := by rw [hL, List.length_map]
  have hs : sizeL L ≤ 4072 := by rw [hL, size_cellP]; exact h3
  rw [← hL] at hd g1
  rcases Nat.lt_trichotomy n l.length with hlt | he | hgt
  · exfalso
    obtain ⟨m, rfl⟩ : ∃ m, n = m + 1 := ⟨n - 1, by omega⟩
    have hz := hd.1.2.2 (endL L (m + 1))
    have e : endB (layL L) (m + 1) (m + 1) = endL L (m + 1) := slot_lay L hs m (by omega)
    rw [e] at hz
    have hn : m + 1 < L.length := by omega
    have hsz : L[m + 1].size = 3 + l[m + 1].1.size + l[m + 1].2.size := by
      simp only [hL, List.getElem_map]; exact cellP_size _
    have hle := endL_le hs (show m + 2 ≤ L.length by omega)
    rw [endL_succ L (m + 1) hn] at hle
    have := hz (Nat.le_refl _) (by omega)
    rw [first_byte L hs (m + 1) hn (by omega)] at this
    have hk := may_parts (h1 l[m + 1] (List.getElem_mem _))
    simp only [hL, List.getElem_map, cellP_list] at this
    have := congrArg UInt8.toNat this
    simp [headP] at this
    omega
  · exact he
  · exfalso
    obtain ⟨m, hm⟩ : ∃ m, l.length = m + 1 := ⟨l.length - 1, by omega⟩
    have e : endB (layL L) n l.length = sizeL L := by
      rw [hm]
      show slotN (layL L) m = _
      rw [slot_lay L hs m (by omega)]
      unfold sizeL; rw [hlen, hm]
    have hz := (lay_ok L hs).2.2
    have e2 : endB (layL L) L.length L.length = sizeL L := endB_lay L hs _ (Nat.le_refl _)
    rw [e2] at hz
    have hmem : (cellsB (layL L) n)[l.length]'(by rw [cellsB_len]; exact hgt) ∈ cellsB (layL L) n := List.getElem_mem _
    have hg := cellsB_get (layL L) n l.length (by rw [cellsB_len]; exact hgt)
    generalize (cellsB (layL L) n)[l.length]'(by rw [cellsB_len]; exact hgt) = c at hmem hg
    have hmay := may_parts (g1 (pairC c) (List.mem_map.2 ⟨c, hmem, rfl⟩))
    rw [pairC_k] at hmay
    have h0 : c.data.toList.getD 0 0 = 0 := by
      rw [hg]
      unfold cellB
      rw [e, List.getD_eq_getElem?_getD, List.getElem?_take]
      split
      · rw [List.getElem?_drop, Nat.add_zero, ← List.getD_eq_getElem?_getD]
        by_cases h' : sizeL L < 4072
        · exact hz _ (Nat.le_refl _) h'
        · rw [List.getD_eq_getElem?_getD, List.getElem?_eq_none (by rw [layL_len L hs]; omega)]; rfl
      · rfl
    unfold keyC at hmay
    rw [h0] at hmay
    simp at hmay

/-- The document's way: what a cell could be of. -/
def rpairC (c : ByteArray) : Pr := if c.size < 3 ∨ c.size < 3 + (c.data.toList.getD 0 0).toNat then (⟨#[]⟩, ⟨#[]⟩) else pairC c
theorem rpair_ok {c : ByteArray} (h : okC c = true) : rpairC c = pairC c := by
  have h3 : 3 ≤ c.size := (of_decide_eq_true h).1
  rw [okC_head c h3] at h
  have he := of_decide_eq_true h
  have hk := pairC_k c
  have h0 : UInt8.ofNat (pairC c).1.size = c.data.toList.getD 0 0 := by
    have := congrArg (fun l : List UInt8 => l.getD 0 0) he
    simp only [headP] at this
    rw [List.getD_cons_zero] at this
    rw [this, List.getD_eq_getElem?_getD, List.getD_eq_getElem?_getD, List.getElem?_take, if_pos (by omega)]
  have h1 := congrArg UInt8.toNat h0
  have hle := keyC_le c.data.toList
  rw [hk] at h1
  have : (UInt8.ofNat (keyC c.data.toList)).toNat = keyC c.data.toList := by simp; omega
  rw [this] at h1
  unfold rpairC
  rw [if_neg]
  rw [← h1]
  have := hle.2
  rw [bsize] at this
  omega
theorem rpair_may {c : ByteArray} (h : mayP (rpairC c) = true) : rpairC c = pairC c ∧ 3 ≤ c.size := by
  unfold rpairC at h ⊢
  split at h
  · have h0 : (1 : Nat) ≤ 0 := (may_parts h).1
    omega
  · rename_i hn
    rw [if_neg hn]
    exact ⟨rfl, by omega⟩
theorem dec_ref {n : Nat} {b : List UInt8} (hok : OkR b n) : DecOk n b ↔ (chk ((cellsB b n).map rpairC) true = none ∧ layL (((cellsB b n).map rpairC).map cellP) = b) := by
  constructor
  · intro h
    have e : (cellsB b n).map rpairC = (cellsB b n).map pairC := List.map_congr_left (fun c hc => rpair_ok (h.2.1 c hc))
    rw [e]
    exact ⟨h.2.2, dec_enc h⟩
  · rintro ⟨h1, h2⟩
    obtain ⟨c1, c2, c3, c4, c5⟩ := chk_none h1
    have e : (cellsB b n).map rpairC = (cellsB b n).map pairC := List.map_congr_left (fun c hc => (rpair_may (c1 _ (List.mem_map.2 ⟨c, hc, rfl⟩))).1)
    have hcells := cells_lay (((cellsB b n).map rpairC).map cellP) (by rw [size_cellP]; exact c3)
    rw [h2, List.length_map, List.length_map, cellsB_len] at hcells
    refine ⟨hok, fun c hc => ?_, by rw [← e]; exact h1⟩
    have hm := rpair_may (c1 _ (List.mem_map.2 ⟨c, hc, rfl⟩))
    unfold okC
    refine decide_eq_true ⟨hm.2, ?_⟩
    obtain ⟨i, hi, rfl⟩ := List.getElem_of_mem hc
    have : (cellsB b n)[i] = ((((cellsB b n).map rpairC).map cellP))[i]'(by simpa using hi) := by simp only [← hcells]
    conv => rhs; rw [this]
    rw [List.getElem_map, List.getElem_map, hm.1]

end Go.Proofs.YtdacbajiapdiiabDoor
