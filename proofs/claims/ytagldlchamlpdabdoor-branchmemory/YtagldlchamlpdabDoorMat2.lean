import Derived.Test.YtagldlchamlpdabDoorBase
import Derived.Test.YtagldlchamlpdabDoorBrMath2
import Derived.Test.YtagldlchamlpdabDoorLGet
import Derived.Test.YtagldlchamlpdabDoorBMade2
namespace Go.Proofs.YtagldlchamlpdabDoor

/-! The cells of pairs, as data. -/
def headP (k v : Nat) : List UInt8 := [UInt8.ofNat k, hi8 v, lo8 v]
def cellP (p : Pr) : ByteArray := ⟨(headP p.1.size p.2.size ++ (p.1.data.toList ++ p.2.data.toList)).toArray⟩
theorem cellP_list (p : Pr) : (cellP p).data.toList = headP p.1.size p.2.size ++ (p.1.data.toList ++ p.2.data.toList) := by simp [cellP]
theorem cellP_size (p : Pr) : (cellP p).size = 3 + p.1.size + p.2.size := by
  rw [← bsize, cellP_list]; simp [headP]; omega
theorem flat_cellP (l : List Pr) : (flatTo (l.map cellP) (l.map cellP).length).length + 2 * l.length = szL l := by
  unfold flatTo
  rw [List.take_of_length_le (Nat.le_refl _)]
  induction l with
  | nil => rfl
  | cons p l ih =>
    rw [List.map_cons, List.flatMap_cons, List.length_append, bsize, cellP_size, szL_cons, List.length_cons]
    unfold szP; omega
theorem size_cellP (l : List Pr) : sizeL (l.map cellP) = szL l := by
  have := flat_cellP l
  unfold sizeL endL
  rw [List.length_map] at *
  omega
def encL (l : List Pr) : ByteArray := ⟨(layL (l.map cellP)).toArray⟩

/-- The pair of a cell of three bytes or more, if it is one's. -/
def keyC (c : List UInt8) : Nat := min (c.getD 0 0).toNat (c.length - 3)
def pairC (c : ByteArray) : Pr := (⟨((c.data.toList.drop 3).take (keyC c.data.toList)).toArray⟩, ⟨((c.data.toList.drop 3).drop (keyC c.data.toList)).toArray⟩)
def okC (c : ByteArray) : Bool := decide (3 ≤ c.size ∧ cellP (pairC c) = c)
theorem keyC_le (c : List UInt8) : keyC c ≤ 255 ∧ keyC c ≤ c.length - 3 := by
  have := (c.getD 0 0).toNat_lt
  unfold keyC; omega
theorem pairC_k (c : ByteArray) : (pairC c).1.size = keyC c.data.toList := by
  have := (keyC_le c.data.toList).2
  rw [← bsize]; simp only [pairC]
  rw [List.length_take, List.length_drop]; omega
theorem pairC_v (c : ByteArray) : (pairC c).2.size = c.size - 3 - keyC c.data.toList := by
  rw [← bsize]; simp only [pairC]
  rw [List.length_drop, List.length_drop, bsize]
theorem pairC_flat (c : ByteArray) : (pairC c).1.data.toList ++ (pairC c).2.data.toList = c.data.toList.drop 3 := by
  simp only [pairC]; rw [List.take_append_drop]
/-- Just if the three bytes are the lengths. -/
theorem okC_head (c : ByteArray) (h : 3 ≤ c.size) : okC c = decide (headP (pairC c).1.size (pairC c).2.size = c.data.toList.take 3) := by
  unfold okC
  congr 1
  apply propext
  constructor
  · rintro ⟨_, he⟩
    have := congrArg (fun b : ByteArray => b.data.toList.take 3) he
    simp only [cellP_list] at this
    rw [List.take_append_of_le_length (by simp [headP]), List.take_of_length_le (by simp [headP])] at this
    exact this
  · intro he
    refine ⟨h, ba_ext' ?_⟩
    rw [cellP_list, he, pairC_flat, List.take_append_drop]
theorem hi8_eq {a b : Nat} (ha : a < 65536) (hb : b < 65536) (h1 : hi8 a = hi8 b) (h2 : lo8 a = lo8 b) : a = b := by
  have e1 := congrArg UInt8.toNat h1
  have e2 := congrArg UInt8.toNat h2
  simp [hi8, lo8] at e1 e2
  omega
theorem key_cellP (p : Pr) (hk : p.1.size ≤ 255) : keyC (cellP p).data.toList = p.1.size := by
  unfold keyC
  rw [bsize, cellP_size, cellP_list]
  have : ((headP p.1.size p.2.size ++ (p.1.data.toList ++ p.2.data.toList)).getD 0 0).toNat = p.1.size := by
    simp [headP]; omega
  rw [this]; omega
theorem pair_cellP (p : Pr) (hk : p.1.size ≤ 255) : pairC (cellP p) = p := by
  unfold pairC
  rw [key_cellP p hk, cellP_list]
  have e : (headP p.1.size p.2.size ++ (p.1.data.toList ++ p.2.data.toList)).drop 3 = p.1.data.toList ++ p.2.data.toList := by simp [headP]
  rw [e, ← bsize p.1, List.take_left, List.drop_left]
theorem ok_cellP (p : Pr) (hk : p.1.size ≤ 255) : okC (cellP p) = true := by
  unfold okC
  rw [pair_cellP p hk, cellP_size]
  simp; omega
theorem may_parts {p : Pr} (h : mayP p = true) : 1 ≤ p.1.size ∧ p.1.size ≤ 255 ∧ p.2.size ≤ 700 := by simpa [mayP] using h

/-- What Decode answers. -/
def DecOk (n : Nat) (b : List UInt8) : Prop := OkR b n ∧ (∀ c ∈ cellsB b n, okC c = true) ∧ chk ((cellsB b n).map pairC) true = none
def decL (n : Nat) (b : List UInt8) : List Pr := (cellsB b n).map pairC
theorem decL_len (n : Nat) (b : List UInt8) : (decL n b).length = n := by simp [decL, cellsB_len]
theorem dec_cells {n : Nat} {b : List UInt8} (h : DecOk n b) : (decL n b).map cellP = cellsB b n := by
  unfold decL
  rw [List.map_map]
  conv => rhs; rw [← List.map_id (cellsB b n)]
  refine List.map_congr_left (fun c hc => ?_)
  have := h.2.1 c hc
  unfold okC at this
  exact (of_decide_eq_true this).2
theorem dec_enc {n : Nat} {b : List UInt8} (h : DecOk n b) : layL ((decL n b).map cellP) = b := by
  rw [dec_cells h, lay_cells h.1]
theorem enc_dec {l : List Pr} (h : chk l true = none) : DecOk l.length (layL (l.map cellP)) ∧ decL l.length (layL (l.map cellP)) = l := by
  obtain ⟨h1, h2, h3, h4, h5⟩ := chk_none h
  have hs : sizeL (l.map cellP) ≤ 4072 := by rw [size_cellP]; exact h3
  have hc := cells_lay (l.map cellP) hs
  rw [List.length_map] at hc
  have he : ((l.map cellP).map pairC) = l := by
    rw [List.map_map]
    conv => rhs; rw [← List.map_id l]
    exact List.map_congr_left (fun p hp => pair_cellP p (may_parts (h1 p hp)).2.1)
  refine ⟨⟨?_, ?_, ?_⟩, ?_⟩
  · have := lay_ok (l.map cellP) hs
    rwa [List.length_map] at this
  · rw [hc]
    intro c hcm
    obtain ⟨p, hp, rfl⟩ := List.mem_map.1 hcm
    exact ok_cellP p (may_parts (h1 p hp)).2.1
  · rw [hc, he]; exact h
  · unfold decL; rw [hc, he]
theorem first_byte (L : List ByteArray) (h : sizeL L ≤ 4072) (i : Nat) (hi : i < L.length) (h0 : 0 < L[i].size) : (layL L).getD (endL L i) 0 = L[i].data.toList.getD 0 0 := by
  have e := lay_cell L h i hi
  rw [← e]
  unfold cellB
  rw [endB_lay L h i (by omega), endB_lay L h (i + 1) (by omega), endL_succ L i hi]
  rw [List.getD_eq_getElem?_getD, List.getD_eq_getElem?_getD, List.getElem?_take, if_pos (by omega), List.getElem?_drop, Nat.add_zero]
/-- A body has one number of pairs alone. -/
theorem dec_one {l : List Pr} {n : Nat} (h : chk l true = none) (hd : DecOk n (layL (l.map cellP))) : n = l.length := by
  obtain ⟨h1, h2, h3, h4, h5⟩ := chk_none h
  obtain ⟨g1, g2, g3, g4, g5⟩ := chk_none hd.2.2
  have s1 : 0 < l.length := List.length_pos_iff.2 h4
  have s2 : 0 < n := by
    have := List.length_pos_iff.2 g4
    simpa [cellsB_len] using this
  obtain ⟨L, hL⟩ : ∃ L, L = l.map cellP := ⟨_, rfl⟩
  have hlen : L.length = l.length := by rw [hL, List.length_map]
  have hs : sizeL L ≤ 4072 := by rw [hL, size_cellP]; exact h3
  rw [← hL] at hd g1
  rcases Nat.lt_trichotomy n l.length with hlt | he | hgt
  · exfalso
    obtain ⟨m, rfl⟩ : ∃ m, n = m + 1 := ⟨n - 1, by omega⟩
    have hz := hd.1.2.2 (endL L (m + 1))
    have e : endB (layL L) (m + 1) (m + 1) = endL L (m + 1) := slot_lay L hs m (by omega)
    rw [e] at hz
    have hn : m + 1 < L.length := by omega
    have hsz : L[m + 1].size = 3 + l[m + 1].1.size + l[m + 1].2.size := by
      simp only [hL, List.getElem_map]; exact cellP_size _
    have hle := endL_le hs (show m + 2 ≤ L.length by omega)
    rw [endL_succ L (m + 1) hn] at hle
    have := hz (Nat.le_refl _) (by omega)
    rw [first_byte L hs (m + 1) hn (by omega)] at this
    have hk := may_parts (h1 l[m + 1] (List.getElem_mem _))
    simp only [hL, List.getElem_map, cellP_list] at this
    have := congrArg UInt8.toNat this
    simp [headP] at this
    omega
  · exact he
  · exfalso
    obtain ⟨m, hm⟩ : ∃ m, l.length = m + 1 := ⟨l.length - 1, by omega⟩
    have e : endB (layL L) n l.length = sizeL L := by
      rw [hm]
      show slotN (layL L) m = _
      rw [slot_lay L hs m (by omega)]
      unfold sizeL; rw [hlen, hm]
    have hz := (lay_ok L hs).2.2
    have e2 : endB (layL L) L.length L.length = sizeL L := endB_lay L hs _ (Nat.le_refl _)
    rw [e2] at hz
    have hmem : (cellsB (layL L) n)[l.length]'(by rw [cellsB_len]; exact hgt) ∈ cellsB (layL L) n := List.getElem_mem _
    have hg := cellsB_get (layL L) n l.length (by rw [cellsB_len]; exact hgt)
    generalize (cellsB (layL L) n)[l.length]'(by rw [cellsB_len]; exact hgt) = c at hmem hg
    have hmay := may_parts (g1 (pairC c) (List.mem_map.2 ⟨c, hmem, rfl⟩))
    rw [pairC_k] at hmay
    have h0 : c.data.toList.getD 0 0 = 0 := by
      rw [hg]
      unfold cellB
      rw [e, List.getD_eq_getElem?_getD, List.getElem?_take]
      split
      · rw [List.getElem?_drop, Nat.add_zero, ← List.getD_eq_getElem?_getD]
        by_cases h' : sizeL L < 4072
        · exact hz _ (Nat.le_refl _) h'
        · rw [List.getD_eq_getElem?_getD, List.getElem?_eq_none (by rw [layL_len L hs]; omega)]; rfl
      · rfl
    unfold keyC at hmay
    rw [h0] at hmay
    simp at hmay

/-- The document's way: what a cell could be of. -/
def rpairC (c : ByteArray) : Pr := if c.size < 3 ∨ c.size < 3 + (c.data.toList.getD 0 0).toNat then (⟨#[]⟩, ⟨#[]⟩) else pairC c
theorem rpair_ok {c : ByteArray} (h : okC c = true) : rpairC c = pairC c := by
  have h3 : 3 ≤ c.size := (of_decide_eq_true h).1
  rw [okC_head c h3] at h
  have he := of_decide_eq_true h
  have hk := pairC_k c
  have h0 : UInt8.ofNat (pairC c).1.size = c.data.toList.getD 0 0 := by
    have := congrArg (fun l : List UInt8 => l.getD 0 0) he
    simp only [headP] at this
    rw [List.getD_cons_zero] at this
    rw [this, List.getD_eq_getElem?_getD, List.getD_eq_getElem?_getD, List.getElem?_take, if_pos (by omega)]
  have h1 := congrArg UInt8.toNat h0
  have hle := keyC_le c.data.toList
  rw [hk] at h1
  have : (UInt8.ofNat (keyC c.data.toList)).toNat = keyC c.data.toList := by simp; omega
  rw [this] at h1
  unfold rpairC
  rw [if_neg]
  rw [← h1]
  have := hle.2
  rw [bsize] at this
  omega
theorem rpair_may {c : ByteArray} (h : mayP (rpairC c) = true) : rpairC c = pairC c ∧ 3 ≤ c.size := by
  unfold rpairC at h ⊢
  split at h
  · have h0 : (1 : Nat) ≤ 0 := (may_parts h).1
    omega
  · rename_i hn
    rw [if_neg hn]
    exact ⟨rfl, by omega⟩
theorem dec_ref {n : Nat} {b : List UInt8} (hok : OkR b n) : DecOk n b ↔ (chk ((cellsB b n).map rpairC) true = none ∧ layL (((cellsB b n).map rpairC).map cellP) = b) := by
  constructor
  · intro h
    have e : (cellsB b n).map rpairC = (cellsB b n).map pairC := List.map_congr_left (fun c hc => rpair_ok (h.2.1 c hc))
    rw [e]
    exact ⟨h.2.2, dec_enc h⟩
  · rintro ⟨h1, h2⟩
    obtain ⟨c1, c2, c3, c4, c5⟩ := chk_none h1
    have e : (cellsB b n).map rpairC = (cellsB b n).map pairC := List.map_congr_left (fun c hc => (rpair_may (c1 _ (List.mem_map.2 ⟨c, hc, rfl⟩))).1)
    have hcells := cells_lay (((cellsB b n).map rpairC).map cellP) (by rw [size_cellP]; exact c3)
    rw [h2, List.length_map, List.length_map, cellsB_len] at hcells
    refine ⟨hok, fun c hc => ?_, by rw [← e]; exact h1⟩
    have hm := rpair_may (c1 _ (List.mem_map.2 ⟨c, hc, rfl⟩))
    unfold okC
    refine decide_eq_true ⟨hm.2, ?_⟩
    obtain ⟨i, hi, rfl⟩ := List.getElem_of_mem hc
    have : (cellsB b n)[i] = ((((cellsB b n).map rpairC).map cellP))[i]'(by simpa using hi) := by simp only [← hcells]
    conv => rhs; rw [this]
    rw [List.getElem_map, List.getElem_map, hm.1]

end Go.Proofs.YtagldlchamlpdabDoor

namespace Go.Proofs.YtagldlchamlpdabDoor

/-- The link of a cell of five bytes or more. -/
def linkC (c : ByteArray) : Lk := (c.extract 1 (c.size - 4), (beNat (c.data.toList.drop (c.size - 4)) : Int))
def okK (c : ByteArray) : Bool := decide (5 ≤ c.size ∧ (c.data.toList.getD 0 0).toNat = c.size - 5)
theorem ext_listK (s : ByteArray) (a b : Nat) : (s.extract a b).data.toList = (s.data.toList.drop a).take (b - a) := by
  rw [ByteArray.data_extract, Array.toList_extract]
theorem linkC_key (c : ByteArray) (h : 5 ≤ c.size) : (linkC c).1.size = c.size - 5 := by
  simp only [linkC, ByteArray.size_extract]; omega
theorem linkC_flat (c : ByteArray) (h : 5 ≤ c.size) : c.data.toList = [c.data.toList.getD 0 0] ++ ((linkC c).1.data.toList ++ beBytes (linkC c).2.toNat 4) := by
  have hl : (c.data.toList.drop (c.size - 4)).length = 4 := by rw [List.length_drop, bsize]; omega
  have e1 : beBytes (linkC c).2.toNat 4 = c.data.toList.drop (c.size - 4) := by
    simp only [linkC, Int.toNat_natCast]
    exact back_bytes 4 _ hl (by decide)
  rw [e1]
  simp only [linkC, ext_listK]
  have e2 : c.data.toList.drop (c.size - 4) = (c.data.toList.drop 1).drop (c.size - 4 - 1) := by rw [List.drop_drop, show 1 + (c.size - 4 - 1) = c.size - 4 by omega]
  rw [e2, List.take_append_drop]
  cases hc : c.data.toList with
  | nil =>
    have h0 := bsize c
    rw [hc, List.length_nil] at h0
    omega
  | cons x r => simp
theorem cellK_link {c : ByteArray} (h : okK c = true) : cellK (linkC c) = c := by
  obtain ⟨h1, h2⟩ := of_decide_eq_true h
  refine ba_ext' ?_
  rw [cellK_list, linkC_key c h1]
  conv => rhs; rw [linkC_flat c h1]
  congr 2
  apply UInt8.toNat_inj.1
  rw [h2]
  have := (c.data.toList.getD 0 0).toNat_lt
  simp; omega
theorem drop_end (a b : List UInt8) (n : Nat) (h : n = a.length) : (a ++ b).drop n = b := by rw [h, List.drop_left]
theorem link_cellK (p : Lk) (h : mayK p = true) : linkC (cellK p) = p ∧ okK (cellK p) = true := by
  obtain ⟨h1, h2, h3, h4⟩ := mayK_parts h
  have hs := cellK_size p
  refine ⟨?_, decide_eq_true ⟨by omega, ?_⟩⟩
  · refine Prod.ext ?_ ?_
    · refine ba_ext' ?_
      simp only [linkC, ext_listK]
      rw [hs, cellK_list, List.singleton_append, List.drop_succ_cons, List.drop_zero, show 5 + p.1.size - 4 - 1 = p.1.data.toList.length by rw [bsize]; omega, List.take_left]
    · simp only [linkC]
      rw [hs, cellK_list, ← List.append_assoc, drop_end _ _ _ (by rw [List.length_append, bsize]; simp; omega), back_num 4 _ (by decide) (by omega)]
      omega
  · rw [cellK_list, hs]
    simp; omega
theorem cellC_first {c : ByteArray} (h : c.size = 4) : cellC (beNat c.data.toList) = c := by
  refine ba_ext' ?_
  rw [cellC_list, back_bytes 4 _ (by rw [bsize, h]) (by decide)]

def brF (L : List ByteArray) : Int := match L with
  | [] => 0
  | c :: _ => (beNat c.data.toList : Int)
def brL (L : List ByteArray) : List Lk := (L.drop 1).map linkC
def okBr (L : List ByteArray) : Bool := match L with
  | [] => false
  | c :: cs => decide (c.size = 4) && cs.all okK
/-- What Decode takes. -/
def DecB (n : Nat) (b : List UInt8) : Prop := OkR b n ∧ okBr (cellsB b n) = true ∧ chkB (brF (cellsB b n)) (brL (cellsB b n)) true = none
theorem okBr_cells {L : List ByteArray} (h : okBr L = true) : cellsK (brF L) (brL L) = L := by
  cases L with
  | nil => cases h
  | cons c cs =>
    simp only [okBr, Bool.and_eq_true, decide_eq_true_eq, List.all_eq_true] at h
    unfold cellsK brF brL
    simp only [Int.toNat_natCast, List.drop_succ_cons, List.drop_zero]
    rw [cellC_first h.1, List.map_map]
    congr 1
    conv => rhs; rw [← List.map_id cs]
    exact List.map_congr_left (fun d hd => cellK_link (h.2 d hd))
theorem decB_enc {n : Nat} {b : List UInt8} (h : DecB n b) : layL (cellsK (brF (cellsB b n)) (brL (cellsB b n))) = b := by
  rw [okBr_cells h.2.1, lay_cells h.1]
theorem cellsK_br {f : Int} {l : List Lk} (h : chkB f l true = none) : okBr (cellsK f l) = true ∧ brF (cellsK f l) = f ∧ brL (cellsK f l) = l := by
  obtain ⟨h1, h2, h3, h4, h5, h6, h7⟩ := chkB_none h
  have hf : 2 ≤ f ∧ f < 1048576 := of_decide_eq_true h2
  refine ⟨?_, ?_, ?_⟩
  · simp only [okBr, cellsK, Bool.and_eq_true, decide_eq_true_eq, List.all_eq_true]
    refine ⟨cellC_size _, fun c hc => ?_⟩
    obtain ⟨p, hp, rfl⟩ := List.mem_map.1 hc
    exact (link_cellK p (h3 p hp)).2
  · simp only [brF, cellsK, cellC_list]
    rw [back_num 4 _ (by decide) (by omega)]
    omega
  · simp only [brL, cellsK, List.drop_succ_cons, List.drop_zero, List.map_map]
    conv => rhs; rw [← List.map_id l]
    exact List.map_congr_left (fun p hp => (link_cellK p (h3 p hp)).1)
theorem enc_decB {f : Int} {l : List Lk} (h : chkB f l true = none) : DecB (l.length + 1) (layL (cellsK f l)) ∧ brF (cellsB (layL (cellsK f l)) (l.length + 1)) = f ∧ brL (cellsB (layL (cellsK f l)) (l.length + 1)) = l := by
  have hs : sizeL (cellsK f l) ≤ 4072 := by rw [size_cellsK]; exact (chkB_none h).2.2.2.2.2.1
  have hc := cells_lay (cellsK f l) hs
  have ho := lay_ok (cellsK f l) hs
  rw [cellsK_len] at hc ho
  obtain ⟨h1, h2, h3⟩ := cellsK_br h
  refine ⟨⟨ho, by rw [hc]; exact h1, by rw [hc, h2, h3]; exact h⟩, by rw [hc]; exact h2, by rw [hc]; exact h3⟩
/-- The document's way. -/
theorem decB_ref {n : Nat} {b : List UInt8} (hok : OkR b n) (c : ByteArray) (cs : List ByteArray) (hL : cellsB b n = c :: cs) :
    DecB n b ↔ (chkB (brF (cellsB b n)) (brL (cellsB b n)) true = none ∧ layL (cellsK (brF (cellsB b n)) (brL (cellsB b n))) = b) := by
  constructor
  · intro h; exact ⟨h.2.2, decB_enc h⟩
  · rintro ⟨h1, h2⟩
    refine ⟨hok, ?_, h1⟩
    have hn : (brL (cellsB b n)).length + 1 = n := by
      have := cellsB_len b n
      rw [hL] at this ⊢
      simp only [brL, List.drop_succ_cons, List.drop_zero, List.length_map]
      simpa using this
    have hd := (enc_decB h1).1.2.1
    rw [h2, hn] at hd
    exact hd

end Go.Proofs.YtagldlchamlpdabDoor

namespace Go.Proofs.YtagldlchamlpdabDoor

theorem bl3 (a b c d e f : Nat) (x y : List UInt8) (ha : a < 256) (hb : b < 256) (hc : c < 256) (hd : d < 256) (he : e < 256) (hf : f < 256) (h : a < d ∨ (a = d ∧ (b < e ∨ (b = e ∧ c < f)))) :
    Op.bytesLess (UInt8.ofNat a :: UInt8.ofNat b :: UInt8.ofNat c :: x) (UInt8.ofNat d :: UInt8.ofNat e :: UInt8.ofNat f :: y) = true := by
  have lt : ∀ m n : Nat, m < 256 → n < 256 → m < n → UInt8.ofNat m < UInt8.ofNat n := fun m n hm hn hmn => by
    rw [UInt8.lt_iff_toNat_lt]; simp; omega
  simp only [Op.bytesLess, Bool.or_eq_true, decide_eq_true_eq, Bool.and_eq_true, beq_iff_eq]
  rcases h with h | ⟨rfl, h⟩
  · exact .inl (lt a d ha hd h)
  · refine .inr ⟨rfl, ?_⟩
    rcases h with h | ⟨rfl, h⟩
    · exact .inl (lt b e hb he h)
    · exact .inr ⟨rfl, .inl (lt c f hc hf h)⟩
theorem keyAt_list (T : List ByteArray) (i : Nat) : ∃ x, (keyAt T i).toList = threeL i ++ x := by
  unfold keyAt
  split
  · exact ⟨_, by rw [ByteArray.toList_eq, ByteArray.data_append, Array.toList_append]; rfl⟩
  · exact ⟨[], by rw [ByteArray.toList_eq, List.append_nil]; rfl⟩
theorem keyAt_lt (T : List ByteArray) (i : Nat) (hi : i + 1 < 17576) : ltK (keyAt T i) (keyAt T (i + 1)) = true := by
  obtain ⟨x, hx⟩ := keyAt_list T i
  obtain ⟨y, hy⟩ := keyAt_list T (i + 1)
  unfold ltK
  rw [hx, hy]
  unfold threeL
  exact bl3 _ _ _ _ _ _ x y (by omega) (by omega) (by omega) (by omega) (by omega) (by omega) (by omega)
theorem linksTo_get (T : List ByteArray) (k i : Nat) (h : i < (linksTo T k).length) : (linksTo T k)[i] = linkAt T i := by simp [linksTo]
theorem linksTo_rise (T : List ByteArray) (k : Nat) (hk : k ≤ 1000) : RiseK (linksTo T k) := fun i hi => by
  rw [linksTo_get, linksTo_get]
  rw [linksTo_len] at hi
  exact keyAt_lt T i (by omega)
theorem linksTo_may (T : List ByteArray) (k : Nat) (hk : k ≤ 1000) : ∀ p ∈ linksTo T k, mayK p = true := fun p hp => by
  obtain ⟨i, hi, rfl⟩ := List.getElem_of_mem hp
  rw [linksTo_get]
  rw [linksTo_len] at hi
  have := keyAt_size T i
  exact decide_eq_true ⟨by show 1 ≤ (keyAt T i).size; omega, by show (keyAt T i).size ≤ 255; omega, by show (2 : Int) ≤ 3 + (i : Int); omega, by show 3 + (i : Int) < 1048576; omega⟩
theorem linksTo_kids (T : List ByteArray) (k : Nat) : (kids 2 (linksTo T k)).Nodup := by
  rw [List.nodup_iff_pairwise_ne, List.pairwise_iff_getElem]
  intro i j hi hj hij
  obtain ⟨j', rfl⟩ : ∃ j', j = j' + 1 := ⟨j - 1, by omega⟩
  cases i with
  | zero =>
    simp only [kids, List.getElem_cons_zero, List.getElem_cons_succ, List.getElem_map, linksTo_get, linkAt]
    intro h; omega
  | succ i =>
    simp only [kids, List.getElem_cons_succ, List.getElem_map, linksTo_get, linkAt]
    intro h; omega
theorem chkB_made (T : List ByteArray) (k : Nat) (root : Bool) (h1 : 1 ≤ k) (hk : k ≤ 1000) : chkB 2 (linksTo T k) root = if 4072 < szB (linksTo T k) then some 2 else if root = false ∧ szB (linksTo T k) < 1777 then some 3 else none := by
  have hne : linksTo T k ≠ [] := fun h => by
    have := linksTo_len T k
    rw [h] at this
    simp at this
    omega
  have hal : (linksTo T k).all mayK = true := List.all_eq_true.2 (linksTo_may T k hk)
  unfold chkB
  rw [if_neg hne, if_neg (by rw [hal]; decide), if_neg (fun h => h (linksTo_rise T k hk)), if_neg (fun h => h (linksTo_kids T k))]
theorem linksTo_ok (T : List ByteArray) (k : Nat) : OkK (linksTo T k) := fun p hp => by
  obtain ⟨i, hi, rfl⟩ := List.getElem_of_mem hp
  rw [linksTo_get]
  have := (keyAt_size T i).2
  show (keyAt T i).size ≤ 140737488355328
  omega

/-- A body has one number of cells alone. -/
theorem decB_one {f : Int} {l : List Lk} {n : Nat} (h : chkB f l true = none) (hd : DecB n (layL (cellsK f l))) : n = l.length + 1 := by
  obtain ⟨h1, h2, h3, h4, h5, h6, h7⟩ := chkB_none h
  obtain ⟨g1, g2, g3, g4, g5, g6, g7⟩ := chkB_none hd.2.2
  obtain ⟨L, hL⟩ : ∃ L, L = cellsK f l := ⟨_, rfl⟩
  have hlen : L.length = l.length + 1 := by rw [hL, cellsK_len]
  have hs : sizeL L ≤ 4072 := by rw [hL, size_cellsK]; exact h6
  rw [← hL] at hd g3
  have s2 : 0 < n := by
    rcases Nat.eq_zero_or_pos n with h0 | h0
    · have hob := hd.2.1
      rw [h0, List.length_eq_zero_iff.1 (cellsB_len (layL L) 0)] at hob
      cases hob
    · exact h0
  rcases Nat.lt_trichotomy n (l.length + 1) with hlt | he | hgt
  · exfalso
    obtain ⟨m, rfl⟩ : ∃ m, n = m + 1 := ⟨n - 1, by omega⟩
    have hz := hd.1.2.2 (endL L (m + 1))
    have e : endB (layL L) (m + 1) (m + 1) = endL L (m + 1) := slot_lay L hs m (by omega)
    rw [e] at hz
    have hn : m + 1 < L.length := by omega
    have hml : m < l.length := by omega
    have hLm : L[m + 1] = cellK l[m] := by simp only [hL, cellsK, List.getElem_cons_succ, List.getElem_map]
    have hsz : L[m + 1].size = 5 + l[m].1.size := by rw [hLm]; exact cellK_size _
    have hle := endL_le hs (show m + 2 ≤ L.length by omega)
    rw [endL_succ L (m + 1) hn] at hle
    have := hz (Nat.le_refl _) (by omega)
    rw [first_byte L hs (m + 1) hn (by omega)] at this
    have hk := mayK_parts (h3 l[m] (List.getElem_mem _))
    rw [hLm, cellK_list] at this
    have := congrArg UInt8.toNat this
    simp at this
    omega
  · exact he
  · exfalso
    obtain ⟨m, hm⟩ : ∃ m, l.length + 1 = m + 1 := ⟨l.length, rfl⟩
    have e : endB (layL L) n (l.length + 1) = sizeL L := by
      rw [hm]
      show slotN (layL L) m = _
      rw [slot_lay L hs m (by omega)]
      unfold sizeL; rw [hlen, hm]
    have hz := (lay_ok L hs).2.2
    have e2 : endB (layL L) L.length L.length = sizeL L := endB_lay L hs _ (Nat.le_refl _)
    rw [e2] at hz
    have hg := cellsB_get (layL L) n (l.length + 1) (by rw [cellsB_len]; exact hgt)
    have hmem : (cellsB (layL L) n)[l.length + 1]'(by rw [cellsB_len]; exact hgt) ∈ (cellsB (layL L) n).drop 1 := by
      rw [List.mem_iff_getElem]
      refine ⟨l.length, by rw [List.length_drop, cellsB_len]; omega, ?_⟩
      rw [List.getElem_drop]
      simp only [Nat.add_comm 1 l.length]
    generalize (cellsB (layL L) n)[l.length + 1]'(by rw [cellsB_len]; exact hgt) = c at hmem hg
    have hmay := mayK_parts (g3 (linkC c) (List.mem_map.2 ⟨c, hmem, rfl⟩))
    have hokc : okK c = true := by
      have hob := hd.2.1
      cases hcl : cellsB (layL L) n with
      | nil => rw [hcl] at hob; cases hob
      | cons c0 cs =>
        rw [hcl] at hob hmem
        simp only [okBr, Bool.and_eq_true, List.all_eq_true] at hob
        exact hob.2 c (by simpa using hmem)
    obtain ⟨k1, k2⟩ := of_decide_eq_true hokc
    have h0 : c.data.toList.getD 0 0 = 0 := by
      rw [hg]
      unfold cellB
      rw [e, List.getD_eq_getElem?_getD, List.getElem?_take]
      split
      · rw [List.getElem?_drop, Nat.add_zero, ← List.getD_eq_getElem?_getD]
        by_cases h' : sizeL L < 4072
        · exact hz _ (Nat.le_refl _) h'
        · rw [List.getD_eq_getElem?_getD, List.getElem?_eq_none (by rw [layL_len L hs]; omega)]; rfl
      · rfl
    rw [h0] at k2
    rw [linkC_key c k1] at hmay
    have : (0 : UInt8).toNat = 0 := rfl
    omega

end Go.Proofs.YtagldlchamlpdabDoor
