import Derived.Test.YtagldlchamlpdaaDoorBrMath2
import Derived.Test.YtagldlchamlpdaaDoorLGet
import Derived.Test.YtagldlchamlpdaaDoorLfMath2
namespace Go.Proofs.YtagldlchamlpdaaDoor

/-- The link of a cell of five bytes or more. -/
def linkC (c : ByteArray) : Lk := (c.extract 1 (c.size - 4), (beNat (c.data.toList.drop (c.size - 4)) : Int))
def okK (c : ByteArray) : Bool := decide (5 ≤ c.size ∧ (c.data.toList.getD 0 0).toNat = c.size - 5)
theorem ext_listK (s : ByteArray) (a b : Nat) : (s.extract a b).data.toList = (s.data.toList.drop a).take (b - a) := by
  rw [ByteArray.data_extract, Array.toList_extract]
theorem linkC_key (c : ByteArray) (h : 5 ≤ c.size) : (linkC c).1.size = c.size - 5 := by
  simp only [linkC, ByteArray.size_extract]; omega
theorem linkC_flat (c : ByteArray) (h : 5 ≤ c.size) : c.data.toList = [c.data.toList.getD 0 0] ++ ((linkC c).1.data.toList ++ beBytes (linkC c).2.toNat 4) := by
  have hl : (c.data.toList.drop (c.size - 4)).length = 4 := by rw [List.length_drop, bsize]; omega
  have e1 : beBytes (linkC c).2.toNat 4 = c.data.toList.drop (c.size - 4) := by
    simp only [linkC, Int.toNat_natCast]
    exact back_bytes 4 _ hl (by decide)
  rw [e1]
  simp only [linkC, ext_listK]
  have e2 : c.data.toList.drop (c.size - 4) = (c.data.toList.drop 1).drop (c.size - 4 - 1) := by rw [List.drop_drop, show 1 + (c.size - 4 - 1) = c.size - 4 by omega]
  rw [e2, List.take_append_drop]
  cases hc : c.data.toList with
  | nil =>
    have h0 := bsize c
    rw [hc, List.length_nil] at h0
    omega
  | cons x r => simp
theorem cellK_link {c : ByteArray} (h : okK c = true) : cellK (linkC c) = c := by
  obtain ⟨h1, h2⟩ := of_decide_eq_true h
  refine ba_ext' ?_
  rw [cellK_list, linkC_key c h1]
  conv => rhs; rw [linkC_flat c h1]
  congr 2
  apply UInt8.toNat_inj.1
  rw [h2]
  have := (c.data.toList.getD 0 0).toNat_lt
  simp; omega
theorem drop_end (a b : List UInt8) (n : Nat) (h : n = a.length) : (a ++ b).drop n = b := by rw [h, List.drop_left]
theorem link_cellK (p : Lk) (h : mayK p = true) : linkC (cellK p) = p ∧ okK (cellK p) = true := by
  obtain ⟨h1, h2, h3, h4⟩ := mayK_parts h
  have hs := cellK_size p
  refine ⟨?_, decide_eq_true ⟨by omega, ?_⟩⟩
  · refine Prod.ext ?_ ?_
    · refine ba_ext' ?_
      simp only [linkC, ext_listK]
      rw [hs, cellK_list, List.singleton_append, List.drop_succ_cons, List.drop_zero, show 5 + p.1.size - 4 - 1 = p.1.data.toList.length by rw [bsize]; omega, List.take_left]
    · simp only [linkC]
      rw [hs, cellK_list, ← List.append_assoc, drop_end _ _ _ (by rw [List.length_append, bsize]; simp; omega), back_num 4 _ (by decide) (by omega)]
      omega
  · rw [cellK_list, hs]
    simp; omega
theorem cellC_first {c : ByteArray} (h : c.size = 4) : cellC (beNat c.data.toList) = c := by
  refine ba_ext' ?_
  rw [cellC_list, back_bytes 4 _ (by rw [bsize, h]) (by decide)]

def brF (L : List ByteArray) : Int := match L with
  | [] => 0
  | c :: _ => (beNat c.data.toList : Int)
def brL (L : List ByteArray) : List Lk := (L.drop 1).map linkC
def okBr (L : List ByteArray) : Bool := match L with
  | [] => false
  | c :: cs => decide (c.size = 4) && cs.all okK
/-- What Decode takes. -/
def DecB (n : Nat) (b : List UInt8) : Prop := OkR b n ∧ okBr (cellsB b n) = true ∧ chkB (brF (cellsB b n)) (brL (cellsB b n)) true = none
theorem okBr_cells {L : List ByteArray} (h : okBr L = true) : cellsK (brF L) (brL L) = L := by
  cases L with
  | nil => cases h
  | cons c cs =>
    simp only [okBr, Bool.and_eq_true, decide_eq_true_eq, List.all_eq_true] at h
    unfold cellsK brF brL
    simp only [Int.toNat_natCast, List.drop_succ_cons, List.drop_zero]
    rw [cellC_first h.1, List.map_map]
    congr 1
    conv => rhs; rw [← List.map_id cs]
    exact List.map_congr_left (fun d hd => cellK_link (h.2 d hd))
theorem decB_enc {n : Nat} {b : List UInt8} (h : DecB n b) : layL (cellsK (brF (cellsB b n)) (brL (cellsB b n))) = b := by
  rw [okBr_cells h.2.1, lay_cells h.1]
theorem cellsK_br {f : Int} {l : List Lk} (h : chkB f l true = none) : okBr (cellsK f l) = true ∧ brF (cellsK f l) = f ∧ brL (cellsK f l) = l := by
  obtain ⟨h1, h2, h3, h4, h5, h6, h7⟩ := chkB_none h
  have hf : 2 ≤ f ∧ f < 1048576 := of_decide_eq_true h2
  refine ⟨?_, ?_, ?_⟩
  · simp only [okBr, cellsK, Bool.and_eq_true, decide_eq_true_eq, List.all_eq_true]
    refine ⟨cellC_size _, fun c hc => ?_⟩
    obtain ⟨p, hp, rfl⟩ := List.mem_map.1 hc
    exact (link_cellK p (h3 p hp)).2
  · simp only [brF, cellsK, cellC_list]
    rw [back_num 4 _ (by decide) (by omega)]
    omega
  · simp only [brL, cellsK, List.drop_succ_cons, List.drop_zero, List.map_map]
    conv => rhs; rw [← List.map_id l]
    exact List.map_congr_left (fun p hp => (link_cellK p (h3 p hp)).1)
theorem enc_decB {f : Int} {l : List Lk} (h : chkB f l true = none) : DecB (l.length + 1) (layL (cellsK f l)) ∧ brF (cellsB (layL (cellsK f l)) (l.length + 1)) = f ∧ brL (cellsB (layL (cellsK f l)) (l.length + 1)) = l := by
  have hs : sizeL (cellsK f l) ≤ 4072 := by rw [size_cellsK]; exact (chkB_none h).2.2.2.2.2.1
  have hc := cells_lay (cellsK f l) hs
  have ho := lay_ok (cellsK f l) hs
  rw [cellsK_len] at hc ho
  obtain ⟨h1, h2, h3⟩ := cellsK_br h
  refine ⟨⟨ho, by rw [hc]; exact h1, by rw [hc, h2, h3]; exact h⟩, by rw [hc]; exact h2, by rw [hc]; exact h3⟩
/-- The document's way. -/
theorem decB_ref {n : Nat} {b : List UInt8} (hok : OkR b n) (c : ByteArray) (cs : List ByteArray) (hL : cellsB b n = c :: cs) :
    DecB n b ↔ (chkB (brF (cellsB b n)) (brL (cellsB b n)) true = none ∧ layL (cellsK (brF (cellsB b n)) (brL (cellsB b n))) = b) := by
  constructor
  · intro h; exact ⟨h.2.2, decB_enc h⟩
  · rintro ⟨h1, h2⟩
    refine ⟨hok, ?_, h1⟩
    have hn : (brL (cellsB b n)).length + 1 = n := by
      have := cellsB_len b n
      rw [hL] at this ⊢
      simp only [brL, List.drop_succ_cons, List.drop_zero, List.length_map]
      simpa using this
    have hd := (enc_decB h1).1.2.1
    rw [h2, hn] at hd
    exact hd

end Go.Proofs.YtagldlchamlpdaaDoor
