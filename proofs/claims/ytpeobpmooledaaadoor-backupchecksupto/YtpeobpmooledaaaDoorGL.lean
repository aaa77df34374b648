import Derived.Test.YtpeobpmooledaaaDoorMREnc
import Derived.Test.YtpeobpmooledaaaDoorGQ
import Derived.Deep.QuietTactic
namespace Go.Proofs.YtpeobpmooledaaaDoor.M
open Go.RowKit

abbrev markC : Array Value := #[.int .u8 67, .int .u8 79, .int .u8 80, .int .u8 83, .int .u8 69, .int .u8 0, .int .u8 1, .int .u8 0]
theorem owns_slice {w : World} {base n : Nat} {v : Value} {l : List UInt8} (h : w.ownsRow base 5 1 v n (u8s l)) (hn : 0 < n) : ∃ g cap, v = .slice (some ⟨g, 0, none⟩) n cap := by
  obtain ⟨g, cap, hv, _, _⟩ := h.form hn
  exact ⟨g, cap, hv⟩
theorem rep_snoc (k : Nat) : List.replicate (k + 1) (0 : UInt8) = List.replicate k 0 ++ [0] := List.replicate_succ'

set_option maxRecDepth 100000 in
set_option maxHeartbeats 4000000 in
theorem written_any (p r t s : Nat) (w : World) (hp : p < 4294967296) (hr : r < 4294967296) (ht : t < 18446744073709551616) (hs : s < 4294967296) :
    Calls Tryd.prog 38 #[.agg #[.int .i64 (p : Int), .int .i64 (r : Int), .int .u64 (t : Int)], .int .u32 (s : Int)] w fun e w' => ∃ g cap, e = .returned (.slice (some ⟨g, 0, none⟩) 512 cap) ∧ w'.ownsRow w.heap.size 5 1 (.slice (some ⟨g, 0, none⟩) 512 cap) 512 (u8s (mbare p r t s)) ∧ Below w.heap.size w w' := by
  obtain ⟨i0, hi, hz0, hz1, hz2⟩ := info_parts Tryd.info5
  have p64 := wrap_u p (by omega)
  have r64 := wrap_u r (by omega)
  have s64 := wrap_u s (by omega)
  have s65 : (s : Int) % 18446744073709551616 = (s : Int) := by omega
  obtain ⟨W1, hW1⟩ : ∃ W1, W1 = w.alloc (.cells #[.int .i64 (p : Int), .int .i64 (r : Int), .int .u64 (t : Int)] 24) := ⟨_, rfl⟩
  have hX : Boxed w.heap.size [.int .i64 (p : Int), .int .i64 (r : Int), .int .u64 (t : Int)] W1 := by rw [hW1]; exact boxed_new w _ _
  have hB : Below w.heap.size w W1 := by rw [hW1]; exact below_new w _
  have e1 : W1.heap.size = w.heap.size + 1 := by rw [hW1]; simp
  have hcv0 := Lib.run_convert_bytes_const (P := Tryd.prog) W1 41 5 markC 8 8 Tryd.underlying41 Tryd.underlying5
  have hb2 : Below W1.heap.size W1 (W1.alloc (.cells markC 5 (markC.size, markC.size + 1))) := below_new W1 _
  have hcell : ∀ j (h : j < markL.length), (W1.alloc (.cells markC 5 (markC.size, markC.size + 1))).cell? ⟨w.heap.size + 1, j, none⟩ = some (.int .u8 (markL[j].toNat : Int)) := fun j hj => by
    have h := heap_alloc_new W1 (.cells markC 5 (markC.size, markC.size + 1))
    rw [e1] at h
    rw [cell_of_row _ _ _ _ _ _ h]
    have h8 : markL.length = 8 := rfl
    obtain rfl | rfl | rfl | rfl | rfl | rfl | rfl | rfl : j = 0 ∨ j = 1 ∨ j = 2 ∨ j = 3 ∨ j = 4 ∨ j = 5 ∨ j = 6 ∨ j = 7 := by omega
    all_goals rfl
  have HX := hide (hX.below hb2)
  have HB := hide (Below.next hB hb2)
  have HF : Hid (FullAt (W1.alloc (.cells markC 5 (markC.size, markC.size + 1))) (.slice (some ⟨w.heap.size + 1, 0, none⟩) 8 8) markL) := ⟨w.heap.size + 1, rfl, hcell⟩
  rw [e1, hW1] at hcv0
  have hcv : (convert 41 41 (.slice (some ⟨w.heap.size + 1, 0, none⟩) 8 8)).run Tryd.prog ((w.alloc (.cells #[.int .i64 (p : Int), .int .i64 (r : Int), .int .u64 (t : Int)] 24)).alloc (.cells #[.int .u8 67, .int .u8 79, .int .u8 80, .int .u8 83, .int .u8 69, .int .u8 0, .int .u8 1, .int .u8 0] 5)) = .ok (.slice (some ⟨w.heap.size + 1, 0, none⟩) 8 8) ((w.alloc (.cells #[.int .i64 (p : Int), .int .i64 (r : Int), .int .u64 (t : Int)] 24)).alloc (.cells markC 5 (markC.size, markC.size + 1))) := hcv0
  rw [hW1] at HX HB HF
  obtain ⟨W2, hW2⟩ : ∃ W2, W2 = (w.alloc (.cells #[.int .i64 (p : Int), .int .i64 (r : Int), .int .u64 (t : Int)] 24)).alloc (.cells markC 5 (markC.size, markC.size + 1)) := ⟨_, rfl⟩
  rw [← hW2] at hcv HX HB HF
  have c0 := HX.out.2 0 (by simp)
  simp only [List.getElem_cons_zero] at c0
  have HKX : Hid (∀ W, Below w.heap.size w W2 → Below (w.heap.size + 1) W2 W → Boxed w.heap.size [.int .i64 (p : Int), .int .i64 (r : Int), .int .u64 (t : Int)] W) := fun W _ hb => ⟨Nat.lt_of_lt_of_le HX.out.1 hb.size, fun j hj => (hb.cell (p := ⟨w.heap.size, j, none⟩) (Nat.lt_succ_self _)).trans (HX.out.2 j hj)⟩
  have HSZ : Hid (w.heap.size + 1 ≤ W2.heap.size) := HX.out.1
  clear hcv0 hX hB hb2 hcell e1 hW1 hW2 W1
  go_enter Tryd.func38, Tryd.ntmps38
  go_wp2_with fail
  refine (rput_any (w.heap.size + 1) p 4 _ markL W2 (by omega) (by decide) (by decide) (by decide) (.inr HF.out) HSZ.out).mono ?_
  rintro e w3 ⟨v3, rfl, ho3, hb3⟩
  obtain ⟨g3, c3, rfl⟩ := owns_slice ho3 (by decide)
  have HO3 := hide ho3
  have HB3 := hide hb3
  have c1 := (HKX.out _ HB.out hb3).2 1 (by simp)
  simp only [List.getElem_cons_zero, List.getElem_cons_succ] at c1
  have hl3 : markL.length + 4 = (markL ++ beBytes p 4).length := by rw [List.length_append, beBytes_len _ _ (by decide)]
  have HL3 := hide hl3
  clear c0 ho3 hb3 hl3 hcv
  go_wp2_with fail
  refine (rput_any (w.heap.size + 1) r 4 _ (markL ++ beBytes p 4) w3 (by omega) (by decide) (by decide) (by rw [← HL3.out]; decide) (.inl (by rw [← HL3.out]; exact HO3.out)) (Nat.le_trans HSZ.out HB3.out.size)).mono ?_
  rintro e w4 ⟨v4, rfl, ho4, hb4d⟩
  have hb4 := HB3.out.trans hb4d
  rw [← HL3.out] at ho4
  obtain ⟨g4, c4, rfl⟩ := owns_slice ho4 (by decide)
  have HO4 := hide ho4
  have HB4 := hide hb4
  have c2 := (HKX.out _ HB.out hb4).2 2 (by simp)
  simp only [List.getElem_cons_zero, List.getElem_cons_succ] at c2
  have HL4 : Hid (markL.length + 4 + 4 = ((markL ++ beBytes p 4) ++ beBytes r 4).length) := by show _ = _; rw [List.length_append, ← HL3.out, beBytes_len _ _ (by decide)]
  clear c1 ho4 hb4 hb4d HO3 HB3
  go_wp2_with fail
  refine (rput_any (w.heap.size + 1) t 8 _ ((markL ++ beBytes p 4) ++ beBytes r 4) w4 ht (by decide) (by decide) (by rw [← HL4.out]; decide) (.inl (by rw [← HL4.out]; exact HO4.out)) (Nat.le_trans HSZ.out HB4.out.size)).mono ?_
  rintro e w5 ⟨v5, rfl, ho5, hb5d⟩
  have hb5 := HB4.out.trans hb5d
  rw [← HL4.out] at ho5
  obtain ⟨g5, c5, rfl⟩ := owns_slice ho5 (by decide)
  have HO5 := hide ho5
  have HB5 := hide hb5
  have HL5 : Hid (markL.length + 4 + 4 + 8 = (((markL ++ beBytes p 4) ++ beBytes r 4) ++ beBytes t 8).length) := by show _ = _; rw [List.length_append, ← HL4.out, beBytes_len _ _ (by decide)]
  clear c2 ho5 hb5 hb5d HO4 HB4 HKX
  go_wp2_with fail
  refine (rput_any (w.heap.size + 1) s 4 _ (((markL ++ beBytes p 4) ++ beBytes r 4) ++ beBytes t 8) w5 (by omega) (by decide) (by decide) (by rw [← HL5.out]; decide) (.inl (by rw [← HL5.out]; exact HO5.out)) (Nat.le_trans HSZ.out HB5.out.size)).mono ?_
  rintro e w6 ⟨v6, rfl, ho6, hb6d⟩
  have hb6 := HB5.out.trans hb6d
  rw [← HL5.out] at ho6
  obtain ⟨g6, c6, rfl⟩ := owns_slice ho6 (by decide)
  have HB6 : Hid (Below w.heap.size w w6) := HB.out.trans (hb6.mono (Nat.le_succ _))
  obtain ⟨HD, hHD⟩ : ∃ HD, HD = (((markL ++ beBytes p 4) ++ beBytes r 4) ++ beBytes t 8) ++ beBytes s 4 := ⟨_, rfl⟩
  have HO6 : Hid (w6.ownsRow w.heap.size 5 1 (.slice (some ⟨g6, 0, none⟩) 28 c6) 28 (u8s (HD ++ List.replicate 0 0))) := by
    show World.ownsRow _ _ _ _ _ _ _
    rw [List.replicate_zero, List.append_nil, hHD]
    exact owns_base ho6 (Nat.le_succ _)
  have HFIN : Hid (HD ++ List.replicate 484 0 = mbare p r t s) := by
    show _ = _
    rw [hHD]; simp [mbare, tailZ]
  clear ho6 hb6 hb6d HO5 HB5 HL3 HL4 HL5 hHD HF HX HB HSZ
  go_wp2_with fail
  go_loopw [5] (fun u wr => ∃ k : Nat, k ≤ 484 ∧ (∃ g c, u = .slice (some ⟨g, 0, none⟩) (28 + k) c ∧ wr.ownsRow w.heap.size 5 1 (.slice (some ⟨g, 0, none⟩) (28 + k) c) (28 + k) (u8s (HD ++ List.replicate k 0))) ∧ Below w.heap.size w wr) (fun u _ => 512 - (match u with | .slice _ n _ => n | _ => 0))
  case atStart => exact ⟨0, by omega, ⟨g6, c6, rfl, HO6.out⟩, HB6.out⟩
  case round =>
    obtain ⟨k, hk, ⟨g, c, rfl, hown⟩, hnx⟩ := hrel
    clear HO6 HB6
    by_cases hlt : k < 484
    · have h28 : ((28 + k : Nat) : Int) < 512 := by omega
      have HL : Hid (w.heap.size ≤ wr.heap.size) := hnx.size
      have HN := hide hnx
      go_wp2_with (first
        | (at_builtin; refine wpList_append_lies _ rfl _ _ 41 rfl w.heap.size 5 i0 (.int .u8 0) 1 1 Tryd.underlying41 hi hz0 hz1 hz2 rfl (by decide) _ _ _ rfl (hown.alloc _) ⟨wr.heap.size, 0, none⟩ 1 1 [.int .u8 0] rfl rfl ?c1 ?c2 ?c3 ?c4 ?c5 ?c6 (wr.heap.size + 1) ?c7 ?_))
      case c1 =>
        intro j u hj
        match j, hj with
        | 0, hj => simp at hj; subst hj; simp [Addr.add]
      case c2 => intro u hu; simp at hu; subst hu; rfl
      case c3 => decide
      case c4 => unfold maxLen; omega
      case c5 => omega
      case c6 => have := HL.out; simp; omega
      case c7 => simp
      intro g' cap' w1 hown' hgrow hat hlg
      have hb1 : Below w.heap.size w w1 := (HN.out.alloc HL.out _).grown hgrow (by have := HL.out; simp; omega) (fun j hj => (hown.lt j hj).1)
      have hown2 : w1.ownsRow w.heap.size 5 1 (.slice (some ⟨g', 0, none⟩) (28 + (k + 1)) cap') (28 + (k + 1)) (u8s (HD ++ List.replicate (k + 1) 0)) := by
        rw [rep_snoc, ← List.append_assoc, u8s_append]; exact hown'
      clear hown' hgrow hown hat hlg hnx
      go_wp2_with fail
      go_roundw
      case rel => exact ⟨k + 1, by omega, ⟨g', cap', rfl, hown2⟩, hb1⟩
      case measure => simp; omega
    · have hke : k = 484 := by omega
      subst hke
      rw [HFIN.out] at hown
      go_wp2_with fail
      go_ret
      exact ⟨g, c, rfl, hown, hnx⟩

end Go.Proofs.YtpeobpmooledaaaDoor.M

namespace Go.Proofs.YtpeobpmooledaaaDoor.M
open Go.RowKit S

set_option maxRecDepth 100000 in
set_option maxHeartbeats 2000000 in
theorem renc_no (m : Mt) (w : World) (hm : ¬ MayM m) :
    Calls Tryd.prog 24 #[.agg m.cells.toArray] w fun e w' => e = .returned (.tuple #[.slice none 0 0, .int .i64 1]) ∧ Below w.heap.size w w' := by
  have HM : Hid (∀ w, Calls Tryd.prog 37 #[.agg m.cells.toArray] w fun e w' => e = .returned (.bool false) ∧ Below w.heap.size w w') := fun w => by
    have h := rmay_any m w
    rw [decide_eq_false hm] at h
    exact h
  obtain ⟨p, r, t⟩ := m
  simp only [Mt.cells] at HM ⊢
  have HB := hide (below_new w (.cells #[.int .i64 p, .int .i64 r, .int .u64 (t : Int)] 24))
  clear hm
  go_enter Tryd.func24, Tryd.ntmps24
  go_wp2_with fail
  refine (HM.out _).mono ?_
  rintro e w1 ⟨rfl, hb1⟩
  have HB1 := hide (Below.next HB.out hb1)
  clear hb1
  go_wp2_with fail
  go_ret2
  exact ⟨rfl, HB1.out⟩

set_option maxRecDepth 100000 in
set_option maxHeartbeats 2000000 in
theorem renc_ok (m : Mt) (w : World) (hm : MayM m) (hx : m.txid < 18446744073709551616) :
    Calls Tryd.prog 24 #[.agg m.cells.toArray] w fun e w' => ∃ g cap, e = .returned (.tuple #[.slice (some ⟨g, 0, none⟩) 512 cap, .int .i64 0]) ∧ w'.ownsRow w.heap.size 5 1 (.slice (some ⟨g, 0, none⟩) 512 cap) 512 (u8s (mpage m)) ∧ Below w.heap.size w w' := by
  have HM : Hid (∀ w, Calls Tryd.prog 37 #[.agg m.cells.toArray] w fun e w' => e = .returned (.bool true) ∧ Below w.heap.size w w') := fun w => by
    have h := rmay_any m w
    rw [decide_eq_true hm] at h
    exact h
  obtain ⟨p, r, t⟩ := m
  obtain ⟨⟨hp1, hp2⟩, hr⟩ := hm
  simp only at hp1 hp2 hr hx
  obtain ⟨p, rfl⟩ := Int.eq_ofNat_of_zero_le (show 0 ≤ p by omega)
  obtain ⟨r, rfl⟩ := Int.eq_ofNat_of_zero_le (show 0 ≤ r by omega)
  simp only [Mt.cells] at HM ⊢
  have HX := hide (boxed_new w #[.int .i64 (p : Int), .int .i64 (r : Int), .int .u64 (t : Int)] 24)
  have HB := hide (below_new w (.cells #[.int .i64 (p : Int), .int .i64 (r : Int), .int .u64 (t : Int)] 24))
  have HW0 : Hid (∀ w, Calls Tryd.prog 38 #[.agg #[.int .i64 (p : Int), .int .i64 (r : Int), .int .u64 (t : Int)], .int .u32 0] w fun e w' => ∃ g cap, e = .returned (.slice (some ⟨g, 0, none⟩) 512 cap) ∧ w'.ownsRow w.heap.size 5 1 (.slice (some ⟨g, 0, none⟩) 512 cap) 512 (u8s (mbare p r t 0)) ∧ Below w.heap.size w w') := fun w => written_any p r t 0 w (by omega) (by omega) hx (by decide)
  obtain ⟨cv, hcv⟩ : ∃ cv, cv = crcV (mbare p r t 0) := ⟨_, rfl⟩
  have hcb : cv < 4294967296 := by rw [hcv]; exact nt_lt _
  have HW1 : Hid (∀ w, Calls Tryd.prog 38 #[.agg #[.int .i64 (p : Int), .int .i64 (r : Int), .int .u64 (t : Int)], .int .u32 (cv : Int)] w fun e w' => ∃ g cap, e = .returned (.slice (some ⟨g, 0, none⟩) 512 cap) ∧ w'.ownsRow w.heap.size 5 1 (.slice (some ⟨g, 0, none⟩) 512 cap) 512 (u8s (mbare p r t cv)) ∧ Below w.heap.size w w') := fun w => written_any p r t cv w (by omega) (by omega) hx hcb
  have HPG : Hid (mpage ⟨(p : Int), (r : Int), t⟩ = mbare p r t cv) := by show _ = _; rw [hcv]; rfl
  have HCR : Hid (∀ w v, Rd w v (mbare p r t 0) → Calls Tryd.prog 28 #[v] w fun e w' => e = .returned (.int .u32 (cv : Int)) ∧ w = w') := fun w v h => by
    rw [hcv]; exact ref_rd v _ w (by rw [mbare_len]; decide) h
  clear hp1 hp2 hr hx hcv hcb
  go_enter Tryd.func24, Tryd.ntmps24
  go_wp2_with fail
  refine (HM.out _).mono ?_
  rintro e w1 ⟨rfl, hb1⟩
  have HB1 := hide (Below.next HB.out hb1)
  have HX1 := hide (HX.out.below hb1)
  have c0 := HX1.out.2 0 (by simp)
  have c1 := HX1.out.2 1 (by simp)
  have c2 := HX1.out.2 2 (by simp)
  simp only [List.getElem_cons_zero, List.getElem_cons_succ] at c0 c1 c2
  clear hb1 HB HX
  go_wp2_with fail
  refine (HW0.out _).mono ?_
  rintro e w2 ⟨g2, cap2, rfl, ho2, hb2⟩
  have HRD := hide (rd_of_owns ho2)
  have HB2 := hide (Below.next HB1.out hb2)
  have HX2 := hide (HX1.out.below hb2)
  clear c0 c1 c2
  have c0 := HX2.out.2 0 (by simp)
  have c1 := HX2.out.2 1 (by simp)
  have c2 := HX2.out.2 2 (by simp)
  simp only [List.getElem_cons_zero, List.getElem_cons_succ] at c0 c1 c2
  clear ho2 hb2 HX1 HB1
  go_wp2_with fail
  refine (HCR.out _ _ HRD.out).mono ?_
  rintro e w' ⟨rfl, rfl⟩
  go_wp2_with fail
  refine (HW1.out _).mono ?_
  rintro e w3 ⟨g3, cap3, rfl, ho3, hb3⟩
  have HO3 := hide ho3
  have HB3 := hide (Below.next HB2.out hb3)
  have HSZ := hide HB2.out.size
  clear ho3 hb3 c0 c1 c2
  go_wp2_with fail
  go_ret2
  refine ⟨g3, cap3, rfl, ?_, HB3.out⟩
  rw [HPG.out]
  exact owns_base HO3.out HSZ.out

end Go.Proofs.YtpeobpmooledaaaDoor.M
