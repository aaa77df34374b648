import Derived.Test.YtdacbajiapdiiabDoorLEnc
import Derived.Test.YtdacbajiapdiiabDoorPrs2
import Derived.Test.YtdacbajiapdiiabDoorCStr
import Derived.Laws.ResultCell
namespace Go.Proofs.YtdacbajiapdiiabDoor
open Go.RowKit

theorem ext_list (s : ByteArray) (a b : Nat) (_hb : b ≤ s.size) : (s.extract a b).data.toList = (s.data.toList.drop a).take (b - a) := by
  rw [ByteArray.data_extract, Array.toList_extract]
theorem pairC_one (c : ByteArray) (h : 3 ≤ c.size) : (c.extract 3 c.size).extract 0 (keyC c.data.toList) = (pairC c).1 := by
  have hk := (keyC_le c.data.toList).2
  rw [bsize] at hk
  refine ba_ext' ?_
  rw [ext_list _ _ _ (by rw [ByteArray.size_extract]; omega), ext_list c 3 c.size (Nat.le_refl _)]
  simp only [pairC, List.drop_zero, Nat.sub_zero]
  rw [List.take_of_length_le (i := c.size - 3) (by rw [List.length_drop, bsize]; exact Nat.le_refl _)]
theorem pairC_two (c : ByteArray) (_h : 3 ≤ c.size) : (c.extract 3 c.size).extract (keyC c.data.toList) (c.extract 3 c.size).size = (pairC c).2 := by
  have hk := (keyC_le c.data.toList).2
  rw [bsize] at hk
  refine ba_ext' ?_
  rw [ext_list _ _ _ (Nat.le_refl _), ext_list c 3 c.size (Nat.le_refl _), ByteArray.size_extract]
  simp only [pairC, Nat.min_self]
  rw [List.take_of_length_le (i := c.size - 3) (by rw [List.length_drop, bsize]; exact Nat.le_refl _), List.take_of_length_le (by rw [List.length_drop, List.length_drop, bsize]; omega)]
theorem okC_text (c : ByteArray) (h : 3 ≤ c.size) : ((headB (pairC c)).toList == (c.extract 0 3).toList) = okC c := by
  rw [okC_head c h, Bool.eq_iff_iff, beq_iff_eq, decide_eq_true_eq, ByteArray.toList_eq, ByteArray.toList_eq, ext_list c 0 3 h]
  simp [headB]

theorem results_row_tmp {P : Program} {fn : Func} {p u : Tmp} {ty : TypeId} (h : fn.results = #[.cell p ty, .tmp u]) (tmps : Array Value) (w : World) (g : Nat) (t : TypeId) (cs : Array Value) (fr : Nat × Nat) (d : TypeDesc)
    (hp : tmps.getD p undef = .pointer (some ⟨g, 0, none⟩)) (hg : w.heap[g]? = some (.cells cs t fr)) (hu : P.underlying ty = some d) (hd : (match d with | .struct _ | .array _ _ => true | _ => false) = true) (hi : (P.info? ty).map (·.size) = some cs.size) :
    (results fn tmps).run P w = .ok (.tuple #[.agg cs, tmps.getD u undef]) w := by
  rw [results_cell_tmp h tmps P w, hp]
  simp [asAddr, run_loadVar_row w g t ty cs fr d hg hu hd hi, Result.andThen]

set_option maxRecDepth 20000 in
set_option maxHeartbeats 2000000 in
theorem pairOf_any (c : ByteArray) (w : World) (hc : c.size ≤ 4072) :
    Calls Tryd.prog 23 #[.string c] w fun e w' => ((okC c = true ∧ e = .returned (.tuple #[.agg #[.string (pairC c).1, .string (pairC c).2], .bool true])) ∨ (okC c = false ∧ ∃ x y, e = .returned (.tuple #[.agg #[.string x, .string y], .bool false]))) ∧ Below w.heap.size w w' := by
  have hbn := below_new w (.cells #[.string ⟨#[]⟩, .string ⟨#[]⟩] 45)
  have hrow := heap_alloc_new w (.cells #[.string ⟨#[]⟩, .string ⟨#[]⟩] 45)
  by_cases h3 : c.size < 3
  · have hno : okC c = false := decide_eq_false (fun h => by omega)
    have HNO := hide hno
    have HBN := hide hbn
    have HROW := hide hrow
    have h3I : (c.size : Int) < 3 := by omega
    clear hbn hno hrow h3
    go_enter Tryd.func23, Tryd.ntmps23
    go_wp2
    exact bodyPost_ret (results_row_tmp rfl _ _ w.heap.size 45 _ (0, 0) _ rfl HROW.out Tryd.underlying45 rfl (by kernel_rfl)) rfl ⟨.inr ⟨HNO.out, _, _, rfl⟩, HBN.out⟩
  · have h3' : 3 ≤ c.size := by omega
    have HK := hide (okC_text c h3')
    have H1 := hide (pairC_one c h3')
    have H2 := hide (pairC_two c h3')
    have HL := hide (fun W => lens_any (pairC c) W (by rw [pairC_k]; exact (keyC_le _).1) (by rw [pairC_v]; omega))
    have hTs : (c.extract 3 c.size).size = c.size - 3 := by rw [ByteArray.size_extract]; omega
    have hkl := keyC_le c.data.toList
    rw [bsize] at hkl
    have h3I : (3 : Int) ≤ (c.size : Int) := by omega
    have hA : (c.extract 0 3).size = 3 := by rw [ByteArray.size_extract]; omega
    have hA0 : 0 < (c.extract 0 3).size := by omega
    have hx0 : (c.extract 0 3)[0].toNat = (c.data.toList.getD 0 0).toNat := by
      rw [← ba_get (c.extract 0 3) 0 hA0, ext_list c 0 3 h3', List.drop_zero, List.getD_eq_getElem?_getD, List.getD_eq_getElem?_getD, List.getElem?_take, if_pos (by omega)]
    have hd3 : decide ((c.size : Int) < 3) = false := decide_eq_false (by omega)
    obtain ⟨k, hk⟩ : ∃ k, k = keyC c.data.toList := ⟨_, rfl⟩
    have HKE : Hid (k = min (c.data.toList.getD 0 0).toNat (c.size - 3)) := by rw [hk]; unfold keyC; rw [bsize]; exact rfl
    rw [← hk] at H1 H2 hkl
    have HBN := hide hbn
    have HROW := hide hrow
    clear hk h3 hbn hrow
    go_enter Tryd.func23, Tryd.ntmps23
    go_wp2
    go_quiet (fail)
    go_wp2
    have hmin : min (wrap64 ((c.data[0]?.getD 0).toNat : Int)) ((c.size - 3 : Nat) : Int) = (k : Int) := by
      have h0 : c.data[0]?.getD 0 = c.data.toList.getD 0 0 := by simp [List.getD_eq_getElem?_getD]
      rw [h0, HKE.out]
      have := (c.data.toList.getD 0 0).toNat_lt
      unfold wrap64
      omega
    rw [hmin]
    have hkT : (k : Int) ≤ ((c.extract 3 c.size).size : Int) := by rw [hTs]; omega
    have j0 : (0 : Int) ≤ (k : Int) := by omega
    have HB1 := hide (below_drewN' HBN.out nq)
    have HR1 : Hid (((w.alloc (.cells #[.string ⟨#[]⟩, .string ⟨#[]⟩] 45)).drewN nq).heap[w.heap.size]? = some (.cells #[.string ⟨#[]⟩, .string ⟨#[]⟩] 45 (0, 0))) := by rw [World.heap_drewN]; exact HROW.out
    clear hmin hTs hA hA0 hx0 HROW HBN hd3 h3I
    generalize (w.alloc (.cells #[.string ⟨#[]⟩, .string ⟨#[]⟩] 45)).drewN nq = W at *
    generalize c.extract 3 c.size = T at *
    generalize c.extract 0 3 = A3 at *
    go_region_held3 (fun w' => True) (go_keep) (fail)
    rw [H1.out, H2.out]
    obtain ⟨p, hp⟩ : ∃ p, p = pairC c := ⟨_, rfl⟩
    rw [← hp] at HL HK H1 H2 ⊢
    have HPQ := hide hp
    have hbx := boxed_new W #[.string p.1, .string p.2] 45
    have hb2 := below_new W (.cells #[.string p.1, .string p.2] 45)
    have hWg : w.heap.size < W.heap.size := by
      rcases Nat.lt_or_ge w.heap.size W.heap.size with h | h
      · exact h
      · have := HR1.out; rw [Array.getElem?_eq_none h] at this; cases this
    have HBX : Hid (Boxed W.heap.size [.string p.1, .string p.2] (W.alloc (.cells #[.string p.1, .string p.2] 45)).drew) := hbx.below ⟨rfl, rfl, rfl, Nat.le_refl _, fun _ _ => rfl⟩
    have HB2 : Hid (Below W.heap.size W (W.alloc (.cells #[.string p.1, .string p.2] 45)).drew) := hb2.drew
    clear hp hbx hb2 H1 H2 hkT hkl
    generalize (W.alloc (.cells #[.string p.1, .string p.2] 45)).drew = W2 at *
    have k0 : W2.cell? ⟨W.heap.size, 0, none⟩ = some (.string p.1) := HBX.out.2 0 (by simp)
    have k1 : W2.cell? ⟨W.heap.size, 1, none⟩ = some (.string p.2) := HBX.out.2 1 (by simp)
    have hne : ¬ w.heap.size = W.heap.size := by omega
    go_wp2_with fail
    go_region_held3 (fun w' => w'.cell? ⟨W.heap.size, 0, none⟩ = some (.string p.1) ∧ w'.cell? ⟨W.heap.size, 1, none⟩ = some (.string p.2)) (go_keep)
      (first | (go_at_call 49; refine (HL.out _).mono ?_; rintro e w5 ⟨rfl, hb5d⟩; have hb5 : Below W2.heap.size W2 w5 := ⟨hb5d.os, hb5d.tape, hb5d.output, hb5d.size, hb5d.block⟩; have hb6 : Below W.heap.size W w5 := Below.next HB2.out hb5; have hrow5 := (hb6.block w.heap.size hWg).trans HR1.out; have HR5 := hide hrow5; have HB5 := hide hb6; have r0 : w5.cell? ⟨W.heap.size, 0, none⟩ = some (.string p.1) := (HBX.out.below hb5).2 0 (by simp); have r1 : w5.cell? ⟨W.heap.size, 1, none⟩ = some (.string p.2) := (HBX.out.below hb5).2 1 (by simp); have q0 : w5.cell? ⟨w.heap.size, 0, none⟩ = some (.string ⟨#[]⟩) := (by rw [cell_of_row _ _ _ _ _ _ hrow5]; rfl); have q1 : w5.cell? ⟨w.heap.size, 1, none⟩ = some (.string ⟨#[]⟩) := (by rw [cell_of_row _ _ _ _ _ _ hrow5]; rfl); have z0 : w5.frozen? ⟨w.heap.size, 0, none⟩ = false := frozen_of_row _ _ _ _ _ hrow5; have z1 : w5.frozen? ⟨w.heap.size, 1, none⟩ = false := frozen_of_row _ _ _ _ _ hrow5; clear hb5 hb5d hb6 hrow5))
    rw [HK.out]
    have HBF := hide (Below.next HB1.out HB5.out)
    clear q0 q1 z0 z1 r0 r1 k0 k1 HL HB5 HB2 HBX HB1 HR1
    obtain ⟨ok, hok⟩ : ∃ ok, ok = okC c := ⟨_, rfl⟩
    rw [← hok]
    have HOK := hide hok
    clear hok
    go_wp2_with fail
    refine bodyPost_ret (results_row_tmp rfl _ _ w.heap.size 45 _ (0, 0) _ rfl (set_two HR5.out _ _) Tryd.underlying45 rfl (by kernel_rfl)) rfl ⟨?_, below_two HBF.out (Nat.le_refl _)⟩
    cases hk : okC c with
    | true => exact .inl ⟨rfl, by rw [← HPQ.out]; simp [HOK.out, hk]⟩
    | false => exact .inr ⟨rfl, _, _, by simp [HOK.out, hk]; exact ⟨rfl, rfl⟩⟩

end Go.Proofs.YtdacbajiapdiiabDoor
