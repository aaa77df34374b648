import Derived.Test.YtdacbajiapdiiabDoorLFind
import Derived.Test.YtdacbajiapdiiabDoorLConcat
import Derived.Deep.RegionHeld3
namespace Go.Proofs.YtdacbajiapdiiabDoor
open Go.RowKit

set_option maxRecDepth 20000 in
theorem slTo (w : World) (a : Option Addr) (n cap m : Nat) (hm : m ≤ cap) : (Instr.sliceAt 24 (.slice a n cap) none (some (.int .i64 (m : Int))) none).run Tryd.prog w = .ok (.slice a m cap) w := by
  rw [run_sliceAt_slice (h := Tryd.underlying24), run_slice_h (ht := Tryd.underlying24) (h0 := by omega) (h2 := by omega)]
  have hz : (sizeOf (Tryd.prog.elem 24)).run Tryd.prog w = .ok 2 w := by kernel_rfl
  rw [hz]
  simp [Result.andThen, sliced, Addr.add]
set_option maxRecDepth 20000 in
theorem PrR.drop {w : World} {a : Option Addr} {n m cap : Nat} {l : List Pr} (h : PrR w (.slice a n cap) l) (hm : m ≤ n) :
    ∃ a', PrR w (.slice a' (n - m) (cap - m)) (l.drop m) ∧ ∀ w', (Instr.sliceAt 24 (.slice a n cap) (some (.int .i64 (m : Int))) none none).run Tryd.prog w' = .ok (.slice a' (n - m) (cap - m)) w' := by
  obtain ⟨a', cap', he, hle, hn, hc⟩ := h
  cases he
  refine ⟨if cap = m then a else a.map (·.add (m * 2)), ⟨_, _, by rw [List.length_drop], by rw [List.length_drop]; omega, fun ha => ?_, fun j hj => ?_⟩, fun w' => ?_⟩
  · split at ha
    · omega
    · cases a with
      | none => have := hn rfl; omega
      | some x => cases ha
  · rw [List.length_drop] at hj
    obtain ⟨g, o, ha, h1, h2⟩ := hc (m + j) (by omega)
    subst ha
    refine ⟨g, o + m * 2, ?_, ?_, ?_⟩
    · rw [if_neg (by omega)]; simp [add_plain']
    · rw [List.getElem_drop, show o + m * 2 + j * 2 = o + (m + j) * 2 by omega]; exact h1
    · rw [List.getElem_drop, show o + m * 2 + j * 2 + 1 = o + (m + j) * 2 + 1 by omega]; exact h2
  · rw [run_sliceAt_slice (h := Tryd.underlying24), run_slice_l (ht := Tryd.underlying24) (h0 := by omega) (h1 := by omega)]
    have hz : (sizeOf (Tryd.prog.elem 24)).run Tryd.prog w' = .ok 2 w' := by kernel_rfl
    rw [hz]
    simp [Result.andThen, sliced]

set_option maxHeartbeats 1000000 in
theorem lset_any (v : Value) (l : List Pr) (key value : ByteArray) (w : World) (hm : l.length ≤ 4398046511000) (hr : PrR w v l) :
    Calls Tryd.prog 15 #[v, .string key, .string value] w fun e w' => ∃ u, e = .returned u ∧ PrO w' w.heap.size u (setL l key value) ∧ Below w.heap.size w w' := by
  have HF := hide (lfind_any v l key w (by omega) hr)
  have HR := hide hr
  obtain ⟨a, cap, hv⟩ := hr.form
  subst hv
  have hfl := findN_le l key
  have hbl := behindN_le l key
  have hqr := behindN_ge l key
  have hcap : l.length ≤ cap := by obtain ⟨_, _, he, h, _⟩ := hr; cases he; exact h
  obtain ⟨q, hq⟩ : ∃ q, q = findN l key := ⟨_, rfl⟩
  obtain ⟨r, hrr⟩ : ∃ r, r = behindN l key := ⟨_, rfl⟩
  obtain ⟨fb, hfb⟩ : ∃ fb, fb = foundB l key := ⟨_, rfl⟩
  have hbe : (if fb then q + 1 else q : Nat) = r := by rw [hrr, hq, hfb]; rfl
  have HBE := hide (fun W => behind_any q fb W (by omega))
  rw [hbe] at HBE
  rw [← hq, ← hfb] at HF
  rw [← hq] at hfl
  rw [← hrr] at hbl
  rw [← hq, ← hrr] at hqr
  obtain ⟨a2, hr2, hsl2⟩ := hr.drop hbl
  have hsl1 := fun W => slTo W a l.length cap q (by omega)
  have HR1 := hide (hr.take hfl)
  have HR2 := hide hr2
  have HL : Hid (setL l key value = [l.take q, [(key, value)], l.drop r].flatten) := by show _ = _; unfold setL; rw [← hq, ← hrr]; simp
  clear hr hr2 hq hrr hfb hbe
  go_enter Tryd.func15, Tryd.ntmps15
  go_wp2_with fail
  refine HF.out.mono ?_
  rintro e w1 ⟨rfl, hb1⟩
  have HB1 := hide hb1
  clear hb1 HF
  have HCC : Hid (∀ W, Below ((w1.alloc (.cells #[.string key, .string value] 45)).alloc (.cells #[.slice a q cap, .slice (some ⟨w1.heap.size, 0, none⟩) 1 1, .slice a2 (l.length - r) (cap - r)] 24)).heap.size ((w1.alloc (.cells #[.string key, .string value] 45)).alloc (.cells #[.slice a q cap, .slice (some ⟨w1.heap.size, 0, none⟩) 1 1, .slice a2 (l.length - r) (cap - r)] 24)) W →
      Calls Tryd.prog 34 #[.slice (some ⟨w1.heap.size + 1, 0, none⟩) 3 3] W fun e w' => ∃ u, e = .returned u ∧ PrO w' w.heap.size u (setL l key value) ∧ Below w.heap.size w w') := fun W hW => by
    have hbA := below_new w1 (.cells #[.string key, .string value] 45)
    have hsA : (w1.alloc (.cells #[.string key, .string value] 45)).heap.size = w1.heap.size + 1 := by simp
    have hlit := prR_lit w1 (key, value) 45
    generalize w1.alloc (.cells #[.string key, .string value] 45) = WA at *
    have hbB := below_new WA (.cells #[.slice a q cap, .slice (some ⟨w1.heap.size, 0, none⟩) 1 1, .slice a2 (l.length - r) (cap - r)] 24)
    have hBx := (boxed_new WA #[.slice a q cap, .slice (some ⟨w1.heap.size, 0, none⟩) 1 1, .slice a2 (l.length - r) (cap - r)] 24).below hW
    rw [hsA] at hBx
    have h1W := Below.next (Below.next HB1.out hbA) (Below.next hbB hW)
    rw [HL.out]
    refine (concat_any (w1.heap.size + 1) 3 3 [.slice a q cap, .slice (some ⟨w1.heap.size, 0, none⟩) 1 1, .slice a2 (l.length - r) (cap - r)] [l.take q, [(key, value)], l.drop r] W rfl (by decide) rfl ?_ (fun j h => hBx.2 j h) ?_).mono ?_
    · simp; omega
    · intro j h h'
      have hj : j < 3 := h
      match j, hj with
      | 0, _ => exact HR1.out.below h1W
      | 1, _ => exact hlit.below (Below.next hbB hW)
      | 2, _ => exact HR2.out.below h1W
    · rintro e w' ⟨u, rfl, ho, hb⟩
      exact ⟨u, rfl, ho.mono h1W.size, Below.next h1W hb⟩
  clear HR HR1 HR2 HL HB1
  go_wp2_with fail
  go_region_held3 (fun w' => True) (go_keep)
    (first
      | (go_at_call 35; refine (HBE.out _).mono ?_; rintro e w2 ⟨rfl, rfl⟩)
      | (go_at_call 34; refine (HCC.out _ ?_).mono ?_; (exact (Below.refl _ _).drew); rintro e w3 ⟨u, rfl, ho, hb⟩; have HO := hide ho; have HB := hide hb; clear ho hb))
  all_goals
    clear HCC HBE hsl1 hsl2
    go_wp2
    go_ret
    exact ⟨_, rfl, HO.out, HB.out⟩

set_option maxRecDepth 20000 in
set_option maxHeartbeats 1000000 in
theorem ldrop_any (v : Value) (l : List Pr) (key : ByteArray) (w : World) (hm : l.length ≤ 4398046511000) (hr : PrR w v l) :
    Calls Tryd.prog 18 #[v, .string key] w fun e w' => ∃ u, e = .returned (.tuple #[u, .bool (foundB l key)]) ∧ PrO w' w.heap.size u (dropL l key) ∧ Below w.heap.size w w' := by
  have HF := hide (lfind_any v l key w (by omega) hr)
  have HR := hide hr
  obtain ⟨a, cap, hv⟩ := hr.form
  subst hv
  have hfl := findN_le l key
  have hbl := behindN_le l key
  have hqr := behindN_ge l key
  have hcap : l.length ≤ cap := by obtain ⟨_, _, he, h, _⟩ := hr; cases he; exact h
  obtain ⟨q, hq⟩ : ∃ q, q = findN l key := ⟨_, rfl⟩
  obtain ⟨r, hrr⟩ : ∃ r, r = behindN l key := ⟨_, rfl⟩
  obtain ⟨fb, hfb⟩ : ∃ fb, fb = foundB l key := ⟨_, rfl⟩
  have hbe : (if fb then q + 1 else q : Nat) = r := by rw [hrr, hq, hfb]; rfl
  have HBE := hide (fun W => behind_any q fb W (by omega))
  rw [hbe] at HBE
  rw [← hq, ← hfb] at HF
  rw [← hfb]
  rw [← hq] at hfl
  rw [← hrr] at hbl
  rw [← hq, ← hrr] at hqr
  obtain ⟨a2, hr2, hsl2⟩ := hr.drop hbl
  have hsl1 := fun W => slTo W a l.length cap q (by omega)
  have HR1 := hide (hr.take hfl)
  have HR2 := hide hr2
  have HL : Hid (dropL l key = [l.take q, l.drop r].flatten) := by show _ = _; unfold dropL; rw [← hq, ← hrr]; simp
  clear hr hr2 hq hrr hfb hbe
  go_enter Tryd.func18, Tryd.ntmps18
  go_wp2_with fail
  refine HF.out.mono ?_
  rintro e w1 ⟨rfl, hb1⟩
  have HB1 := hide hb1
  clear hb1 HF
  have HCC : Hid (∀ W, Below (w1.alloc (.cells #[.slice a q cap, .slice a2 (l.length - r) (cap - r)] 24)).heap.size (w1.alloc (.cells #[.slice a q cap, .slice a2 (l.length - r) (cap - r)] 24)) W →
      Calls Tryd.prog 34 #[.slice (some ⟨w1.heap.size, 0, none⟩) 2 2] W fun e w' => ∃ u, e = .returned u ∧ PrO w' w.heap.size u (dropL l key) ∧ Below w.heap.size w w') := fun W hW => by
    have hbB := below_new w1 (.cells #[.slice a q cap, .slice a2 (l.length - r) (cap - r)] 24)
    have hBx := (boxed_new w1 #[.slice a q cap, .slice a2 (l.length - r) (cap - r)] 24).below hW
    have h1W := Below.next HB1.out (Below.next hbB hW)
    rw [HL.out]
    refine (concat_any w1.heap.size 2 2 [.slice a q cap, .slice a2 (l.length - r) (cap - r)] [l.take q, l.drop r] W rfl (by decide) rfl ?_ (fun j h => hBx.2 j h) ?_).mono ?_
    · simp; omega
    · intro j h h'
      have hj : j < 2 := h
      match j, hj with
      | 0, _ => exact HR1.out.below h1W
      | 1, _ => exact HR2.out.below h1W
    · rintro e w' ⟨u, rfl, ho, hb⟩
      exact ⟨u, rfl, ho.mono h1W.size, Below.next h1W hb⟩
  clear HR HR1 HR2 HL HB1
  go_wp2_with fail
  go_region_held3 (fun w' => True) (go_keep)
    (first
      | (go_at_call 35; refine (HBE.out _).mono ?_; rintro e w2 ⟨rfl, rfl⟩)
      | (go_at_call 34; refine (HCC.out _ ?_).mono ?_; (exact (Below.refl _ _).drew); rintro e w3 ⟨u, rfl, ho, hb⟩; have HO := hide ho; have HB := hide hb; clear ho hb))
  all_goals
    clear HCC HBE hsl1 hsl2
    go_wp2
    go_ret2
    exact ⟨_, rfl, HO.out, HB.out⟩

end Go.Proofs.YtdacbajiapdiiabDoor
