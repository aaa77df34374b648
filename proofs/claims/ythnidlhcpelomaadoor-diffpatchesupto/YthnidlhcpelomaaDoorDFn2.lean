import Derived.Test.YthnidlhcpelomaaDoorDFn
import Derived.Deep.RegionHeld3
namespace Go.Proofs.YthnidlhcpelomaaDoor
open Go.RowKit
attribute [local go_sem ↓] Go.wp_at_zero Go.wp_at_succ
def riseK : List ByteArray → Bool
  | [] => true
  | [_] => true
  | x :: y :: r => ltK x y && riseK (y :: r)
theorem riseK_map {α : Type} : ∀ l : KL α, riseK (l.map Prod.fst) = riseB l
  | [] => rfl
  | [_] => rfl
  | x :: y :: r => by
    have := riseK_map (y :: r)
    simp only [List.map_cons] at this ⊢
    simp [riseK, riseB, this]
theorem riseK_idx : ∀ l : List ByteArray, riseK l = true ↔ ∀ i (h : i + 1 < l.length), ltK l[i] l[i + 1] = true
  | [] => by simp [riseK]
  | [_] => by simp [riseK]
  | x :: y :: r => by
    have ih := riseK_idx (y :: r)
    simp only [riseK, Bool.and_eq_true]
    rw [ih]
    constructor
    · rintro ⟨h1, h2⟩ i hi
      cases i with
      | zero => exact h1
      | succ i => exact h2 i (by simpa using hi)
    · intro h
      exact ⟨h 0 (by simp), fun i hi => h (i + 1) (by simpa using hi)⟩
/-- A slice whose elements, of st cells each, begin with these keys. -/
def KeyR (st : Nat) (w : World) (v : Value) (ks : List ByteArray) : Prop := ∃ a cap, v = .slice a ks.length cap ∧ ks.length ≤ cap ∧ (a = none → cap = 0) ∧
  ∀ j (h : j < ks.length), ∃ g o, a = some ⟨g, o, none⟩ ∧ w.cell? ⟨g, o + j * st, none⟩ = some (.string ks[j])
theorem PrR.keys {w : World} {v : Value} {l : List Pr} (h : PrR w v l) : KeyR 2 w v (l.map Prod.fst) := by
  obtain ⟨a, cap, rfl, hle, hn, hc⟩ := h
  refine ⟨a, cap, by simp, by simpa using hle, hn, fun j hj => ?_⟩
  obtain ⟨g, o, ha, h1, _⟩ := hc j (by simpa using hj)
  exact ⟨g, o, ha, by simpa using h1⟩
theorem ChR.keys {w : World} {v : Value} {l : List Ch} (h : ChR w v l) : KeyR 5 w v (l.map Prod.fst) := by
  obtain ⟨a, cap, rfl, hle, hn, hc⟩ := h
  refine ⟨a, cap, by simp, by simpa using hle, hn, fun j hj => ?_⟩
  obtain ⟨g, o, ha, h1⟩ := hc j (by simpa using hj)
  exact ⟨g, o, ha, by simpa using h1.1⟩
theorem KeyR.below {st : Nat} {w w' : World} {v : Value} {ks : List ByteArray} (h : KeyR st w v ks) (hb : Below w.heap.size w w') : KeyR st w' v ks := by
  obtain ⟨a, cap, rfl, hle, hn, hc⟩ := h
  refine ⟨a, cap, rfl, hle, hn, fun j hj => ?_⟩
  obtain ⟨g, o, ha, h1⟩ := hc j hj
  exact ⟨g, o, ha, cell_bel hb h1⟩
/-- keyAt over a list of keys, at any world behind w. -/
theorem kats_p (a : Option Addr) (n c : Nat) (ks : List ByteArray) (w : World) (hn : n = ks.length) (h : KeyR 2 w (.slice a n c) ks) (x : Int) (W : World) (hx : 0 ≤ x) (hxn : x < (n : Int)) (hb : Below w.heap.size w W) :
    Calls Tryd.prog 48 #[.agg #[.slice a n c, keyPF], .int .i64 x] W fun e w' => e = .returned (.string (ks.getD x.toNat nilB)) ∧ Below W.heap.size W w' := by
  obtain ⟨i, rfl⟩ : ∃ i : Nat, x = (i : Int) := ⟨x.toNat, by omega⟩
  obtain ⟨a', cap, he, hle, hnl, hc⟩ := h
  cases he
  have hi : i < ks.length := by omega
  obtain ⟨g, o, rfl, h1⟩ := hc i hi
  refine (kat_p g o ks.length c i ks[i] W hi (cell_bel hb h1)).mono ?_
  rintro e w' ⟨rfl, hb'⟩
  refine ⟨?_, hb'⟩
  rw [Int.toNat_natCast, List.getD, List.getElem?_eq_getElem hi]
  rfl
set_option maxHeartbeats 1000000 in
theorem ris_p (v : Value) (ks : List ByteArray) (w : World) (hm : ks.length ≤ 140737488355328) (h : KeyR 2 w v ks) :
    Calls Tryd.prog 28 #[.agg #[v, keyPF]] w fun e w' => e = .returned (.bool (riseK ks)) ∧ Below w.heap.size w w' := by
  obtain ⟨a, c, rfl, _⟩ := id h
  obtain ⟨n, hn⟩ : ∃ n, n = ks.length := ⟨_, rfl⟩
  rw [← hn] at hm h ⊢
  obtain ⟨kf, hkf⟩ : ∃ kf : Int → ByteArray, kf = fun x => ks.getD x.toNat nilB := ⟨_, rfl⟩
  have HK : Hid (∀ (x : Int) (W : World), 0 ≤ x → x < (n : Int) → Below w.heap.size w W → Calls Tryd.prog 48 #[.agg #[.slice a n c, keyPF], .int .i64 x] W fun e w' => e = .returned (.string (kf x)) ∧ Below W.heap.size W w') := fun x W hx hxn hb => by
    rw [hkf]; exact kats_p a n c ks w hn h x W hx hxn hb
  have HR : Hid (∀ r, (r = true ↔ ∀ i : Nat, i + 1 < n → ltK (kf i) (kf ((i + 1 : Nat) : Int)) = true) → r = riseK ks) := by
    intro r hr
    have h2 := riseK_idx ks
    have h3 : riseK ks = true ↔ ∀ i : Nat, i + 1 < n → ltK (kf i) (kf ((i + 1 : Nat) : Int)) = true := by
      rw [h2]
      constructor
      · intro hh i hi
        have := hh i (by omega)
        rw [hkf]
        simp only [Int.toNat_natCast, List.getD]
        rw [List.getElem?_eq_getElem (by omega), List.getElem?_eq_getElem (by omega)]
        exact this
      · intro hh i hi
        have := hh i (by omega)
        rw [hkf] at this
        simp only [Int.toNat_natCast, List.getD] at this
        rw [List.getElem?_eq_getElem (by omega), List.getElem?_eq_getElem (by omega)] at this
        exact this
    cases r <;> cases hq : riseK ks <;> simp_all
  have hbx := below_new w (.cells #[.slice a n c, keyPF] 56)
  obtain ⟨b0, b1⟩ := box2 w (.slice a n c) keyPF 56
  have HBX := hide hbx
  have HB0 := hide b0
  have HB1 := hide b1
  obtain ⟨Q, hQ⟩ : ∃ Q : Ending → World → Prop, Q = fun e w' => e = .returned (.bool (riseK ks)) ∧ Below w.heap.size w w' := ⟨_, rfl⟩
  rw [← hQ]
  have HQ := hide hQ
  clear hQ hn h hkf hbx b0 b1
  go_enter Tryd.func28, Tryd.ntmps28
  go_wp2
  obtain ⟨W1, hW1⟩ : ∃ W1, w.alloc (.cells #[.slice a n c, keyPF] 56) = W1 := ⟨_, rfl⟩
  rw [hW1] at HBX HB0 HB1 ⊢
  go_loopw [3] (fun i wr => ∃ q : Nat, 1 ≤ q ∧ q ≤ n + 1 ∧ i = .int .i64 (q : Int) ∧ (∀ j : Nat, j + 1 < q → ltK (kf j) (kf ((j + 1 : Nat) : Int)) = true) ∧ wr.cell? ⟨w.heap.size, 0, none⟩ = some (.slice a n c) ∧ wr.cell? ⟨w.heap.size, 1, none⟩ = some keyPF ∧ Below w.heap.size w wr) (fun i _ => n + 1 - (intOf i).toNat)
  case atStart => exact ⟨1, Nat.le_refl _, by omega, rfl, fun j hj => by omega, HB0.out, HB1.out, HBX.out⟩
  case round =>
    obtain ⟨q, hq1, hq2, rfl, hall, c0, c1, hb⟩ := hrel
    have HALL := hide hall
    have HB := hide hb
    clear hall hb HBX HB0 HB1 hW1
    by_cases hlt : q < n
    · have j1 : (q : Int) < (n : Int) := by omega
      have j0 : (0 : Int) ≤ (q : Int) := by omega
      obtain ⟨m, hmq⟩ : ∃ m : Nat, m + 1 = q := ⟨q - 1, by omega⟩
      have hwm : IntKind.i64.wrap ((q : Int) - 1) = (m : Int) := by rw [IntKind.wrap_i64]; omega
      have i1 : (m : Int) < (n : Int) := by omega
      have i0 : (0 : Int) ≤ (m : Int) := by omega
      have HMQ := hide hmq
      clear hmq
      go_wp2
      go_region_held3 (fun w' => w'.cell? ⟨w.heap.size, 0, none⟩ = some (.slice a n c) ∧ w'.cell? ⟨w.heap.size, 1, none⟩ = some keyPF) (go_keep)
        (first
          | (go_at_call 48; refine (HK.out _ _ ?_ ?_ ?_).mono ?_; (first | exact i0 | exact j0); (first | exact i1 | exact j1); (first | exact HB6.out | exact HB.out | exact HB.out.drew | exact below_drewN2 HB.out _); rintro e w6 ⟨rfl, hg⟩; have HB6 : Hid (Below w.heap.size w w6) := (by (first | exact Below.next HB6.out hg | exact Below.next HB.out ⟨hg.os, hg.tape, hg.output, hg.size, hg.block⟩)); have k0 : w6.cell? ⟨w.heap.size, 0, none⟩ = some (.slice a n c) := (by (first | exact cell_bel hg k0 | exact cell_bel hg c0)); have k1 : w6.cell? ⟨w.heap.size, 1, none⟩ = some keyPF := (by (first | exact cell_bel hg k1 | exact cell_bel hg c1)); clear hg))
      cases hl : Op.bytesLess (kf (m : Int)).toList (kf (q : Int)).toList with
      | true =>
        go_wp2
        go_roundw
        case rel =>
          refine ⟨q + 1, by omega, by omega, by go_num, fun j hj => ?_, k0, k1, HB6.out⟩
          by_cases hjq : j + 1 < q
          · exact HALL.out j hjq
          · have := HMQ.out
            have e1 : j = m := by omega
            have e2 : j + 1 = q := by omega
            rw [e2, e1]; exact hl
        case measure => simp [intOf]; omega
      | false =>
        have HL := hide hl
        go_wp2
        rw [HQ.out]
        refine ⟨?_, HB6.out⟩
        refine congrArg (fun r => Ending.returned (.bool r)) (HR.out false ⟨fun h => (by cases h), fun h => ?_⟩)
        have := HMQ.out
        have h2 := h m (by omega)
        rw [this] at h2
        have h3 := HL.out
        unfold ltK at h2
        rw [h2] at h3
        exact h3.symm
    · have j1 : ¬ (q : Int) < (n : Int) := by omega
      go_wp2
      rw [HQ.out]
      refine ⟨?_, HB.out⟩
      exact congrArg (fun r => Ending.returned (.bool r)) (HR.out true ⟨fun _ i hi => HALL.out i (by omega), fun _ => rfl⟩)
/-- keyAt over a list of keys, at any world behind w. -/
theorem kats_c (a : Option Addr) (n c : Nat) (ks : List ByteArray) (w : World) (hn : n = ks.length) (h : KeyR 5 w (.slice a n c) ks) (x : Int) (W : World) (hx : 0 ≤ x) (hxn : x < (n : Int)) (hb : Below w.heap.size w W) :
    Calls Tryd.prog 54 #[.agg #[.slice a n c, keyCF], .int .i64 x] W fun e w' => e = .returned (.string (ks.getD x.toNat nilB)) ∧ Below W.heap.size W w' := by
  obtain ⟨i, rfl⟩ : ∃ i : Nat, x = (i : Int) := ⟨x.toNat, by omega⟩
  obtain ⟨a', cap, he, hle, hnl, hc⟩ := h
  cases he
  have hi : i < ks.length := by omega
  obtain ⟨g, o, rfl, h1⟩ := hc i hi
  refine (kat_c g o ks.length c i ks[i] W hi (cell_bel hb h1)).mono ?_
  rintro e w' ⟨rfl, hb'⟩
  refine ⟨?_, hb'⟩
  rw [Int.toNat_natCast, List.getD, List.getElem?_eq_getElem hi]
  rfl
set_option maxHeartbeats 1000000 in
theorem ris_c (v : Value) (ks : List ByteArray) (w : World) (hm : ks.length ≤ 140737488355328) (h : KeyR 5 w v ks) :
    Calls Tryd.prog 35 #[.agg #[v, keyCF]] w fun e w' => e = .returned (.bool (riseK ks)) ∧ Below w.heap.size w w' := by
  obtain ⟨a, c, rfl, _⟩ := id h
  obtain ⟨n, hn⟩ : ∃ n, n = ks.length := ⟨_, rfl⟩
  rw [← hn] at hm h ⊢
  obtain ⟨kf, hkf⟩ : ∃ kf : Int → ByteArray, kf = fun x => ks.getD x.toNat nilB := ⟨_, rfl⟩
  have HK : Hid (∀ (x : Int) (W : World), 0 ≤ x → x < (n : Int) → Below w.heap.size w W → Calls Tryd.prog 54 #[.agg #[.slice a n c, keyCF], .int .i64 x] W fun e w' => e = .returned (.string (kf x)) ∧ Below W.heap.size W w') := fun x W hx hxn hb => by
    rw [hkf]; exact kats_c a n c ks w hn h x W hx hxn hb
  have HR : Hid (∀ r, (r = true ↔ ∀ i : Nat, i + 1 < n → ltK (kf i) (kf ((i + 1 : Nat) : Int)) = true) → r = riseK ks) := by
    intro r hr
    have h2 := riseK_idx ks
    have h3 : riseK ks = true ↔ ∀ i : Nat, i + 1 < n → ltK (kf i) (kf ((i + 1 : Nat) : Int)) = true := by
      rw [h2]
      constructor
      · intro hh i hi
        have := hh i (by omega)
        rw [hkf]
        simp only [Int.toNat_natCast, List.getD]
        rw [List.getElem?_eq_getElem (by omega), List.getElem?_eq_getElem (by omega)]
        exact this
      · intro hh i hi
        have := hh i (by omega)
        rw [hkf] at this
        simp only [Int.toNat_natCast, List.getD] at this
        rw [List.getElem?_eq_getElem (by omega), List.getElem?_eq_getElem (by omega)] at this
        exact this
    cases r <;> cases hq : riseK ks <;> simp_all
  have hbx := below_new w (.cells #[.slice a n c, keyCF] 69)
  obtain ⟨b0, b1⟩ := box2 w (.slice a n c) keyCF 69
  have HBX := hide hbx
  have HB0 := hide b0
  have HB1 := hide b1
  obtain ⟨Q, hQ⟩ : ∃ Q : Ending → World → Prop, Q = fun e w' => e = .returned (.bool (riseK ks)) ∧ Below w.heap.size w w' := ⟨_, rfl⟩
  rw [← hQ]
  have HQ := hide hQ
  clear hQ hn h hkf hbx b0 b1
  go_enter Tryd.func35, Tryd.ntmps35
  go_wp2
  obtain ⟨W1, hW1⟩ : ∃ W1, w.alloc (.cells #[.slice a n c, keyCF] 69) = W1 := ⟨_, rfl⟩
  rw [hW1] at HBX HB0 HB1 ⊢
  go_loopw [3] (fun i wr => ∃ q : Nat, 1 ≤ q ∧ q ≤ n + 1 ∧ i = .int .i64 (q : Int) ∧ (∀ j : Nat, j + 1 < q → ltK (kf j) (kf ((j + 1 : Nat) : Int)) = true) ∧ wr.cell? ⟨w.heap.size, 0, none⟩ = some (.slice a n c) ∧ wr.cell? ⟨w.heap.size, 1, none⟩ = some keyCF ∧ Below w.heap.size w wr) (fun i _ => n + 1 - (intOf i).toNat)
  case atStart => exact ⟨1, Nat.le_refl _, by omega, rfl, fun j hj => by omega, HB0.out, HB1.out, HBX.out⟩
  case round =>
    obtain ⟨q, hq1, hq2, rfl, hall, c0, c1, hb⟩ := hrel
    have HALL := hide hall
    have HB := hide hb
    clear hall hb HBX HB0 HB1 hW1
    by_cases hlt : q < n
    · have j1 : (q : Int) < (n : Int) := by omega
      have j0 : (0 : Int) ≤ (q : Int) := by omega
      obtain ⟨m, hmq⟩ : ∃ m : Nat, m + 1 = q := ⟨q - 1, by omega⟩
      have hwm : IntKind.i64.wrap ((q : Int) - 1) = (m : Int) := by rw [IntKind.wrap_i64]; omega
      have i1 : (m : Int) < (n : Int) := by omega
      have i0 : (0 : Int) ≤ (m : Int) := by omega
      have HMQ := hide hmq
      clear hmq
      go_wp2
      go_region_held3 (fun w' => w'.cell? ⟨w.heap.size, 0, none⟩ = some (.slice a n c) ∧ w'.cell? ⟨w.heap.size, 1, none⟩ = some keyCF) (go_keep)
        (first
          | (go_at_call 54; refine (HK.out _ _ ?_ ?_ ?_).mono ?_; (first | exact i0 | exact j0); (first | exact i1 | exact j1); (first | exact HB6.out | exact HB.out | exact HB.out.drew | exact below_drewN2 HB.out _); rintro e w6 ⟨rfl, hg⟩; have HB6 : Hid (Below w.heap.size w w6) := (by (first | exact Below.next HB6.out hg | exact Below.next HB.out ⟨hg.os, hg.tape, hg.output, hg.size, hg.block⟩)); have k0 : w6.cell? ⟨w.heap.size, 0, none⟩ = some (.slice a n c) := (by (first | exact cell_bel hg k0 | exact cell_bel hg c0)); have k1 : w6.cell? ⟨w.heap.size, 1, none⟩ = some keyCF := (by (first | exact cell_bel hg k1 | exact cell_bel hg c1)); clear hg))
      cases hl : Op.bytesLess (kf (m : Int)).toList (kf (q : Int)).toList with
      | true =>
        go_wp2
        go_roundw
        case rel =>
          refine ⟨q + 1, by omega, by omega, by go_num, fun j hj => ?_, k0, k1, HB6.out⟩
          by_cases hjq : j + 1 < q
          · exact HALL.out j hjq
          · have := HMQ.out
            have e1 : j = m := by omega
            have e2 : j + 1 = q := by omega
            rw [e2, e1]; exact hl
        case measure => simp [intOf]; omega
      | false =>
        have HL := hide hl
        go_wp2
        rw [HQ.out]
        refine ⟨?_, HB6.out⟩
        refine congrArg (fun r => Ending.returned (.bool r)) (HR.out false ⟨fun h => (by cases h), fun h => ?_⟩)
        have := HMQ.out
        have h2 := h m (by omega)
        rw [this] at h2
        have h3 := HL.out
        unfold ltK at h2
        rw [h2] at h3
        exact h3.symm
    · have j1 : ¬ (q : Int) < (n : Int) := by omega
      go_wp2
      rw [HQ.out]
      refine ⟨?_, HB.out⟩
      exact congrArg (fun r => Ending.returned (.bool r)) (HR.out true ⟨fun _ i hi => HALL.out i (by omega), fun _ => rfl⟩)
end Go.Proofs.YthnidlhcpelomaaDoor
