import Derived.Test.YthnidlhcpelomaaDoorDRs
import Derived.Test.YthnidlhcpelomaaDoorPS
import Derived.Deep.RegionHeld3
import Derived.Test.YthnidlhcpelomaaDoorRT
namespace Go.Proofs.YthnidlhcpelomaaDoor
open Go.RowKit
attribute [local go_sem ↓] Go.wp_at_zero Go.wp_at_succ

theorem PrR.take' {w : World} {a : Option Addr} {n m cap : Nat} {l : List Pr} (h : PrR w (.slice a n cap) l) (hm : m ≤ n) : PrR w (.slice a m cap) (l.take m) := by
  obtain ⟨a', cap', he, hle, hn, hc⟩ := h
  cases he
  refine ⟨a, cap, by rw [List.length_take, Nat.min_eq_left hm], by rw [List.length_take]; omega, hn, fun j hj => ?_⟩
  rw [List.length_take] at hj
  obtain ⟨g, o, ha, h1⟩ := hc j (by omega)
  exact ⟨g, o, ha, by rw [List.getElem_take]; exact h1⟩
set_option maxHeartbeats 4000000 in
theorem keptp_any (vf vl : Value) (l : List Pr) (w : World) (hF : PrR w vf (l ++ [(behindB, behindB)])) (hL : PrR w vl l) (hm : l.length ≤ 1099511627776) :
    Calls Tryd.prog 12 #[vf, vl] w fun e w' => e = .returned (.bool true) ∧ Below w.heap.size w w' := by
  obtain ⟨a2, c2, rfl⟩ : ∃ a c, vl = .slice a l.length c := by obtain ⟨x, y, h, _⟩ := hL; exact ⟨x, y, h⟩
  obtain ⟨n, hnl⟩ : ∃ n, n = l.length := ⟨_, rfl⟩
  obtain ⟨a1, cap, rfl, hle, hz, hc⟩ := id hF
  have hlen : (l ++ [(behindB, behindB)]).length = n + 1 := by rw [List.length_append, ← hnl]; rfl
  rw [hlen] at hle hF ⊢
  rw [← hnl] at hL hm ⊢
  obtain ⟨g, o, rfl, d0, d1⟩ := hc n (by omega)
  clear hc
  have hlast : (l ++ [(behindB, behindB)])[n]'(by omega) = (behindB, behindB) := by subst hnl; simp
  rw [hlast] at d0 d1
  simp only at d0 d1
  clear hlast
  have HS : Hid (∀ V, Below w.heap.size w V → Calls Tryd.prog 25 #[.slice (some ⟨g, o, none⟩) n cap, .slice a2 n c2] V fun e w' => e = .returned (.bool true) ∧ Below V.heap.size V w') := fun V hV => by
    have ht := (hF.below hV).take' (m := n) (Nat.le_succ n)
    have he : (l ++ [(behindB, behindB)]).take n = l := by rw [hnl, List.take_left']; rfl
    rw [he] at ht
    exact samep_same _ _ l V (by omega) ht (hL.below hV)
  have i0 : (0 : Int) ≤ (n : Int) := by omega
  have i1 : (n : Int) < ((n + 1 : Nat) : Int) := by omega
  have i2 : n ≤ cap := by omega
  have i3 : (n : Int) ≤ (cap : Int) := by omega
  have hwn : IntKind.i64.wrap ((n : Int) + 1) = ((n + 1 : Nat) : Int) := by rw [IntKind.wrap_i64]; omega
  have hwn2 : wrap64 ((n : Int) + 1) = ((n + 1 : Nat) : Int) := by unfold wrap64; omega
  obtain ⟨n1, hn1⟩ : ∃ m, m = n + 1 := ⟨_, rfl⟩
  rw [← hn1] at i1 hwn hwn2 ⊢
  have hself := fun w => pr_self w behindB behindB
  clear hF hL hlen hnl hle hz hn1
  go_enter Tryd.func12, Tryd.ntmps12
  go_wp2_with fail
  go_region_held3 (fun w' => w'.cell? ⟨g, o + n * 2, none⟩ = some (.string behindB) ∧ w'.cell? ⟨g, o + n * 2 + 1, none⟩ = some (.string behindB)) (go_keep)
    (first
      | (have hq := HB6; clear hq; go_at_call 7; refine (lastp_any _).mono ?_; rintro e w7 ⟨rfl, hg⟩; have HB7 : Hid (Below w.heap.size w w7) := (by first | exact Below.next HB6.out hg | exact Below.next HB6.out ⟨hg.os, hg.tape, hg.output, hg.size, hg.block⟩); have z0 := cell_bel HB7.out d0; have z1 := cell_bel HB7.out d1; clear hg)
      | (go_at_call 25; refine (HS.out _ ?_).mono ?_; (first | exact Below.refl _ _ | exact (Below.refl _ _).drew | exact below_drewN2 (Below.refl _ _) _); rintro e w6 ⟨rfl, hg⟩; have HB6 : Hid (Below w.heap.size w w6) := ⟨hg.os, hg.tape, hg.output, hg.size, hg.block⟩; have z0 := cell_bel HB6.out d0; have z1 := cell_bel HB6.out d1; clear hg))
  go_wp2
  go_ret
  exact ⟨rfl, HB7.out⟩
end Go.Proofs.YthnidlhcpelomaaDoor

namespace Go.Proofs.YthnidlhcpelomaaDoor
open Go.RowKit
attribute [local go_sem ↓] Go.wp_at_zero Go.wp_at_succ

def zP (p : Pr) : Pr := (p.1, p.2 ++ ⟨#[122]⟩)
/-- The list when every second pair ahead of q is another one. -/
def othA (l : List Pr) (q : Nat) : List Pr := l.mapIdx fun j p => if j % 2 = 0 ∧ j < q then zP p else p
theorem othA_len (l : List Pr) (q : Nat) : (othA l q).length = l.length := by simp [othA]
theorem othA_zero (l : List Pr) : othA l 0 = l := by
  refine List.ext_getElem (othA_len l 0) (fun j h1 h2 => ?_)
  simp [othA]
theorem othA_get (l : List Pr) (q : Nat) (h : q < l.length) : (othA l q)[q]'(by rw [othA_len]; exact h) = l[q] := by simp [othA]
theorem othA_set (l r : List Pr) (q : Nat) (he : q % 2 = 0) (h : q < l.length) : (othA l q ++ r).set q (zP l[q]) = othA l (q + 2) ++ r := by
  rw [List.set_append_left _ _ (by rw [othA_len]; exact h)]
  congr 1
  refine List.ext_getElem (by simp [othA]) (fun j h1 h2 => ?_)
  rw [List.getElem_set]
  by_cases hj : q = j
  · subst hj
    simp [othA, he]
  · simp only [othA, List.getElem_mapIdx, hj, if_false]
    by_cases h3 : j % 2 = 0
    · have : (j < q) ↔ (j < q + 2) := by omega
      simp [h3, this]
    · simp [h3]
theorem othA_end (l : List Pr) (q : Nat) (h : l.length ≤ q) : othA l q = othA l l.length := by
  refine List.ext_getElem (by simp [othA]) (fun j h1 h2 => ?_)
  have hj : j < l.length := by simpa [othA] using h1
  have h4 : j < q := by omega
  simp [othA, hj, h4]
theorem prs_set2 (y : ByteArray) : ∀ (l : List Pr) (k : Nat) (h : k < l.length), (prs l).set (k * 2 + 1) (.string y) = prs (l.set k (l[k].1, y))
  | [], k, h => by simp at h
  | q :: l, 0, _ => by
    rw [List.set_cons_zero, prs_cons, prs_cons]
    rfl
  | q :: l, k + 1, h => by
    rw [List.set_cons_succ, prs_cons, prs_cons, List.getElem_cons_succ, ← prs_set2 y l k (by simpa using h), show (k + 1) * 2 + 1 = (k * 2 + 1) + 1 + 1 by omega]
    simp only [List.set_cons_succ]
theorem PrO.wrote2 {w : World} {base g n cap : Nat} {l : List Pr} (h : PrO w base (.slice (some ⟨g, 0, none⟩) n cap) l) (k : Nat) (hk : k < l.length) (y : ByteArray) :
    PrO (w.setCell ⟨g, k * 2 + 1, none⟩ (.string y)) base (.slice (some ⟨g, 0, none⟩) n cap) (l.set k (l[k].1, y)) := by
  obtain ⟨a', c', he⟩ := h.form
  obtain rfl : n = l.length := by simp only [Value.slice.injEq] at he; exact he.2.1
  unfold PrO at h
  have := (World.ownsRow.stored h (k * 2 + 1) (.string y)).1
  rw [prs_set2 y l k hk] at this
  unfold PrO; rw [List.length_set]; exact this
set_option maxHeartbeats 4000000 in
theorem other_any (base g n cap : Nat) (l r : List Pr) (w : World) (hn : n = l.length) (hown : PrO w base (.slice (some ⟨g, 0, none⟩) (l ++ r).length cap) (l ++ r)) (hm : n ≤ 1099511627776) (hok : ∀ p ∈ l, p.2.size ≤ 1099511627776) :
    Calls Tryd.prog 14 #[.slice (some ⟨g, 0, none⟩) n cap] w fun e w' => e = .returned (.slice (some ⟨g, 0, none⟩) n cap) ∧ PrO w' base (.slice (some ⟨g, 0, none⟩) (l ++ r).length cap) (othA l n ++ r) ∧ Sole g w w' := by
  have hkind := hown.kind
  have HN := hide hn
  have HOK := hide hok
  obtain ⟨Q, hQ⟩ : ∃ Q : Ending → World → Prop, Q = fun e w' => e = .returned (.slice (some ⟨g, 0, none⟩) n cap) ∧ PrO w' base (.slice (some ⟨g, 0, none⟩) (l ++ r).length cap) (othA l n ++ r) ∧ Sole g w w' := ⟨_, rfl⟩
  rw [← hQ]
  have HQ := hide hQ
  have HO := hide hown
  clear hQ hn hok hown hkind
  go_enter Tryd.func14, Tryd.ntmps14
  go_wp2
  go_loopw [3] (fun i wr => ∃ q : Nat, q % 2 = 0 ∧ q ≤ n + 1 ∧ i = .int .i64 (q : Int) ∧ PrO wr base (.slice (some ⟨g, 0, none⟩) (l ++ r).length cap) (othA l q ++ r) ∧ Sole g w wr) (fun i _ => n + 2 - (intOf i).toNat)
  case atStart => exact ⟨0, rfl, Nat.zero_le _, rfl, by rw [othA_zero]; exact HO.out, Sole.refl _ _⟩
  case round =>
    obtain ⟨q, he, hq, rfl, hown, hbut⟩ := hrel
    have HOW := hide hown
    have HBU := hide hbut
    have HE := hide he
    by_cases hlt : q < n
    · have j1 : (q : Int) < (n : Int) := by omega
      have j0 : (0 : Int) ≤ (q : Int) := by omega
      have hql : q < l.length := by have := HN.out; omega
      have hqa : q < (othA l q ++ r).length := by rw [List.length_append, othA_len]; omega
      have hga : (othA l q ++ r)[q] = l[q] := by rw [List.getElem_append_left (by rw [othA_len]; exact hql)]; exact othA_get l q hql
      obtain ⟨a9, cap9, he9, hle9, hz9, hc9⟩ := hown.at
      obtain ⟨g9, o9, hg9, d0, d1⟩ := hc9 q hqa
      obtain ⟨rfl, -, rfl⟩ : some (⟨g, 0, none⟩ : Addr) = a9 ∧ (l ++ r).length = (othA l q ++ r).length ∧ cap = cap9 := by simpa using he9
      cases hg9
      rw [hga] at d1
      obtain ⟨x, hx⟩ : ∃ x, x = l[q].2 := ⟨_, rfl⟩
      rw [← hx, Nat.zero_add] at d1
      have hxs : x.size ≤ 1099511627776 := by rw [hx]; exact HOK.out _ (List.getElem_mem hql)
      have hzs : (⟨#[122]⟩ : ByteArray).size = 1 := rfl
      have hf : wr.frozen? ⟨g, q * 2 + 1, none⟩ = false := by
        rcases hown.2 with ⟨h1, _⟩ | ⟨g8, cap8, cur8, h1, h2, h3, _⟩
        · cases h1
        · have hg8 : g = g8 := by simp at h1; exact h1.1
          subst hg8
          exact frozen_of_row _ _ _ _ _ h3
      have HW : Hid (PrO (wr.setCell ⟨g, q * 2 + 1, none⟩ (.string (x ++ ⟨#[122]⟩))) base (.slice (some ⟨g, 0, none⟩) (l ++ r).length cap) (othA l (q + 2) ++ r)) := by
        have := hown.wrote2 q hqa (x ++ ⟨#[122]⟩)
        rw [hga, hx, show (l[q].1, l[q].2 ++ (⟨#[122]⟩ : ByteArray)) = zP l[q] from rfl, othA_set l r q HE.out hql] at this
        rw [hx]; exact this
      have HB : Hid (Sole g w (wr.setCell ⟨g, q * 2 + 1, none⟩ (.string (x ++ ⟨#[122]⟩)))) := hbut.trans (Sole.set g (q * 2 + 1) wr _)
      have HLT := hide hlt
      clear hown hbut he hc9 he9 hle9 hz9 hga hqa d0 hx hql
      go_wp2
      go_roundw
      case rel => exact ⟨q + 2, by have := HE.out; omega, by have := HLT.out; omega, by go_num, HW.out, HB.out⟩
      case measure => have := HLT.out; simp [intOf]; omega
    · have HEN : Hid (othA l q = othA l n) := by have := HN.out; rw [this]; exact othA_end l q (by omega)
      have j1 : ¬ (q : Int) < (n : Int) := by omega
      go_wp2
      rw [HQ.out]
      exact ⟨rfl, by rw [← HEN.out]; exact HOW.out, HBU.out⟩
end Go.Proofs.YthnidlhcpelomaaDoor
