import Derived.Test.YthnidlhcpelomaaDoorKO
namespace Go.Proofs.YthnidlhcpelomaaDoor
open Go.RowKit
attribute [local go_sem ↓] Go.wp_at_zero Go.wp_at_succ

abbrev bhC : Ch := (behindB, ⟨false, true, ⟨#[]⟩, behindB⟩)
set_option maxHeartbeats 4000000 in
theorem keptc_any (vf vl : Value) (l : List Ch) (w : World) (hF : ChR w vf (l ++ [bhC])) (hL : ChR w vl l) (hm : l.length ≤ 1099511627776) :
    Calls Tryd.prog 21 #[vf, vl] w fun e w' => e = .returned (.bool true) ∧ Below w.heap.size w w' := by
  obtain ⟨a2, c2, rfl⟩ : ∃ a c, vl = .slice a l.length c := by obtain ⟨x, y, h, _⟩ := hL; exact ⟨x, y, h⟩
  obtain ⟨n, hnl⟩ : ∃ n, n = l.length := ⟨_, rfl⟩
  obtain ⟨a1, cap, rfl, hle, hz, hc⟩ := id hF
  have hlen : (l ++ [bhC]).length = n + 1 := by rw [List.length_append, ← hnl]; rfl
  rw [hlen] at hle hF ⊢
  rw [← hnl] at hL hm ⊢
  obtain ⟨g, o, rfl, hd⟩ := hc n (by omega)
  clear hc
  have hlast : (l ++ [bhC])[n]'(by omega) = bhC := by subst hnl; simp
  rw [hlast] at hd
  obtain ⟨d0, d1, d2, d3, d4⟩ := hd
  simp only at d0 d1 d2 d3 d4
  clear hlast
  have HS : Hid (∀ V, Below w.heap.size w V → Calls Tryd.prog 11 #[.slice (some ⟨g, o, none⟩) n cap, .slice a2 n c2] V fun e w' => e = .returned (.bool true) ∧ Below V.heap.size V w') := fun V hV => by
    have ht := (hF.below hV).take (m := n) (Nat.le_succ n)
    have he : (l ++ [bhC]).take n = l := by rw [hnl, List.take_left']; rfl
    rw [he] at ht
    exact samec_same _ _ l V (by omega) ht (hL.below hV)
  have i0 : (0 : Int) ≤ (n : Int) := by omega
  have i1 : (n : Int) < ((n + 1 : Nat) : Int) := by omega
  have i2 : n ≤ cap := by omega
  have i3 : (n : Int) ≤ (cap : Int) := by omega
  have hwn : IntKind.i64.wrap ((n : Int) + 1) = ((n + 1 : Nat) : Int) := by rw [IntKind.wrap_i64]; omega
  have hwn2 : wrap64 ((n : Int) + 1) = ((n + 1 : Nat) : Int) := by unfold wrap64; omega
  obtain ⟨n1, hn1⟩ : ∃ m, m = n + 1 := ⟨_, rfl⟩
  rw [← hn1] at i1 hwn hwn2 ⊢
  have hself := fun w => (show (binOp .eql 44 (.agg #[.string behindB, .bool false, .bool true, .string ⟨#[]⟩, .string behindB]) (.agg #[.string behindB, .bool false, .bool true, .string ⟨#[]⟩, .string behindB])).run Tryd.prog w = .ok (.bool true) w from ch_self w behindB ⟨false, true, ⟨#[]⟩, behindB⟩)
  clear hF hL hlen hnl hle hz hn1
  go_enter Tryd.func21, Tryd.ntmps21
  go_wp2_with fail
  go_region_held3 (fun w' => w'.cell? ⟨g, o + n * 5, none⟩ = some (.string behindB) ∧ w'.cell? ⟨g, o + n * 5 + 1, none⟩ = some (.bool false) ∧ w'.cell? ⟨g, o + n * 5 + 2, none⟩ = some (.bool true) ∧ w'.cell? ⟨g, o + n * 5 + 3, none⟩ = some (.string ⟨#[]⟩) ∧ w'.cell? ⟨g, o + n * 5 + 4, none⟩ = some (.string behindB)) (go_keep)
    (first
      | (have hq := HB6; clear hq; go_at_call 16; refine (show Calls Tryd.prog 16 #[] _ fun e w' => e = .returned (.agg #[.string behindB, .bool false, .bool true, .string ⟨#[]⟩, .string behindB]) ∧ Below _ _ w' from lastc_any _).mono ?_; rintro e w7 ⟨rfl, hg⟩; have HB7 : Hid (Below w.heap.size w w7) := (by first | exact Below.next HB6.out hg | exact Below.next HB6.out ⟨hg.os, hg.tape, hg.output, hg.size, hg.block⟩); have z0 := cell_bel HB7.out d0; have z1 := cell_bel HB7.out d1; have z2 := cell_bel HB7.out d2; have z3 := cell_bel HB7.out d3; have z4 := cell_bel HB7.out d4; clear hg)
      | (go_at_call 11; refine (HS.out _ ?_).mono ?_; (first | exact Below.refl _ _ | exact (Below.refl _ _).drew | exact below_drewN2 (Below.refl _ _) _); rintro e w6 ⟨rfl, hg⟩; have HB6 : Hid (Below w.heap.size w w6) := ⟨hg.os, hg.tape, hg.output, hg.size, hg.block⟩; have z0 := cell_bel HB6.out d0; have z1 := cell_bel HB6.out d1; have z2 := cell_bel HB6.out d2; have z3 := cell_bel HB6.out d3; have z4 := cell_bel HB6.out d4; clear hg))
  go_wp2
  go_ret
  exact ⟨rfl, HB7.out⟩
end Go.Proofs.YthnidlhcpelomaaDoor

namespace Go.Proofs.YthnidlhcpelomaaDoor
open Go.RowKit
attribute [local go_sem ↓] Go.wp_at_zero Go.wp_at_succ

def zC (c : Ch) : Ch := (c.1, if c.2.has then ⟨c.2.had, c.2.has, c.2.old, c.2.new ++ ⟨#[122]⟩⟩ else c.2)
/-- The list when every second pair ahead of q is another one. -/
def othC (l : List Ch) (q : Nat) : List Ch := l.mapIdx fun j p => if j % 2 = 0 ∧ j < q then zC p else p
theorem othC_len (l : List Ch) (q : Nat) : (othC l q).length = l.length := by simp [othC]
theorem othC_zero (l : List Ch) : othC l 0 = l := by
  refine List.ext_getElem (othC_len l 0) (fun j h1 h2 => ?_)
  simp [othC]
theorem othC_get (l : List Ch) (q : Nat) (h : q < l.length) : (othC l q)[q]'(by rw [othC_len]; exact h) = l[q] := by simp [othC]
theorem othC_set (l r : List Ch) (q : Nat) (he : q % 2 = 0) (h : q < l.length) : (othC l q ++ r).set q (zC l[q]) = othC l (q + 2) ++ r := by
  rw [List.set_append_left _ _ (by rw [othC_len]; exact h)]
  congr 1
  refine List.ext_getElem (by simp [othC]) (fun j h1 h2 => ?_)
  rw [List.getElem_set]
  by_cases hj : q = j
  · subst hj
    simp [othC, he]
  · simp only [othC, List.getElem_mapIdx, hj, if_false]
    by_cases h3 : j % 2 = 0
    · have : (j < q) ↔ (j < q + 2) := by omega
      simp [h3, this]
    · simp [h3]
theorem othC_end (l : List Ch) (q : Nat) (h : l.length ≤ q) : othC l q = othC l l.length := by
  refine List.ext_getElem (by simp [othC]) (fun j h1 h2 => ?_)
  have hj : j < l.length := by simpa [othC] using h1
  have h4 : j < q := by omega
  simp [othC, hj, h4]
theorem chs_set4 (y : ByteArray) : ∀ (l : List Ch) (k : Nat) (h : k < l.length), (chs l).set (k * 5 + 4) (.string y) = chs (l.set k (l[k].1, ⟨l[k].2.had, l[k].2.has, l[k].2.old, y⟩))
  | [], k, h => by simp at h
  | q :: l, 0, _ => by
    rw [List.set_cons_zero, chs_cons, chs_cons]
    rfl
  | q :: l, k + 1, h => by
    rw [List.set_cons_succ, chs_cons, chs_cons, List.getElem_cons_succ, ← chs_set4 y l k (by simpa using h), show (k + 1) * 5 + 4 = (k * 5 + 4) + 1 + 1 + 1 + 1 + 1 by omega]
    simp only [chC, List.cons_append, List.nil_append, List.set_cons_succ]
theorem ChO.wrote4 {w : World} {base g n cap : Nat} {l : List Ch} (h : ChO w base (.slice (some ⟨g, 0, none⟩) n cap) l) (k : Nat) (hk : k < l.length) (y : ByteArray) :
    ChO (w.setCell ⟨g, k * 5 + 4, none⟩ (.string y)) base (.slice (some ⟨g, 0, none⟩) n cap) (l.set k (l[k].1, ⟨l[k].2.had, l[k].2.has, l[k].2.old, y⟩)) := by
  obtain ⟨a', c', he⟩ := h.form
  obtain rfl : n = l.length := by simp only [Value.slice.injEq] at he; exact he.2.1
  unfold ChO at h
  have := (World.ownsRow.stored h (k * 5 + 4) (.string y)).1
  rw [chs_set4 y l k hk] at this
  unfold ChO; rw [List.length_set]; exact this
theorem othC_skip (l r : List Ch) (q : Nat) (he : q % 2 = 0) (h : q < l.length) (hh : l[q].2.has = false) : othC l q ++ r = othC l (q + 2) ++ r := by
  rw [← othC_set l r q he h]
  have e : zC l[q] = (othC l q ++ r)[q]'(by rw [List.length_append, othC_len]; omega) := by
    rw [List.getElem_append_left (by rw [othC_len]; exact h), othC_get l q h]
    show (_, if l[q].2.has = true then _ else _) = _
    rw [hh]; rfl
  rw [e, List.set_getElem_self]
set_option maxHeartbeats 4000000 in
theorem otherwise_any (base g n cap : Nat) (l r : List Ch) (w : World) (hn : n = l.length) (hown : ChO w base (.slice (some ⟨g, 0, none⟩) (l ++ r).length cap) (l ++ r)) (hm : n ≤ 1099511627776) (hok : ∀ p ∈ l, p.2.new.size ≤ 1099511627776) :
    Calls Tryd.prog 22 #[.slice (some ⟨g, 0, none⟩) n cap] w fun e w' => e = .returned (.slice (some ⟨g, 0, none⟩) n cap) ∧ ChO w' base (.slice (some ⟨g, 0, none⟩) (l ++ r).length cap) (othC l n ++ r) ∧ Sole g w w' := by
  have hkind := hown.kind
  have HN := hide hn
  have HOK := hide hok
  obtain ⟨Q, hQ⟩ : ∃ Q : Ending → World → Prop, Q = fun e w' => e = .returned (.slice (some ⟨g, 0, none⟩) n cap) ∧ ChO w' base (.slice (some ⟨g, 0, none⟩) (l ++ r).length cap) (othC l n ++ r) ∧ Sole g w w' := ⟨_, rfl⟩
  rw [← hQ]
  have HQ := hide hQ
  have HO := hide hown
  clear hQ hn hok hown hkind
  go_enter Tryd.func22, Tryd.ntmps22
  go_wp2
  go_loopw [3] (fun i wr => ∃ q : Nat, q % 2 = 0 ∧ q ≤ n + 1 ∧ i = .int .i64 (q : Int) ∧ ChO wr base (.slice (some ⟨g, 0, none⟩) (l ++ r).length cap) (othC l q ++ r) ∧ Sole g w wr) (fun i _ => n + 2 - (intOf i).toNat)
  case atStart => exact ⟨0, rfl, Nat.zero_le _, rfl, by rw [othC_zero]; exact HO.out, Sole.refl _ _⟩
  case round =>
    obtain ⟨q, he, hq, rfl, hown, hbut⟩ := hrel
    have HOW := hide hown
    have HBU := hide hbut
    have HE := hide he
    by_cases hlt : q < n
    · have j1 : (q : Int) < (n : Int) := by omega
      have j0 : (0 : Int) ≤ (q : Int) := by omega
      have hql : q < l.length := by have := HN.out; omega
      have hqa : q < (othC l q ++ r).length := by rw [List.length_append, othC_len]; omega
      have hga : (othC l q ++ r)[q] = l[q] := by rw [List.getElem_append_left (by rw [othC_len]; exact hql)]; exact othC_get l q hql
      obtain ⟨a9, cap9, he9, hle9, hz9, hc9⟩ := hown.at
      obtain ⟨g9, o9, hg9, hd⟩ := hc9 q hqa
      obtain ⟨rfl, -, rfl⟩ : some (⟨g, 0, none⟩ : Addr) = a9 ∧ (l ++ r).length = (othC l q ++ r).length ∧ cap = cap9 := by simpa using he9
      cases hg9
      rw [hga] at hd
      obtain ⟨d0, d1, d2, d3, d4⟩ := hd
      obtain ⟨x, hx⟩ : ∃ x, x = l[q].2.new := ⟨_, rfl⟩
      obtain ⟨t, ht⟩ : ∃ t, t = l[q].2.has := ⟨_, rfl⟩
      rw [← hx, Nat.zero_add] at d4
      rw [← ht, Nat.zero_add] at d2
      have hxs : x.size ≤ 1099511627776 := by rw [hx]; exact HOK.out _ (List.getElem_mem hql)
      have hzs : (⟨#[122]⟩ : ByteArray).size = 1 := rfl
      have hf : wr.frozen? ⟨g, q * 5 + 4, none⟩ = false := by
        rcases hown.2 with ⟨h1, _⟩ | ⟨g8, cap8, cur8, h1, h2, h3, _⟩
        · cases h1
        · have hg8 : g = g8 := by simp at h1; exact h1.1
          subst hg8
          exact frozen_of_row _ _ _ _ _ h3
      have HW : Hid (t = true → ChO (wr.setCell ⟨g, q * 5 + 4, none⟩ (.string (x ++ ⟨#[122]⟩))) base (.slice (some ⟨g, 0, none⟩) (l ++ r).length cap) (othC l (q + 2) ++ r)) := fun htt => by
        have := hown.wrote4 q hqa (x ++ ⟨#[122]⟩)
        have hz : zC l[q] = (l[q].1, ⟨l[q].2.had, l[q].2.has, l[q].2.old, l[q].2.new ++ ⟨#[122]⟩⟩) := by
          show (_, if l[q].2.has = true then _ else _) = _
          rw [← ht, htt]; rfl
        rw [hga, hx, ← hz, othC_set l r q HE.out hql] at this
        rw [hx]; exact this
      have HSK : Hid (t = false → ChO wr base (.slice (some ⟨g, 0, none⟩) (l ++ r).length cap) (othC l (q + 2) ++ r)) := fun htt => by
        have := hown
        rw [othC_skip l r q HE.out hql (by rw [← ht]; exact htt)] at this
        exact this
      have HB : Hid (Sole g w (wr.setCell ⟨g, q * 5 + 4, none⟩ (.string (x ++ ⟨#[122]⟩)))) := hbut.trans (Sole.set g (q * 5 + 4) wr _)
      have HLT := hide hlt
      clear hown hbut he hc9 he9 hle9 hz9 hga hqa d0 d1 d3 hx ht hql
      cases t with
      | true =>
        have HW2 := hide (HW.out rfl)
        clear HW HSK
        go_wp2
        go_roundw
        case rel => exact ⟨q + 2, by have := HE.out; omega, by have := HLT.out; omega, by go_num, HW2.out, HB.out⟩
        case measure => have := HLT.out; simp [intOf]; omega
      | false =>
        have HW2 := hide (HSK.out rfl)
        clear HW HSK
        go_wp2
        go_roundw
        case rel => exact ⟨q + 2, by have := HE.out; omega, by have := HLT.out; omega, by go_num, HW2.out, HBU.out⟩
        case measure => have := HLT.out; simp [intOf]; omega
    · have HEN : Hid (othC l q = othC l n) := by have := HN.out; rw [this]; exact othC_end l q (by omega)
      have j1 : ¬ (q : Int) < (n : Int) := by omega
      go_wp2
      rw [HQ.out]
      exact ⟨rfl, by rw [← HEN.out]; exact HOW.out, HBU.out⟩
end Go.Proofs.YthnidlhcpelomaaDoor
