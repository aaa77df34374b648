import Derived.Test.YtdacbajiapdiiabDoorLErr
import Derived.Test.YtdacbajiapdiiabDoorLSize
import Derived.WalkMore
namespace Go.Proofs.YtdacbajiapdiiabDoor
open Go.RowKit

def roomF (l : List Pr) (root : Bool) : Option Nat := if (4072 : Int) < wsz (szL l) then some 2 else if l.length = 0 ∨ root = false ∧ wsz (szL l) < 1556 then some 3 else none
def chkW (l : List Pr) (root : Bool) : Option Nat := if l.all mayP = false then some 0 else if ¬ Rise l then some 11 else roomF l root
theorem may_size {l : List Pr} (h : l.all mayP = true) : szL l ≤ 960 * l.length := by
  induction l with
  | nil => exact Nat.le_refl _
  | cons p l ih =>
    simp only [List.all_cons, Bool.and_eq_true] at h
    have h1 := may_parts' h.1
    have h2 := ih h.2
    rw [szL_cons, List.length_cons]; unfold szP; omega
theorem chkW_eq (l : List Pr) (root : Bool) (hm : l.length ≤ 140737488355328) : chkW l root = chk l root := by
  unfold chkW chk
  cases h : l.all mayP with
  | false => rfl
  | true =>
    have hs := may_size h
    have e : roomF l root = if 4072 < szL l then some 2 else if l = [] ∨ root = false ∧ szL l < 1556 then some 3 else none := by
      unfold roomF
      rw [wsz_small (by omega)]
      by_cases h1 : 4072 < szL l
      · rw [if_pos (by omega), if_pos h1]
      · rw [if_neg (by omega), if_neg h1]
        by_cases h2 : l = [] ∨ root = false ∧ szL l < 1556
        · have h3 : l.length = 0 ∨ root = false ∧ ((szL l : Nat) : Int) < 1556 := by
            rcases h2 with h2 | ⟨h2, h3⟩
            · exact .inl (by rw [h2]; rfl)
            · exact .inr ⟨h2, by omega⟩
          rw [if_pos h2, if_pos h3]
        · have h3 : ¬ (l.length = 0 ∨ root = false ∧ ((szL l : Nat) : Int) < 1556) := by
            rintro (h3 | ⟨h3, h4⟩)
            · exact h2 (.inl (List.length_eq_zero_iff.1 h3))
            · exact h2 (.inr ⟨h3, by omega⟩)
          rw [if_neg h2, if_neg h3]
    rw [e]

set_option maxHeartbeats 400000 in
theorem lmay_any (p : Pr) (w : World) :
    Calls Tryd.prog 51 #[.agg #[.string p.1, .string p.2]] w fun e w' => e = .returned (.bool (mayP p)) ∧ Below w.heap.size w w' := by
  have hbn := below_new w (.cells #[.string p.1, .string p.2] 45)
  by_cases h1 : 1 ≤ p.1.size
  · by_cases h2 : p.1.size ≤ 255
    · by_cases h3 : p.2.size ≤ 700
      · have hm : mayP p = true := decide_eq_true ⟨h1, h2, h3⟩
        rw [hm]
        have i1 : (1 : Int) ≤ (p.1.size : Int) := by omega
        have i2 : (p.1.size : Int) ≤ 255 := by omega
        have i3 : (p.2.size : Int) ≤ 700 := by omega
        clear hm
        go_enter Tryd.func51, Tryd.ntmps51
        go_wp2
        go_ret
        exact ⟨rfl, hbn⟩
      · have hm : mayP p = false := decide_eq_false (fun h => h3 h.2.2)
        rw [hm]
        have i1 : (1 : Int) ≤ (p.1.size : Int) := by omega
        have i2 : (p.1.size : Int) ≤ 255 := by omega
        have i3 : ¬ (p.2.size : Int) ≤ 700 := by omega
        clear hm
        go_enter Tryd.func51, Tryd.ntmps51
        go_wp2
        go_ret
        exact ⟨rfl, hbn⟩
    · have hm : mayP p = false := decide_eq_false (fun h => h2 h.2.1)
      rw [hm]
      have i1 : (1 : Int) ≤ (p.1.size : Int) := by omega
      have i2 : ¬ (p.1.size : Int) ≤ 255 := by omega
      clear hm
      go_enter Tryd.func51, Tryd.ntmps51
      go_wp2
      go_ret
      exact ⟨rfl, hbn⟩
  · have hm : mayP p = false := decide_eq_false (fun h => h1 h.1)
    rw [hm]
    have i1 : ¬ (1 : Int) ≤ (p.1.size : Int) := by omega
    clear hm
    go_enter Tryd.func51, Tryd.ntmps51
    go_wp2
    go_ret
    exact ⟨rfl, hbn⟩

set_option maxHeartbeats 800000 in
theorem lroom_any (A : Nat → Addr) (v : Value) (l : List Pr) (root : Bool) (w : World) (hok : OkL l) (hm : l.length ≤ 140737488355328) (hr : PrR w v l) (hE : ErrC A w) :
    Calls Tryd.prog 50 #[v, .bool root] w fun e w' => e = .returned (errV A (roomF l root)) ∧ Below w.heap.size w w' := by
  have HS := hide (lsize_any v l w hok hm hr)
  obtain ⟨a, c, hv⟩ := hr.form
  subst hv
  have HE := hide hE
  obtain ⟨x, hx⟩ : ∃ x, x = wsz (szL l) := ⟨_, rfl⟩
  obtain ⟨n, hn⟩ : ∃ n, n = l.length := ⟨_, rfl⟩
  have HR : Hid (roomF l root = if (4072 : Int) < x then some 2 else if n = 0 ∨ root = false ∧ x < 1556 then some 3 else none) := by rw [hx, hn]; exact rfl
  rw [← hx] at HS
  rw [← hn] at HS hm ⊢
  clear hr hE hx hn hok
  by_cases h1 : (4072 : Int) < x
  · rw [HR.out, if_pos h1]
    go_enter Tryd.func50, Tryd.ntmps50
    go_wp2_with fail
    refine HS.out.mono ?_
    rintro e w1 ⟨rfl, hb1⟩
    have c2 : w1.cell? ⟨2, 0, none⟩ = some (.iface 128 (.pointer (some (A 2)))) := ((HE.out.below hb1).1.1 2 (by decide)).1
    go_wp2
    go_ret
    exact ⟨rfl, hb1⟩
  · by_cases h2 : n = 0
    · subst h2
      rw [HR.out, if_neg h1, if_pos (.inl rfl)]
      go_enter Tryd.func50, Tryd.ntmps50
      go_wp2_with fail
      refine HS.out.mono ?_
      rintro e w1 ⟨rfl, hb1⟩
      have c3 : w1.cell? ⟨3, 0, none⟩ = some (.iface 128 (.pointer (some (A 3)))) := ((HE.out.below hb1).1.1 3 (by decide)).1
      go_wp2
      go_ret
      exact ⟨rfl, hb1⟩
    · have h2' : ((n : Int) == 0) = false := by rw [beq_eq_false_iff_ne]; omega
      cases root with
      | true =>
        rw [HR.out, if_neg h1, if_neg (by simp [h2])]
        go_enter Tryd.func50, Tryd.ntmps50
        go_wp2_with fail
        refine HS.out.mono ?_
        rintro e w1 ⟨rfl, hb1⟩
        go_wp2
        go_ret
        exact ⟨rfl, hb1⟩
      | false =>
        by_cases h3 : x < 1556
        · rw [HR.out, if_neg h1, if_pos (.inr ⟨rfl, h3⟩)]
          go_enter Tryd.func50, Tryd.ntmps50
          go_wp2_with fail
          refine HS.out.mono ?_
          rintro e w1 ⟨rfl, hb1⟩
          have c3 : w1.cell? ⟨3, 0, none⟩ = some (.iface 128 (.pointer (some (A 3)))) := ((HE.out.below hb1).1.1 3 (by decide)).1
          go_wp2
          go_ret
          exact ⟨rfl, hb1⟩
        · rw [HR.out, if_neg h1, if_neg (by simp [h2, h3])]
          go_enter Tryd.func50, Tryd.ntmps50
          go_wp2_with fail
          refine HS.out.mono ?_
          rintro e w1 ⟨rfl, hb1⟩
          go_wp2
          go_ret
          exact ⟨rfl, hb1⟩

end Go.Proofs.YtdacbajiapdiiabDoor

namespace Go.Proofs.YtdacbajiapdiiabDoor
open Go.RowKit

/-- The fault behind the first k pairs, if all may be. -/
def faultT (l : List Pr) (root : Bool) (k : Nat) : Option Nat := if Rise (l.take k) then roomF l root else some 11
theorem faultT_keep {l : List Pr} {root : Bool} {k : Nat} (hk : k < l.length) (h : ∀ (h0 : 0 < k), ltK (l[k - 1]'(by omega)).1 l[k].1 = true) : faultT l root (k + 1) = faultT l root k := by
  unfold faultT
  have e : Rise (l.take (k + 1)) ↔ Rise (l.take k) := by
    rw [List.take_succ_eq_append_getElem hk, rise_snoc]
    constructor
    · exact fun h => h.1
    · intro hr
      refine ⟨hr, fun h0 => ?_⟩
      simp only [List.length_take, Nat.min_eq_left (Nat.le_of_lt hk), List.getElem_take] at h0 ⊢
      exact h h0
  simp only [e]
theorem faultT_new {l : List Pr} {root : Bool} {k : Nat} (hk : k < l.length) (h0 : 0 < k) (h : ltK (l[k - 1]'(by omega)).1 l[k].1 = false) : faultT l root (k + 1) = some 11 := by
  unfold faultT
  rw [if_neg]
  intro hr
  have := hr (k - 1) (by rw [List.length_take]; omega)
  simp only [List.getElem_take, show k - 1 + 1 = k by omega] at this
  rw [h] at this; cases this

set_option maxRecDepth 20000 in
set_option maxHeartbeats 2000000 in
theorem lcheck_any (A : Nat → Addr) (v : Value) (l : List Pr) (root : Bool) (w : World) (hok : OkL l) (hm : l.length ≤ 140737488355328) (hr : PrR w v l) (hE : ErrC A w) :
    Calls Tryd.prog 24 #[v, .bool root] w fun e w' => e = .returned (errV A (chk l root)) ∧ Below w.heap.size w w' := by
  have HRO := hide (lroom_any A v l root w hok hm hr hE)
  rw [← chkW_eq l root hm]
  obtain ⟨a, cap, rfl, hcap, _, hc⟩ := hr
  have HC := hide hc
  have HE := hide hE
  have HF0 : Hid (faultT l root 0 = roomF l root) := by show _ = _; unfold faultT; rw [if_pos]; simp [rise_nil]
  obtain ⟨n, hn⟩ : ∃ n, n = l.length := ⟨_, rfl⟩
  rw [← hn] at hm HRO ⊢
  have HN := hide hn
  obtain ⟨Q, hQ⟩ : ∃ Q : Ending → World → Prop, Q = fun e w' => e = .returned (errV A (chkW l root)) ∧ Below w.heap.size w w' := ⟨_, rfl⟩
  rw [← hQ]
  have HQ := hide hQ
  clear hc hn hcap hE hok hQ
  go_enter Tryd.func24, Tryd.ntmps24
  go_wp2_with fail
  go_step3
  go_wp2_with fail
  refine HRO.out.mono ?_
  rintro e w1 ⟨rfl, hb1⟩
  have HB1 := hide hb1
  clear hb1 HRO
  rw [← HF0.out]
  go_wp2
  go_step3
  go_wp2
  go_loopw [5, 13] (fun f i wr => ∃ k : Nat, k ≤ n ∧ i = .int .i64 k ∧ f = errV A (faultT l root k) ∧ (∀ j (h : j < l.length), j < k → mayP l[j] = true) ∧ Below w.heap.size w wr) (fun _ i _ => n - (intOf i).toNat)
  case atStart => exact ⟨0, Nat.zero_le _, rfl, rfl, fun j _ h => absurd h (Nat.not_lt_zero _), HB1.out⟩
  case round =>
    obtain ⟨k, hk, rfl, rfl, hpre, hbw⟩ := hrel
    clear HB1 HF0
    have HP := hide hpre
    clear hpre
    by_cases hlt : k < n
    · have hkl : k < l.length := by have := HN.out; omega
      have hltI : (k : Int) < (n : Int) := by omega
      obtain ⟨g, o, rfl, f1, f2⟩ := HC.out k hkl
      have c1 : wr.cell? ⟨g, o + k * 2, none⟩ = some (.string l[k].1) := (hbw.cell (p := ⟨g, o + k * 2, none⟩) (World.block_lt_of_cell? w _ f1)).trans f1
      have c2 : wr.cell? ⟨g, o + k * 2 + 1, none⟩ = some (.string l[k].2) := (hbw.cell (p := ⟨g, o + k * 2 + 1, none⟩) (World.block_lt_of_cell? w _ f2)).trans f2
      have HNX : Hid (mayP l[k] = true → ∀ j (h : j < l.length), j < k + 1 → mayP l[j] = true) := fun hl j h hj => by
        by_cases he : j = k
        · subst he; exact hl
        · exact HP.out j h (by omega)
      have HNO : Hid (mayP l[k] = false → chkW l root = some 0) := fun hl => by
        unfold chkW; rw [if_pos]; rw [List.all_eq_false]; exact ⟨l[k], List.getElem_mem _, by simp [hl]⟩
      have HB := hide (Below.next hbw (below_new wr (.cells #[.string l[k].1, .string l[k].2] 45)))
      have HBX := hide (boxed_new wr #[.string l[k].1, .string l[k].2] 45)
      have HMY := hide (fun W => lmay_any l[k] W)
      obtain ⟨fv, hfv⟩ : ∃ fv, fv = errV A (faultT l root k) := ⟨_, rfl⟩
      rw [← hfv]
      cases hmy : mayP l[k] with
      | false =>
        rw [hmy] at HMY
        have HNO2 := hide (HNO.out hmy)
        obtain ⟨p, hp⟩ : ∃ p, p = l[k] := ⟨_, rfl⟩
        rw [← hp] at c1 c2 HMY HB HBX
        clear hp hfv HNX HNO hmy HC hbw f1 f2
        go_wp2_with fail
        refine (HMY.out _).mono ?_
        rintro e w2 ⟨rfl, hb2⟩
        have HB2 := hide (Below.next HB.out hb2)
        have k0 : w2.cell? ⟨1, 0, none⟩ = some (.iface 128 (.pointer (some (A 0)))) := ((HE.out.below HB2.out).1.1 0 (by decide)).1
        clear hb2 HB HBX HMY c1 c2
        go_wp2
        rw [HQ.out]
        exact ⟨by rw [HNO2.out]; rfl, HB2.out⟩
      | true =>
        rw [hmy] at HMY
        have HNX2 := hide (HNX.out hmy)
        by_cases h0 : k = 0
        · have HK := hide (faultT_keep (l := l) (root := root) hkl (fun h => by omega))
          rw [← HK.out] at hfv
          have HFV := hide hfv
          obtain ⟨p, hp⟩ : ∃ p, p = l[k] := ⟨_, rfl⟩
          rw [← hp] at c1 c2 HMY HB HBX
          have hz : decide ((0 : Int) < (k : Int)) = false := decide_eq_false (by omega)
          have hz2 : decide (0 < k) = false := decide_eq_false (by omega)
          have HH0 := hide h0
          clear hp hfv HNX HNO hmy HC hbw f1 f2 HK h0
          go_wp2_with fail
          refine (HMY.out _).mono ?_
          rintro e w2 ⟨rfl, hb2⟩
          have HB2 := hide (Below.next HB.out hb2)
          have b0 : w2.cell? ⟨wr.heap.size, 0, none⟩ = some (.string p.1) := (HBX.out.below hb2).2 0 (by simp)
          clear hb2 HB HBX HMY c1 c2
          go_wp2
          go_quiet (fail)
          go_wp2
          go_roundw
          case rel => exact ⟨k + 1, by omega, by go_num, HFV.out, HNX2.out, below_drewN' HB2.out _⟩
          case measure => simp [intOf]; omega
        · have hk1l : k - 1 < l.length := by omega
          obtain ⟨g', o', he, d1, d2⟩ := HC.out (k - 1) hk1l
          cases he
          have HKP : Hid (ltK (l[k - 1]'hk1l).1 l[k].1 = true → faultT l root (k + 1) = faultT l root k) := fun h => faultT_keep hkl (fun _ => h)
          have HKN : Hid (ltK (l[k - 1]'hk1l).1 l[k].1 = false → faultT l root (k + 1) = some 11) := fun h => faultT_new hkl (by omega) h
          obtain ⟨p, hp⟩ : ∃ p, p = l[k] := ⟨_, rfl⟩
          obtain ⟨x, hx⟩ : ∃ x, x = (l[k - 1]'hk1l).1 := ⟨_, rfl⟩
          rw [← hp] at c1 c2 HMY HB HBX HKP HKN
          rw [← hx] at d1 HKP HKN
          obtain ⟨k1, hk1⟩ : ∃ k1, k1 = k - 1 := ⟨_, rfl⟩
          have hw1 : IntKind.i64.wrap ((k : Int) - 1) = (k1 : Int) := by rw [IntKind.wrap_i64]; omega
          rw [← hk1] at d1
          have e1 : wr.cell? ⟨g, o + k1 * 2, none⟩ = some (.string x) := (hbw.cell (p := ⟨g, o + k1 * 2, none⟩) (World.block_lt_of_cell? w _ d1)).trans d1
          have hz : (0 : Int) < (k : Int) := by omega
          have hz2 : 0 < k := by omega
          have j1 : (k1 : Int) < (n : Int) := by omega
          have j0 : (0 : Int) ≤ (k1 : Int) := by omega
          have HG1 := hide (World.block_lt_of_cell? wr _ e1)
          clear hp hx HNX HNO hmy HC hbw f1 f2 d1 d2 hk1 hk1l
          cases hb : ltK x p.1 with
          | true =>
            have hbl : Op.bytesLess x.toList p.1.toList = true := hb
            have HK := hide (HKP.out hb)
            rw [← HK.out] at hfv
            have HFV := hide hfv
            clear hb hfv HKP HKN HK
            go_wp2_with fail
            refine (HMY.out _).mono ?_
            rintro e w2 ⟨rfl, hb2⟩
            have HB2 := hide (Below.next HB.out hb2)
            have b0 : w2.cell? ⟨wr.heap.size, 0, none⟩ = some (.string p.1) := (HBX.out.below hb2).2 0 (by simp)
            have b1 : w2.cell? ⟨g, o + k1 * 2, none⟩ = some (.string x) := ((Below.next (below_new wr _) hb2).cell (p := ⟨g, o + k1 * 2, none⟩) HG1.out).trans e1
            clear hb2 HB HBX HMY c1 c2 e1
            go_wp2
            go_quiet (fail)
            go_wp2
            go_roundw
            case rel => exact ⟨k + 1, by omega, by go_num, HFV.out, HNX2.out, below_drewN' HB2.out _⟩
            case measure => simp [intOf]; omega
          | false =>
            have hbl : Op.bytesLess x.toList p.1.toList = false := hb
            have HK := hide (HKN.out hb)
            clear hb hfv HKP HKN
            go_wp2_with fail
            refine (HMY.out _).mono ?_
            rintro e w2 ⟨rfl, hb2⟩
            have HB2 := hide (Below.next HB.out hb2)
            have b0 : w2.cell? ⟨wr.heap.size, 0, none⟩ = some (.string p.1) := (HBX.out.below hb2).2 0 (by simp)
            have b1 : w2.cell? ⟨g, o + k1 * 2, none⟩ = some (.string x) := ((Below.next (below_new wr _) hb2).cell (p := ⟨g, o + k1 * 2, none⟩) HG1.out).trans e1
            have b2 : w2.cell? ⟨7, 0, none⟩ = some (.iface 128 (.pointer (some (A 11)))) := (HE.out.below HB2.out).2
            clear hb2 HB HBX HMY c1 c2 e1
            go_wp2
            go_quiet (fail)
            go_wp2
            go_roundw
            case rel => exact ⟨k + 1, by omega, by go_num, by rw [HK.out]; rfl, HNX2.out, below_drewN' HB2.out _⟩
            case measure => simp [intOf]; omega
    · have hltI : ¬ (k : Int) < (n : Int) := by omega
      have HFIN : Hid (faultT l root k = chkW l root) := by
        have hall : l.take k = l := by rw [List.take_of_length_le]; have := HN.out; omega
        have hmay : l.all mayP = true := List.all_eq_true.2 (fun p hp => by
          obtain ⟨i, hi, rfl⟩ := List.getElem_of_mem hp
          exact HP.out i hi (by have := HN.out; omega))
        show faultT l root k = chkW l root
        unfold faultT chkW
        rw [hall, hmay]
        by_cases hrs : Rise l
        · simp [hrs]
        · simp [hrs]
      have HB := hide hbw
      rw [HFIN.out]
      obtain ⟨fv, hfv⟩ : ∃ fv, fv = errV A (chkW l root) := ⟨_, rfl⟩
      rw [← hfv]
      have HFV := hide hfv
      clear hfv HC hbw HP HFIN
      go_wp2
      rw [HQ.out]
      exact ⟨by rw [← HFV.out], HB.out⟩

end Go.Proofs.YtdacbajiapdiiabDoor
