import Derived.Test.YtdacbajiapdiiabDoorLErr
import Derived.Test.YtdacbajiapdiiabDoorLSize
namespace Go.Proofs.YtdacbajiapdiiabDoor
open Go.RowKit

def roomF (l : List Pr) (root : Bool) : Option Nat := if (4072 : Int) < wsz (szL l) then some 2 else if l.length = 0 ∨ root = false ∧ wsz (szL l) < 1556 then some 3 else none
def chkW (l : List Pr) (root : Bool) : Option Nat := if l.all mayP = false then some 0 else if ¬ Rise l then some 11 else roomF l root
theorem may_size {l : List Pr} (h : l.all mayP = true) : szL l ≤ 960 * l.length := by
  induction l with
  | nil => exact Nat.le_refl _
  | cons p l ih =>
    simp only [List.all_cons, Bool.and_eq_true] at h
    have h1 := may_parts' h.1
    have h2 := ih h.2
    rw [szL_cons, List.length_cons]; unfold szP; omega
theorem chkW_eq (l : List Pr) (root : Bool) (hm : l.length ≤ 140737488355328) : chkW l root = chk l root := by
  unfold chkW chk
  cases h : l.all mayP with
  | false => rfl
  | true =>
    have hs := may_size h
    have e : roomF l root = if 4072 < szL l then some 2 else if l = [] ∨ root = false ∧ szL l < 1556 then some 3 else none := by
      unfold roomF
      rw [wsz_small (by omega)]
      by_cases h1 : 4072 < szL l
      · rw [if_pos (by omega), if_pos h1]
      · rw [if_neg (by omega), if_neg h1]
        by_cases h2 : l = [] ∨ root = false ∧ szL l < 1556
        · have h3 : l.length = 0 ∨ root = false ∧ ((szL l : Nat) : Int) < 1556 := by
            rcases h2 with h2 | ⟨h2, h3⟩
            · exact .inl (by rw [h2]; rfl)
            · exact .inr ⟨h2, by omega⟩
          rw [if_pos h2, if_pos h3]
        · have h3 : ¬ (l.length = 0 ∨ root = false ∧ ((szL l : Nat) : Int) < 1556) := by
            rintro (h3 | ⟨h3, h4⟩)
            · exact h2 (.inl (List.length_eq_zero_iff.1 h3))
            · exact h2 (.inr ⟨h3, by omega⟩)
          rw [if_neg h2, if_neg h3]
    rw [e]

set_option maxHeartbeats 400000 in
theorem lmay_any (p : Pr) (w : World) :
    Calls Tryd.prog 51 #[.agg #[.string p.1, .string p.2]] w fun e w' => e = .returned (.bool (mayP p)) ∧ Below w.heap.size w w' := by
  have hbn := below_new w (.cells #[.string p.1, .string p.2] 45)
  by_cases h1 : 1 ≤ p.1.size
  · by_cases h2 : p.1.size ≤ 255
    · by_cases h3 : p.2.size ≤ 700
      · have hm : mayP p = true := decide_eq_true ⟨h1, h2, h3⟩
        rw [hm]
        have i1 : (1 : Int) ≤ (p.1.size : Int) := by omega
        have i2 : (p.1.size : Int) ≤ 255 := by omega
        have i3 : (p.2.size : Int) ≤ 700 := by omega
        clear hm
        go_enter Tryd.func51, Tryd.ntmps51
        go_wp2
        go_ret
        exact ⟨rfl, hbn⟩
      · have hm : mayP p = false := decide_eq_false (fun h => h3 h.2.2)
        rw [hm]
        have i1 : (1 : Int) ≤ (p.1.size : Int) := by omega
        have i2 : (p.1.size : Int) ≤ 255 := by omega
        have i3 : ¬ (p.2.size : Int) ≤ 700 := by omega
        clear hm
        go_enter Tryd.func51, Tryd.ntmps51
        go_wp2
        go_ret
        exact ⟨rfl, hbn⟩
    · have hm : mayP p = false := decide_eq_false (fun h => h2 h.2.1)
      rw [hm]
      have i1 : (1 : Int) ≤ (p.1.size : Int) := by omega
      have i2 : ¬ (p.1.size : Int) ≤ 255 := by omega
      clear hm
      go_enter Tryd.func51, Tryd.ntmps51
      go_wp2
      go_ret
      exact ⟨rfl, hbn⟩
  · have hm : mayP p = false := decide_eq_false (fun h => h1 h.1)
    rw [hm]
    have i1 : ¬ (1 : Int) ≤ (p.1.size : Int) := by omega
    clear hm
    go_enter Tryd.func51, Tryd.ntmps51
    go_wp2
    go_ret
    exact ⟨rfl, hbn⟩

set_option maxHeartbeats 800000 in
theorem lroom_any (A : Nat → Addr) (v : Value) (l : List Pr) (root : Bool) (w : World) (hok : OkL l) (hm : l.length ≤ 140737488355328) (hr : PrR w v l) (hE : ErrC A w) :
    Calls Tryd.prog 50 #[v, .bool root] w fun e w' => e = .returned (errV A (roomF l root)) ∧ Below w.heap.size w w' := by
  have HS := hide (lsize_any v l w hok hm hr)
  obtain ⟨a, c, hv⟩ := hr.form
  subst hv
  have HE := hide hE
  obtain ⟨x, hx⟩ : ∃ x, x = wsz (szL l) := ⟨_, rfl⟩
  obtain ⟨n, hn⟩ : ∃ n, n = l.length := ⟨_, rfl⟩
  have HR : Hid (roomF l root = if (4072 : Int) < x then some 2 else if n = 0 ∨ root = false ∧ x < 1556 then some 3 else none) := by rw [hx, hn]; exact rfl
  rw [← hx] at HS
  rw [← hn] at HS hm ⊢
  clear hr hE hx hn hok
  by_cases h1 : (4072 : Int) < x
  · rw [HR.out, if_pos h1]
    go_enter Tryd.func50, Tryd.ntmps50
    go_wp2_with fail
    refine HS.out.mono ?_
    rintro e w1 ⟨rfl, hb1⟩
    have c2 : w1.cell? ⟨2, 0, none⟩ = some (.iface 128 (.pointer (some (A 2)))) := ((HE.out.below hb1).1.1 2 (by decide)).1
    go_wp2
    go_ret
    exact ⟨rfl, hb1⟩
  · by_cases h2 : n = 0
    · subst h2
      rw [HR.out, if_neg h1, if_pos (.inl rfl)]
      go_enter Tryd.func50, Tryd.ntmps50
      go_wp2_with fail
      refine HS.out.mono ?_
      rintro e w1 ⟨rfl, hb1⟩
      have c3 : w1.cell? ⟨3, 0, none⟩ = some (.iface 128 (.pointer (some (A 3)))) := ((HE.out.below hb1).1.1 3 (by decide)).1
      go_wp2
      go_ret
      exact ⟨rfl, hb1⟩
    · have h2' : ((n : Int) == 0) = false := by rw [beq_eq_false_iff_ne]; omega
      cases root with
      | true =>
        rw [HR.out, if_neg h1, if_neg (by simp [h2])]
        go_enter Tryd.func50, Tryd.ntmps50
        go_wp2_with fail
        refine HS.out.mono ?_
        rintro e w1 ⟨rfl, hb1⟩
        go_wp2
        go_ret
        exact ⟨rfl, hb1⟩
      | false =>
        by_cases h3 : x < 1556
        · rw [HR.out, if_neg h1, if_pos (.inr ⟨rfl, h3⟩)]
          go_enter Tryd.func50, Tryd.ntmps50
          go_wp2_with fail
          refine HS.out.mono ?_
          rintro e w1 ⟨rfl, hb1⟩
          have c3 : w1.cell? ⟨3, 0, none⟩ = some (.iface 128 (.pointer (some (A 3)))) := ((HE.out.below hb1).1.1 3 (by decide)).1
          go_wp2
          go_ret
          exact ⟨rfl, hb1⟩
        · rw [HR.out, if_neg h1, if_neg (by simp [h2, h3])]
          go_enter Tryd.func50, Tryd.ntmps50
          go_wp2_with fail
          refine HS.out.mono ?_
          rintro e w1 ⟨rfl, hb1⟩
          go_wp2
          go_ret
          exact ⟨rfl, hb1⟩

end Go.Proofs.YtdacbajiapdiiabDoor
