import Derived.Test.YtiihnoohodklhaaDoorDI
import Derived.Test.YtiihnoohodklhaaDoorRd
import Derived.Test.YtiihnoohodklhaaDoorPClone
namespace Go.Proofs.YtiihnoohodklhaaDoor
open Go.RowKit
attribute [local go_sem ↓] Go.wp_at_zero Go.wp_at_succ

/-! What a batch may hold, as data. -/
def standB (t : Bool) (v : ByteArray) : Bool := decide (v.size ≤ 700) && (t || decide (v = nilB))
def mayCh (c : Ch) : Bool := decide (1 ≤ c.1.size) && decide (c.1.size ≤ 255) && standB c.2.had c.2.old && standB c.2.has c.2.new && !(c.2.had == c.2.has && decide (c.2.old = c.2.new))
def ownB : ByteArray := ⟨#[255, 102, 101, 101, 100]⟩
theorem emp_dec (v : ByteArray) : v.toList.isEmpty = decide (v = nilB) := by
  have h := list_eq v nilB
  have h2 : nilB.toList = [] := by simp [nilB]
  rw [h2] at h
  rw [← h]
  cases v.toList <;> rfl
theorem own_dec (v : ByteArray) : (v.toList == [255, 102, 101, 101, 100]) = decide (v = ownB) := by
  have h := list_eq v ownB
  have h2 : ownB.toList = [255, 102, 101, 101, 100] := by decide +kernel
  rw [h2] at h
  exact h
set_option maxHeartbeats 1000000 in
theorem maystand_any (t : Bool) (v : ByteArray) (w : World) : Calls Tryd.prog 31 #[.bool t, .string v] w fun e w' => e = .returned (.bool (standB t v)) ∧ w = w' := by
  by_cases h : v.size ≤ 700
  · have hI : (v.size : Int) ≤ 700 := by omega
    have hs : standB t v = (t || decide (v = nilB)) := by simp [standB, h]
    have HE := hide (emp_dec v)
    rw [hs]
    clear hs
    cases t <;>
    (go_enter Tryd.func31, Tryd.ntmps31
     go_wp2
     go_ret
     first | exact ⟨rfl, rfl⟩ | (refine ⟨?_, rfl⟩; rw [← HE.out]; rfl))
  · have hI : ¬ (v.size : Int) ≤ 700 := by omega
    have hs : standB t v = false := by simp [standB, h]
    rw [hs]
    go_enter Tryd.func31, Tryd.ntmps31
    go_wp2
    go_ret
    exact ⟨rfl, rfl⟩
set_option maxHeartbeats 1000000 in
theorem isown_any (c : Ch) (w : World) : Calls Tryd.prog 20 #[chA c.1 c.2] w fun e w' => e = .returned (.bool (decide (c.1 = ownB))) ∧ Below w.heap.size w w' := by
  obtain ⟨k, had, has, old, new⟩ := c
  unfold chA
  have HE := hide (own_dec k)
  have HB := hide (below_new w (.cells #[.string k, .bool had, .bool has, .string old, .string new] 39))
  go_enter Tryd.func20, Tryd.ntmps20
  go_wp2
  go_ret
  refine ⟨?_, HB.out⟩
  rw [← HE.out]; rfl
set_option maxHeartbeats 4000000 in
theorem maynot_any (c : Ch) (w : World) : Calls Tryd.prog 18 #[chA c.1 c.2] w fun e w' => e = .returned (.bool (!mayCh c)) ∧ Below w.heap.size w w' := by
  obtain ⟨k, had, has, old, new⟩ := c
  unfold chA
  have HID := hide (list_eq old new)
  have HB := hide (below_new w (.cells #[.string k, .bool had, .bool has, .string old, .string new] 39))
  have HS1 := hide (fun W => maystand_any had old W)
  have HS2 := hide (fun W => maystand_any has new W)
  have hm : mayCh (k, ⟨had, has, old, new⟩) = (decide (1 ≤ k.size) && decide (k.size ≤ 255) && standB had old && standB has new && !(had == has && decide (old = new))) := rfl
  rw [hm]
  clear hm
  generalize standB had old = s1 at *
  generalize standB has new = s2 at *
  by_cases h0 : k.size = 0
  · have e0 : k.toList.isEmpty = true := by rw [emp_dec]; simp; exact ByteArray.ext (Array.eq_empty_of_size_eq_zero h0)
    have h1 : decide (1 ≤ k.size) = false := decide_eq_false (show ¬ 1 ≤ k.size by omega)
    rw [h1]
    clear HS1 HS2 h1
    cases had <;> cases has <;>
    (go_enter Tryd.func18, Tryd.ntmps18
     go_wp2
     go_ret
     exact ⟨rfl, HB.out⟩)
  · have e1 : decide (k = nilB) = false := decide_eq_false (fun e => h0 (by rw [e]; rfl))
    have e0 : k.toList.isEmpty = false := by rw [emp_dec]; exact e1
    have e2 : ¬ k.toList = [] := fun e => by rw [e] at e0; cases e0
    have h1 : decide (1 ≤ k.size) = true := decide_eq_true (show 1 ≤ k.size by omega)
    rw [h1]
    clear h1 e1
    by_cases h2 : k.size ≤ 255
    · have hI : (k.size : Int) ≤ 255 := by omega
      have h3 : decide (k.size ≤ 255) = true := decide_eq_true h2
      have hgt : decide ((255 : Int) < (k.size : Int)) = false := decide_eq_false (by omega)
      rw [h3]
      clear h3 h2
      cases s1
      · cases had <;> cases has <;>
        (go_enter Tryd.func18, Tryd.ntmps18
         go_wp2_with fail
         refine (HS1.out _).mono ?_
         rintro e W ⟨rfl, rfl⟩
         go_wp2
         go_ret
         exact ⟨rfl, HB.out⟩)
      · cases s2
        · cases had <;> cases has <;>
          (go_enter Tryd.func18, Tryd.ntmps18
           go_wp2_with fail
           refine (HS1.out _).mono ?_
           rintro e W ⟨rfl, rfl⟩
           go_wp2_with fail
           refine (HS2.out _).mono ?_
           rintro e W ⟨rfl, rfl⟩
           go_wp2
           go_ret
           exact ⟨rfl, HB.out⟩)
        · cases had <;> cases has <;>
          (go_enter Tryd.func18, Tryd.ntmps18
           go_wp2_with fail
           refine (HS1.out _).mono ?_
           rintro e W ⟨rfl, rfl⟩
           go_wp2_with fail
           refine (HS2.out _).mono ?_
           rintro e W ⟨rfl, rfl⟩
           go_wp2
           go_ret
           refine ⟨?_, HB.out⟩
           first | rfl | (show Ending.returned (.bool (old.toList == new.toList)) = _; rw [HID.out]; simp))
    · have hI : ¬ (k.size : Int) ≤ 255 := by omega
      have hI2 : (255 : Int) < (k.size : Int) := by omega
      have h3 : decide (k.size ≤ 255) = false := decide_eq_false h2
      rw [h3]
      clear h3 HS1 HS2
      cases had <;> cases has <;>
      (go_enter Tryd.func18, Tryd.ntmps18
       go_wp2
       go_ret
       exact ⟨rfl, HB.out⟩)
end Go.Proofs.YtiihnoohodklhaaDoor
