import Derived.Test.YtageokjobbjddaaGreatDoorGRA
namespace Go.Proofs.YtageokjobbjddaaGreatDoor
open Go.RowKit

/-- May the fields of one item be so? -/
def fitB (k n : Int) (nt nl : Bool) : Bool :=
  if k = 1 then (n == 0) && nt && nl else if k = 2 then (n == 0 || n == 1) && nt && nl else if k = 3 then nt && nl else if k = 4 then (n == 0) && nl else if k = 5 then (n == 0) && nt else false
def fits (x : It) : Bool := fitB x.kind x.num (x.text.toList == []) ((x.list.length : Int) == 0)

set_option maxHeartbeats 1000000 in
theorem fieldsFit_any (k n : Int) (t : ByteArray) (a : Option Addr) (len c : Nat) (w : World) :
    Calls Tryz.prog 76 #[.agg #[.int .i64 k, .int .i64 n, .string t, .slice a len c]] w fun e w' => e = .returned (.bool (fitB k n (t.toList == []) ((len : Int) == 0))) ∧ Below w.heap.size w w' := by
  have ht : (⟨#[]⟩ : ByteArray).toList = [] := by rw [ByteArray.toList_eq]
  have HB : Hid (∀ n', Below w.heap.size w ((w.alloc (.cells #[.int .i64 k, .int .i64 n, .string t, .slice a len c] 32)).drewN n')) := fun n' => below_drewN (below_new w _) n'
  obtain ⟨nt, hnt⟩ : ∃ nt, (t.toList == []) = nt := ⟨_, rfl⟩
  obtain ⟨nl, hnl⟩ : ∃ nl, ((len : Int) == 0) = nl := ⟨_, rfl⟩
  obtain ⟨n0, hn0⟩ : ∃ n0, (n == 0) = n0 := ⟨_, rfl⟩
  obtain ⟨n1, hn1⟩ : ∃ n1, (n == 1) = n1 := ⟨_, rfl⟩
  go_enter Tryz.func76, Tryz.ntmps76
  go_wp2_with fail
  go_quiet (fail)
  by_cases k1 : k = 1
  · subst k1
    cases nt <;> cases nl <;> cases n0
    all_goals
      go_wp2_with fail
      go_ret
      exact ⟨ret_bool (by simp [fitB, *]), HB.out _⟩
  · have g1 : (k == 1) = false := by simpa using k1
    by_cases k2 : k = 2
    · subst k2
      cases nt <;> cases nl <;> cases n0 <;> cases n1
      all_goals
        go_wp2_with fail
        first | go_ret | (go_quiet (fail); go_wp2_with fail; go_ret)
        first | exact ⟨ret_bool (by simp [fitB, *]), HB.out _⟩ | exact ⟨ret_bool (by simp [fitB, *]), below_drewN (HB.out _) _⟩
    · have g2 : (k == 2) = false := by simpa using k2
      by_cases k3 : k = 3
      · subst k3
        cases nt <;> cases nl
        all_goals
          go_wp2_with fail
          go_ret
          exact ⟨ret_bool (by simp [fitB, *]), HB.out _⟩
      · have g3 : (k == 3) = false := by simpa using k3
        by_cases k4 : k = 4
        · subst k4
          cases nl <;> cases n0
          all_goals
            go_wp2_with fail
            go_ret
            exact ⟨ret_bool (by simp [fitB, *]), HB.out _⟩
        · have g4 : (k == 4) = false := by simpa using k4
          by_cases k5 : k = 5
          · subst k5
            cases nt <;> cases n0
            all_goals
              go_wp2_with fail
              go_ret
              exact ⟨ret_bool (by simp [fitB, *]), HB.out _⟩
          · have g5 : (k == 5) = false := by simpa using k5
            have HG : Hid (∀ a b, false = fitB k n a b) := fun a b => by
              unfold fitB
              rw [if_neg k1, if_neg k2, if_neg k3, if_neg k4, if_neg k5]
            clear k1 k2 k3 k4 k5
            go_wp2_with fail
            go_ret
            exact ⟨ret_bool (HG.out _ _), HB.out _⟩

end Go.Proofs.YtageokjobbjddaaGreatDoor
