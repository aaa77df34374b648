import Derived.Test.YtdieacdkomiooabDoorM4
namespace Go.Proofs.YtdieacdkomiooabDoor
open Go.RowKit Go.Maps

/-- What a method that may turn the device leaves. -/
def DevPost (w : World) (b : Nat) (F : Nat → Prop) (d : Dev) (w' : World) : Prop := ∃ F', DevAt w' b F' d ∧ Step F F' w w'

set_option maxHeartbeats 400000 in
theorem crash_any (b : Nat) (F : Nat → Prop) (d : Dev) (w : World) (h : DevAt w b F d) (l : List Fate) (fv : Value) (hl : w.ownsRow 0 92 4 fv l.length (fateCells l)) (hp : d.pend.length ≤ 140737488355328) :
    Calls Tryd.prog 9 #[.pointer (some ⟨b, 0, none⟩), fv] w fun e w' => e = .returned (.tuple #[]) ∧ DevPost w b F (d.crash l) w' := by
  obtain ⟨mb, nb, pv, av, Dn, h⟩ := h
  have c5 : w.cell? ⟨b, 5, none⟩ = some (.bool d.dead) := h.cell 5
  have HC : Hid (d.crash l = if d.dead then d else d.kill l) := (rfl : d.crash l = _)
  have S := settle_body h l fv hl hp
  have HS : Hid (Calls Tryd.prog 43 #[.pointer (some ⟨b, 0, none⟩), fv] w fun e w' => e = .returned (.tuple #[]) ∧ ∃ F', DevAt w' b F' { d with dur := settleD d.pend [] d.dur l, pend := [] } ∧ Step F F' w w') := S
  have HK : Hid (DevAt w b F d) := ⟨_, _, _, _, _, h⟩
  obtain ⟨fa, fc, rfl, -⟩ := owns_form hl
  clear S h hl
  go_enter Tryd.func9, Tryd.ntmps9
  cases hd : d.dead
  · rw [hd] at c5
    go_wp2_with fail
    refine HS.out.mono ?_
    rintro e w1 ⟨rfl, F1, h1, s1⟩
    have hok := h1.ok
    obtain ⟨mb1, nb1, pv1, av1, Dn1, h1⟩ := h1
    have k5 : w1.cell? ⟨b, 5, none⟩ = some (.bool d.dead) := h1.cell 5
    have f5 := h1.frozen 5
    obtain ⟨h2, s2⟩ := h1.set (d' := d.kill l) 5 (.bool true) rfl rfl rfl rfl ⟨hok.s0, hok.s1, hok.dur, hok.rise, hok.pend, hok.arms⟩
    have HH : Hid (DevBody (w1.setCell ⟨b, 5, none⟩ (.bool true)) b F1 (d.kill l) mb1 nb1 pv1 av1 Dn1 ∧ Step F1 F1 w1 (w1.setCell ⟨b, 5, none⟩ (.bool true))) := ⟨h2, s2⟩
    have HS1 : Hid (Step F F1 w w1) := s1
    clear HS h1 h2 s2 s1 hok
    go_wp2_with fail
    go_end0
    refine ⟨rfl, ?_⟩
    rw [HC.out, hd]
    exact ⟨F1, ⟨_, _, _, _, _, HH.out.1⟩, HS1.out.trans HH.out.2⟩
  · rw [hd] at c5
    clear HS
    go_wp2_with fail
    refine bodyPost_ret (results_none rfl _ _ _) rfl ?_
    refine ⟨rfl, ?_⟩
    rw [HC.out, hd]
    exact ⟨F, HK.out, Step.refl _ _⟩

end Go.Proofs.YtdieacdkomiooabDoor
