import Derived.Test.YtdieacdkomiooabDoorAct3
namespace Go.Proofs.YtdieacdkomiooabDoor
open Go.RowKit Go.Maps

/-- Two devices that are alike but for their counts. -/
structure Like (a b : Dev) : Prop where
  size : b.size = a.size
  dur : b.dur = a.dur
  pend : b.pend = a.pend
  arms : b.arms = a.arms
  dead : b.dead = a.dead
theorem Like.done {a b : Dev} (h : Like a b) : Like a.done.1 b.done.1 ∧ b.done.2 = a.done.2 := by
  unfold Dev.done
  rw [h.arms]
  cases a.arms with
  | nil => exact ⟨h, rfl⟩
  | cons x r =>
    simp only []
    split
    · exact ⟨⟨h.size, h.dur, h.pend, rfl, h.dead⟩, rfl⟩
    · refine ⟨⟨h.size, ?_, rfl, rfl, rfl⟩, rfl⟩
      simp only [Dev.kill]
      rw [h.dur, h.pend]
theorem Like.fits {a b : Dev} (h : Like a b) (s n : Int) : b.fits s n = a.fits s n := by unfold Dev.fits; rw [h.size]
theorem Like.write {a b : Dev} (h : Like a b) (s : Int) (p : List UInt8) : Like (a.write s p).1 (b.write s p).1 ∧ (b.write s p).2 = (a.write s p).2 := by
  unfold Dev.write
  rw [h.dead, h.fits]
  split
  · exact ⟨h, rfl⟩
  · split
    · exact ⟨h, rfl⟩
    · exact Like.done ⟨h.size, h.dur, by simp only []; rw [h.pend], h.arms, rfl⟩
theorem Like.sync {a b : Dev} (h : Like a b) : Like a.sync.1 b.sync.1 ∧ b.sync.2 = a.sync.2 := by
  unfold Dev.sync
  rw [h.dead]
  split
  · exact ⟨h, rfl⟩
  · exact Like.done ⟨h.size, by simp only []; rw [h.dur, h.pend], rfl, h.arms, rfl⟩
theorem Like.standing {a b : Dev} (h : Like a b) (i : Int) : standing b i = standing a i := by unfold Go.Proofs.YtdieacdkomiooabDoor.standing; rw [h.pend, h.dur]
theorem Like.read {a b : Dev} (h : Like a b) (s n : Int) : Like (a.read s n).1 (b.read s n).1 ∧ (b.read s n).2 = (a.read s n).2 := by
  unfold Dev.read
  rw [h.dead, h.fits]
  split
  · exact ⟨h, rfl⟩
  · split
    · exact ⟨h, rfl⟩
    · split
      · exact ⟨h, rfl⟩
      · refine ⟨⟨h.size, h.dur, h.pend, h.arms, rfl⟩, ?_⟩
        simp only [readB]
        rw [show (fun i : Nat => bl (Go.Proofs.YtdieacdkomiooabDoor.standing b (s + (i : Int)))) = fun i : Nat => bl (Go.Proofs.YtdieacdkomiooabDoor.standing a (s + (i : Int))) from funext fun i => by rw [h.standing]]
theorem Like.crash {a b : Dev} (h : Like a b) (l : List Fate) : Like (a.crash l) (b.crash l) := by
  unfold Dev.crash
  rw [h.dead]
  split
  · exact h
  · exact ⟨h.size, by simp only [Dev.kill]; rw [h.dur, h.pend], rfl, h.arms, rfl⟩
theorem Like.act {a b : Dev} (h : Like a b) (s : Stp) : Like (a.act s).1 (b.act s).1 ∧ (s.kind ≠ 9 → (b.act s).2 = (a.act s).2) := by
  unfold Dev.act
  split
  · exact ⟨(h.write _ _).1, fun _ => by rw [(h.write _ _).2]⟩
  · split
    · exact ⟨h.sync.1, fun _ => by rw [h.sync.2]⟩
    · split
      · exact ⟨(h.read _ _).1, fun _ => by simp only [(h.read _ _).2]⟩
      · split
        · exact ⟨h.crash _, fun _ => rfl⟩
        · split
          · exact ⟨⟨h.size, h.dur, h.pend, by simp only [Dev.arm]; rw [h.arms], h.dead⟩, fun _ => rfl⟩
          · split
            · exact ⟨⟨h.size, h.dur, h.pend, h.arms, rfl⟩, fun _ => rfl⟩
            · split
              · exact ⟨h, fun _ => by rw [h.dur]⟩
              · split
                · exact ⟨h, fun _ => by rw [h.pend]⟩
                · split
                  · rename_i h9; exact ⟨h, fun h' => absurd h9 h'⟩
                  · exact ⟨h, fun _ => rfl⟩
theorem act_counts_same (d : Dev) (s : Stp) (h : s.kind = 9) : (d.act s).1 = d := by unfold Dev.act; simp [h]

/-- A dead device has nothing pending. -/
def DeadOk (d : Dev) : Prop := d.dead = true → d.pend = []
theorem DeadOk.done {d : Dev} (h : d.dead = false) : DeadOk d.done.1 := by
  unfold Dev.done
  cases d.arms with
  | nil => intro h'; rw [h] at h'; cases h'
  | cons a r =>
    simp only []
    split
    · intro h'; simp only [h] at h'; cases h'
    · intro _; rfl
theorem DeadOk.crash {d : Dev} (h : DeadOk d) (l : List Fate) : DeadOk (d.crash l) := by
  unfold Dev.crash
  split
  · exact h
  · intro _; rfl
theorem DeadOk.act {d : Dev} (h : DeadOk d) (s : Stp) : DeadOk (d.act s).1 := by
  unfold Dev.act
  repeat' split
  all_goals (try exact h)
  · unfold Dev.write
    split
    · exact h
    · split
      · exact h
      · exact DeadOk.done (by simp_all)
  · unfold Dev.sync
    split
    · exact h
    · exact DeadOk.done (by simp_all)
  · unfold Dev.read; repeat' split
    all_goals exact h
  · exact h.crash _
  · intro h'; cases h'
theorem plays_deadOk : ∀ (l : List Stp) (d : Dev), DeadOk d → DeadOk (plays d l)
  | [], _, h => h
  | s :: l, d, h => by
    rw [plays_cons]
    split
    · exact plays_deadOk l d h
    · exact plays_deadOk l _ (h.act s)
theorem crash_pend {d : Dev} (h : DeadOk d) (l : List Fate) : (d.crash l).pend = [] := by
  unfold Dev.crash
  split
  · exact h ‹_›
  · rfl
theorem crash_arms (d : Dev) (l : List Fate) : (d.crash l).arms = d.arms := by unfold Dev.crash; split <;> rfl
theorem crash_dead (d : Dev) (l : List Fate) : (d.crash l).dead = true := by
  unfold Dev.crash
  split
  · assumption
  · rfl
theorem done_armsN (d : Dev) : d.done.1.arms.length ≤ d.arms.length := by
  unfold Dev.done
  cases h : d.arms with
  | nil => simp [h]
  | cons a r => simp only []; split <;> simp [Dev.kill]
theorem act_armsN (d : Dev) (s : Stp) : (d.act s).1.arms.length ≤ d.arms.length + 1 := by
  unfold Dev.act
  repeat' split
  all_goals (try (simp only []; omega))
  · unfold Dev.write; repeat' split
    all_goals (try (simp only []; omega))
    exact Nat.le_trans (done_armsN _) (by simp only []; omega)
  · unfold Dev.sync; split
    · simp only []; omega
    · exact Nat.le_trans (done_armsN _) (by simp only []; omega)
  · unfold Dev.read; repeat' split
    all_goals (simp only []; omega)
  · simp only [crash_arms]; omega
  · simp [Dev.arm]
  · simp [Dev.revive]
/-- How long answers are. -/
theorem act_lens (d : Dev) (s : Stp) (h : d.Ok) (hp : d.pend.length ≤ 5864062014805) : (d.act s).2.bytes.length ≤ 140737488355328 ∧ (d.act s).2.secs.length ≤ 5864062014805 := by
  have hd := h.dur_len
  unfold Dev.act
  split
  · simp [said0]
  · split
    · simp [said0]
    · split
      · simp only [said0, List.length_nil]
        refine ⟨?_, by omega⟩
        unfold Dev.read
        repeat' split
        all_goals (try (simp only [List.length_nil]; omega))
        simp only [readB_len h]
        omega
      · split
        · simp [said0]
        · split
          · simp [said0]
          · split
            · simp [said0]
            · split
              · simp only [said0, List.length_nil]; omega
              · split
                · simp only [said0, List.length_nil]; omega
                · split <;> simp [said0]

end Go.Proofs.YtdieacdkomiooabDoor
