import Derived.Test.YtdieacdkomiooabDoorGB
namespace Go.Proofs.YtdieacdkomiooabDoor
open Go.RowKit Go.Maps

theorem take_mid {x j z : List UInt8} {n : Nat} (hz : z.length = n) : (x ++ j.take n ++ z).take n = (x ++ j ++ z).take n := by
  rcases Nat.le_total j.length n with h | h
  · rw [List.take_of_length_le h]
  · have h1 : (x ++ j.take n ++ z).take n = (x ++ j.take n).take n := List.take_append_of_le_length (by rw [List.length_append, List.length_take]; omega)
    have h2 : (x ++ j ++ z).take n = (x ++ j).take n := List.take_append_of_le_length (by rw [List.length_append]; omega)
    rw [h1, h2, List.take_append, List.take_append, List.take_take]
    congr 2
    omega
theorem tornB_short (d : ByteArray) (f : Fate) : tornB d (shortF f) = tornB d f := by
  unfold tornB shortF
  simp only [bl_mkb]
  rw [take_mid (zeros_len 512)]
theorem meetD_short (pend dur : List Sec) (f : Fate) : meetD pend dur (shortF f) = meetD pend dur f := by
  unfold meetD
  rw [show (shortF f).ix = f.ix from rfl, show (shortF f).kind = f.kind from rfl]
  cases pend[f.ix.toNat]? with
  | none => rfl
  | some x => simp only [tornB_short]
theorem settleD_short (pend : List Sec) : ∀ (l : List Fate) (seen : List Int) (dur : List Sec), settleD pend seen dur (l.map shortF) = settleD pend seen dur l
  | [], _, _ => rfl
  | f :: r, seen, dur => by
    rw [List.map_cons]
    unfold settleD
    rw [show (shortF f).ix = f.ix from rfl, meetD_short, settleD_short, settleD_short]
theorem kill_short (d : Dev) (l : List Fate) : d.kill (l.map shortF) = d.kill l := by unfold Dev.kill; rw [settleD_short]

/-- A device whose arms hold their fates cut short: the program's, beside the document's. -/
def shortD (d : Dev) : Dev := { d with arms := d.arms.map fun a => { a with fates := a.fates.map shortF } }
/-- One step of the document's device: it keeps the fates of an arm whole. -/
def Dev.actF (d : Dev) (s : Stp) : Dev × SaidD := if s.kind = 5 then (d.armF s.n s.fates, said0) else d.act s

theorem short_kill (d : Dev) (l : List Fate) : shortD (d.kill l) = (shortD d).kill l := rfl
theorem short_done (d : Dev) : (shortD d).done = (shortD d.done.1, d.done.2) := by
  obtain ⟨sz, dur, pend, arms, dead, nr, nw, ns⟩ := d
  cases arms with
  | nil => rfl
  | cons a r =>
    obtain ⟨n, fs⟩ := a
    unfold Dev.done shortD
    simp only [List.map_cons]
    by_cases h : 0 < n
    · rw [if_pos h, if_pos h]; rfl
    · rw [if_neg h, if_neg h, kill_short]; rfl
theorem short_write (d : Dev) (s : Int) (p : List UInt8) : (shortD d).write s p = (shortD (d.write s p).1, (d.write s p).2) := by
  unfold Dev.write
  rw [show (shortD d).dead = d.dead from rfl, show ∀ n, (shortD d).fits s n = d.fits s n from fun _ => rfl]
  split
  · rfl
  · split
    · rfl
    · exact short_done { d with pend := d.pend ++ chunks s p (p.length / 512), nw := wrap64 (d.nw + (p.length / 512 : Nat)) }
theorem short_sync (d : Dev) : (shortD d).sync = (shortD d.sync.1, d.sync.2) := by
  unfold Dev.sync
  rw [show (shortD d).dead = d.dead from rfl]
  split
  · rfl
  · exact short_done { d with dur := syncD d.dur d.pend, pend := [], ns := wrap64 (d.ns + 1) }
theorem short_read (d : Dev) (s n : Int) : (shortD d).read s n = (shortD (d.read s n).1, (d.read s n).2) := by
  unfold Dev.read
  rw [show (shortD d).dead = d.dead from rfl, show (shortD d).fits s n = d.fits s n from rfl]
  repeat' split
  all_goals rfl
theorem short_crash (d : Dev) (l : List Fate) : (shortD d).crash l = shortD (d.crash l) := by
  unfold Dev.crash
  rw [show (shortD d).dead = d.dead from rfl]
  split <;> rfl
theorem short_arm (d : Dev) (n : Int) (l : List Fate) : (shortD d).arm n l = shortD (d.armF n l) := by
  unfold Dev.arm Dev.armF shortD
  simp
/-- Both devices make the same step, and answer alike. -/
theorem short_act (d : Dev) (s : Stp) : (shortD d).act s = (shortD (d.actF s).1, (d.actF s).2) := by
  unfold Dev.actF
  by_cases h5 : s.kind = 5
  · rw [if_pos h5]
    unfold Dev.act
    rw [if_neg (by omega), if_neg (by omega), if_neg (by omega), if_neg (by omega), if_pos h5, short_arm]
  · rw [if_neg h5]
    unfold Dev.act
    simp only [short_write, short_sync, short_read, short_crash]
    repeat' split
    all_goals first | rfl | contradiction

end Go.Proofs.YtdieacdkomiooabDoor
