import Derived.Test.YtdieacdkomiooabDoorSmall
namespace Go.Proofs.YtdieacdkomiooabDoor
open Go.RowKit Go.Maps

def reps (n : Nat) (c : UInt8) : List UInt8 := List.replicate n c
theorem reps_len (n : Nat) (c : UInt8) : (reps n c).length = n := by simp [reps]
theorem reps_succ (n : Nat) (c : UInt8) : reps (n + 1) c = reps n c ++ [c] := by simp [reps, List.replicate_succ']
set_option maxRecDepth 100000 in
set_option maxHeartbeats 400000 in
theorem fill_any (c : UInt8) (x : Int) (hx : x = (c.toNat : Int)) (w : World) :
    Calls Tryd.prog 40 #[.int .u8 x] w fun e w' => ∃ v, e = .returned v ∧ w'.ownsRow w.heap.size 5 1 v 512 (u8s (reps 512 c)) ∧ Below w.heap.size w w' := by
  obtain ⟨i0, hi, hz0, hz1, hz2⟩ := info_parts Tryd.info5
  have HX : Hid (x = (c.toNat : Int)) := hx
  clear hx
  obtain ⟨N, hN⟩ : ∃ N, N = 512 := ⟨_, rfl⟩
  have HN : Hid (N = 512) := hN
  rw [← hN]
  clear hN
  go_enter Tryd.func40, Tryd.ntmps40
  go_wp2_with fail
  go_loopw [3, 4] (fun v i wr => ∃ k : Nat, k ≤ N ∧ i = .int .i64 k ∧ wr.ownsRow w.heap.size 5 1 v k (u8s (reps k c)) ∧ Below w.heap.size w wr) (fun _ i _ => N - (intOf i).toNat)
  case atStart => exact ⟨0, Nat.zero_le _, rfl, World.ownsRow_nil _ _ _ _, Below.refl _ _⟩
  case round =>
    obtain ⟨k, hk, rfl, hown, hnx⟩ := hrel
    by_cases hlt : k < N
    · have i1 : (k : Int) < 512 := by have := HN.out; omega
      go_wp2_with (first
        | (at_builtin; refine wpList_append_lies _ rfl _ _ 36 rfl w.heap.size 5 i0 (.int .u8 0) 1 1 Tryd.underlying36 hi hz0 hz1 hz2 rfl (by decide) _ _ _ rfl (hown.alloc _) ⟨wr.heap.size, 0, none⟩ 1 1 [.int .u8 x] rfl rfl ?c1 ?c2 ?c3 ?c4 ?c5 ?c6 (wr.heap.size + 1) ?c7 ?_))
      case c1 =>
        intro j u hj
        match j, hj with
        | 0, hj => simp at hj; subst hj; simp [Addr.add]
      case c2 => intro u hu; simp at hu; subst hu; rfl
      case c3 => decide
      case c4 => have := HN.out; unfold maxLen; omega
      case c5 => have := HN.out; omega
      case c6 => have := hnx.size; simp; omega
      case c7 => simp
      intro g cap w1 hown' hgrow hat hlg
      have hb1 : Below w.heap.size w w1 := (hnx.alloc (by have := hnx.size; omega) _).grown hgrow (by have := hnx.size; simp; omega) (fun j hj => (hown.lt j hj).1)
      have hown2 : w1.ownsRow w.heap.size 5 1 (.slice (some ⟨g, 0, none⟩) (k + 1) cap) (k + 1) (u8s (reps (k + 1) c)) := by
        rw [reps_succ, u8s_append, show u8s [c] = [.int .u8 x] by rw [HX.out]; rfl]; exact hown'
      clear hown' hgrow hown hat hlg hnx
      go_wp2_with fail
      go_roundw
      case rel => exact ⟨k + 1, by omega, by go_num, hown2, hb1⟩
      case measure => simp [intOf]; omega
    · have hke : k = N := by omega
      have i1 : ¬ (k : Int) < 512 := by have := HN.out; omega
      have HR : Hid (wr.ownsRow w.heap.size 5 1 _ N (u8s (reps N c)) ∧ Below w.heap.size w wr) := ⟨hke ▸ hown, hnx⟩
      go_wp2_with fail
      go_ret
      exact ⟨_, rfl, HR.out⟩

/-- The states that begun goes through. -/
def b0 : Dev := newDev 4
def b1 : Dev := (b0.write 1 (reps 512 7)).1
def b2 : Dev := (b1.read 0 2).1
def b3 : Dev := (b2.crash []).revive
def b4 : Dev := (b3.write 2 (reps 512 8)).1
def b5 : Dev := b4.sync.1
def b6 : Dev := (b5.write 3 (reps 512 9)).1
def bf : Fate := ⟨0, 3, 2, ⟨#[120]⟩⟩
def b7 : Dev := b6.crash [bf]
theorem b0s : b0.size = 4 := by decide +kernel
theorem b1e : (b0.write 1 (reps 512 7)).2 = 0 := by decide +kernel
theorem b2e : (b1.read 0 2).2.2 = 0 := by decide +kernel
theorem b2l : (b1.read 0 2).2.1.length = 1024 := by decide +kernel
theorem b2a : (b1.read 0 2).2.1[511]? = some 0 := by decide +kernel
theorem b2b : (b1.read 0 2).2.1[512]? = some 7 := by decide +kernel
theorem b2p : b2.pend.length = 1 := by decide +kernel
theorem b2d : b2.dur.length = 0 := by decide +kernel
theorem b3d : b3.dur.length = 0 := by decide +kernel
theorem b3p : b3.pend.length = 0 := by decide +kernel
theorem b4e : (b3.write 2 (reps 512 8)).2 = 0 := by decide +kernel
theorem b4p : b4.pend.length = 1 := by decide +kernel
theorem b5e : b4.sync.2 = 0 := by decide +kernel
theorem b5p : b5.pend.length = 0 := by decide +kernel
theorem b6e : (b5.write 3 (reps 512 9)).2 = 0 := by decide +kernel
theorem b6p : b6.pend.length = 1 := by decide +kernel
theorem b7l : b7.dur.length = 2 := by decide +kernel
theorem b7i : b7.dur.map Sec.ix = [2, 3] := by decide +kernel
theorem b7a : (b7.dur.map fun x => bl x.dat)[0]? = some (reps 512 8) := by decide +kernel
theorem b7b : (b7.dur.map fun x => (bl x.dat).take 4)[1]? = some [9, 9, 120, 0] := by decide +kernel
theorem b7d : b7.dead = true := by decide +kernel

end Go.Proofs.YtdieacdkomiooabDoor
