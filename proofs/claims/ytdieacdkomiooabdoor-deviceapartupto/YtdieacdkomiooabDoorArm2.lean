import Derived.Test.YtdieacdkomiooabDoorArm1
import Derived.Test.YtdieacdkomiooabDoorCloneLay
import Derived.Test.YtdieacdkomiooabDoorM11
namespace Go.Proofs.YtdieacdkomiooabDoor
open Go.RowKit Go.Maps

theorem fateCells_set : ∀ (l : List Fate) (k : Nat) (f : Fate) (h : k < l.length), f.ix = l[k].ix → f.kind = l[k].kind → f.cut = l[k].cut → fateCells (l.set k f) = (fateCells l).set (k * 4 + 3) (.string f.junk)
  | [], _, _, h, _, _, _ => absurd h (by simp)
  | x :: r, 0, f, _, h1, h2, h3 => by
    simp only [List.getElem_cons_zero] at h1 h2 h3
    simp [fateCells_cons, h1, h2, h3]
  | x :: r, k + 1, f, h, h1, h2, h3 => by
    simp only [List.getElem_cons_succ] at h1 h2 h3
    have := fateCells_set r k f (by simpa using h) h1 h2 h3
    rw [List.set_cons_succ, fateCells_cons, fateCells_cons, this, show (k + 1) * 4 + 3 = k * 4 + 3 + 4 by omega]
    rfl
/-- Fates, so many of them cut short. -/
def ownL (l : List Fate) (k : Nat) : List Fate := l.mapIdx fun i f => if i < k then shortF f else f
theorem ownL_len (l : List Fate) (k : Nat) : (ownL l k).length = l.length := by simp [ownL]
theorem ownL_zero (l : List Fate) : ownL l 0 = l := by
  apply List.ext_getElem (ownL_len l 0)
  intro i _ _; simp [ownL]
theorem ownL_all (l : List Fate) : ownL l l.length = l.map shortF := by
  apply List.ext_getElem (by rw [ownL_len, List.length_map])
  intro i h1 h2
  have : i < l.length := by rw [ownL_len] at h1; exact h1
  simp [ownL, this]
theorem ownL_get (l : List Fate) (k : Nat) (h : k < l.length) : (ownL l k)[k]'(by rw [ownL_len]; exact h) = l[k] := by simp [ownL]
theorem ownL_succ (l : List Fate) (k : Nat) (h : k < l.length) : ownL l (k + 1) = (ownL l k).set k (shortF l[k]) := by
  apply List.ext_getElem (by rw [ownL_len, List.length_set, ownL_len])
  intro i h1 h2
  rw [List.getElem_set]
  by_cases e : k = i
  · subst e; simp [ownL]
  · rw [if_neg e]
    simp only [ownL, List.getElem_mapIdx]
    by_cases h' : i < k
    · rw [if_pos h', if_pos (by omega)]
    · rw [if_neg h', if_neg (by omega)]
structure OwInv (w wr : World) (v : Value) (l : List Fate) (k : Nat) : Prop where
  row : wr.ownsRow w.heap.size 92 4 v l.length (fateCells (ownL l k))
  bel : Below w.heap.size w wr

set_option maxRecDepth 100000 in
set_option maxHeartbeats 800000 in
theorem ownf_any (l : List Fate) (v : Value) (w : World) (hv : w.ownsRow 0 92 4 v l.length (fateCells l)) (hb : l.length ≤ 3518437208883) :
    Calls Tryd.prog 79 #[v] w fun e w' => ∃ v', e = .returned v' ∧ w'.ownsRow w.heap.size 92 4 v' l.length (fateCells (l.map shortF)) ∧ Below w.heap.size w w' := by
  have HC := Hid.mk2 (clonef_any l v w hv hb)
  obtain ⟨a, c, rfl, -⟩ := owns_form hv
  obtain ⟨n, hn⟩ : ∃ n, n = l.length := ⟨_, rfl⟩
  have HN := Hid.mk2 hn
  rw [← hn] at HC hb ⊢
  clear hv hn
  go_enter Tryd.func79, Tryd.ntmps79
  go_wp2_with fail
  refine HC.out.mono ?_
  rintro e w1 ⟨v1, rfl, hv1, hb1⟩
  obtain ⟨a1, c1, rfl, ha1⟩ := owns_form hv1
  have HI : Hid (OwInv w w1 (.slice a1 n c1) l 0) := ⟨by rw [ownL_zero, ← HN.out]; exact hv1, hb1⟩
  clear hv1 hb1 HC
  go_wp2_with fail
  go_loopw [10] (fun i wr => ∃ k : Nat, k ≤ n ∧ i = .int .i64 (k : Int) ∧ OwInv w wr (.slice a1 n c1) l k) (fun i _ => n - (intOf i).toNat)
  case atStart => exact ⟨0, Nat.zero_le _, rfl, HI.out⟩
  case round =>
    obtain ⟨k, hk, rfl, inv⟩ := hrel
    have INV := Hid.mk2 inv
    clear inv HI
    by_cases hlt : k < n
    · obtain ⟨g, rfl⟩ := ha1 (by omega)
      have hkl : k < l.length := by rw [← HN.out]; exact hlt
      have k0 : (0 : Int) ≤ (k : Int) := Int.natCast_nonneg _
      have k1 : (k : Int) < (n : Int) := by omega
      have hkl' : k < (ownL l k).length := by rw [ownL_len]; exact hkl
      obtain ⟨q0, q1, q2, q3⟩ := fateCells_get (ownL l k) k hkl'
      rw [ownL_get l k hkl] at q0 q1 q2 q3
      have hrow := INV.out.row
      rw [← HN.out] at hrow
      have x0 := owns_cell hrow rfl _ _ q0
      have x1 := owns_cell hrow rfl _ _ q1
      have x2 := owns_cell hrow rfl _ _ q2
      have x3 := owns_cell hrow rfl _ _ q3
      have HX := Hid.mk2 (And.intro hrow rfl : wr.ownsRow w.heap.size 92 4 (.slice (some ⟨g, 0, none⟩) n c1) n (fateCells (ownL l k)) ∧ 0 = 0)
      have HSET : Hid (fateCells (ownL l (k + 1)) = (fateCells (ownL l k)).set (k * 4 + 3) (.string (shortF l[k]).junk)) := by
        show _ = _
        rw [ownL_succ l k hkl]
        exact fateCells_set _ k _ hkl' (by rw [ownL_get l k hkl]; rfl) (by rw [ownL_get l k hkl]; rfl) (by rw [ownL_get l k hkl]; rfl)
      have HSJ : Hid ((shortF l[k]).junk = mkb ((bl l[k].junk).take 512)) := (rfl : (shortF l[k]).junk = _)
      generalize (shortF l[k]).junk = SJ at *
      generalize l[k] = X at *
      obtain ⟨xi, xk, xc, xj⟩ := X
      simp only [] at x0 x1 x2 x3 HSJ
      clear q0 q1 q2 q3 hrow
      have HHD : Hid (∀ w', Calls Tryd.prog 96 #[.string xj, .int .i64 512] w' fun e w'' => e = .returned (.string SJ) ∧ w' = w'') := fun w' => by rw [HSJ.out]; exact head_any xj 512 w' (Nat.le_refl _)
      have HCL : Hid (∀ w', Calls Tryd.prog 95 #[.string SJ] w' fun e w'' => e = .returned (.string SJ) ∧ Below w'.heap.size w' w'') := fun w' => sclone_any SJ w' (by rw [HSJ.out, mkb_size, List.length_take]; omega)
      go_wp2_with fail
      refine (HHD.out _).mono ?_
      rintro e w2 ⟨rfl, rfl⟩
      go_wp2_with fail
      refine (HCL.out _).mono ?_
      rintro e w3 ⟨rfl, hb3⟩
      have hb13 : Below wr.heap.size wr w3 := Below.next (below_new _ _) hb3
      have hr3 := owns_below HX.out.1 hb13
      have z3 : w3.cell? ⟨g, k * 4 + 3, none⟩ = some (.string xj) := cell_below hb13 x3
      have f3 : w3.frozen? ⟨g, k * 4 + 3, none⟩ = false := hr3.frozenAt _
      have HR3 : Hid (OwInv w (w3.setCell ⟨g, k * 4 + 3, none⟩ (.string SJ)) (.slice (some ⟨g, 0, none⟩) n c1) l (k + 1)) := by
        refine ⟨?_, ?_⟩
        · rw [HSET.out, ← HN.out]; exact (hr3.stored _ _).1
        · have hg : w.heap.size ≤ g := (owns_blk hr3 g rfl).1
          have := Below.next INV.out.bel hb13
          exact ⟨this.os, this.tape, this.output, by have := this.size; simpa [World.setCell] using this, fun j hj => (set_other (by omega)).trans (this.block j hj)⟩
      clear hr3 hb13 hb3 x0 x1 x2 x3 HX HHD HCL INV
      go_wp2_with fail
      refine ⟨⟨k + 1, by omega, by simp, HR3.out⟩, ?_⟩
      simp only [intOf]
      omega
    · have k1 : ¬ (k : Int) < (n : Int) := by omega
      have HL : Hid (wr.ownsRow w.heap.size 92 4 (.slice a1 n c1) n (fateCells (l.map shortF)) ∧ Below w.heap.size w wr) := by
        refine ⟨?_, INV.out.bel⟩
        have := INV.out.row
        rw [show k = l.length by rw [← HN.out]; omega, ownL_all, ← HN.out] at this
        exact this
      clear INV
      go_wp2_with fail
      go_wp2_with fail
      go_ret
      exact ⟨_, rfl, HL.out⟩

end Go.Proofs.YtdieacdkomiooabDoor
