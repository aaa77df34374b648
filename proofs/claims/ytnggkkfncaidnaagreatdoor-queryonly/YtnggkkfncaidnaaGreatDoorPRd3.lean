import Derived.Test.YtnggkkfncaidnaaGreatDoorGRK
namespace Go.Proofs.YtnggkkfncaidnaaGreatDoor
open Go.RowKit

/-- A token on, or not. -/
def stepT (y : Bool) (t : Pt) (s : ByteArray) : Pt × ByteArray := if y then nxtD s else (t, s)
/-- What a method of the reader leaves. -/
def RdR (w0 w : World) (b g : Nat) (u : Pt × ByteArray) (w' : World) : Prop := RdP w0 w' b g u.1 u.2 ∧ Two b g w w'
def takeT (kind : Int) (t : Pt) : Pt := if t.kind = kind then t else pt0
set_option maxHeartbeats 4000000 in
set_option maxRecDepth 100000 in
theorem ptake_any (w0 : World) (b g : Nat) (t : Pt) (s : ByteArray) (kind : Int) (w : World) (h : RdP w0 w b g t s) (hv : TokEnv w0) :
    Calls Tryz.prog 43 #[.pointer (some ⟨b, 0, none⟩), .int .i64 kind] w fun e w' => e = .returned (.tuple #[.agg (ptV (takeT kind t)), .bool (decide (t.kind = kind))]) ∧ RdR w0 w b g (stepT (decide (t.kind = kind)) t s) w' := by
  have q1 := below_new w (.cells (ptV pt0) 61)
  have x1 := RowAt.new w (ptV pt0) 61
  unfold pt0 ptV at q1 x1
  have hblt := h.row.lt
  have hglt := h.rst.lt
  have m1 : w.heap.size ≠ b := by omega
  have m3 : w.heap.size ≠ g := by omega
  obtain ⟨⟨_, a1, a2, a3⟩, _⟩ := rd_cells (h.row.below q1)
  obtain ⟨W1, hW1⟩ : ∃ W1, w.alloc (.cells #[.int .i64 0, .string ⟨#[]⟩, .int .i64 0] 61) = W1 := ⟨_, rfl⟩
  have HW := hide hW1
  have h1 := h.below q1
  rw [hW1] at q1 x1 h1
  have HX := hide x1
  have HB := hide q1
  have HR1 := hide h1
  have HG := hide (pgoon_any w0 b g t s W1 h1 hv)
  obtain ⟨tk, tt, tn⟩ := t
  simp only at a1 a2 a3
  by_cases hk : tk = kind
  · subst hk
    have HE : Hid (decide (tk = tk) = true ∧ takeT tk ⟨tk, tt, tn⟩ = ⟨tk, tt, tn⟩) := ⟨by simp, by simp [takeT]⟩
    have hkI : (tk == tk) = true := by simp
    show Calls _ _ _ _ fun e w' => e = .returned (.tuple #[.agg (ptV (takeT tk ⟨tk, tt, tn⟩)), .bool (decide (tk = tk))]) ∧ RdR w0 w b g (stepT (decide (tk = tk)) ⟨tk, tt, tn⟩ s) w'
    rw [HE.out.1, HE.out.2]
    clear h h1 hW1 q1 x1 hv HE
    go_enter Tryz.func43, Tryz.ntmps43
    go_wp2_with fail
    rw [HW.out]
    refine HG.out.mono ?_
    rintro e W2 ⟨rfl, hR2, hT2⟩
    have x2 := hT2.row HX.out m1 m3
    have HST := hide (store_pt W2 w.heap.size _ _ _ ⟨tk, tt, tn⟩ x2)
    unfold ptV at HST
    simp only at HST
    have HX2 := hide x2
    have HR2 := hide hR2
    have HT2 : Hid (Two b g w W2) := (Two.of_below HB.out).trans hT2
    have HM1 := hide m1
    have HM3 := hide m3
    clear HG hR2 hT2 x2 a1 a2 a3 m1 m3
    go_wp2_with (first
      | (refine wpList_store_eq rfl 61 _ _ rfl _ _ rfl rfl HST.out ?_))
    refine bodyPost_ret (results_row_tmp rfl _ _ w.heap.size 61 _ (0, 0) _ rfl (row_set _ _ _ _ _ HX2.out) Tryz.underlying61 rfl (by kernel_rfl)) rfl ?_
    have T := HT2.out.setRow (Nat.le_refl _) #[.int .i64 tk, .string tt, .int .i64 tn]
    have R := HR2.out
    refine ⟨rfl, ⟨?_, (setRow_other _ _ _ _ (Ne.symm HM1.out)).trans R.row, (setRow_other _ _ _ _ (Ne.symm HM3.out)).trans R.rst, R.hb, R.hg, R.ne, R.sz⟩, T⟩
    exact below_setRow R.bel (Nat.le_trans R.hb (Nat.le_of_lt hblt)) _
  · have hkI : (tk == kind) = false := by simpa using hk
    have HE : Hid (decide (tk = kind) = false ∧ takeT kind ⟨tk, tt, tn⟩ = pt0) := ⟨by simpa using hk, by simp [takeT, hk]⟩
    show Calls _ _ _ _ fun e w' => e = .returned (.tuple #[.agg (ptV (takeT kind ⟨tk, tt, tn⟩)), .bool (decide (tk = kind))]) ∧ RdR w0 w b g (stepT (decide (tk = kind)) ⟨tk, tt, tn⟩ s) w'
    rw [HE.out.1, HE.out.2]
    clear h h1 hW1 q1 x1 hv HE hk HG
    go_enter Tryz.func43, Tryz.ntmps43
    go_wp2_with fail
    rw [HW.out]
    refine bodyPost_ret (results_row_tmp rfl _ _ w.heap.size 61 _ (0, 0) _ rfl HX.out Tryz.underlying61 rfl (by kernel_rfl)) rfl ?_
    exact ⟨rfl, HR1.out, Two.of_below HB.out⟩
end Go.Proofs.YtnggkkfncaidnaaGreatDoor
