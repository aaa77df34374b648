import Derived.Test.YtkgeabljdkkonaaGreatDoorQRd1
namespace Go.Proofs.YtkgeabljdkkonaaGreatDoor
open Go.RowKit

/-- Which sign a text is. -/
def signI (s : ByteArray) : Nat := if s = ⟨#[61]⟩ then 1 else if s = ⟨#[60]⟩ then 2 else if s = ⟨#[60, 61]⟩ then 3 else if s = ⟨#[62]⟩ then 4 else if s = ⟨#[62, 61]⟩ then 5 else 0
def sigL : List ByteArray := [⟨#[61]⟩, ⟨#[60]⟩, ⟨#[60, 61]⟩, ⟨#[62]⟩, ⟨#[62, 61]⟩]
theorem signI_at (s : ByteArray) (k : Nat) (hk : k < sigL.length) (h0 : ∀ j (h : j < sigL.length), j < k → sigL[j] ≠ s) (h : sigL[k] = s) : signI s = k + 1 := by
  have hk5 : k < 5 := hk
  have : k = 0 ∨ k = 1 ∨ k = 2 ∨ k = 3 ∨ k = 4 := by omega
  rcases this with rfl | rfl | rfl | rfl | rfl
  · subst h; exact (by decide : signI ⟨#[61]⟩ = 0 + 1)
  · subst h; exact (by decide : signI ⟨#[60]⟩ = 1 + 1)
  · subst h; exact (by decide : signI ⟨#[60, 61]⟩ = 2 + 1)
  · subst h; exact (by decide : signI ⟨#[62]⟩ = 3 + 1)
  · subst h; exact (by decide : signI ⟨#[62, 61]⟩ = 4 + 1)
theorem signI_no (s : ByteArray) (h0 : ∀ j (h : j < sigL.length), sigL[j] ≠ s) : signI s = 0 := by
  have a0 : (⟨#[61]⟩ : ByteArray) ≠ s := h0 0 (by decide)
  have a1 : (⟨#[60]⟩ : ByteArray) ≠ s := h0 1 (by decide)
  have a2 : (⟨#[60, 61]⟩ : ByteArray) ≠ s := h0 2 (by decide)
  have a3 : (⟨#[62]⟩ : ByteArray) ≠ s := h0 3 (by decide)
  have a4 : (⟨#[62, 61]⟩ : ByteArray) ≠ s := h0 4 (by decide)
  unfold signI
  rw [if_neg (Ne.symm a0), if_neg (Ne.symm a1), if_neg (Ne.symm a2), if_neg (Ne.symm a3), if_neg (Ne.symm a4)]
set_option maxHeartbeats 4000000 in
set_option maxRecDepth 100000 in
theorem signOf_any (s : ByteArray) (w : World) : Calls Tryz.prog 52 #[.string s] w fun e w' => e = .returned (.int .i64 (signI s : Nat)) ∧ Below w.heap.size w w' := by
  obtain ⟨r, hr⟩ : ∃ r, r = signI s := ⟨_, rfl⟩
  rw [← hr]
  have HR := hide hr
  have q1 := below_new w (.cells signR 9)
  have x1 := RowAt.new w signR 9
  unfold signR at q1 x1
  obtain ⟨W1, hW1⟩ : ∃ W1, w.alloc (.cells #[.string ⟨#[61]⟩, .string ⟨#[60]⟩, .string ⟨#[60, 61]⟩, .string ⟨#[62]⟩, .string ⟨#[62, 61]⟩] 9) = W1 := ⟨_, rfl⟩
  rw [hW1] at q1 x1
  have HB := hide q1
  have HX : Hid (∀ k (h : k < sigL.length), W1.cell? ⟨w.heap.size, k, none⟩ = some (.string (sigL[k]'h))) := fun k h => by
    have hk5 : k < 5 := h
    have : k = 0 ∨ k = 1 ∨ k = 2 ∨ k = 3 ∨ k = 4 := by omega
    rcases this with rfl | rfl | rfl | rfl | rfl
    · exact x1.cell 0 (by simp)
    · exact x1.cell 1 (by simp)
    · exact x1.cell 2 (by simp)
    · exact x1.cell 3 (by simp)
    · exact x1.cell 4 (by simp)
  have HW := hide hW1
  clear hr q1 x1 hW1
  go_enter Tryz.func52, Tryz.ntmps52
  go_wp2_with fail
  rw [HW.out]
  go_loopw [4] (fun v wr => ∃ k : Nat, v = .int .i64 (k : Int) ∧ k ≤ 5 ∧ Hid (∀ j (h : j < sigL.length), j < k → sigL[j] ≠ s) ∧ wr = W1) (fun v _ => 5 - (intOf v).toNat)
  case atStart => exact ⟨0, rfl, by omega, fun j _ h => by omega, rfl⟩
  case round =>
    obtain ⟨k, rfl, hk, hall, rfl⟩ := hrel
    by_cases hlt : k < 5
    · have hltI : (k : Int) < 5 := by omega
      have e0 : (0 : Int) ≤ (k : Int) := by omega
      have hkl : k < sigL.length := hlt
      have s0 := HX.out k hkl
      have HT : Hid (sigL[k]'hkl = s → r = k + 1) := fun h => by rw [HR.out]; exact signI_at s k hkl hall.out h
      have HN : Hid (sigL[k]'hkl ≠ s → ∀ j (h : j < sigL.length), j < k + 1 → sigL[j] ≠ s) := fun h0 j h hj => by
        by_cases e : j = k
        · subst e; exact h0
        · exact hall.out j h (by omega)
      generalize sigL[k]'hkl = x at s0 HT HN
      clear hkl hall
      by_cases h1 : x = s
      · have hq : (x.toList == s.toList) = true := by rw [h1]; exact str_eq _
        have HE := hide (HT.out h1)
        have HE2 : Hid (((k + 1 : Nat) : Int) = (k : Int) + 1) := rfl
        clear HT HN h1
        go_wp2
        go_ret
        exact ⟨by rw [HE.out, HE2.out]; rfl, HB.out⟩
      · have hq := str_ne h1
        have HA := hide (HN.out h1)
        clear HT HN h1
        go_wp2
        go_roundw
        case rel => exact ⟨k + 1, by go_num, by omega, HA.out, by first | trivial | rfl⟩
        case measure => simp [intOf]; omega
    · have hltI : ¬ (k : Int) < 5 := by omega
      have HE : Hid (r = 0) := by
        show _ = _
        rw [HR.out]
        exact signI_no s fun j h => hall.out j h (by have h5 : j < 5 := h; omega)
      clear hall HX
      go_wp2
      go_ret
      exact ⟨by rw [HE.out]; rfl, HB.out⟩
theorem Solo.row {b H : Nat} {w w' : World} (h : Solo b w w') (hH : w.heap.size ≤ H) (cs : Array Value) : Solo b w (w'.setRow H cs) := by
  have k := below_setRow (Below.refl H w') (Nat.le_refl H) cs
  exact ⟨k.os.trans h.os, k.tape.trans h.tape, k.output.trans h.output, Nat.le_trans h.size k.size, fun i hi hn => (k.block i (by omega)).trans (h.block i hi hn)⟩
theorem RowAt.set0 {w : World} {b : Nat} {x y z : Value} {t : TypeId} (h : RowAt w b #[x, y, z] t) (x' : Value) : RowAt (w.setCell ⟨b, 0, none⟩ x') b #[x', y, z] t := by
  unfold RowAt at h ⊢
  rw [setCell_eq_setRow w b 0 #[x, y, z] t (0, 0) x' h]
  exact setRow_heap w b _ _ t _ h
theorem step_store_eq {P : Program} {ops : Array Oper} {o : Oper} {a : Act} {K : Act → World → Prop} {Q : Exit → Act → World → Prop} {E : Prop} {w w' : World} (hgd : o.guard = none) (ty : TypeId) (x y : Operand) (ho : o.op = .store ty x y) (p v : Value) (hx : a.eval x = p) (hy : a.eval y = v)
    (hrun : (Instr.storeAt ty p v).run P w = .ok () w') (h : K (a.put o.dst undef) w') : if Region.wanted o (yielded ops a.tmps) = true then Oper.wp P o a w K Q else E := by
  have hw : Region.wanted o (yielded ops a.tmps) = true := by simp [Region.wanted, hgd]
  rw [if_pos hw]
  unfold Oper.wp execOp
  simp only [ho, hx, hy, Sem.run_bind, hrun, Result.andThen_ok, Sem.run_pure]
  exact h
def nxt (l : List Tk) (k : Nat) : Tk := (l[k]?).getD tk0
def goN (l : List Tk) (k : Nat) : Nat := if k < l.length then k + 1 else k
set_option maxHeartbeats 4000000 in
set_option maxRecDepth 100000 in
theorem next_any (b : Nat) (a : Option Addr) (c : Nat) (l : List Tk) (k : Nat) (lost : Bool) (w : World) (h : RdS w b a c l k lost) :
    Calls Tryz.prog 31 #[.pointer (some ⟨b, 0, none⟩)] w fun e w' => e = .returned (.agg (tkV (nxt l k))) ∧ RdS w' b a c l (goN l k) lost ∧ Solo b w w' := by
  have q1 := below_new w (.cells #[.int .i64 0, .int .i64 0, .string ⟨#[]⟩] 70)
  have x1 := RowAt.new w #[.int .i64 0, .int .i64 0, .string ⟨#[]⟩] 70
  obtain ⟨W1, hW1⟩ : ∃ W1, w.alloc (.cells #[.int .i64 0, .int .i64 0, .string ⟨#[]⟩] 70) = W1 := ⟨_, rfl⟩
  rw [hW1] at q1 x1
  have HW := hide hW1
  have HX := hide x1
  have HB := hide q1
  have h1 := h.below q1
  have HH := hide h1
  have HH0 := hide h
  have c0 := h1.row.cell 0 (by simp)
  have c1 := h1.row.cell 1 (by simp)
  have f1 := h1.row.free 1
  simp only [List.getElem_toArray, List.getElem_cons_zero, List.getElem_cons_succ] at c0 c1
  have hle := h.le
  have hlen := h.len
  have hbw : b < w.heap.size := h.row.lt
  by_cases hlt : k < l.length
  · obtain ⟨g, off, g1, g2⟩ := h1.tk
    obtain ⟨rfl, hgb⟩ := g1 (by omega)
    obtain ⟨s0, s1, s2⟩ := g2 k hlt
    have hltI : ¬ (l.length : Int) ≤ (k : Int) := by omega
    have hltJ : (k : Int) < (l.length : Int) := by omega
    have e0 : (0 : Int) ≤ (k : Int) := by omega
    have HT : Hid (nxt l k = l[k]'hlt ∧ goN l k = k + 1) := ⟨by rw [nxt, List.getElem?_eq_getElem hlt]; rfl, by rw [goN, if_pos hlt]⟩
    obtain ⟨t, ht⟩ : ∃ t, t = l[k]'hlt := ⟨_, rfl⟩
    rw [← ht] at s0 s1 s2 HT
    obtain ⟨tk, tn, tt⟩ := t
    simp only at s0 s1 s2
    clear h h1 g1 g2 ht hW1
    go_enter Tryz.func31, Tryz.ntmps31
    go_wp2_with fail
    rw [HW.out]
    go_quiet (fail)
    go_wp2_with fail
    have d0 : ∀ n, (W1.drewN n).cell? ⟨b, 0, none⟩ = some (.slice (some ⟨g, off, none⟩) l.length c) := fun _ => c0
    have d0a : ∀ n o, ((W1.drewN n).alloc o).cell? ⟨b, 0, none⟩ = some (.slice (some ⟨g, off, none⟩) l.length c) := fun n o => cell_below (below_new (W1.drewN n) o) (d0 n)
    have d1 : ∀ n, (W1.drewN n).cell? ⟨b, 1, none⟩ = some (.int .i64 (k : Int)) := fun _ => c1
    have d1a : ∀ n o, ((W1.drewN n).alloc o).cell? ⟨b, 1, none⟩ = some (.int .i64 (k : Int)) := fun n o => cell_below (below_new (W1.drewN n) o) (d1 n)
    have d2 : ∀ n, (W1.drewN n).cell? ⟨g, off + k * 3, none⟩ = some (.int .i64 tk) := fun _ => s0
    have d2a : ∀ n o, ((W1.drewN n).alloc o).cell? ⟨g, off + k * 3, none⟩ = some (.int .i64 tk) := fun n o => cell_below (below_new (W1.drewN n) o) (d2 n)
    have d3 : ∀ n, (W1.drewN n).cell? ⟨g, off + k * 3 + 1, none⟩ = some (.int .i64 tn) := fun _ => s1
    have d3a : ∀ n o, ((W1.drewN n).alloc o).cell? ⟨g, off + k * 3 + 1, none⟩ = some (.int .i64 tn) := fun n o => cell_below (below_new (W1.drewN n) o) (d3 n)
    have d4 : ∀ n, (W1.drewN n).cell? ⟨g, off + k * 3 + 2, none⟩ = some (.string tt) := fun _ => s2
    have d4a : ∀ n o, ((W1.drewN n).alloc o).cell? ⟨g, off + k * 3 + 2, none⟩ = some (.string tt) := fun n o => cell_below (below_new (W1.drewN n) o) (d4 n)
    have HST : Hid (∀ n, (Instr.storeAt 70 (.pointer (some ⟨W1.heap.size, 0, none⟩)) (.agg #[.int .i64 tk, .int .i64 tn, .string tt])).run Tryz.prog ((W1.drewN n).alloc (.cells #[.int .i64 0, .int .i64 0, .string ⟨#[]⟩] 70)) = .ok () (((W1.drewN n).alloc (.cells #[.int .i64 0, .int .i64 0, .string ⟨#[]⟩] 70)).setRow W1.heap.size #[.int .i64 tk, .int .i64 tn, .string tt])) := fun n => store_row _ _ _ _ _ (RowAt.new (W1.drewN n) #[.int .i64 0, .int .i64 0, .string ⟨#[]⟩] 70) (by kernel_rfl) rfl (by simp [Value.oneCell'])
    have m0 : ∀ n, ((W1.drewN n).alloc (.cells #[.int .i64 0, .int .i64 0, .string ⟨#[]⟩] 70)).cell? ⟨W1.heap.size, 0, none⟩ = some (.int .i64 0) := fun n => (RowAt.new (W1.drewN n) #[.int .i64 0, .int .i64 0, .string ⟨#[]⟩] 70).cell 0 (by simp)
    have o0 : ∀ n, ((W1.drewN n).alloc (.cells #[.int .i64 0, .int .i64 0, .string ⟨#[]⟩] 70)).frozen? ⟨W1.heap.size, 0, none⟩ = false := fun n => (RowAt.new (W1.drewN n) #[.int .i64 0, .int .i64 0, .string ⟨#[]⟩] 70).free 0
    have m1 : ∀ n, ((W1.drewN n).alloc (.cells #[.int .i64 0, .int .i64 0, .string ⟨#[]⟩] 70)).cell? ⟨W1.heap.size, 1, none⟩ = some (.int .i64 0) := fun n => (RowAt.new (W1.drewN n) #[.int .i64 0, .int .i64 0, .string ⟨#[]⟩] 70).cell 1 (by simp)
    have o1 : ∀ n, ((W1.drewN n).alloc (.cells #[.int .i64 0, .int .i64 0, .string ⟨#[]⟩] 70)).frozen? ⟨W1.heap.size, 1, none⟩ = false := fun n => (RowAt.new (W1.drewN n) #[.int .i64 0, .int .i64 0, .string ⟨#[]⟩] 70).free 1
    have m2 : ∀ n, ((W1.drewN n).alloc (.cells #[.int .i64 0, .int .i64 0, .string ⟨#[]⟩] 70)).cell? ⟨W1.heap.size, 2, none⟩ = some (.string ⟨#[]⟩) := fun n => (RowAt.new (W1.drewN n) #[.int .i64 0, .int .i64 0, .string ⟨#[]⟩] 70).cell 2 (by simp)
    have o2 : ∀ n, ((W1.drewN n).alloc (.cells #[.int .i64 0, .int .i64 0, .string ⟨#[]⟩] 70)).frozen? ⟨W1.heap.size, 2, none⟩ = false := fun n => (RowAt.new (W1.drewN n) #[.int .i64 0, .int .i64 0, .string ⟨#[]⟩] 70).free 2
    go_region
    have y0 := (((RowAt.new (W1.drewN (nq + 1)) #[.int .i64 0, .int .i64 0, .string ⟨#[]⟩] 70).set0 (.int .i64 tk)).set1 (.int .i64 tn)).set2 (.string tt)
    have sol := (((Solo.of_below (b := W1.heap.size) ((below_drewN' (Below.refl W1.heap.size W1) (nq + 1)).alloc (Nat.le_refl _) (.cells #[.int .i64 0, .int .i64 0, .string ⟨#[]⟩] 70))).trans (Solo.set W1.heap.size 0 _ (.int .i64 tk))).trans (Solo.set W1.heap.size 1 _ (.int .i64 tn))).trans (Solo.set W1.heap.size 2 _ (.string tt))
    have bl3 := sol.below (Below.refl W1.heap.size W1) (Nat.le_refl _)
    obtain ⟨W3, hW3⟩ : ∃ W3, ((((W1.drewN (nq + 1)).alloc (.cells #[.int .i64 0, .int .i64 0, .string ⟨#[]⟩] 70)).setCell ⟨W1.heap.size, 0, none⟩ (.int .i64 tk)).setCell ⟨W1.heap.size, 1, none⟩ (.int .i64 tn)).setCell ⟨W1.heap.size, 2, none⟩ (.string tt) = W3 := ⟨_, rfl⟩
    rw [hW3]
    have y1 : RowAt W3 W1.heap.size #[.int .i64 tk, .int .i64 tn, .string tt] 70 := by rw [← hW3]; exact y0
    rw [hW3] at bl3
    have h3 := HH.out.below bl3
    have x3 := HX.out.below bl3
    have hsz : W1.heap.size ≠ b := by have := HB.out.size; omega
    have hsw : w.heap.size ≠ b := by omega
    have h4 : RdS (W3.setCell ⟨b, 1, none⟩ (.int .i64 ((k : Int) + 1))) b (some ⟨g, off, none⟩) c l (k + 1) lost := h3.next hlt
    have y4 := y1.other hsz (.int .i64 ((k : Int) + 1)) (j := 1)
    have x4 := x3.other hsw (.int .i64 ((k : Int) + 1)) (j := 1)
    have sw := (((Solo.of_below (b := b) (Below.next HB.out bl3)).trans (Solo.set b 1 W3 (.int .i64 ((k : Int) + 1)))).row (Nat.le_refl w.heap.size) #[.int .i64 tk, .int .i64 tn, .string tt])
    have HSW := hide sw
    have HF : Hid (RdS ((W3.setCell ⟨b, 1, none⟩ (.int .i64 ((k : Int) + 1))).setRow w.heap.size #[.int .i64 tk, .int .i64 tn, .string tt]) b (some ⟨g, off, none⟩) c l (k + 1) lost) := ⟨(setRow_other _ _ _ _ (Ne.symm hsw)).trans h4.row, HH0.out.tk.solo sw, h4.le, h4.len⟩
    have z1 := h3.row.cell 1 (by simp)
    have zf := h3.row.free 1
    simp only [List.getElem_toArray, List.getElem_cons_zero, List.getElem_cons_succ] at z1
    have HST4 := hide (store_row _ w.heap.size 70 _ #[.int .i64 tk, .int .i64 tn, .string tt] x4 (by kernel_rfl) rfl (by simp [Value.oneCell']))
    have p0 := y4.cell 0 (by simp)
    have p1 := y4.cell 1 (by simp)
    have p2 := y4.cell 2 (by simp)
    simp only [List.getElem_toArray, List.getElem_cons_zero, List.getElem_cons_succ] at p0 p1 p2
    have HX4 := hide x4
    have H4 := hide h4
    have HB3 := hide bl3
    clear d0 d0a d1 d1a d2 d2a d3 d3a d4 d4a m0 m1 m2 o0 o1 o2 HST y0 sol hW3 y1 bl3 h3 x3 h4 y4 x4 c0 c1 s0 s1 s2 f1 sw
    go_wp2_with (refine wpList_store_eq rfl 70 _ _ rfl _ _ rfl rfl HST4.out ?_)
    refine bodyPost_ret (results_cell_row rfl _ _ w.heap.size 70 _ (0, 0) _ rfl (row_set _ _ _ _ _ HX4.out) Tryz.underlying70 rfl (by kernel_rfl)) rfl ?_
    exact ⟨by rw [HT.out.1]; rfl, by rw [HT.out.2]; exact HF.out, HSW.out⟩
  · have hltI : (l.length : Int) ≤ (k : Int) := by omega
    have HT : Hid (nxt l k = tk0 ∧ goN l k = k) := ⟨by rw [nxt, List.getElem?_eq_none (by omega)]; rfl, by rw [goN, if_neg hlt]⟩
    have hsw : w.heap.size ≠ b := by omega
    have HST : Hid (∀ n, (Instr.storeAt 70 (.pointer (some ⟨w.heap.size, 0, none⟩)) (.agg #[.int .i64 0, .int .i64 0, .string ⟨#[]⟩])).run Tryz.prog (W1.drewN n) = .ok () ((W1.drewN n).setRow w.heap.size #[.int .i64 0, .int .i64 0, .string ⟨#[]⟩])) := fun n => store_row _ _ _ _ _ (show RowAt (W1.drewN n) w.heap.size #[.int .i64 0, .int .i64 0, .string ⟨#[]⟩] 70 from HX.out) (by kernel_rfl) rfl (by simp [Value.oneCell'])
    have HSW : Hid (∀ n, Solo b w ((W1.drewN n).setRow w.heap.size #[.int .i64 0, .int .i64 0, .string ⟨#[]⟩])) := fun n => (Solo.of_below (b := b) (below_drewN' HB.out n)).row (Nat.le_refl _) _
    have HF : Hid (∀ n, RdS ((W1.drewN n).setRow w.heap.size #[.int .i64 0, .int .i64 0, .string ⟨#[]⟩]) b a c l k lost) := fun n => ⟨(setRow_other _ _ _ _ (Ne.symm hsw)).trans HH.out.row, HH0.out.tk.solo (HSW.out n), HH.out.le, HH.out.len⟩
    have HXN : Hid (∀ n, RowAt (W1.drewN n) w.heap.size #[.int .i64 0, .int .i64 0, .string ⟨#[]⟩] 70) := fun _ => HX.out
    clear h h1 hW1
    go_enter Tryz.func31, Tryz.ntmps31
    go_wp2_with fail
    rw [HW.out]
    go_quiet (fail)
    go_wp2_with (refine wpList_store_eq rfl 70 _ _ rfl _ _ rfl rfl (HST.out _) ?_)
    refine bodyPost_ret (results_cell_row rfl _ _ w.heap.size 70 _ (0, 0) _ rfl (row_set _ _ _ _ _ (HXN.out _)) Tryz.underlying70 rfl (by kernel_rfl)) rfl ?_
    exact ⟨by rw [HT.out.1]; rfl, by rw [HT.out.2]; exact HF.out _, HSW.out _⟩
end Go.Proofs.YtkgeabljdkkonaaGreatDoor
