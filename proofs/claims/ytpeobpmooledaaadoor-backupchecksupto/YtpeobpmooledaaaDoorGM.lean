import Derived.Test.YtpeobpmooledaaaDoorBMay
import Derived.Test.YtpeobpmooledaaaDoorBSum2
import Derived.Test.YtpeobpmooledaaaDoorBRMb
import Derived.Test.YtpeobpmooledaaaDoorBRSum
namespace Go.Proofs.YtpeobpmooledaaaDoor
open Go.RowKit
attribute [local go_sem ↓] Go.wp_at_zero Go.wp_at_succ

theorem holds_id {p : Pc} (h : holdsD p = true) : 2 ≤ p.id ∧ p.id < 1048576 := by
  simp only [holdsD, Bool.and_eq_true, decide_eq_true_eq] at h
  have hm := h.1.2.2.1
  have he := h.1.2.1
  unfold S.May at hm
  omega
theorem sumFit_of {a : Ar} (hf : ArFit a) (h : mayD a = true) : SumFit a a.pg.toNat a.rt.toNat := by
  simp only [mayD, Bool.and_eq_true, decide_eq_true_eq] at h
  obtain ⟨⟨⟨⟨hm, -⟩, hp⟩, hc⟩, -⟩ := h
  have h1 := hm.1
  have h2 := hm.2
  unfold M.PagesOk at h1
  simp only at h1 h2
  have hpg := (pgOk_up _ _ _ hp).2
  have hpc := (pcOk_up _ _ _ _ hc).2.2
  refine ⟨⟨by omega, by omega⟩, ⟨by omega, by omega⟩, hf.tx, hf.si, fun x hx => ⟨x.toNat, by have := hpg x hx; omega, by have := hpg x hx; omega⟩, fun p hq => ⟨⟨p.id.toNat, by have := holds_id (hpc p hq).1; omega, by have := holds_id (hpc p hq).1; omega⟩, (hf.pcs p hq).2⟩, hf.ni, hf.np⟩

set_option maxHeartbeats 8000000 in
theorem bsumof_any (A : Nat → Addr) (a : Ar) (vi vp : Value) (w : World) (hf : ArFit a) (hm : mayD a = true) (he : EB A w) (hr : ArR w a vi vp) :
    Calls Tryd.prog 10 #[.agg (arC a vi vp)] w fun e w' => e = .returned (.int .u32 ((crcV (arB a) : Nat) : Int)) ∧ Below w.heap.size w w' := by
  obtain ⟨W1, hW1⟩ : ∃ W1, w.alloc (.cells (arC a vi vp) 29) = W1 := ⟨_, rfl⟩
  have x1 : RowAt W1 w.heap.size (arC a vi vp) 29 := by rw [← hW1]; exact arC_row _ _ _ _
  have hb1 : Below w.heap.size w W1 := by rw [← hW1]; exact below_new w _
  have HC := hide (crc_rd (.slice none 0 0) [] W1 (by simp) (.inl ⟨rfl, rfl⟩) (he.below hb1).tab)
  obtain ⟨W2, hW2⟩ : ∃ W2, W1.alloc (.cells #[.int .u32 ((crcV [] : Nat) : Int)] 27) = W2 := ⟨_, rfl⟩
  have x2 : SumAt W2 W1.heap.size [] := by rw [← hW2]; exact RowAt.new _ _ _
  have hb2 : Below W1.heap.size W1 W2 := by rw [← hW2]; exact below_new _ _
  have HX := hide (x1.below hb2)
  have HB := hide (Below.next hb1 hb2)
  have HE := hide (beach_any w a _ _ vi vp W1.heap.size W2 (sumFit_of hf hm) he.tab hr (Below.next hb1 hb2) hb1.size x2)
  have HW : Hid (w.alloc (.cells #[.int .i64 a.pg, .int .i64 a.rt, .int .u64 (a.tx : Int), .int .u64 (a.si : Int), vi, vp, .int .u32 (a.sum : Int)] 29) = W1) := hW1
  have HW2 := hide hW2
  have HL : Hid (w.heap.size ≤ W1.heap.size) := hb1.size
  unfold arC fnV at HE
  clear hW1 hW2 x1 x2 hb1 hb2 he hr hf hm
  unfold arC
  go_enter Tryd.func10, Tryd.ntmps10
  go_wp2_with fail
  rw [HW.out]
  refine HC.out.mono ?_
  rintro e U1 ⟨rfl, rfl⟩
  have p0 := HX.out.a0
  have p1 := HX.out.a1
  have p2 := HX.out.a2
  have p3 := HX.out.a3
  have p4 := HX.out.a4
  have p5 := HX.out.a5
  have p6 := HX.out.a6
  rw [← HW2.out] at p0 p1 p2 p3 p4 p5 p6
  clear HC HW
  go_wp2_with fail
  rw [HW2.out]
  clear p0 p1 p2 p3 p4 p5 p6
  refine HE.out.mono ?_
  rintro e U2 ⟨rfl, hs, hq⟩
  have HB2 := hide (hq.below HB.out HL.out)
  have q0 := hs.cell
  have HV : Hid (nt (crcReg (nt 0) (arB a)) = crcV (arB a)) := rfl
  rw [HV.out] at q0
  clear hs hq HE HX HB HW2
  go_wp2
  go_ret
  exact ⟨rfl, HB2.out⟩

/-- What Check answers. -/
def chkE (A : Nat → Addr) (a : Ar) : Value := if chkD a then .nilIface else .iface 101 (.pointer (some (A 1)))
set_option maxHeartbeats 16000000 in
theorem bcheck_any (A : Nat → Addr) (a : Ar) (vi vp : Value) (w : World) (hf : ArFit a) (he : EB A w) (hr : ArR w a vi vp) :
    Calls Tryd.prog 5 #[.agg (arC a vi vp)] w fun e w' => e = .returned (chkE A a) ∧ Below w.heap.size w w' := by
  obtain ⟨W1, hW1⟩ : ∃ W1, w.alloc (.cells (arC a vi vp) 29) = W1 := ⟨_, rfl⟩
  have x1 : RowAt W1 w.heap.size (arC a vi vp) 29 := by rw [← hW1]; exact arC_row _ _ _ _
  have hb1 : Below w.heap.size w W1 := by rw [← hW1]; exact below_new w _
  have HB := hide hb1
  have HX := hide (fun W (hb : Below W1.heap.size W1 W) => x1.below hb)
  have HEB := hide (fun W (hb : Below W1.heap.size W1 W) => (he.below hb1).below hb)
  have HM := hide (fun W (hb : Below W1.heap.size W1 W) => bmay_any A a vi vp W hf ((he.below hb1).below hb) ((hr.below hb1).below hb))
  have HW : Hid (w.alloc (.cells #[.int .i64 a.pg, .int .i64 a.rt, .int .u64 (a.tx : Int), .int .u64 (a.si : Int), vi, vp, .int .u32 (a.sum : Int)] 29) = W1) := hW1
  have HSU := hide (fun (hm : mayD a = true) W (hb : Below W1.heap.size W1 W) => bsumof_any A a vi vp W hf hm ((he.below hb1).below hb) ((hr.below hb1).below hb))
  have p0 := x1.a0
  have p1 := x1.a1
  have p2 := x1.a2
  have p3 := x1.a3
  have p4 := x1.a4
  have p5 := x1.a5
  have p6 := x1.a6
  obtain ⟨Q, hQ⟩ : ∃ Q : Ending → World → Prop, Q = fun e w' => e = .returned (chkE A a) ∧ Below w.heap.size w w' := ⟨_, rfl⟩
  rw [← hQ]
  have HQ := hide hQ
  have HD : Hid (chkD a = (mayD a && decide (a.sum = crcV (arB a)))) := rfl
  unfold arC at HM HSU
  clear hQ hW1 x1 hb1 he hr hf
  cases hmay : mayD a with
  | false =>
    have HV : Hid (chkE A a = .iface 101 (.pointer (some (A 1)))) := by show _ = _; unfold chkE; rw [HD.out, hmay]; rfl
    rw [hmay] at HM
    clear HSU HD hmay
    unfold arC
    go_enter Tryd.func5, Tryd.ntmps5
    go_wp2_with fail
    rw [HW.out]
    refine wp_region_held_drew (S := (fun w' => w'.cell? ⟨w.heap.size, 0, none⟩ = some (.int .i64 a.pg) ∧ w'.cell? ⟨w.heap.size, 1, none⟩ = some (.int .i64 a.rt) ∧ w'.cell? ⟨w.heap.size, 2, none⟩ = some (.int .u64 (a.tx : Int)) ∧ w'.cell? ⟨w.heap.size, 3, none⟩ = some (.int .u64 (a.si : Int)) ∧ w'.cell? ⟨w.heap.size, 4, none⟩ = some vi ∧ w'.cell? ⟨w.heap.size, 5, none⟩ = some vp ∧ w'.cell? ⟨w.heap.size, 6, none⟩ = some (.int .u32 (a.sum : Int)))) (by kernel_rfl) ⟨p0, p1, p2, p3, p4, p5, p6⟩ (fun hHeld => ?_)
    refine wpAnyH_take (i := 0) (oi := { dst := some 3, op := Op.load 29 (Operand.tmp 1), type := 29, pos := "backup.go:35", after := #[], guard := none }) (v := ?_) rfl (by kernel_rfl) (by kernel_rfl) (by kernel_rfl) (fun _ _ _ h => h) (Or.inl ⟨by rfl, ?_⟩) (by assumption) ?_
    rotate_left
    · (intro w' hSw; (try dsimp only at hSw); go_simp; try with_reducible rfl)
    simp only [Act.put, List.setIfInBounds_toArray, List.set_cons_zero, List.set_cons_succ]
    refine wpAnyH_ready (rs := [1]) (by kernel_rfl) (by simp) ?_
    refine AllReadyH.cons (o := { dst := some 4, op := Op.call { callee := Callee.value (Operand.func 9), args := #[Operand.tmp 3], argTypes := #[29] }, type := 4, pos := "backup.go:35", after := #[{ on := 0, ground := Ground.data }], guard := none }) rfl (fun K hK => ?_) AllReadyH.nil
    clear hHeld
    go_simp
    refine (HM.out _ (by first | exact Below.refl _ _ | exact ⟨rfl, rfl, rfl, Nat.le_refl _, fun _ _ => rfl⟩)).mono ?_
    rintro e w1 ⟨rfl, hd⟩
    have hb : Below W1.heap.size W1 w1 := ⟨hd.os, hd.tape, hd.output, hd.size, hd.block⟩
    have HB1 := hide hb
    have hx := HX.out _ hb
    clear hb hd
    refine hK.out _ _ ⟨hx.a0, hx.a1, hx.a2, hx.a3, hx.a4, hx.a5, hx.a6⟩ (fun hHeld => ?_)
    clear hK K
    refine wpAnyH_take (i := 2) (oi := { dst := some 5, op := Op.unOp UnOp.not 4 (Operand.tmp 4), type := 4, pos := "backup.go:35", after := #[{ on := 1, ground := Ground.data }], guard := none }) (v := ?_) rfl (by kernel_rfl) (by kernel_rfl) (by kernel_rfl) (fun _ _ _ h => h) (Or.inl ⟨by rfl, ?_⟩) (by assumption) ?_
    rotate_left
    · (intro w' hSw; (try dsimp only at hSw); go_simp; try with_reducible rfl)
    simp only [Act.put, List.setIfInBounds_toArray, List.set_cons_zero, List.set_cons_succ]
    refine wpAnyH_take (i := 3) (oi := { dst := some 6, op := Op.move (Operand.tmp 5), type := 4, pos := "backup.go:35", after := #[{ on := 2, ground := Ground.data }, { on := 1, ground := Ground.chain }], guard := none }) (v := ?_) rfl (by kernel_rfl) (by kernel_rfl) (by kernel_rfl) (fun _ _ _ h => h) (Or.inl ⟨by rfl, ?_⟩) (by assumption) ?_
    rotate_left
    · (intro w' hSw; (try dsimp only at hSw); go_simp; try with_reducible rfl)
    simp only [Act.put, List.setIfInBounds_toArray, List.set_cons_zero, List.set_cons_succ]
    refine wpAnyH_take (i := 4) (oi := { dst := some 7, op := Op.fieldAddr 29 (Operand.tmp 1) 4, type := 0, pos := "backup.go:35", after := #[{ on := 3, ground := Ground.guard }], guard := some (3, false) }) (v := undef) rfl (by kernel_rfl) (by kernel_rfl) (by kernel_rfl) (fun _ _ _ h => h) (Or.inr ⟨by rfl, rfl⟩) (by assumption) ?_
    simp only [Act.put, List.setIfInBounds_toArray, List.set_cons_zero, List.set_cons_succ]
    refine wpAnyH_take (i := 5) (oi := { dst := some 8, op := Op.load 27 (Operand.tmp 7), type := 27, pos := "backup.go:35", after := #[{ on := 4, ground := Ground.data }, { on := 3, ground := Ground.guard }], guard := some (3, false) }) (v := undef) rfl (by kernel_rfl) (by kernel_rfl) (by kernel_rfl) (fun _ _ _ h => h) (Or.inr ⟨by rfl, rfl⟩) (by assumption) ?_
    simp only [Act.put, List.setIfInBounds_toArray, List.set_cons_zero, List.set_cons_succ]
    refine wpAnyH_take (i := 6) (oi := { dst := some 9, op := Op.load 29 (Operand.tmp 1), type := 29, pos := "backup.go:35", after := #[{ on := 3, ground := Ground.guard }], guard := some (3, false) }) (v := undef) rfl (by kernel_rfl) (by kernel_rfl) (by kernel_rfl) (fun _ _ _ h => h) (Or.inr ⟨by rfl, rfl⟩) (by assumption) ?_
    simp only [Act.put, List.setIfInBounds_toArray, List.set_cons_zero, List.set_cons_succ]
    refine wpAnyH_take (i := 7) (oi := { dst := some 10, op := Op.call { callee := Callee.value (Operand.func 10), args := #[Operand.tmp 9], argTypes := #[29] }, type := 27, pos := "backup.go:35", after := #[{ on := 6, ground := Ground.data }, { on := 3, ground := Ground.chain }, { on := 3, ground := Ground.guard }], guard := some (3, false) }) (v := undef) rfl (by kernel_rfl) (by kernel_rfl) (by kernel_rfl) (fun _ _ _ h => h) (Or.inr ⟨by rfl, rfl⟩) (by assumption) ?_
    simp only [Act.put, List.setIfInBounds_toArray, List.set_cons_zero, List.set_cons_succ]
    refine wpAnyH_take (i := 8) (oi := { dst := some 11, op := Op.binOp BinOp.neq 27 (Operand.tmp 8) (Operand.tmp 10) 27, type := 4, pos := "backup.go:35", after := #[{ on := 5, ground := Ground.data }, { on := 7, ground := Ground.data }, { on := 3, ground := Ground.guard }], guard := some (3, false) }) (v := undef) rfl (by kernel_rfl) (by kernel_rfl) (by kernel_rfl) (fun _ _ _ h => h) (Or.inr ⟨by rfl, rfl⟩) (by assumption) ?_
    simp only [Act.put, List.setIfInBounds_toArray, List.set_cons_zero, List.set_cons_succ]
    refine wpAnyH_take (i := 9) (oi := { dst := some 12, op := Op.pick (Operand.tmp 6) (Operand.const (Value.bool true)) (Operand.tmp 11), type := 4, pos := "backup.go:35", after := #[{ on := 3, ground := Ground.data }, { on := 8, ground := Ground.data }], guard := none }) (v := ?_) rfl (by kernel_rfl) (by kernel_rfl) (by kernel_rfl) (fun _ _ _ h => h) (Or.inl ⟨by rfl, ?_⟩) (by assumption) ?_
    rotate_left
    · (intro w' hSw; (try dsimp only at hSw); go_simp; try with_reducible rfl)
    simp only [Act.put, List.setIfInBounds_toArray, List.set_cons_zero, List.set_cons_succ]
    refine wpAnyH_done (by kernel_rfl) ?_ _
    clear hHeld
    clear p0 p1 p2 p3 p4 p5 p6
    have e0 := (HEB.out _ HB1.out).text
    go_wp2_with fail
    rw [HQ.out, HV.out]
    exact ⟨rfl, Below.next HB.out HB1.out⟩
  | true =>
    have HSU2 := hide (HSU.out hmay)
    have HD2 : Hid (chkD a = decide (a.sum = crcV (arB a))) := by show _ = _; rw [HD.out, hmay]; rfl
    rw [hmay] at HM
    clear HSU HD hmay
    generalize crcV (arB a) = C at *
    unfold arC
    go_enter Tryd.func5, Tryd.ntmps5
    go_wp2_with fail
    rw [HW.out]
    go_region_with (first
      | (go_at_call 9; refine (HM.out _ (by exact ⟨rfl, rfl, rfl, Nat.le_refl _, fun _ _ => rfl⟩)).mono ?_; rintro e w1 ⟨rfl, hd⟩; have hb : Below W1.heap.size W1 w1 := ⟨hd.os, hd.tape, hd.output, hd.size, hd.block⟩; have HB1 := hide hb; clear p0 p1 p2 p3 p4 p5 p6; have p0 := (HX.out _ hb).a0; have p1 := (HX.out _ hb).a1; have p2 := (HX.out _ hb).a2; have p3 := (HX.out _ hb).a3; have p4 := (HX.out _ hb).a4; have p5 := (HX.out _ hb).a5; have p6 := (HX.out _ hb).a6; clear hb hd)
      | (go_at_call 10; refine (HSU2.out _ (by exact ⟨HB1.out.os, HB1.out.tape, HB1.out.output, HB1.out.size, HB1.out.block⟩)).mono ?_; rintro e w2 ⟨rfl, hd⟩; have hb : Below W1.heap.size W1 w2 := Below.next HB1.out ⟨hd.os, hd.tape, hd.output, hd.size, hd.block⟩; have HB2 := hide hb; clear p0 p1 p2 p3 p4 p5 p6; have p6 := (HX.out _ hb).a6; clear hb hd))
    all_goals
      clear p6
      have e0 := (HEB.out _ HB2.out).text
      by_cases hs : a.sum = C
      · have HV : Hid (chkE A a = .nilIface) := by show _ = _; unfold chkE; rw [HD2.out, decide_eq_true hs]; rfl
        have hsI : ((a.sum : Int) != (C : Int)) = false := by rw [hs]; simp
        clear HD2 hs
        go_wp2_with fail
        rw [HQ.out, HV.out]
        exact ⟨rfl, Below.next HB.out HB2.out⟩
      · have HV : Hid (chkE A a = .iface 101 (.pointer (some (A 1)))) := by show _ = _; unfold chkE; rw [HD2.out, decide_eq_false hs]; rfl
        have hsI : ((a.sum : Int) != (C : Int)) = true := by rw [bne_iff_ne]; omega
        clear HD2 hs
        go_wp2_with fail
        rw [HQ.out, HV.out]
        exact ⟨rfl, Below.next HB.out HB2.out⟩
end Go.Proofs.YtpeobpmooledaaaDoor

namespace Go.Proofs.YtpeobpmooledaaaDoor
open Go.RowKit
attribute [local go_sem ↓] Go.wp_at_zero Go.wp_at_succ

/-- What the document's Check answers. -/
def rchkN (a : Ar) : Int := if chkD a then 0 else 2
set_option maxHeartbeats 16000000 in
theorem rcheck_any (a : Ar) (vi vp : Value) (w : World) (hf : ArFit a) (hr : ArR w a vi vp) :
    Calls Tryd.prog 8 #[.agg (arC a vi vp)] w fun e w' => e = .returned (.int .i64 (rchkN a)) ∧ Below w.heap.size w w' := by
  obtain ⟨W1, hW1⟩ : ∃ W1, w.alloc (.cells (arC a vi vp) 29) = W1 := ⟨_, rfl⟩
  have x1 : RowAt W1 w.heap.size (arC a vi vp) 29 := by rw [← hW1]; exact arC_row _ _ _ _
  have hb1 : Below w.heap.size w W1 := by rw [← hW1]; exact below_new w _
  have HB := hide hb1
  have HX := hide (fun W (hb : Below W1.heap.size W1 W) => x1.below hb)
  have HM := hide (ramay_any a vi vp W1 hf (hr.below hb1))
  have HSU := hide (fun (hm : mayD a = true) W (hb : Below W1.heap.size W1 W) => rasum_any a _ _ vi vp W (sumFit_of hf hm) ((hr.below hb1).below hb))
  have HW : Hid (w.alloc (.cells #[.int .i64 a.pg, .int .i64 a.rt, .int .u64 (a.tx : Int), .int .u64 (a.si : Int), vi, vp, .int .u32 (a.sum : Int)] 29) = W1) := hW1
  have p0 := x1.a0
  have p1 := x1.a1
  have p2 := x1.a2
  have p3 := x1.a3
  have p4 := x1.a4
  have p5 := x1.a5
  have p6 := x1.a6
  obtain ⟨Q, hQ⟩ : ∃ Q : Ending → World → Prop, Q = fun e w' => e = .returned (.int .i64 (rchkN a)) ∧ Below w.heap.size w w' := ⟨_, rfl⟩
  rw [← hQ]
  have HQ := hide hQ
  have HD : Hid (chkD a = (mayD a && decide (a.sum = crcV (arB a)))) := rfl
  rw [may_eq] at HM
  unfold arC at HM HSU ⊢
  clear hQ hW1 x1 hb1 hr hf
  cases hmay : mayD a with
  | false =>
    have HV : Hid (rchkN a = 2) := by show _ = _; unfold rchkN; rw [HD.out, hmay]; rfl
    rw [hmay] at HM
    clear HSU HD hmay
    go_enter Tryd.func8, Tryd.ntmps8
    go_wp2_with fail
    rw [HW.out]
    refine HM.out.mono ?_
    rintro e w1 ⟨rfl, hb⟩
    have HB1 := hide hb
    have hx := HX.out _ hb
    clear p0 p1 p2 p3 p4 p5 p6 hb
    have p6 := hx.a6
    clear hx
    go_wp2
    refine wp_region_held_drew (S := (fun w' => w'.cell? ⟨w.heap.size, 6, none⟩ = some (.int .u32 (a.sum : Int)))) (by kernel_rfl) p6 (fun hHeld => ?_)
    refine wpAnyH_take (i := 0) (oi := { dst := some 6, op := Op.move (Operand.tmp 3), type := 4, pos := "copseref23.go:81", after := #[], guard := none }) (v := ?_) rfl (by kernel_rfl) (by kernel_rfl) (by kernel_rfl) (fun _ _ _ h => h) (Or.inl ⟨by rfl, ?_⟩) (by assumption) ?_
    rotate_left
    · (intro w' hSw; (try dsimp only at hSw); go_simp; try with_reducible rfl)
    simp only [Act.put, List.setIfInBounds_toArray, List.set_cons_zero, List.set_cons_succ]
    refine wpAnyH_take (i := 1) (oi := { dst := some 7, op := Op.unOp UnOp.not 4 (Operand.tmp 6), type := 4, pos := "copseref23.go:81", after := #[{ on := 0, ground := Ground.data }], guard := none }) (v := ?_) rfl (by kernel_rfl) (by kernel_rfl) (by kernel_rfl) (fun _ _ _ h => h) (Or.inl ⟨by rfl, ?_⟩) (by assumption) ?_
    rotate_left
    · (intro w' hSw; (try dsimp only at hSw); go_simp; try with_reducible rfl)
    simp only [Act.put, List.setIfInBounds_toArray, List.set_cons_zero, List.set_cons_succ]
    refine wpAnyH_take (i := 2) (oi := { dst := some 8, op := Op.move (Operand.tmp 7), type := 4, pos := "copseref23.go:81", after := #[{ on := 1, ground := Ground.data }], guard := none }) (v := ?_) rfl (by kernel_rfl) (by kernel_rfl) (by kernel_rfl) (fun _ _ _ h => h) (Or.inl ⟨by rfl, ?_⟩) (by assumption) ?_
    rotate_left
    · (intro w' hSw; (try dsimp only at hSw); go_simp; try with_reducible rfl)
    simp only [Act.put, List.setIfInBounds_toArray, List.set_cons_zero, List.set_cons_succ]
    refine wpAnyH_take (i := 3) (oi := { dst := some 9, op := Op.load 29 (Operand.tmp 1), type := 29, pos := "copseref23.go:81", after := #[{ on := 2, ground := Ground.guard }], guard := some (2, false) }) (v := undef) rfl (by kernel_rfl) (by kernel_rfl) (by kernel_rfl) (fun _ _ _ h => h) (Or.inr ⟨by rfl, rfl⟩) (by assumption) ?_
    simp only [Act.put, List.setIfInBounds_toArray, List.set_cons_zero, List.set_cons_succ]
    refine wpAnyH_take (i := 4) (oi := { dst := some 10, op := Op.call { callee := Callee.value (Operand.func 14), args := #[Operand.tmp 9], argTypes := #[29] }, type := 27, pos := "copseref23.go:81", after := #[{ on := 3, ground := Ground.data }, { on := 2, ground := Ground.chain }, { on := 2, ground := Ground.guard }], guard := some (2, false) }) (v := undef) rfl (by kernel_rfl) (by kernel_rfl) (by kernel_rfl) (fun _ _ _ h => h) (Or.inr ⟨by rfl, rfl⟩) (by assumption) ?_
    simp only [Act.put, List.setIfInBounds_toArray, List.set_cons_zero, List.set_cons_succ]
    refine wpAnyH_take (i := 5) (oi := { dst := some 11, op := Op.fieldAddr 29 (Operand.tmp 1) 4, type := 0, pos := "copseref23.go:81", after := #[{ on := 2, ground := Ground.guard }], guard := some (2, false) }) (v := undef) rfl (by kernel_rfl) (by kernel_rfl) (by kernel_rfl) (fun _ _ _ h => h) (Or.inr ⟨by rfl, rfl⟩) (by assumption) ?_
    simp only [Act.put, List.setIfInBounds_toArray, List.set_cons_zero, List.set_cons_succ]
    refine wpAnyH_take (i := 6) (oi := { dst := some 12, op := Op.load 27 (Operand.tmp 11), type := 27, pos := "copseref23.go:81", after := #[{ on := 5, ground := Ground.data }, { on := 2, ground := Ground.guard }], guard := some (2, false) }) (v := undef) rfl (by kernel_rfl) (by kernel_rfl) (by kernel_rfl) (fun _ _ _ h => h) (Or.inr ⟨by rfl, rfl⟩) (by assumption) ?_
    simp only [Act.put, List.setIfInBounds_toArray, List.set_cons_zero, List.set_cons_succ]
    refine wpAnyH_take (i := 7) (oi := { dst := some 13, op := Op.binOp BinOp.neq 27 (Operand.tmp 10) (Operand.tmp 12) 27, type := 4, pos := "copseref23.go:81", after := #[{ on := 4, ground := Ground.data }, { on := 6, ground := Ground.data }, { on := 2, ground := Ground.guard }], guard := some (2, false) }) (v := undef) rfl (by kernel_rfl) (by kernel_rfl) (by kernel_rfl) (fun _ _ _ h => h) (Or.inr ⟨by rfl, rfl⟩) (by assumption) ?_
    simp only [Act.put, List.setIfInBounds_toArray, List.set_cons_zero, List.set_cons_succ]
    refine wpAnyH_take (i := 8) (oi := { dst := some 14, op := Op.pick (Operand.tmp 8) (Operand.const (Value.bool true)) (Operand.tmp 13), type := 4, pos := "copseref23.go:81", after := #[{ on := 2, ground := Ground.data }, { on := 7, ground := Ground.data }], guard := none }) (v := ?_) rfl (by kernel_rfl) (by kernel_rfl) (by kernel_rfl) (fun _ _ _ h => h) (Or.inl ⟨by rfl, ?_⟩) (by assumption) ?_
    rotate_left
    · (intro w' hSw; (try dsimp only at hSw); go_simp; try with_reducible rfl)
    simp only [Act.put, List.setIfInBounds_toArray, List.set_cons_zero, List.set_cons_succ]
    refine wpAnyH_done (by kernel_rfl) ?_ _
    clear hHeld
    go_wp2_with fail
    rw [HQ.out, HV.out]
    exact ⟨rfl, below_drewN' (Below.next HB.out HB1.out) _⟩
  | true =>
    have HSU2 := hide (HSU.out hmay)
    have HD2 : Hid (chkD a = decide (a.sum = crcV (arB a))) := by show _ = _; rw [HD.out, hmay]; rfl
    rw [hmay] at HM
    clear HSU HD hmay
    generalize crcV (arB a) = C at *
    go_enter Tryd.func8, Tryd.ntmps8
    go_wp2_with fail
    rw [HW.out]
    refine HM.out.mono ?_
    rintro e w1 ⟨rfl, hb⟩
    have HB1 := hide hb
    have hx := HX.out _ hb
    clear p0 p1 p2 p3 p4 p5 p6 hb
    have p0 := hx.a0
    have p1 := hx.a1
    have p2 := hx.a2
    have p3 := hx.a3
    have p4 := hx.a4
    have p5 := hx.a5
    have p6 := hx.a6
    clear hx
    go_wp2
    by_cases hs : C = a.sum
    · have HV : Hid (rchkN a = 0) := by show _ = _; unfold rchkN; rw [HD2.out, decide_eq_true hs.symm]; rfl
      have hsI : ((C : Int) != (a.sum : Int)) = false := by rw [hs]; simp
      clear HD2 hs
      refine wp_region_held_drew (S := (fun w' => w'.cell? ⟨w.heap.size, 0, none⟩ = some (.int .i64 a.pg) ∧ w'.cell? ⟨w.heap.size, 1, none⟩ = some (.int .i64 a.rt) ∧ w'.cell? ⟨w.heap.size, 2, none⟩ = some (.int .u64 (a.tx : Int)) ∧ w'.cell? ⟨w.heap.size, 3, none⟩ = some (.int .u64 (a.si : Int)) ∧ w'.cell? ⟨w.heap.size, 4, none⟩ = some vi ∧ w'.cell? ⟨w.heap.size, 5, none⟩ = some vp ∧ w'.cell? ⟨w.heap.size, 6, none⟩ = some (.int .u32 (a.sum : Int)))) (by kernel_rfl) ⟨p0, p1, p2, p3, p4, p5, p6⟩ (fun hHeld => ?_)
      refine wpAnyH_take (i := 0) (oi := { dst := some 6, op := Op.move (Operand.tmp 3), type := 4, pos := "copseref23.go:81", after := #[], guard := none }) (v := ?_) rfl (by kernel_rfl) (by kernel_rfl) (by kernel_rfl) (fun _ _ _ h => h) (Or.inl ⟨by rfl, ?_⟩) (by assumption) ?_
      rotate_left
      · (intro w' hSw; (try dsimp only at hSw); go_simp; try with_reducible rfl)
      simp only [Act.put, List.setIfInBounds_toArray, List.set_cons_zero, List.set_cons_succ]
      refine wpAnyH_take (i := 1) (oi := { dst := some 7, op := Op.unOp UnOp.not 4 (Operand.tmp 6), type := 4, pos := "copseref23.go:81", after := #[{ on := 0, ground := Ground.data }], guard := none }) (v := ?_) rfl (by kernel_rfl) (by kernel_rfl) (by kernel_rfl) (fun _ _ _ h => h) (Or.inl ⟨by rfl, ?_⟩) (by assumption) ?_
      rotate_left
      · (intro w' hSw; (try dsimp only at hSw); go_simp; try with_reducible rfl)
      simp only [Act.put, List.setIfInBounds_toArray, List.set_cons_zero, List.set_cons_succ]
      refine wpAnyH_take (i := 2) (oi := { dst := some 8, op := Op.move (Operand.tmp 7), type := 4, pos := "copseref23.go:81", after := #[{ on := 1, ground := Ground.data }], guard := none }) (v := ?_) rfl (by kernel_rfl) (by kernel_rfl) (by kernel_rfl) (fun _ _ _ h => h) (Or.inl ⟨by rfl, ?_⟩) (by assumption) ?_
      rotate_left
      · (intro w' hSw; (try dsimp only at hSw); go_simp; try with_reducible rfl)
      simp only [Act.put, List.setIfInBounds_toArray, List.set_cons_zero, List.set_cons_succ]
      refine wpAnyH_take (i := 3) (oi := { dst := some 9, op := Op.load 29 (Operand.tmp 1), type := 29, pos := "copseref23.go:81", after := #[{ on := 2, ground := Ground.guard }], guard := some (2, false) }) (v := ?_) rfl (by kernel_rfl) (by kernel_rfl) (by kernel_rfl) (fun _ _ _ h => h) (Or.inl ⟨by rfl, ?_⟩) (by assumption) ?_
      rotate_left
      · (intro w' hSw; (try dsimp only at hSw); go_simp; try with_reducible rfl)
      simp only [Act.put, List.setIfInBounds_toArray, List.set_cons_zero, List.set_cons_succ]
      refine wpAnyH_take (i := 5) (oi := { dst := some 11, op := Op.fieldAddr 29 (Operand.tmp 1) 4, type := 0, pos := "copseref23.go:81", after := #[{ on := 2, ground := Ground.guard }], guard := some (2, false) }) (v := ?_) rfl (by kernel_rfl) (by kernel_rfl) (by kernel_rfl) (fun _ _ _ h => h) (Or.inl ⟨by rfl, ?_⟩) (by assumption) ?_
      rotate_left
      · (intro w' hSw; (try dsimp only at hSw); go_simp; try with_reducible rfl)
      simp only [Act.put, List.setIfInBounds_toArray, List.set_cons_zero, List.set_cons_succ]
      refine wpAnyH_take (i := 6) (oi := { dst := some 12, op := Op.load 27 (Operand.tmp 11), type := 27, pos := "copseref23.go:81", after := #[{ on := 5, ground := Ground.data }, { on := 2, ground := Ground.guard }], guard := some (2, false) }) (v := ?_) rfl (by kernel_rfl) (by kernel_rfl) (by kernel_rfl) (fun _ _ _ h => h) (Or.inl ⟨by rfl, ?_⟩) (by assumption) ?_
      rotate_left
      · (intro w' hSw; (try dsimp only at hSw); go_simp; try with_reducible rfl)
      simp only [Act.put, List.setIfInBounds_toArray, List.set_cons_zero, List.set_cons_succ]
      refine wpAnyH_ready (rs := [4]) (by kernel_rfl) (by simp) ?_
      refine AllReadyH.cons (o := { dst := some 10, op := Op.call { callee := Callee.value (Operand.func 14), args := #[Operand.tmp 9], argTypes := #[29] }, type := 27, pos := "copseref23.go:81", after := #[{ on := 3, ground := Ground.data }, { on := 2, ground := Ground.chain }, { on := 2, ground := Ground.guard }], guard := some (2, false) }) rfl (fun K hK => ?_) AllReadyH.nil
      clear hHeld
      go_simp
      refine (HSU2.out _ (by first | exact HB1.out | exact ⟨HB1.out.os, HB1.out.tape, HB1.out.output, HB1.out.size, HB1.out.block⟩)).mono ?_
      rintro e w2 ⟨rfl, hd⟩
      have hb : Below W1.heap.size W1 w2 := Below.next HB1.out ⟨hd.os, hd.tape, hd.output, hd.size, hd.block⟩
      have HB2 := hide hb
      have hx := HX.out _ hb
      clear hb hd
      refine hK.out _ _ ⟨hx.a0, hx.a1, hx.a2, hx.a3, hx.a4, hx.a5, hx.a6⟩ (fun hHeld => ?_)
      clear hK K
      refine wpAnyH_take (i := 7) (oi := { dst := some 13, op := Op.binOp BinOp.neq 27 (Operand.tmp 10) (Operand.tmp 12) 27, type := 4, pos := "copseref23.go:81", after := #[{ on := 4, ground := Ground.data }, { on := 6, ground := Ground.data }, { on := 2, ground := Ground.guard }], guard := some (2, false) }) (v := ?_) rfl (by kernel_rfl) (by kernel_rfl) (by kernel_rfl) (fun _ _ _ h => h) (Or.inl ⟨by rfl, ?_⟩) (by assumption) ?_
      rotate_left
      · (intro w' hSw; (try dsimp only at hSw); go_simp; try with_reducible rfl)
      simp only [Act.put, List.setIfInBounds_toArray, List.set_cons_zero, List.set_cons_succ]
      refine wpAnyH_take (i := 8) (oi := { dst := some 14, op := Op.pick (Operand.tmp 8) (Operand.const (Value.bool true)) (Operand.tmp 13), type := 4, pos := "copseref23.go:81", after := #[{ on := 2, ground := Ground.data }, { on := 7, ground := Ground.data }], guard := none }) (v := ?_) rfl (by kernel_rfl) (by kernel_rfl) (by kernel_rfl) (fun _ _ _ h => h) (Or.inl ⟨by rfl, ?_⟩) (by assumption) ?_
      rotate_left
      · (intro w' hSw; (try dsimp only at hSw); go_simp; try with_reducible rfl)
      simp only [Act.put, List.setIfInBounds_toArray, List.set_cons_zero, List.set_cons_succ]
      refine wpAnyH_done (by kernel_rfl) ?_ _
      clear hHeld
      go_wp2_with fail
      rw [HQ.out, HV.out]
      exact ⟨rfl, Below.next HB.out HB2.out⟩
    · have HV : Hid (rchkN a = 2) := by show _ = _; unfold rchkN; rw [HD2.out, decide_eq_false (fun h => hs h.symm)]; rfl
      have hsI : ((C : Int) != (a.sum : Int)) = true := by rw [bne_iff_ne]; omega
      clear HD2 hs
      refine wp_region_held_drew (S := (fun w' => w'.cell? ⟨w.heap.size, 0, none⟩ = some (.int .i64 a.pg) ∧ w'.cell? ⟨w.heap.size, 1, none⟩ = some (.int .i64 a.rt) ∧ w'.cell? ⟨w.heap.size, 2, none⟩ = some (.int .u64 (a.tx : Int)) ∧ w'.cell? ⟨w.heap.size, 3, none⟩ = some (.int .u64 (a.si : Int)) ∧ w'.cell? ⟨w.heap.size, 4, none⟩ = some vi ∧ w'.cell? ⟨w.heap.size, 5, none⟩ = some vp ∧ w'.cell? ⟨w.heap.size, 6, none⟩ = some (.int .u32 (a.sum : Int)))) (by kernel_rfl) ⟨p0, p1, p2, p3, p4, p5, p6⟩ (fun hHeld => ?_)
      refine wpAnyH_take (i := 0) (oi := { dst := some 6, op := Op.move (Operand.tmp 3), type := 4, pos := "copseref23.go:81", after := #[], guard := none }) (v := ?_) rfl (by kernel_rfl) (by kernel_rfl) (by kernel_rfl) (fun _ _ _ h => h) (Or.inl ⟨by rfl, ?_⟩) (by assumption) ?_
      rotate_left
      · (intro w' hSw; (try dsimp only at hSw); go_simp; try with_reducible rfl)
      simp only [Act.put, List.setIfInBounds_toArray, List.set_cons_zero, List.set_cons_succ]
      refine wpAnyH_take (i := 1) (oi := { dst := some 7, op := Op.unOp UnOp.not 4 (Operand.tmp 6), type := 4, pos := "copseref23.go:81", after := #[{ on := 0, ground := Ground.data }], guard := none }) (v := ?_) rfl (by kernel_rfl) (by kernel_rfl) (by kernel_rfl) (fun _ _ _ h => h) (Or.inl ⟨by rfl, ?_⟩) (by assumption) ?_
      rotate_left
      · (intro w' hSw; (try dsimp only at hSw); go_simp; try with_reducible rfl)
      simp only [Act.put, List.setIfInBounds_toArray, List.set_cons_zero, List.set_cons_succ]
      refine wpAnyH_take (i := 2) (oi := { dst := some 8, op := Op.move (Operand.tmp 7), type := 4, pos := "copseref23.go:81", after := #[{ on := 1, ground := Ground.data }], guard := none }) (v := ?_) rfl (by kernel_rfl) (by kernel_rfl) (by kernel_rfl) (fun _ _ _ h => h) (Or.inl ⟨by rfl, ?_⟩) (by assumption) ?_
      rotate_left
      · (intro w' hSw; (try dsimp only at hSw); go_simp; try with_reducible rfl)
      simp only [Act.put, List.setIfInBounds_toArray, List.set_cons_zero, List.set_cons_succ]
      refine wpAnyH_take (i := 3) (oi := { dst := some 9, op := Op.load 29 (Operand.tmp 1), type := 29, pos := "copseref23.go:81", after := #[{ on := 2, ground := Ground.guard }], guard := some (2, false) }) (v := ?_) rfl (by kernel_rfl) (by kernel_rfl) (by kernel_rfl) (fun _ _ _ h => h) (Or.inl ⟨by rfl, ?_⟩) (by assumption) ?_
      rotate_left
      · (intro w' hSw; (try dsimp only at hSw); go_simp; try with_reducible rfl)
      simp only [Act.put, List.setIfInBounds_toArray, List.set_cons_zero, List.set_cons_succ]
      refine wpAnyH_take (i := 5) (oi := { dst := some 11, op := Op.fieldAddr 29 (Operand.tmp 1) 4, type := 0, pos := "copseref23.go:81", after := #[{ on := 2, ground := Ground.guard }], guard := some (2, false) }) (v := ?_) rfl (by kernel_rfl) (by kernel_rfl) (by kernel_rfl) (fun _ _ _ h => h) (Or.inl ⟨by rfl, ?_⟩) (by assumption) ?_
      rotate_left
      · (intro w' hSw; (try dsimp only at hSw); go_simp; try with_reducible rfl)
      simp only [Act.put, List.setIfInBounds_toArray, List.set_cons_zero, List.set_cons_succ]
      refine wpAnyH_take (i := 6) (oi := { dst := some 12, op := Op.load 27 (Operand.tmp 11), type := 27, pos := "copseref23.go:81", after := #[{ on := 5, ground := Ground.data }, { on := 2, ground := Ground.guard }], guard := some (2, false) }) (v := ?_) rfl (by kernel_rfl) (by kernel_rfl) (by kernel_rfl) (fun _ _ _ h => h) (Or.inl ⟨by rfl, ?_⟩) (by assumption) ?_
      rotate_left
      · (intro w' hSw; (try dsimp only at hSw); go_simp; try with_reducible rfl)
      simp only [Act.put, List.setIfInBounds_toArray, List.set_cons_zero, List.set_cons_succ]
      refine wpAnyH_ready (rs := [4]) (by kernel_rfl) (by simp) ?_
      refine AllReadyH.cons (o := { dst := some 10, op := Op.call { callee := Callee.value (Operand.func 14), args := #[Operand.tmp 9], argTypes := #[29] }, type := 27, pos := "copseref23.go:81", after := #[{ on := 3, ground := Ground.data }, { on := 2, ground := Ground.chain }, { on := 2, ground := Ground.guard }], guard := some (2, false) }) rfl (fun K hK => ?_) AllReadyH.nil
      clear hHeld
      go_simp
      refine (HSU2.out _ (by first | exact HB1.out | exact ⟨HB1.out.os, HB1.out.tape, HB1.out.output, HB1.out.size, HB1.out.block⟩)).mono ?_
      rintro e w2 ⟨rfl, hd⟩
      have hb : Below W1.heap.size W1 w2 := Below.next HB1.out ⟨hd.os, hd.tape, hd.output, hd.size, hd.block⟩
      have HB2 := hide hb
      have hx := HX.out _ hb
      clear hb hd
      refine hK.out _ _ ⟨hx.a0, hx.a1, hx.a2, hx.a3, hx.a4, hx.a5, hx.a6⟩ (fun hHeld => ?_)
      clear hK K
      refine wpAnyH_take (i := 7) (oi := { dst := some 13, op := Op.binOp BinOp.neq 27 (Operand.tmp 10) (Operand.tmp 12) 27, type := 4, pos := "copseref23.go:81", after := #[{ on := 4, ground := Ground.data }, { on := 6, ground := Ground.data }, { on := 2, ground := Ground.guard }], guard := some (2, false) }) (v := ?_) rfl (by kernel_rfl) (by kernel_rfl) (by kernel_rfl) (fun _ _ _ h => h) (Or.inl ⟨by rfl, ?_⟩) (by assumption) ?_
      rotate_left
      · (intro w' hSw; (try dsimp only at hSw); go_simp; try with_reducible rfl)
      simp only [Act.put, List.setIfInBounds_toArray, List.set_cons_zero, List.set_cons_succ]
      refine wpAnyH_take (i := 8) (oi := { dst := some 14, op := Op.pick (Operand.tmp 8) (Operand.const (Value.bool true)) (Operand.tmp 13), type := 4, pos := "copseref23.go:81", after := #[{ on := 2, ground := Ground.data }, { on := 7, ground := Ground.data }], guard := none }) (v := ?_) rfl (by kernel_rfl) (by kernel_rfl) (by kernel_rfl) (fun _ _ _ h => h) (Or.inl ⟨by rfl, ?_⟩) (by assumption) ?_
      rotate_left
      · (intro w' hSw; (try dsimp only at hSw); go_simp; try with_reducible rfl)
      simp only [Act.put, List.setIfInBounds_toArray, List.set_cons_zero, List.set_cons_succ]
      refine wpAnyH_done (by kernel_rfl) ?_ _
      clear hHeld
      go_wp2_with fail
      rw [HQ.out, HV.out]
      exact ⟨rfl, Below.next HB.out HB2.out⟩
end Go.Proofs.YtpeobpmooledaaaDoor
