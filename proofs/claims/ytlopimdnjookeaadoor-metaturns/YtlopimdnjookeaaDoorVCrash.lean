import Derived.Test.YtlopimdnjookeaaDoorVM10
namespace Go.Proofs.YtlopimdnjookeaaDoor.V
open Go.RowKit Go.Maps

/-- A list of fates that can be read, wherever it lies. -/
def FatesR (w : World) (v : Value) : Prop := ∃ a m c, v = .slice a m c ∧ m ≤ 9223372036854775807 ∧ ∀ k, k < m → ∃ g off fi fk fc fj, a = some ⟨g, off, none⟩ ∧ g < w.heap.size ∧
  w.cell? ⟨g, off + k * 4, none⟩ = some (.int .i64 fi) ∧ w.cell? ⟨g, off + k * 4 + 1, none⟩ = some (.int .i64 fk) ∧ w.cell? ⟨g, off + k * 4 + 2, none⟩ = some (.int .i64 fc) ∧ w.cell? ⟨g, off + k * 4 + 3, none⟩ = some (.string fj)
theorem FatesR.below {w w' : World} {v : Value} (h : FatesR w v) (hb : Below w.heap.size w w') : FatesR w' v := by
  obtain ⟨a, m, c, hv, hm, h⟩ := h
  refine ⟨a, m, c, hv, hm, fun k hk => ?_⟩
  obtain ⟨g, off, fi, fk, fc, fj, ha, hg, h0, h1, h2, h3⟩ := h k hk
  exact ⟨g, off, fi, fk, fc, fj, ha, Nat.lt_of_lt_of_le hg hb.size, (hb.cell hg).trans h0, (hb.cell hg).trans h1, (hb.cell hg).trans h2, (hb.cell hg).trans h3⟩

set_option maxRecDepth 100000 in
set_option maxHeartbeats 1600000 in
theorem settle_none (w : World) (b : Nat) (F : Nat → Prop) (d : Dev) (h : DevAt w b F d) (hp : d.pend = []) (fv : Value) (hl : FatesR w fv) :
    Calls Tryd.prog 38 #[.pointer (some ⟨b, 0, none⟩), fv] w fun e w' => e = .returned (.tuple #[]) ∧ ∃ F', DevAt w' b F' d ∧ Step F F' w w' := by
  obtain ⟨i0, hi, hz0, hz1, hz2⟩ := info_parts Tryd.info4
  have HD := (show Hid (DevAt w b F d) from h)
  obtain ⟨fa, m, fc, rfl, hm, hl⟩ := hl
  have HLL : Hid (∀ k, k < m → ∃ g off fi fk fc fj, fa = some ⟨g, off, none⟩ ∧ g < w.heap.size ∧ w.cell? ⟨g, off + k * 4, none⟩ = some (.int .i64 fi) ∧ w.cell? ⟨g, off + k * 4 + 1, none⟩ = some (.int .i64 fk) ∧ w.cell? ⟨g, off + k * 4 + 2, none⟩ = some (.int .i64 fc) ∧ w.cell? ⟨g, off + k * 4 + 3, none⟩ = some (.string fj)) := hl
  obtain ⟨mb, nb, pv, av, Dn, h⟩ := h
  have c2 : w.cell? ⟨b, 2, none⟩ = some pv := h.cell 2
  obtain ⟨pa, pc, rfl, hpa⟩ := owns_form h.pend
  rw [hp] at c2
  have HPE : Hid (d.pend = []) := hp
  have HSAME : Hid ({ d with pend := [] } = d) := by show _ = _; rw [← hp]
  simp only [List.length_nil] at c2
  clear h hl hp hpa
  go_enter Tryd.func38, Tryd.ntmps38
  go_wp2_with (first
    | (at_make; refine wpList_make_full _ rfl _ _ 92 rfl 0 4 i0 (.bool false) 1 Tryd.underlying92 hi hz0 hz1 .i64 .i64 _ _ 0 rfl rfl rfl rfl ?c1 ?c2 (Nat.zero_le _) ?_))
  case c1 => rw [hz2]; omega
  case c2 => unfold maxLen; omega
  intro w1 hrow1 hg1
  have HB1 : Hid (Below w.heap.size w w1) := ⟨hg1.os, hg1.tape, hg1.output, hg1.size, fun k hk => hg1.block k hk (by simp)⟩
  clear hrow1 hg1 c2
  go_wp2_with fail
  go_loopw [15] (fun i wr => ∃ k : Nat, k ≤ m ∧ i = .int .i64 (k : Int) ∧ Below w.heap.size w wr) (fun i _ => m - (intOf i).toNat)
  case atStart => exact ⟨0, Nat.zero_le _, rfl, HB1.out⟩
  case round =>
    obtain ⟨k, hk, rfl, hbr⟩ := hrel
    have HBR : Hid (Below w.heap.size w wr) := hbr
    clear hbr HB1
    by_cases hlt : k < m
    · obtain ⟨g, off, fi, fk, fc', fj, rfl, hg, h0, h1, h2, h3⟩ := HLL.out k hlt
      have a0 : wr.cell? ⟨g, off + k * 4, none⟩ = some (.int .i64 fi) := (HBR.out.cell hg).trans h0
      have a1 : wr.cell? ⟨g, off + k * 4 + 1, none⟩ = some (.int .i64 fk) := (HBR.out.cell hg).trans h1
      have a2 : wr.cell? ⟨g, off + k * 4 + 2, none⟩ = some (.int .i64 fc') := (HBR.out.cell hg).trans h2
      have a3 : wr.cell? ⟨g, off + k * 4 + 3, none⟩ = some (.string fj) := (HBR.out.cell hg).trans h3
      clear h0 h1 h2 h3
      have HB2 : Hid (Below w.heap.size w (wr.alloc (.cells #[.int .i64 fi, .int .i64 fk, .int .i64 fc', .string fj] 80))) := HBR.out.trans ((below_new wr _).mono HBR.out.size)
      rcases (show fi < 0 ∨ 0 ≤ fi by omega) with g0 | g0
      · have hd1 : decide (fi < 0) = true := decide_eq_true g0
        go_wp2_with fail
        go_roundw
        case rel => exact ⟨k + 1, by omega, by go_num, HB2.out⟩
        case measure => simp [intOf]; omega
      · have hd1 : decide (fi < 0) = false := decide_eq_false (by omega)
        have hd2 : decide ((0 : Int) ≤ fi) = true := decide_eq_true g0
        go_wp2_with fail
        go_roundw
        case rel => exact ⟨k + 1, by omega, by go_num, HB2.out⟩
        case measure => simp [intOf]; omega
    · have D := drop_any b F d wr (HD.out.below HBR.out)
      rw [HSAME.out] at D
      have HDR : Hid (Calls Tryd.prog 33 #[.pointer (some ⟨b, 0, none⟩)] wr fun e w' => e = .returned (.tuple #[]) ∧ DevAt w' b (fun k => F k ∨ k = wr.heap.size) d ∧ Step F (fun k => F k ∨ k = wr.heap.size) wr w') := D
      clear D
      go_wp2_with fail
      refine Calls.mono HDR.out ?_
      rintro e w2 ⟨rfl, hd2, hs2⟩
      have HF : Hid (∃ F', DevAt w2 b F' d ∧ Step F F' w w2) := ⟨_, hd2, (Step.of_below HBR.out).trans hs2⟩
      clear hd2 hs2
      go_wp2_with fail
      go_end0
      exact ⟨rfl, HF.out⟩

set_option maxHeartbeats 400000 in
/-- A failure of the power over a device with nothing pending. -/
theorem crash_none (b : Nat) (F : Nat → Prop) (d : Dev) (w : World) (h : DevAt w b F d) (hp : d.pend = []) (hdead : d.dead = false) (fv : Value) (hl : FatesR w fv) :
    Calls Tryd.prog 15 #[.pointer (some ⟨b, 0, none⟩), fv] w fun e w' => e = .returned (.tuple #[]) ∧ DevPost w b F { d with dead := true } w' := by
  have S := settle_none w b F d h hp fv hl
  have HS : Hid (Calls Tryd.prog 38 #[.pointer (some ⟨b, 0, none⟩), fv] w fun e w' => e = .returned (.tuple #[]) ∧ ∃ F', DevAt w' b F' d ∧ Step F F' w w') := S
  obtain ⟨mb, nb, pv, av, Dn, h⟩ := h
  have c5 : w.cell? ⟨b, 5, none⟩ = some (.bool d.dead) := h.cell 5
  obtain ⟨fa, m, fc, rfl, hm, -⟩ := hl
  rw [hdead] at c5
  clear S h
  go_enter Tryd.func15, Tryd.ntmps15
  go_wp2_with fail
  refine HS.out.mono ?_
  rintro e w1 ⟨rfl, F1, h1, s1⟩
  have hok := h1.ok
  obtain ⟨mb1, nb1, pv1, av1, Dn1, h1⟩ := h1
  have k5 : w1.cell? ⟨b, 5, none⟩ = some (.bool d.dead) := h1.cell 5
  have f5 := h1.frozen 5
  obtain ⟨h2, s2⟩ := h1.set (d' := { d with dead := true }) 5 (.bool true) rfl rfl rfl rfl ⟨hok.s0, hok.s1, hok.dur, hok.rise, hok.pend, hok.arms⟩
  have HH : Hid (DevBody (w1.setCell ⟨b, 5, none⟩ (.bool true)) b F1 { d with dead := true } mb1 nb1 pv1 av1 Dn1 ∧ Step F1 F1 w1 (w1.setCell ⟨b, 5, none⟩ (.bool true))) := ⟨h2, s2⟩
  have HS1 : Hid (Step F F1 w w1) := s1
  clear HS h1 h2 s2 s1 hok
  go_wp2_with fail
  go_end0
  exact ⟨rfl, F1, ⟨_, _, _, _, _, HH.out.1⟩, HS1.out.trans HH.out.2⟩

end Go.Proofs.YtlopimdnjookeaaDoor.V
