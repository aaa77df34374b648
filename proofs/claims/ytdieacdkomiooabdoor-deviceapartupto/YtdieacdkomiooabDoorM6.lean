import Derived.Test.YtdieacdkomiooabDoorM5
namespace Go.Proofs.YtdieacdkomiooabDoor
open Go.RowKit Go.Maps

/-- What operationDone does. -/
def DoneOk (A : Nat → Addr) (w : World) (b : Nat) (F : Nat → Prop) (d : Dev) : Prop := Calls Tryd.prog 76 #[.pointer (some ⟨b, 0, none⟩)] w fun e w' => e = .returned (errV A d.done.2) ∧ DevPost w b F d.done.1 w'
/-- It does so with these arms. -/
def OpOk (base : Nat) (A : Nat → Addr) (b : Nat) (arms : List Armed) : Prop := ∀ w F d, d.arms = arms → DevAt w b F d → ErrsB base A w → (∀ k, F k → base ≤ k) → d.pend.length ≤ 140737488355328 → d.dead = false → DoneOk A w b F d

set_option maxHeartbeats 400000 in
theorem opdone_nil (base : Nat) (A : Nat → Addr) (b : Nat) : OpOk base A b [] := by
  intro w F d ha h _ _ _ _
  obtain ⟨mb, nb, pv, av, Dn, h⟩ := h
  have c4 : w.cell? ⟨b, 4, none⟩ = some av := h.cell 4
  have HH : Hid (DevBody w b F d mb nb pv av Dn) := h
  have harms := h.arms
  have HD : Hid (d.done = (d, 0)) := by show d.done = _; unfold Dev.done; rw [ha]
  obtain ⟨a, c, rfl⟩ : ∃ a c, av = .slice a 0 c := by
    rw [ha] at harms
    rcases harms with ⟨_, rfl⟩ | ⟨g, off, cap, cur, fv, rfl, _⟩
    · exact ⟨_, _, rfl⟩
    · exact ⟨_, _, rfl⟩
  unfold DoneOk
  clear h harms ha
  go_enter Tryd.func76, Tryd.ntmps76
  go_wp2_with fail
  go_ret
  rw [HD.out]
  exact ⟨rfl, F, ⟨_, _, _, _, _, HH.out⟩, Step.refl _ _⟩

/-- What Sync's loop holds. -/
structure SyncInv (w wr : World) (b : Nat) (F : Nat → Prop) (d : Dev) (mb nb : Nat) (pv av : Value) (Dn : DataW Unit) (k : Nat) : Prop where
  body : DevBody wr b F { d with dur := syncD d.dur (d.pend.take k) } mb nb pv av Dn
  step : Step F F w wr
theorem syncD_snoc (dur l : List Sec) (x : Sec) : syncD dur (l ++ [x]) = setD (syncD dur l) x.ix x.dat := by simp [syncD, List.foldl_append]

set_option maxRecDepth 100000 in
set_option maxHeartbeats 800000 in
theorem sync_any (base : Nat) (A : Nat → Addr) (b : Nat) (F : Nat → Prop) (d : Dev) (w : World) (h : DevAt w b F d) (hE : ErrsB base A w) (hF : ∀ k, F k → base ≤ k) (hp : d.pend.length ≤ 140737488355328) (hop : OpOk base A b d.arms) :
    Calls Tryd.prog 41 #[.pointer (some ⟨b, 0, none⟩)] w fun e w' => e = .returned (errV A d.sync.2) ∧ DevPost w b F d.sync.1 w' := by
  obtain ⟨mb, nb, pv, av, Dn, h⟩ := h
  have c5 : w.cell? ⟨b, 5, none⟩ = some (.bool d.dead) := h.cell 5
  have e7 := hE.dead
  have HE : Hid (ErrsB base A w) := hE
  have HF : Hid (∀ k, F k → base ≤ k) := hF
  have HO : Hid (OpOk base A b d.arms) := hop
  have HH : Hid (DevBody w b F d mb nb pv av Dn) := h
  cases hd : d.dead
  · have c2 : w.cell? ⟨b, 2, none⟩ = some pv := h.cell 2
    obtain ⟨pa, pc, rfl, hpa⟩ := owns_form h.pend
    obtain ⟨n, hn⟩ : ∃ n, n = d.pend.length := ⟨_, rfl⟩
    have HN : Hid (n = d.pend.length) := hn
    rw [← hn] at c2 hp hpa HH
    have HI : Hid (SyncInv w w b F d mb nb (.slice pa n pc) av Dn 0) := ⟨by simpa [syncD] using HH.out, Step.refl _ _⟩
    rw [hd] at c5
    have HS : Hid (d.sync = Dev.done { d with dur := syncD d.dur d.pend, pend := [], ns := wrap64 (d.ns + 1) }) := by show d.sync = _; unfold Dev.sync; rw [hd]; rfl
    clear h hE hF hop hn e7
    go_enter Tryd.func41, Tryd.ntmps41
    go_wp2_with fail
    go_loopw [15] (fun i wr => ∃ k, k ≤ n ∧ i = .int .i64 (k : Int) ∧ SyncInv w wr b F d mb nb (.slice pa n pc) av Dn k) (fun i _ => n - (intOf i).toNat)
    case atStart => exact ⟨0, Nat.zero_le _, rfl, HI.out⟩
    case round =>
      obtain ⟨k, hk, rfl, inv⟩ := hrel
      have INV : Hid (SyncInv w wr b F d mb nb (.slice pa n pc) av Dn k) := inv
      clear inv HI
      by_cases hlt : k < n
      · obtain ⟨gp, rfl⟩ := hpa (by omega)
        have hkp : k < d.pend.length := by rw [← HN.out]; exact hlt
        obtain ⟨p0, p1⟩ := secCells_get d.pend k hkp
        have hpend := INV.out.body.pend
        simp only [← HN.out] at hpend
        have p0 := owns_cell hpend rfl _ _ p0
        have p1 := owns_cell hpend rfl _ _ p1
        have hok := secOk_of HH.out.ok hkp
        obtain ⟨x, hx⟩ : ∃ x, x = d.pend[k] := ⟨_, rfl⟩
        rw [← hx] at p0 p1 hok
        have HX : Hid (x = d.pend[k]) := hx
        clear hx hpend
        obtain ⟨xi, xd⟩ := x
        have hb2 := below_new wr (.cells #[.int .i64 xi, .string xd] 68)
        have M := maked_body (INV.out.body.alloc hb2) xi xd (by rw [show xd.size = 512 from hok.len]; omega) hok.lo hok.hi
        rw [pad_full xd hok.len] at M
        have HM : Hid (Calls Tryd.prog 52 #[.pointer (some ⟨b, 0, none⟩), .int .i64 xi, .string xd] (wr.alloc (.cells #[.int .i64 xi, .string xd] 68)) fun e w' => e = .returned (.tuple #[]) ∧ DevBody w' b F { d with dur := setD (syncD d.dur (d.pend.take k)) xi xd } mb nb (.slice (some ⟨gp, 0, none⟩) n pc) av Dn ∧ (wr.alloc (.cells #[.int .i64 xi, .string xd] 68)).grownBy w' (some mb)) := M
        have HB2 : Hid _ := hb2
        clear M hok hb2
        go_wp2_with fail
        refine HM.out.mono ?_
        rintro e w4 ⟨rfl, h4, s4⟩
        have V : SyncInv w w4 b F d mb nb (.slice (some ⟨gp, 0, none⟩) n pc) av Dn (k + 1) := by
          refine ⟨?_, (INV.out.step.trans (Step.of_below HB2.out)).trans ((INV.out.body.alloc HB2.out).step s4)⟩
          rw [take_next' _ k hkp, syncD_snoc, ← HX.out]
          exact h4
        clear HM HB2 INV h4 s4 p0 p1
        go_wp2_with fail
        go_roundw
        case rel => exact ⟨k + 1, by omega, by go_num, V⟩
        case measure => simp [intOf]; omega
      · have hke : k = d.pend.length := by rw [← HN.out]; omega
        have V := INV.out.body
        rw [hke, List.take_of_length_le (Nat.le_refl _)] at V
        have D := drop_any b F _ wr ⟨_, _, _, _, _, V⟩
        have HD : Hid (Calls Tryd.prog 77 #[.pointer (some ⟨b, 0, none⟩)] wr fun e w' => e = .returned (.tuple #[]) ∧ DevAt w' b (fun k => F k ∨ k = wr.heap.size) { d with dur := syncD d.dur d.pend, pend := [] } ∧ Step F (fun k => F k ∨ k = wr.heap.size) wr w') := D
        clear D V hke
        go_wp2_with fail
        refine HD.out.mono ?_
        rintro e w4 ⟨rfl, h4, s4⟩
        have hok := h4.ok
        obtain ⟨mb4, nb4, pv4, av4, Dn4, h4⟩ := h4
        have k8 : w4.cell? ⟨b, 8, none⟩ = some (.int .i64 d.ns) := h4.cell 8
        have f8 := h4.frozen 8
        obtain ⟨h5, s5⟩ := h4.set (d' := { d with dur := syncD d.dur d.pend, pend := [], ns := wrap64 (d.ns + 1) }) 8 (.int .i64 (wrap64 (d.ns + 1))) rfl rfl rfl rfl ⟨hok.s0, hok.s1, hok.dur, hok.rise, hok.pend, hok.arms⟩
        have S5 : Step F (fun k => F k ∨ k = wr.heap.size) w (w4.setCell ⟨b, 8, none⟩ (.int .i64 (wrap64 (d.ns + 1)))) := (INV.out.step.trans s4).trans s5
        have O := HO.out _ _ { d with dur := syncD d.dur d.pend, pend := [], ns := wrap64 (d.ns + 1) } rfl ⟨_, _, _, _, _, h5⟩ (HE.out.step S5 HF.out) (S5.ge HF.out HE.out.size) (Nat.zero_le _) hd
        have HO2 : Hid (DoneOk A (w4.setCell ⟨b, 8, none⟩ (.int .i64 (wrap64 (d.ns + 1)))) b (fun k => F k ∨ k = wr.heap.size) { d with dur := syncD d.dur d.pend, pend := [], ns := wrap64 (d.ns + 1) }) := O
        have HS5 : Hid (Step F (fun k => F k ∨ k = wr.heap.size) w (w4.setCell ⟨b, 8, none⟩ (.int .i64 (wrap64 (d.ns + 1))))) := S5
        clear HD h4 h5 s4 s5 S5 O hok INV
        go_wp2_with fail
        refine HO2.out.mono ?_
        rintro e w6 ⟨rfl, F6, h6, s6⟩
        have HR : Hid (DevPost w b F d.sync.1 w6) := by rw [HS.out]; exact ⟨F6, h6, HS5.out.trans s6⟩
        have HV : Hid (Dev.done { d with dur := syncD d.dur d.pend, pend := [], ns := wrap64 (d.ns + 1) } = d.sync) := HS.out.symm
        rw [HV.out]
        clear HO2 HS5 HS h6 s6
        go_wp2_with fail
        go_ret
        exact ⟨rfl, HR.out⟩
  · rw [hd] at c5
    have HS : Hid (d.sync = (d, 8)) := by show d.sync = _; unfold Dev.sync; rw [hd]; rfl
    clear h hE hF hop
    go_enter Tryd.func41, Tryd.ntmps41
    go_wp2_with fail
    go_ret
    rw [HS.out]
    exact ⟨rfl, F, ⟨_, _, _, _, _, HH.out⟩, Step.refl _ _⟩

end Go.Proofs.YtdieacdkomiooabDoor
