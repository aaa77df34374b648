import Derived.Test.YtdieacdkomiooabDoorM9
namespace Go.Proofs.YtdieacdkomiooabDoor
open Go.RowKit Go.Maps

theorem made_u8 (n : Nat) : (madeCells #[Value.int .u8 0] n).toList = u8s (zeros n) := by
  rw [u8s, zeros, List.map_replicate]
  simp [madeCells, Nat.mod_one, List.map_const']
theorem rowB_of {w : World} {base g n : Nat} {l : List UInt8} (h : w.ownsRow base 5 1 (.slice (some ⟨g, 0, none⟩) n n) n (u8s l)) : RowB w g l := by
  rcases h.2 with ⟨h', _⟩ | ⟨g', cap', cur, h', hb, hg, hn, hc, hs, ht⟩
  · cases h'
  · cases h'
    unfold RowB
    rw [hg, ← ht, List.take_of_length_le (by simpa using Nat.le_of_eq hs)]
theorem owns_of_rowB {w : World} {base g n : Nat} {l : List UInt8} (h : RowB w g l) (hl : l.length = n) (hb : base ≤ g) (hn : n ≤ maxLen) : w.ownsRow base 5 1 (.slice (some ⟨g, 0, none⟩) n n) n (u8s l) :=
  ⟨by rw [u8s_length]; omega, .inr ⟨g, n, _, rfl, hb, h, Nat.le_refl _, hn, by simp [u8s_length]; omega, by
    rw [List.take_of_length_le (by simp [u8s_length]; omega)]⟩⟩
/-- What Read leaves. -/
structure ReadPost (A : Nat → Addr) (w : World) (b : Nat) (F : Nat → Prop) (r : Dev × List UInt8 × Nat) (e : Ending) (w' : World) (v : Value) : Prop where
  ret : e = .returned (.tuple #[v, errV A r.2.2])
  row : w'.ownsRow w.heap.size 5 1 v r.2.1.length (u8s r.2.1)
  dev : DevAt w' b F r.1
  step : Step F F w w'
/-- What Read's loop holds. -/
structure RdInv (w wr : World) (d : Dev) (s : Int) (m k : Nat) : Prop where
  row : RowB wr w.heap.size (readB d s k ++ zeros ((m - k) * 512))
  bel : Below w.heap.size w wr

set_option maxRecDepth 100000 in
set_option maxHeartbeats 800000 in
theorem read_any (base : Nat) (A : Nat → Addr) (b : Nat) (F : Nat → Prop) (d : Dev) (w : World) (h : DevAt w b F d) (hE : ErrsB base A w) (s n : Int) (hn : n < 9223372036854775808) :
    Calls Tryd.prog 13 #[.pointer (some ⟨b, 0, none⟩), .int .i64 s, .int .i64 n] w fun e w' => ∃ v, ReadPost A w b F (d.read s n) e w' v := by
  have HK : Hid (DevAt w b F d) := h
  have H0 := holds_any b F d s n w h hn
  generalize hf : d.fits s n = fb at H0
  have HFI : Hid (d.fits s n = fb) := hf
  have HH0 : Hid (Calls Tryd.prog 46 #[.pointer (some ⟨b, 0, none⟩), .int .i64 s, .int .i64 n] w fun e w' => e = .returned (.bool fb) ∧ w = w') := H0
  obtain ⟨mb, nb, pv, av, Dn, h⟩ := h
  have c5 : w.cell? ⟨b, 5, none⟩ = some (.bool d.dead) := h.cell 5
  have e7 := hE.dead
  have e0 := hE.arg
  have e2 := hE.many
  clear h hE H0 hf
  have HER : Hid (∀ m c, d.read s n = (d, [], c) → ∃ v, ReadPost A w b F (d.read s n) (.returned (.tuple #[.slice none 0 0, errV A c])) (w.drewN m) v) := fun m c hc => by
    rw [hc]
    exact ⟨_, rfl, World.ownsRow_nil _ _ _ _, HK.out.below (below_drewN (Below.refl _ _) m), Step.of_below (below_drewN (Below.refl _ _) m)⟩
  cases hd : d.dead
  · rw [hd] at c5
    cases fb
    · have HR : Hid (d.read s n = (d, [], 1)) := by show d.read s n = _; unfold Dev.read; rw [hd, HFI.out]; rfl
      go_enter Tryd.func13, Tryd.ntmps13
      go_wp2_with (go_at_call 46; refine HH0.out.mono ?_; rintro e w' ⟨rfl, rfl⟩)
      go_quiet (fail)
      go_wp2_with fail
      go_ret2
      exact HER.out _ 1 HR.out
    · have hfit := HFI.out
      simp only [Dev.fits, decide_eq_true_eq] at hfit
      have hs1 := HK.out.ok.s1
      by_cases hm : 1024 < n
      · have HR : Hid (d.read s n = (d, [], 3)) := by show d.read s n = _; unfold Dev.read; rw [hd, HFI.out]; simp [hm]
        go_enter Tryd.func13, Tryd.ntmps13
        go_wp2_with (go_at_call 46; refine HH0.out.mono ?_; rintro e w' ⟨rfl, rfl⟩)
        go_quiet (fail)
        go_wp2_with fail
        go_ret2
        exact HER.out _ 3 HR.out
      · obtain ⟨m, rfl⟩ : ∃ m : Nat, n = (m : Int) := ⟨n.toNat, by omega⟩
        have HR : Hid (d.read s (m : Int) = ({ d with nr := wrap64 (d.nr + (m : Int)) }, readB d s m, 0)) := by show d.read s _ = _; unfold Dev.read; rw [hd, HFI.out]; simp [hm]
        obtain ⟨i0, hi, hz0, hz1, hz2⟩ := info_parts Tryd.info5
        have i1 : IntKind.i64.wrap ((m : Int) * 512) = (m : Int) * 512 := wrap_i64 _ (by omega) (by omega)
        have hd1 : decide ((1024 : Int) < (m : Int)) = false := decide_eq_false (by omega)
        clear e7 e0 e2 HER
        go_enter Tryd.func13, Tryd.ntmps13
        go_wp2_with (first
          | (go_at_call 46; refine HH0.out.mono ?_; rintro e w' ⟨rfl, rfl⟩)
          | (at_make; refine wpList_make_full _ rfl _ _ 36 rfl 0 5 i0 (.int .u8 0) 1 Tryd.underlying36 hi hz0 hz1 .i64 .i64 _ _ (m * 512) rfl rfl ?c0 ?c0 ?c1 ?c2 (Nat.zero_le _) ?_))
        case c0 => omega
        case c1 => rw [hz2]; omega
        case c2 => unfold maxLen; omega
        intro w1 hrow1 hg1
        rw [made_u8] at hrow1
        have HI : Hid (RdInv w w1 d s m 0) := ⟨by simpa [readB] using rowB_of hrow1, ⟨hg1.os, hg1.tape, hg1.output, hg1.size, fun k hk => hg1.block k hk (by simp)⟩⟩
        clear hrow1 hg1
        go_wp2_with fail
        go_loopw [28] (fun i wr => ∃ k, k ≤ m ∧ i = .int .i64 (k : Int) ∧ RdInv w wr d s m k) (fun i _ => m - (intOf i).toNat)
        case atStart => exact ⟨0, Nat.zero_le _, rfl, HI.out⟩
        case round =>
          obtain ⟨k, hk, rfl, inv⟩ := hrel
          have INV : Hid (RdInv w wr d s m k) := inv
          clear inv HI
          by_cases hlt : k < m
          · have hz : zeros ((m - k) * 512) = zeros 512 ++ zeros ((m - (k + 1)) * 512) := by
              unfold zeros; rw [List.replicate_append_replicate]; congr 1; omega
            have hrow := INV.out.row
            rw [hz, ← List.append_assoc] at hrow
            have C := copys_any b F d wr (HK.out.below INV.out.bel) w.heap.size (readB d s k) (zeros ((m - (k + 1)) * 512)) (s + (k : Int)) (m * 512 - k * 512) (m * 512 - k * 512) hrow (by omega) (by omega) (by omega)
            rw [readB_len HK.out.ok, ← readB_succ] at C
            have HC : Hid (Calls Tryd.prog 47 #[.pointer (some ⟨b, 0, none⟩), .slice (some ⟨w.heap.size, k * 512, none⟩) (m * 512 - k * 512) (m * 512 - k * 512), .int .i64 (s + (k : Int))] wr fun e w' => e = .returned (.tuple #[]) ∧ RowB w' w.heap.size (readB d s (k + 1) ++ zeros ((m - (k + 1)) * 512)) ∧ wr.grownBy w' (some w.heap.size)) := C
            have j1 : IntKind.i64.wrap ((k : Int) * 512) = (k : Int) * 512 := wrap_i64 _ (by omega) (by omega)
            have j2 : IntKind.i64.wrap (s + (k : Int)) = s + (k : Int) := wrap_i64 _ (by omega) (by omega)
            have j3 : (k : Int) * 512 ≤ (m : Int) * 512 := by omega
            have j4 : (0 : Int) ≤ (k : Int) * 512 := by omega
            have j5 : m * 512 ≠ k * 512 := by omega
            clear C hz hrow
            go_wp2_with fail
            refine HC.out.mono ?_
            rintro e w4 ⟨rfl, r4, g4⟩
            have V : RdInv w w4 d s m (k + 1) := ⟨r4, INV.out.bel.trans ⟨g4.os, g4.tape, g4.output, g4.size, fun i hi => g4.block i (Nat.lt_of_lt_of_le hi INV.out.bel.size) (fun e => by have := Option.some.inj e; omega)⟩⟩
            clear HC r4 g4 INV
            go_wp2_with fail
            go_roundw
            case rel => exact ⟨k + 1, by omega, by go_num, V⟩
            case measure => simp [intOf]; omega
          · have hke : k = m := by omega
            subst hke
            have hrow := INV.out.row
            rw [Nat.sub_self, Nat.zero_mul, show zeros 0 = [] from rfl, List.append_nil] at hrow
            have hdev := HK.out.below INV.out.bel
            have hok := hdev.ok
            obtain ⟨mb4, nb4, pv4, av4, Dn4, h4⟩ := hdev
            have x6 : wr.cell? ⟨b, 6, none⟩ = some (.int .i64 d.nr) := h4.cell 6
            have f6 := h4.frozen 6
            obtain ⟨h5, s5⟩ := h4.set (d' := { d with nr := wrap64 (d.nr + (k : Int)) }) 6 (.int .i64 (wrap64 (d.nr + (k : Int)))) rfl rfl rfl rfl ⟨hok.s0, hok.s1, hok.dur, hok.rise, hok.pend, hok.arms⟩
            have hgb : w.heap.size ≠ b := by have := HK.out.lt b HK.out.fb; omega
            have HP : Hid (ReadPost A w b F (d.read s (k : Int)) (.returned (.tuple #[.slice (some ⟨w.heap.size, 0, none⟩) (k * 512) (k * 512), .nilIface])) (wr.setCell ⟨b, 6, none⟩ (.int .i64 (wrap64 (d.nr + (k : Int))))) (.slice (some ⟨w.heap.size, 0, none⟩) (k * 512) (k * 512))) := by
              rw [HR.out]
              refine ⟨rfl, ?_, ⟨_, _, _, _, _, h5⟩, (Step.of_below INV.out.bel).trans s5⟩
              simp only [readB_len HK.out.ok]
              exact owns_of_rowB ((Below.heap_setCell wr ⟨b, 6, none⟩ _ _ hgb).trans hrow) (readB_len HK.out.ok s k) (Nat.le_refl _) (by unfold maxLen; omega)
            clear h4 h5 s5 hrow hok INV
            go_wp2_with fail
            go_ret2
            exact ⟨_, HP.out⟩
  · rw [hd] at c5
    have HR : Hid (d.read s n = (d, [], 8)) := by show d.read s n = _; unfold Dev.read; rw [hd]; rfl
    go_enter Tryd.func13, Tryd.ntmps13
    go_wp2_with fail
    go_quiet (fail)
    go_wp2_with fail
    go_ret2
    exact HER.out _ 8 HR.out

end Go.Proofs.YtdieacdkomiooabDoor
