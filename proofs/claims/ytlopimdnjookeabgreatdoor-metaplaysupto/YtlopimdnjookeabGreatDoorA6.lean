import Derived.Test.YtlopimdnjookeabGreatDoorA5
import Derived.Lib.AppendStr
import Derived.Deep.RegionLaw
namespace Go.Proofs.YtlopimdnjookeabGreatDoor.V
open Go.RowKit Go.Maps

/-- The document's device, whole: its rows apart, what was torn (nothing reads it), its arms. -/
structure RFul (w : World) (b : Nat) (F : Nat → Prop) (d : Dev) (T : Nat) (tv lv pv av : Value) : Prop where
  body : RBody w b F d tv lv pv av
  tears : ∃ cs, w.ownsRow 0 118 4 tv T cs
  tf : ∀ g, tv.ownBlock = some g → F g
  arms : RArmsAt w F av d.arms
  apart : ∀ g, lv.ownBlock = some g → pv.ownBlock ≠ some g
  ok : d.Ok
def RAll (w : World) (b : Nat) (F : Nat → Prop) (d : Dev) (T : Nat) : Prop := ∃ tv lv pv av, RFul w b F d T tv lv pv av
theorem RAll.at' {w : World} {b : Nat} {F : Nat → Prop} {d : Dev} {T : Nat} (h : RAll w b F d T) : RAt w b F d := by
  obtain ⟨tv, lv, pv, av, h⟩ := h
  exact ⟨tv, lv, pv, av, h.body⟩
theorem RAll.keep {w w' : World} {b : Nat} {F G G' : Nat → Prop} {d : Dev} {T : Nat} (h : RAll w b F d T) (hs : Step G G' w w') (hn : ∀ k, F k → ¬ G k) : RAll w' b F d T := by
  obtain ⟨tv, lv, pv, av, h⟩ := h
  have hk : ∀ k, F k → w'.heap[k]? = w.heap[k]? := fun k hf => hs.block k (h.body.lt k hf) (hn k hf)
  obtain ⟨cs, hc⟩ := h.tears
  exact ⟨tv, lv, pv, av, ⟨(hk b h.body.fb).trans h.body.blk, h.body.fb, owns_block h.body.last (fun g hg => hk g (h.body.lf g hg)), h.body.lf, owns_block h.body.pend (fun g hg => hk g (h.body.pf g hg)), h.body.pf, fun k hf => Nat.lt_of_lt_of_le (h.body.lt k hf) hs.size⟩,
    ⟨cs, owns_block hc (fun g hg => hk g (h.tf g hg))⟩, h.tf, h.arms.block (fun k _ _ hf => hk k hf), h.apart, h.ok⟩
theorem RAll.below {w w' : World} {b : Nat} {F : Nat → Prop} {d : Dev} {T : Nat} (h : RAll w b F d T) (hs : Below w.heap.size w w') : RAll w' b F d T := h.keep (Step.of_below (F := fun _ => False) hs) (fun _ _ h => h)
/-- Only the device's own cells are turned: size, dead, the counts. -/
def OnlyAt (b : Nat) (w w' : World) : Prop := Step (fun k => k = b) (fun k => k = b ∨ (w.heap.size ≤ k ∧ k < w'.heap.size)) w w'
theorem RFul.cells {w w' : World} {b : Nat} {F : Nat → Prop} {d d' : Dev} {T : Nat} {tv lv pv av : Value} (h : RFul w b F d T tv lv pv av) (hs : ∀ k, k < w.heap.size → k ≠ b → w'.heap[k]? = w.heap[k]?) (hb : RBody w' b F d' tv lv pv av) (ha : d'.arms = d.arms) (ho : d'.Ok) : RFul w' b F d' T tv lv pv av := by
  obtain ⟨cs, hc⟩ := h.tears
  have har : RArmsAt w' F av d.arms := h.arms.block fun k cur hk hf => by
    refine hs k (h.body.lt k hf) (fun e => ?_)
    rw [e, h.body.blk] at hk
    simp at hk
  refine ⟨hb, ⟨cs, owns_block hc fun g hg => ?_⟩, h.tf, by rw [ha]; exact har, h.apart, ho⟩
  · obtain ⟨_, hlt, c, hc'⟩ := owns_blk hc g hg
    exact hs g hlt (fun e => by rw [e, h.body.blk] at hc'; simp at hc')
theorem rnewAll_any (n : Int) (w : World) : Calls Tryz.prog 5 #[.int .i64 n] w fun e w' => ∃ b F, e = .returned (.pointer (some ⟨b, 0, none⟩)) ∧ RAt w' b F (newDev n) ∧ Below w.heap.size w w' ∧ ∀ k, F k → w.heap.size ≤ k := rnew_any n w

theorem strCells_u8s (s : ByteArray) : Lib.strCells s = u8s (bl s) := rfl

set_option maxRecDepth 100000 in
set_option maxHeartbeats 1600000 in
theorem rdev_read_any (b : Nat) (F : Nat → Prop) (d : Dev) (T : Nat) (w : World) (h : RAll w b F d T) (s n : Int) (hp : d.pend.length ≤ 5864062014805) (hs : -9223372036854775808 ≤ s ∧ s < 9223372036854775808) (hn : -9223372036854775808 ≤ n ∧ n < 9223372036854775808) :
    Calls Tryz.prog 42 #[.pointer (some ⟨b, 0, none⟩), .int .i64 s, .int .i64 n] w fun e w' => ∃ v, e = .returned (.tuple #[v, .int .i64 ((d.read s n).2.2 : Int)]) ∧ w'.ownsRow w.heap.size 5 1 v (d.read s n).2.1.length (u8s (d.read s n).2.1) ∧ RAll w' b F (d.read s n).1 T ∧ Step F F w w' := by
  have HK := Hid.mk2 h
  obtain ⟨tv, lv, pv, av, h⟩ := h
  have c4 : w.cell? ⟨b, 4, none⟩ = some (.bool d.dead) := h.body.cell 4
  have c1 : w.cell? ⟨b, 1, none⟩ = some (.int .i64 d.size) := h.body.cell 1
  have s0 := h.ok.s0
  have s1 := h.ok.s1
  have hdl := Dev.Ok.dur_len h.ok
  clear h
  have HER : Hid (∀ m c, d.read s n = (d, [], c) → ∃ v, Ending.returned (.tuple #[.slice none 0 0, .int .i64 ((c : Nat) : Int)]) = .returned (.tuple #[v, .int .i64 ((d.read s n).2.2 : Int)]) ∧ (w.drewN m).ownsRow w.heap.size 5 1 v (d.read s n).2.1.length (u8s (d.read s n).2.1) ∧ RAll (w.drewN m) b F (d.read s n).1 T ∧ Step F F w (w.drewN m)) := fun m c hc => by
    rw [hc]
    exact ⟨_, rfl, World.ownsRow_nil _ _ _ _, HK.out.below (below_drewN (Below.refl _ _) m), Step.of_below (below_drewN (Below.refl _ _) m)⟩
  have HF : Hid (d.fits s n = decide (0 ≤ s ∧ 0 ≤ n ∧ s ≤ d.size - n)) := (rfl : d.fits s n = _)
  obtain ⟨sz, hsz⟩ : ∃ sz, sz = d.size := ⟨_, rfl⟩
  rw [← hsz] at c1 s0 s1 HF
  clear hsz
  go_enter Tryz.func42, Tryz.ntmps42
  cases hd : d.dead
  · rw [hd] at c4
    by_cases hfit : 0 ≤ s ∧ 0 ≤ n ∧ s ≤ sz - n
    · obtain ⟨f0, f1, f2⟩ := hfit
      have q0 : ¬ n < 0 := by omega
      have q1 : ¬ s < 0 := by omega
      have q2 : ¬ sz < s := by omega
      have q4 : IntKind.i64.wrap (sz - s) = sz - s := wrap_i64 _ (by omega) (by omega)
      have q3 : ¬ sz - s < n := by omega
      by_cases hm : 1024 < n
      · have HR : Hid (d.read s n = (d, [], 3)) := by show d.read s n = _; unfold Dev.read; rw [hd, HF.out, decide_eq_true ⟨f0, f1, f2⟩]; simp [hm]
        go_wp2_with fail
        go_ret2
        exact HER.out 0 3 HR.out
      · obtain ⟨m, rfl⟩ : ∃ m : Nat, n = (m : Int) := ⟨n.toNat, by omega⟩
        have HR : Hid (d.read s (m : Int) = ({ d with nr := wrap64 (d.nr + (m : Int)) }, readB d s m, 0)) := by show d.read s _ = _; unfold Dev.read; rw [hd, HF.out, decide_eq_true ⟨f0, f1, f2⟩]; simp [hm]
        obtain ⟨i0, hi, hz0, hz1, hz2⟩ := info_parts Tryz.info5
        clear HER HF
        go_wp2_with fail
        go_loopw [8, 9] (fun v i wr => ∃ k, k ≤ m ∧ i = .int .i64 (k : Int) ∧ wr.ownsRow w.heap.size 5 1 v (k * 512) (u8s (readB d s k)) ∧ Below w.heap.size w wr) (fun _ i _ => m - (intOf i).toNat)
        case atStart => exact ⟨0, Nat.zero_le _, rfl, World.ownsRow_nil _ _ _ _, Below.refl _ _⟩
        case round =>
          obtain ⟨k, hk, rfl, hrow, hbel⟩ := hrel
          have HROW := Hid.mk2 hrow
          have HBEL := Hid.mk2 hbel
          clear hrow hbel
          by_cases hlt : k < m
          · have hlt' : (k : Int) < (m : Int) := by omega
            have j2 : IntKind.i64.wrap (s + (k : Int)) = s + (k : Int) := wrap_i64 _ (by omega) (by omega)
            have HST := Hid.mk2 (rstands_any b F d wr (HK.out.below HBEL.out).at' (s + (k : Int)) (by omega) hp)
            have HSZ : Hid ((standing d (s + (k : Int))).size = 512) := standing_size (by obtain ⟨_, _, _, _, hh⟩ := HK.out; exact hh.ok) _
            have HSU : Hid (readB d s (k + 1) = readB d s k ++ bl (standing d (s + (k : Int)))) := readB_succ d s k
            generalize standing d (s + (k : Int)) = sd at HST HSZ HSU
            go_wp2_with fail
            refine HST.out.mono ?_
            rintro e w3 ⟨rfl, hb3⟩
            have hr3 := owns_block HROW.out (fun g hg => hb3.block g (owns_blk HROW.out g hg).2.1)
            have hbz := (Below.next HBEL.out hb3).size
            have HB3 := Hid.mk2 (Below.next HBEL.out hb3)
            have HR3 := Hid.mk2 hr3
            clear HST hb3 hr3 HROW HBEL
            go_wp2_with (at_builtin; refine Lib.wpList_append_own_string (P := Tryz.prog) (w := w3) rfl (.tmp 51) (.tmp 52) 33 9 rfl w.heap.size 5 i0 Tryz.underlying33 Tryz.underlying9 hi hz0 hz1 hz2 u8 (k * 512) (u8s (readB d s k)) rfl HR3.out sd rfl (by rw [HSZ.out]; unfold maxLen; omega) (by rw [HSZ.out]; omega) hbz ?_; intro v' w4 hown4 hg4 _)
            rw [strCells_u8s, ← u8s_append, ← HSU.out, HSZ.out] at hown4
            have HB4 : Hid (Below w.heap.size w w4) := HB3.out.trans ⟨hg4.os, hg4.tape, hg4.output, hg4.size, fun i hi => hg4.block i (Nat.lt_of_lt_of_le hi HB3.out.size) (fun e => by have := (owns_blk HR3.out i e.symm).1; omega)⟩
            have HO4 := Hid.mk2 hown4
            clear hown4 hg4 HB3 HR3
            go_wp2_with fail
            go_roundw
            case rel => exact ⟨k + 1, by omega, by go_num, by rw [show (k + 1) * 512 = k * 512 + 512 by omega]; exact HO4.out, HB4.out⟩
            case measure => simp [intOf]; omega
          · have hke : k = m := by omega
            subst hke
            have hall := HK.out.below HBEL.out
            obtain ⟨tv4, lv4, pv4, av4, h4⟩ := hall
            have k6 : wr.cell? ⟨b, 6, none⟩ = some (.int .i64 d.nr) := h4.body.cell 6
            have f6 : wr.frozen? ⟨b, 6, none⟩ = false := frozen_cells h4.body.blk
            obtain ⟨h5, s5⟩ := h4.body.sett (d' := { d with nr := wrap64 (d.nr + (k : Int)) }) 6 (.int .i64 (wrap64 (d.nr + (k : Int)))) rfl rfl rfl
            have h6 := h4.cells (d' := { d with nr := wrap64 (d.nr + (k : Int)) }) (fun i _ hn => set_other hn) h5 rfl ⟨h4.ok.s0, h4.ok.s1, h4.ok.dur, h4.ok.rise, h4.ok.pend, h4.ok.arms⟩
            have HH : Hid (RAll (wr.setCell ⟨b, 6, none⟩ (.int .i64 (wrap64 (d.nr + (k : Int))))) b F { d with nr := wrap64 (d.nr + (k : Int)) } T) := ⟨_, _, _, _, h6⟩
            have HS5 : Hid (Step F F w (wr.setCell ⟨b, 6, none⟩ (.int .i64 (wrap64 (d.nr + (k : Int)))))) := (Step.of_below HBEL.out).trans s5
            have HRW : Hid ((wr.setCell ⟨b, 6, none⟩ (.int .i64 (wrap64 (d.nr + (k : Int))))).ownsRow w.heap.size 5 1 u8 (readB d s k).length (u8s (readB d s k))) := by
              rw [readB_len h4.ok]
              exact owns_block HROW.out fun g hg => set_other (fun e => by
                have h1 := (owns_blk HROW.out g hg).1
                have h2 : b < w.heap.size := by obtain ⟨_, _, _, _, hh⟩ := HK.out; exact hh.body.lt b hh.body.fb
                omega)
            clear h4 h5 h6 s5 HROW HBEL
            go_wp2_with fail
            go_ret2
            rw [HR.out]
            exact ⟨_, rfl, HRW.out, HH.out, HS5.out⟩
    · have HR : Hid (d.read s n = (d, [], 1)) := by show d.read s n = _; unfold Dev.read; rw [hd, HF.out, decide_eq_false hfit]; rfl
      by_cases q0 : n < 0
      · go_wp2_with fail
        go_ret2
        exact HER.out 0 1 HR.out
      · by_cases q1 : s < 0
        · go_wp2_with fail
          go_ret2
          exact HER.out 0 1 HR.out
        · by_cases q2 : sz < s
          · go_wp2_with fail
            go_ret2
            exact HER.out 0 1 HR.out
          · have q4 : IntKind.i64.wrap (sz - s) = sz - s := wrap_i64 _ (by omega) (by omega)
            have q3 : sz - s < n := by omega
            clear hfit
            go_wp2_with fail
            go_ret2
            exact HER.out 0 1 HR.out
  · have HR : Hid (d.read s n = (d, [], 8)) := by show d.read s n = _; unfold Dev.read; rw [hd]; rfl
    rw [hd] at c4
    go_wp2_with fail
    go_ret2
    exact HER.out 0 8 HR.out

end Go.Proofs.YtlopimdnjookeabGreatDoor.V

namespace Go.Proofs.YtlopimdnjookeabGreatDoor.V
open Go.RowKit Go.Maps

/-- The blocks of a device behind a call that made some. -/
def grow (F : Nat → Prop) (w w1 : World) : Nat → Prop := fun k => F k ∨ (w.heap.size ≤ k ∧ k < w1.heap.size)
theorem RFul.setLast {w w1 : World} {b : Nat} {F : Nat → Prop} {d : Dev} {T : Nat} {tv lv pv av v' : Value} {l' : List Sec} (h : RFul w b F d T tv lv pv av) (hb : Below w.heap.size w w1) (hr : w1.ownsRow w.heap.size 72 2 v' l'.length (secCells l')) (hok : { d with dur := l' }.Ok) :
    RFul (w1.setCell ⟨b, 2, none⟩ v') b (grow F w w1) { d with dur := l' } T tv v' pv av ∧ Step F (grow F w w1) w (w1.setCell ⟨b, 2, none⟩ v') := by
  have hlt := h.body.lt b h.body.fb
  have hk1 : ∀ k, k ≠ b → (w1.setCell ⟨b, 2, none⟩ v').heap[k]? = w1.heap[k]? := fun k hk => set_other hk
  have hk : ∀ k, k < w.heap.size → k ≠ b → (w1.setCell ⟨b, 2, none⟩ v').heap[k]? = w.heap[k]? := fun k hl hn => (hk1 k hn).trans (hb.block k hl)
  have hrow : ∀ (e : TypeId) (m : Nat) (v : Value) n xs, e ≠ 52 → w.ownsRow 0 e m v n xs → (w1.setCell ⟨b, 2, none⟩ v').ownsRow 0 e m v n xs := fun e m v n xs he ho => owns_block ho fun k hk' => by
    obtain ⟨_, hlt', c, hc⟩ := owns_blk ho k hk'
    exact hk k hlt' (fun e' => by rw [e', h.body.blk] at hc; simp at hc; exact he hc.2.symm)
  have hb1 : w1.heap[b]? = _ := (hb.block b hlt).trans h.body.blk
  obtain ⟨cs, hcs⟩ := h.tears
  refine ⟨⟨⟨?_, .inl h.body.fb, ?_, fun g hg => ?_, hrow _ _ _ _ _ (by decide) h.body.pend, fun g hg => .inl (h.body.pf g hg), fun k hk' => ?_⟩, ⟨cs, hrow _ _ _ _ _ (by decide) hcs⟩, fun g hg => .inl (h.tf g hg), ?_, fun g hg hp => ?_, hok⟩, ⟨hb.os, hb.tape, hb.output, by rw [set_size]; exact hb.size, fun k hl hn => hk k hl (fun e => hn (by rw [e]; exact h.body.fb)), fun k hk' => hk'.imp id (fun h => h.1)⟩⟩
  · exact set_cells hb1
  · exact (owns_mono hr (Nat.zero_le _) : _) |> fun ho => owns_block ho fun k hk' => hk1 k (fun e => by have := (owns_blk hr k hk').1; omega)
  · obtain ⟨h1, h2, _⟩ := owns_blk hr g hg
    exact .inr ⟨h1, h2⟩
  · rw [set_size]
    rcases hk' with h' | h'
    · exact Nat.lt_of_lt_of_le (h.body.lt k h') hb.size
    · exact h'.2
  · refine (h.arms.block fun k cur hk' hf => hk k (h.body.lt k hf) (fun e => ?_)).imp (fun k hf => .inl hf)
    rw [e, h.body.blk] at hk'
    simp at hk'
  · obtain ⟨h1, _, _⟩ := owns_blk hr g hg
    obtain ⟨_, h2, _⟩ := owns_blk h.body.pend g hp
    omega
/-- The pending writes are gone. -/
theorem RFul.noPend {w : World} {b : Nat} {F : Nat → Prop} {d : Dev} {T : Nat} {tv lv pv av : Value} (h : RFul w b F d T tv lv pv av) :
    RFul (w.setCell ⟨b, 3, none⟩ (.slice none 0 0)) b F { d with pend := [] } T tv lv (.slice none 0 0) av ∧ Step F F w (w.setCell ⟨b, 3, none⟩ (.slice none 0 0)) := by
  have hk : ∀ k, k ≠ b → (w.setCell ⟨b, 3, none⟩ (.slice none 0 0)).heap[k]? = w.heap[k]? := fun k hk => set_other hk
  have hrow : ∀ (e : TypeId) (m : Nat) (v : Value) n xs, e ≠ 52 → w.ownsRow 0 e m v n xs → (w.setCell ⟨b, 3, none⟩ (.slice none 0 0)).ownsRow 0 e m v n xs := fun e m v n xs he ho => owns_block ho fun k hk' => by
    obtain ⟨_, _, c, hc⟩ := owns_blk ho k hk'
    exact hk k (fun e' => by rw [e', h.body.blk] at hc; simp at hc; exact he hc.2.symm)
  obtain ⟨cs, hcs⟩ := h.tears
  refine ⟨⟨⟨set_cells h.body.blk, h.body.fb, hrow _ _ _ _ _ (by decide) h.body.last, h.body.lf, World.ownsRow_nil _ _ _ _, fun g hg => by simp [Value.ownBlock] at hg, fun k hk' => by rw [set_size]; exact h.body.lt k hk'⟩, ⟨cs, hrow _ _ _ _ _ (by decide) hcs⟩, h.tf, ?_, fun g _ hp => by simp [Value.ownBlock] at hp, ⟨h.ok.s0, h.ok.s1, h.ok.dur, h.ok.rise, fun x hx => by simp at hx, h.ok.arms⟩⟩,
    ⟨rfl, rfl, rfl, by rw [set_size]; exact Nat.le_refl _, fun k _ hn => hk k (fun e => hn (by rw [e]; exact h.body.fb)), fun _ h => .inl h⟩⟩
  refine h.arms.block fun k cur hk' hf => hk k (fun e => ?_)
  rw [e, h.body.blk] at hk'
  simp at hk'
/-- A number, or dead, is turned. -/
theorem RFul.setCount {w : World} {b : Nat} {F : Nat → Prop} {d d' : Dev} {T : Nat} {tv lv pv av : Value} (h : RFul w b F d T tv lv pv av) (j : Nat) (u : Value) (hc : #[tv, .int .i64 d'.size, lv, pv, .bool d'.dead, av, .int .i64 d'.nr, .int .i64 d'.nw, .int .i64 d'.ns] = #[tv, .int .i64 d.size, lv, pv, .bool d.dead, av, .int .i64 d.nr, .int .i64 d.nw, .int .i64 d.ns].setIfInBounds j u) (hd : d'.dur = d.dur) (hp : d'.pend = d.pend) (ha : d'.arms = d.arms) (ho : d'.Ok) :
    RFul (w.setCell ⟨b, j, none⟩ u) b F d' T tv lv pv av ∧ Step F F w (w.setCell ⟨b, j, none⟩ u) := by
  obtain ⟨h5, s5⟩ := h.body.sett j u hc hd hp
  exact ⟨h.cells (fun i _ hn => set_other hn) h5 ha ho, s5⟩

end Go.Proofs.YtlopimdnjookeabGreatDoor.V

namespace Go.Proofs.YtlopimdnjookeabGreatDoor.V
open Go.RowKit Go.Maps

/-- What is durable behind the first k of the fates. -/
def durK (pend dur : List Sec) (l : List Fate) (k : Nat) : List Sec := ((l.take k).foldl (settleStep pend) ([], dur)).2
theorem durK_zero (pend dur : List Sec) (l : List Fate) : durK pend dur l 0 = dur := by simp [durK]
theorem durK_all (pend dur : List Sec) (l : List Fate) : durK pend dur l l.length = settleD pend [] dur l := by rw [durK, List.take_length, settle_fold]
theorem earl_next (l : List Fate) (k : Nat) (x : Int) (h : k < l.length) : earl l (k + 1) x = true ↔ earl l k x = true ∨ l[k].ix = x := by
  rw [earl_succ l k x h]; simp
theorem seen_mem (pend dur : List Sec) (l : List Fate) : ∀ k, k ≤ l.length → ∀ x, x ∈ ((l.take k).foldl (settleStep pend) ([], dur)).1 ↔ 0 ≤ x ∧ x < (pend.length : Int) ∧ earl l k x = true
  | 0, _, x => by simp [earl]
  | k + 1, hk, x => by
    have ih := seen_mem pend dur l k (by omega)
    rw [take_next' l k (by omega), List.foldl_append, List.foldl_cons, List.foldl_nil]
    generalize (l.take k).foldl (settleStep pend) ([], dur) = s at ih
    rw [earl_next l k x (by omega)]
    unfold settleStep
    by_cases h : l[k].ix < 0 ∨ (pend.length : Int) ≤ l[k].ix ∨ l[k].ix ∈ s.1
    · rw [if_pos h, ih x]
      constructor
      · rintro ⟨h1, h2, h3⟩; exact ⟨h1, h2, .inl h3⟩
      · rintro ⟨h1, h2, h3 | h3⟩
        · exact ⟨h1, h2, h3⟩
        · subst h3
          rcases h with h | h | h
          · omega
          · omega
          · exact (ih _).1 h
    · rw [if_neg h]
      simp only [not_or] at h
      rw [List.mem_cons, ih x]
      constructor
      · rintro (h3 | ⟨h1, h2, h3⟩)
        · subst h3; exact ⟨by omega, by omega, .inr rfl⟩
        · exact ⟨h1, h2, .inl h3⟩
      · rintro ⟨h1, h2, h3 | h3⟩
        · exact .inr ⟨h1, h2, h3⟩
        · exact .inl h3.symm
theorem durK_skip (pend dur : List Sec) (l : List Fate) (k : Nat) (h : k < l.length) (hs : l[k].ix < 0 ∨ (pend.length : Int) ≤ l[k].ix ∨ earl l k l[k].ix = true) : durK pend dur l (k + 1) = durK pend dur l k := by
  unfold durK
  have hm := seen_mem pend dur l k (by omega) l[k].ix
  rw [take_next' l k h, List.foldl_append, List.foldl_cons, List.foldl_nil]
  generalize (l.take k).foldl (settleStep pend) ([], dur) = s at hm
  unfold settleStep
  rw [if_pos]
  rcases hs with hs | hs | hs
  · exact .inl hs
  · exact .inr (.inl hs)
  · by_cases h0 : l[k].ix < 0
    · exact .inl h0
    · by_cases h1 : (pend.length : Int) ≤ l[k].ix
      · exact .inr (.inl h1)
      · exact .inr (.inr (hm.2 ⟨by omega, by omega, hs⟩))
theorem durK_take (pend dur : List Sec) (l : List Fate) (k j : Nat) (h : k < l.length) (hj : j < pend.length) (hx : l[k].ix = (j : Int)) (hs : earl l k l[k].ix = false) : durK pend dur l (k + 1) = meetX (durK pend dur l k) pend[j] l[k] := by
  unfold durK
  have hm := seen_mem pend dur l k (by omega) l[k].ix
  rw [take_next' l k h, List.foldl_append, List.foldl_cons, List.foldl_nil]
  generalize (l.take k).foldl (settleStep pend) ([], dur) = s at hm
  unfold settleStep
  rw [if_neg]
  · exact meetD_X pend s.2 l[k] j hj hx
  · rintro (h0 | h0 | h0)
    · omega
    · omega
    · rw [(hm.1 h0).2.2] at hs; cases hs
theorem durK_ok {d : Dev} (h : d.Ok) (l : List Fate) (k : Nat) : { d with dur := durK d.pend d.dur l k }.Ok := by
  have e : durK d.pend d.dur l k = settleD d.pend [] d.dur (l.take k) := by rw [durK, settle_fold]
  rw [e]
  obtain ⟨h1, h2⟩ := settleD_ok h.pend (l.take k) [] d.dur h.dur h.rise
  exact ⟨h.s0, h.s1, h1, h2, h.pend, h.arms⟩

end Go.Proofs.YtlopimdnjookeabGreatDoor.V

namespace Go.Proofs.YtlopimdnjookeabGreatDoor.V
open Go.RowKit Go.Maps

/-- One tear more: the row of what was torn grew, in its own block or in a new one, and its place is turned. -/
theorem RFul.setTears {w w1 : World} {b : Nat} {F : Nat → Prop} {d : Dev} {T : Nat} {tv lv pv av v' : Value} {cs' : List Value} (h : RFul w b F d T tv lv pv av) (ho : w1.os = w.os) (ht : w1.tape = w.tape) (hu : w1.output = w.output) (hz : w.heap.size ≤ w1.heap.size)
    (hk0 : ∀ k, k < w.heap.size → tv.ownBlock ≠ some k → w1.heap[k]? = w.heap[k]?) (hr : w1.ownsRow 0 118 4 v' (T + 1) cs') (hv : ∀ g, v'.ownBlock = some g → tv.ownBlock = some g ∨ w.heap.size ≤ g) :
    RFul (w1.setCell ⟨b, 0, none⟩ v') b (grow F w w1) d (T + 1) v' lv pv av ∧ Step F (grow F w w1) w (w1.setCell ⟨b, 0, none⟩ v') := by
  have hlt := h.body.lt b h.body.fb
  obtain ⟨cs, hcs⟩ := h.tears
  have hk1 : ∀ k, k ≠ b → (w1.setCell ⟨b, 0, none⟩ v').heap[k]? = w1.heap[k]? := fun k hk => set_other hk
  have hnt : ∀ k (cur : Array Value) (e : TypeId), e ≠ 118 → w.heap[k]? = some (Obj.cells cur e (0, 0)) → tv.ownBlock ≠ some k := fun k cur e he hc e' => by
    obtain ⟨_, _, c, hc'⟩ := owns_blk hcs k e'
    rw [hc] at hc'
    simp at hc'
    exact he hc'.2
  have hk : ∀ k (cur : Array Value) (e : TypeId), e ≠ 118 → e ≠ 52 → w.heap[k]? = some (Obj.cells cur e (0, 0)) → (w1.setCell ⟨b, 0, none⟩ v').heap[k]? = w.heap[k]? := fun k cur e he he' (hc : w.heap[k]? = some (Obj.cells cur e (0, 0))) => by
    have hl : k < w.heap.size := (Array.getElem?_eq_some_iff.1 hc).1
    rw [hk1 k (fun e2 => by rw [e2, h.body.blk] at hc; simp at hc; exact he' hc.2.symm)]
    exact hk0 k hl (hnt k cur e he hc)
  have hrow : ∀ (e : TypeId) (m : Nat) (v : Value) n xs, e ≠ 118 → e ≠ 52 → w.ownsRow 0 e m v n xs → (w1.setCell ⟨b, 0, none⟩ v').ownsRow 0 e m v n xs := fun e m v n xs he he' ho' => owns_block ho' fun k hk' => by
    obtain ⟨_, _, c, hc⟩ := owns_blk ho' k hk'
    exact hk k c e he he' hc
  have hb1 : w1.heap[b]? = _ := (hk0 b hlt (hnt b _ _ (by decide) h.body.blk)).trans h.body.blk
  refine ⟨⟨⟨?_, .inl h.body.fb, hrow _ _ _ _ _ (by decide) (by decide) h.body.last, fun g hg => .inl (h.body.lf g hg), hrow _ _ _ _ _ (by decide) (by decide) h.body.pend, fun g hg => .inl (h.body.pf g hg), fun k hk' => ?_⟩, ⟨cs', ?_⟩, fun g hg => ?_, ?_, h.apart, h.ok⟩, ⟨ho, ht, hu, by rw [set_size]; exact hz, fun k hl hn => ?_, fun k hk' => hk'.imp id (fun h => h.1)⟩⟩
  · exact set_cells hb1
  · rw [set_size]
    rcases hk' with h' | h'
    · exact Nat.lt_of_lt_of_le (h.body.lt k h') hz
    · exact h'.2
  · refine owns_block hr fun k hk' => hk1 k (fun e => ?_)
    obtain ⟨_, _, c, hc⟩ := owns_blk hr k hk'
    rw [e, hb1] at hc
    simp at hc
  · rcases hv g hg with h' | h'
    · exact .inl (h.tf g h')
    · exact .inr ⟨h', (owns_blk hr g hg).2.1⟩
  · refine (h.arms.block fun k cur hk' hf => ?_).imp (fun k hf => .inl hf)
    rcases hk' with hk' | hk'
    · exact hk k cur 97 (by decide) (by decide) hk'
    · exact hk k cur 114 (by decide) (by decide) hk'
  · rw [hk1 k (fun e => hn (by rw [e]; exact h.body.fb))]
    exact hk0 k hl (fun e => hn (h.tf k e))

end Go.Proofs.YtlopimdnjookeabGreatDoor.V

namespace Go.Proofs.YtlopimdnjookeabGreatDoor.V
open Go.RowKit Go.Maps

/-- What the document's settle holds in its loop: k fates are met; of what was torn there are kk more at most. -/
structure SInv (w wr : World) (b : Nat) (F F' : Nat → Prop) (d : Dev) (T T' : Nat) (l : List Fate) (tv0 tv lv pv av : Value) (k kk : Nat) : Prop where
  full : RFul wr b F' { d with dur := durK d.pend d.dur l k } T' tv lv pv av
  step : Step F F' w wr
  keep : ∀ i, i < w.heap.size → i ≠ b → tv0.ownBlock ≠ some i → wr.heap[i]? = w.heap[i]?
  tk : ∀ g, tv.ownBlock = some g → tv0.ownBlock = some g ∨ w.heap.size ≤ g
  le : T' ≤ T + kk
theorem RFul.below {w w' : World} {b : Nat} {F : Nat → Prop} {d : Dev} {T : Nat} {tv lv pv av : Value} (h : RFul w b F d T tv lv pv av) (hs : Below w.heap.size w w') : RFul w' b F d T tv lv pv av := by
  have hk : ∀ k, F k → w'.heap[k]? = w.heap[k]? := fun k hf => hs.block k (h.body.lt k hf)
  obtain ⟨cs, hc⟩ := h.tears
  exact ⟨⟨(hk b h.body.fb).trans h.body.blk, h.body.fb, owns_block h.body.last (fun g hg => hk g (h.body.lf g hg)), h.body.lf, owns_block h.body.pend (fun g hg => hk g (h.body.pf g hg)), h.body.pf, fun k hf => Nat.lt_of_lt_of_le (h.body.lt k hf) hs.size⟩,
    ⟨cs, owns_block hc (fun g hg => hk g (h.tf g hg))⟩, h.tf, h.arms.block (fun k _ _ hf => hk k hf), h.apart, h.ok⟩
theorem SInv.below {w wr w' : World} {b : Nat} {F F' : Nat → Prop} {d : Dev} {T T' : Nat} {l : List Fate} {tv0 tv lv pv av : Value} {k kk : Nat} (h : SInv w wr b F F' d T T' l tv0 tv lv pv av k kk) (hs : Below wr.heap.size wr w') : SInv w w' b F F' d T T' l tv0 tv lv pv av k kk :=
  ⟨h.full.below hs, h.step.trans (Step.of_below hs), fun i hi h1 h2 => (hs.block i (Nat.lt_of_lt_of_le hi h.step.size)).trans (h.keep i hi h1 h2), h.tk, h.le⟩
theorem SInv.skip {w wr : World} {b : Nat} {F F' : Nat → Prop} {d : Dev} {T T' : Nat} {l : List Fate} {tv0 tv lv pv av : Value} {k : Nat} (h : SInv w wr b F F' d T T' l tv0 tv lv pv av k k) (e : durK d.pend d.dur l (k + 1) = durK d.pend d.dur l k) : SInv w wr b F F' d T T' l tv0 tv lv pv av (k + 1) (k + 1) :=
  ⟨by rw [e]; exact h.full, h.step, h.keep, h.tk, by have := h.le; omega⟩
/-- The durable sectors are turned. -/
theorem SInv.last {w wr w1 : World} {b : Nat} {F F' : Nat → Prop} {d : Dev} {T T' : Nat} {l : List Fate} {tv0 tv lv pv av v' : Value} {k kk : Nat} {L' : List Sec} (h : SInv w wr b F F' d T T' l tv0 tv lv pv av k kk) (hb : Below wr.heap.size wr w1)
    (hr : w1.ownsRow wr.heap.size 72 2 v' L'.length (secCells L')) (e : durK d.pend d.dur l (k + 1) = L') (hok : d.Ok) (hkk : kk ≤ k + 1) : SInv w (w1.setCell ⟨b, 2, none⟩ v') b F (grow F' wr w1) d T T' l tv0 tv v' pv av (k + 1) (k + 1) := by
  subst e
  obtain ⟨h1, h2⟩ := h.full.setLast hb hr (durK_ok hok l (k + 1))
  refine ⟨h1, h.step.trans h2, fun i hi hn ht => ?_, h.tk, by have := h.le; omega⟩
  rw [set_other hn, hb.block i (Nat.lt_of_lt_of_le hi h.step.size)]
  exact h.keep i hi hn ht
/-- One tear more. -/
theorem SInv.tear {w wr w1 : World} {b : Nat} {F F' : Nat → Prop} {d : Dev} {T T' : Nat} {l : List Fate} {tv0 tv lv pv av v' : Value} {k kk : Nat} {cs' : List Value} (h : SInv w wr b F F' d T T' l tv0 tv lv pv av k kk) (ho : w1.os = wr.os) (ht : w1.tape = wr.tape) (hu : w1.output = wr.output) (hz : wr.heap.size ≤ w1.heap.size)
    (hk0 : ∀ k, k < wr.heap.size → tv.ownBlock ≠ some k → w1.heap[k]? = wr.heap[k]?) (hr : w1.ownsRow 0 118 4 v' (T' + 1) cs') (hv : ∀ g, v'.ownBlock = some g → tv.ownBlock = some g ∨ wr.heap.size ≤ g) :
    SInv w (w1.setCell ⟨b, 0, none⟩ v') b F (grow F' wr w1) d T (T' + 1) l tv0 v' lv pv av k (kk + 1) := by
  obtain ⟨h1, h2⟩ := h.full.setTears ho ht hu hz hk0 hr hv
  refine ⟨h1, h.step.trans h2, fun i hi hn ht' => ?_, fun g hg => ?_, by have := h.le; omega⟩
  · rw [set_other hn, hk0 i (Nat.lt_of_lt_of_le hi h.step.size) (fun e => (h.tk i e).elim ht' (fun hh => by omega))]
    exact h.keep i hi hn ht'
  · rcases hv g hg with h' | h'
    · exact h.tk g h'
    · exact .inr (Nat.le_trans h.step.size h')
theorem pend_copy (w : World) (m : Nat) (yi : Int) (yd : ByteArray) : ((((w.drewN m).alloc (.cells #[.int .i64 0, .string { data := #[] }] 72)).setCell ⟨w.heap.size, 0, none⟩ (.int .i64 yi)).setCell ⟨w.heap.size, 1, none⟩ (.string yd)).heap[w.heap.size]? = some (.cells #[.int .i64 yi, .string yd] 72 (0, 0)) ∧
    Below w.heap.size w ((((w.drewN m).alloc (.cells #[.int .i64 0, .string { data := #[] }] 72)).setCell ⟨w.heap.size, 0, none⟩ (.int .i64 yi)).setCell ⟨w.heap.size, 1, none⟩ (.string yd)) := by
  have hnw : ((w.drewN m).alloc (.cells #[.int .i64 0, .string { data := #[] }] 72)).heap[w.heap.size]? = some (.cells #[.int .i64 0, .string { data := #[] }] 72 (0, 0)) := heap_alloc_new (w.drewN m) _
  refine ⟨set_cells (set_cells hnw), ⟨rfl, rfl, rfl, by simp [World.setCell], fun i hi => ?_⟩⟩
  rw [set_other (by omega), set_other (by omega)]
  exact (below_new (w.drewN m) _).block i hi

theorem step_rset {ops : Array Oper} {o : Oper} {a : Act} {K : Act → World → Prop} {Q : Exit → Act → World → Prop} {E : Prop} (w : World) (hgd : o.guard = none) (x y : Operand) (v0 c0 : Value)
    (ho : o.op = .call { callee := .value (.func 54), args := #[x, y], argTypes := #[38, 72] }) (hx : a.eval x = v0) (hy : a.eval y = c0)
    (h : Calls Tryz.prog 54 #[v0, c0] w fun e w' => ∃ v, e = .returned v ∧ K (a.put o.dst v) w') :
    if Region.wanted o (yielded ops a.tmps) = true then Oper.wp Tryz.prog o a w K Q else E := by
  have hw : Region.wanted o (yielded ops a.tmps) = true := by simp [Region.wanted, hgd]
  rw [if_pos hw]
  have hrun : (execOp a.eval o).run Tryz.prog w = .ok (.enter 54 #[v0, c0]) w := by
    have he : execOp a.eval o = callFunc 54 #[v0, c0] := by
      obtain ⟨dst, op, ty, pos, after, guard⟩ := o
      simp only [] at ho
      subst ho
      have hy' : execOp a.eval { dst := dst, op := .call { callee := .value (.func 54), args := #[x, y], argTypes := #[38, 72] }, type := ty, pos := pos, after := after, guard := guard } = callFunc 54 (#[] ++ #[x, y].map a.eval ++ #[]) := rfl
      rw [hy']
      simp [hx, hy]
    rw [he]
    simp [callFunc, go_sem, Tryz.func54, Tryz.f54]
  unfold Oper.wp
  rw [hrun]
  refine h.mono ?_
  rintro e w' ⟨v, rfl, hk⟩
  exact hk

theorem RFul.same {w w' : World} {b : Nat} {F : Nat → Prop} {d : Dev} {T : Nat} {tv lv pv av : Value} (h : RFul w b F d T tv lv pv av) (hk : ∀ k, F k → w'.heap[k]? = w.heap[k]?) (hz : w.heap.size ≤ w'.heap.size) : RFul w' b F d T tv lv pv av := by
  obtain ⟨cs, hc⟩ := h.tears
  exact ⟨⟨(hk b h.body.fb).trans h.body.blk, h.body.fb, owns_block h.body.last (fun g hg => hk g (h.body.lf g hg)), h.body.lf, owns_block h.body.pend (fun g hg => hk g (h.body.pf g hg)), h.body.pf, fun k hf => Nat.lt_of_lt_of_le (h.body.lt k hf) hz⟩,
    ⟨cs, owns_block hc (fun g hg => hk g (h.tf g hg))⟩, h.tf, h.arms.block (fun k _ _ hf => hk k hf), h.apart, h.ok⟩
/-- A store into a block of the call's own that is none of the device's. -/
theorem SInv.side {w wr : World} {b : Nat} {F F' : Nat → Prop} {d : Dev} {T T' : Nat} {l : List Fate} {tv0 tv lv pv av : Value} {k kk : Nat} (h : SInv w wr b F F' d T T' l tv0 tv lv pv av k kk) (g j : Nat) (u : Value) (hg : w.heap.size ≤ g) (hF : ¬ F' g) : SInv w (wr.setCell ⟨g, j, none⟩ u) b F F' d T T' l tv0 tv lv pv av k kk :=
  ⟨h.full.same (fun k hk => set_other (fun e => hF (e ▸ hk))) (by rw [set_size]; exact Nat.le_refl _),
    ⟨h.step.os, h.step.tape, h.step.output, by rw [set_size]; exact h.step.size, fun i hi hn => (set_other (by omega)).trans (h.step.block i hi hn), h.step.sub⟩,
    fun i hi h1 h2 => (set_other (by omega)).trans (h.keep i hi h1 h2), h.tk, h.le⟩
theorem SInv.rset {w wr : World} {b : Nat} {F F' : Nat → Prop} {d : Dev} {T T' : Nat} {l : List Fate} {tv0 tv lv pv av : Value} {k kk : Nat} (h : SInv w wr b F F' d T T' l tv0 tv lv pv av k kk) (yi : Int) (dd : ByteArray) (hd : dd.size = 512) (W : World) (hW : Below wr.heap.size wr W) :
    Calls Tryz.prog 54 #[lv, .agg #[.int .i64 yi, .string dd]] W fun e w' => ∃ v', e = .returned v' ∧ w'.ownsRow W.heap.size 72 2 v' (setD (durK d.pend d.dur l k) yi dd).length (secCells (setD (durK d.pend d.dur l k) yi dd)) ∧ Below W.heap.size W w' := by
  have hdl := Dev.Ok.dur_len h.full.ok
  simp only [] at hdl
  exact rset_any (durK d.pend d.dur l k) lv ⟨yi, dd⟩ W ((secsIn_own h.full.body.last (by simp only []; omega)).keep hW) h.full.ok.rise hd (by omega)

theorem Tryz.info118 : (Tryz.prog.info? 118).map (fun i => (i.zero, i.size, i.bytes)) = some (some (.agg #[.int .i64 0, .string ⟨#[]⟩, .string ⟨#[]⟩, .string ⟨#[]⟩]), 4, 56) := by kernel_rfl
/-- What the append of a tear leaves. -/
theorem SInv.tear_grown {w wr W w1 : World} {b : Nat} {F F' : Nat → Prop} {d : Dev} {T T' : Nat} {l : List Fate} {tv0 tv lv pv av : Value} {k kk g c nb : Nat} {cs' : List Value} {nc : Array Value} (h : SInv w wr b F F' d T T' l tv0 tv lv pv av k kk) (hW : Below wr.heap.size wr W) (hz : W.heap.size = wr.heap.size + 1)
    (hr : w1.ownsRow 0 118 4 (.slice (some ⟨g, 0, none⟩) (T' + 1) c) (T' + 1) cs') (hg : W.grownBy w1 tv.ownBlock) (hat : tv.ownBlock = some g ∨ g = wr.heap.size + 1) (hn : wr.heap[nb]? = some (.cells nc 72 (0, 0))) (hnF : ¬ F' nb) :
    SInv w (w1.setCell ⟨b, 0, none⟩ (.slice (some ⟨g, 0, none⟩) (T' + 1) c)) b F (grow F' W w1) d T (T' + 1) l tv0 (.slice (some ⟨g, 0, none⟩) (T' + 1) c) lv pv av k (kk + 1) ∧ w1.cell? ⟨b, 0, none⟩ = some tv ∧ w1.frozen? ⟨b, 0, none⟩ = false ∧
      (w1.setCell ⟨b, 0, none⟩ (.slice (some ⟨g, 0, none⟩) (T' + 1) c)).heap[nb]? = some (.cells nc 72 (0, 0)) ∧ ¬ (grow F' W w1) nb := by
  have h2 := h.below hW
  obtain ⟨cs, hcs⟩ := h2.full.tears
  have hbb : tv.ownBlock ≠ some b := fun e => by
    obtain ⟨_, _, c, hc⟩ := owns_blk hcs b e
    rw [h2.full.body.blk] at hc
    simp at hc
  have hb1 : w1.heap[b]? = W.heap[b]? := hg.block b (h2.full.body.lt b h2.full.body.fb) (fun e => hbb e.symm)
  have hnl : nb < wr.heap.size := (Array.getElem?_eq_some_iff.1 hn).1
  have hnb : nb ≠ b := fun e => hnF (by rw [e]; exact h.full.body.fb)
  refine ⟨h2.tear hg.os hg.tape hg.output hg.size (fun k hk hne => hg.block k hk (fun e => hne e.symm)) hr (fun g' hg' => ?_), ?_, ?_, ?_, ?_⟩
  · simp only [Value.ownBlock, Option.some.injEq] at hg'
    subst hg'
    rcases hat with e | e
    · exact .inl e
    · exact .inr (by omega)
  · rw [cell_of_row _ _ _ _ _ _ (hb1.trans h2.full.body.blk)]; rfl
  · exact frozen_cells (hb1.trans h2.full.body.blk)
  · rw [set_other hnb, hg.block nb (by omega) (fun e => hnF (h.full.tf nb e.symm)), hW.block nb hnl]
    exact hn
  · rintro (h' | h')
    · exact hnF h'
    · omega

end Go.Proofs.YtlopimdnjookeabGreatDoor.V
