import Derived.Test.YtdieacdkomiooabDoorBegun
namespace Go.Proofs.YtdieacdkomiooabDoor
open Go.RowKit Go.Maps

theorem write_arms (d : Dev) (s : Int) (l : List UInt8) (h : d.arms = []) : (d.write s l).1.arms = [] := by
  unfold Dev.write; split
  · exact h
  · split
    · exact h
    · exact (done_arms { d with pend := d.pend ++ _, nw := _ } h).1
theorem sync_arms (d : Dev) (h : d.arms = []) : d.sync.1.arms = [] := by
  unfold Dev.sync; split
  · exact h
  · exact (done_arms { d with dur := _, pend := [], ns := _ } h).1
theorem read_arms (d : Dev) (s n : Int) : (d.read s n).1.arms = d.arms := by
  unfold Dev.read; repeat' split
  all_goals rfl
theorem crash_arms (d : Dev) (l : List Fate) : (d.crash l).arms = d.arms := by unfold Dev.crash; split <;> rfl
set_option maxRecDepth 100000 in
theorem b1m : b1.arms = [] := write_arms _ _ _ rfl
set_option maxRecDepth 100000 in
theorem b2m : b2.arms = [] := (read_arms _ _ _).trans b1m
set_option maxRecDepth 100000 in
theorem b3m : b3.arms = [] := (crash_arms _ _).trans b2m
set_option maxRecDepth 100000 in
theorem b4m : b4.arms = [] := write_arms _ _ _ b3m
set_option maxRecDepth 100000 in
theorem b5m : b5.arms = [] := sync_arms _ b4m
set_option maxRecDepth 100000 in
theorem b6m : b6.arms = [] := write_arms _ _ _ b5m

/-- A device that a law holds. -/
structure Bg (A : Nat → Addr) (w wr : World) (b : Nat) (F : Nat → Prop) (d : Dev) : Prop where
  dev : DevAt wr b F d
  bel : Below w.heap.size w wr
  far : ∀ k, F k → w.heap.size ≤ k
  err : ErrsB w.heap.size A wr
theorem ErrsB.here {base : Nat} {A : Nat → Addr} {w : World} (h : ErrsB base A w) : ErrsB w.heap.size A w := ⟨h.at', fun i hi => ⟨Nat.lt_of_lt_of_le (h.lo i hi).1 h.size, Nat.lt_of_lt_of_le (h.lo i hi).2 h.size⟩, Nat.le_refl _⟩
theorem Bg.up {A : Nat → Addr} {w wr w' : World} {b : Nat} {F : Nat → Prop} {d : Dev} (h : Bg A w wr b F d) (hb : Below wr.heap.size wr w') : Bg A w w' b F d := ⟨h.dev.below hb, Below.next h.bel hb, h.far, h.err.up hb⟩
theorem Bg.go {A : Nat → Addr} {w wr w' : World} {b : Nat} {F F' : Nat → Prop} {d d' : Dev} (h : Bg A w wr b F d) (hd : DevAt w' b F' d') (hs : Step F F' wr w') : Bg A w w' b F' d' := ⟨hd, h.bel.trans (hs.below h.far h.bel.size), hs.ge h.far h.bel.size, h.err.step hs h.far⟩
theorem Bg.write {A : Nat → Addr} {w wr w' : World} {b : Nat} {F : Nat → Prop} {d : Dev} (h : Bg A w wr b F d) (ha : d.arms = []) (c : UInt8) (s : Int) (hp : d.pend.length ≤ 1) (v : Value) (hb : Below wr.heap.size wr w') (hv : w'.ownsRow wr.heap.size 5 1 v 512 (u8s (reps 512 c))) :
    Calls Tryd.prog 39 #[.pointer (some ⟨b, 0, none⟩), .int .i64 s, v] w' fun e w'' => e = .returned (errV A (d.write s (reps 512 c)).2) ∧ ∃ F', Bg A w w'' b F' (d.write s (reps 512 c)).1 := by
  have h' := h.up hb
  refine (write_any w.heap.size A b F d w' h'.dev h'.err h'.far s v (reps 512 c) (bytesAt_own (base := wr.heap.size) (by rw [reps_len]; exact hv) (by rw [reps_len]; omega) (fun g hg hf => ?_)) (by rw [reps_len]; omega) (by rw [ha]; exact opdone_nil _ _ _)).mono ?_
  · have := (owns_blk hv g hg).1; have := h.dev.lt g hf; omega
  · rintro e w'' ⟨rfl, F', hd, hs⟩
    exact ⟨rfl, F', h'.go hd hs⟩
theorem Bg.sync {A : Nat → Addr} {w wr : World} {b : Nat} {F : Nat → Prop} {d : Dev} (h : Bg A w wr b F d) (hop : OpOk w.heap.size A b d.arms) (hp : d.pend.length ≤ 140737488355328) :
    Calls Tryd.prog 41 #[.pointer (some ⟨b, 0, none⟩)] wr fun e w'' => e = .returned (errV A d.sync.2) ∧ ∃ F', Bg A w w'' b F' d.sync.1 := by
  refine (sync_any w.heap.size A b F d wr h.dev h.err h.far hp hop).mono ?_
  rintro e w'' ⟨rfl, F', hd, hs⟩
  exact ⟨rfl, F', h.go hd hs⟩
theorem Bg.crash {A : Nat → Addr} {w wr w' : World} {b : Nat} {F : Nat → Prop} {d : Dev} (h : Bg A w wr b F d) (hp : d.pend.length ≤ 140737488355328) (l : List Fate) (v : Value) (n : Nat) (hb : Below wr.heap.size wr w') (hv : w'.ownsRow n 92 4 v l.length (fateCells l)) :
    Calls Tryd.prog 9 #[.pointer (some ⟨b, 0, none⟩), v] w' fun e w'' => e = .returned (.tuple #[]) ∧ ∃ F', Bg A w w'' b F' (d.crash l) := by
  refine (crash_any b F d w' (h.up hb).dev l v ⟨hv.1, hv.2.imp id fun ⟨g, cap, cur, q1, _, q3⟩ => ⟨g, cap, cur, q1, Nat.zero_le _, q3⟩⟩ hp).mono ?_
  rintro e w'' ⟨rfl, F', hd, hs⟩
  exact ⟨rfl, F', (h.up hb).go hd hs⟩
theorem Bg.revive {A : Nat → Addr} {w wr : World} {b : Nat} {F : Nat → Prop} {d : Dev} (h : Bg A w wr b F d) :
    Calls Tryd.prog 12 #[.pointer (some ⟨b, 0, none⟩)] wr fun e w'' => e = .returned (.tuple #[]) ∧ Bg A w w'' b F d.revive := by
  refine (revive_any b F d wr h.dev).mono ?_
  rintro e w'' ⟨rfl, hd, hs⟩
  exact ⟨rfl, h.go hd hs⟩
theorem Bg.durable {A : Nat → Addr} {w wr : World} {b : Nat} {F : Nat → Prop} {d : Dev} (h : Bg A w wr b F d) :
    Calls Tryd.prog 14 #[.pointer (some ⟨b, 0, none⟩)] wr fun e w'' => ∃ v, e = .returned v ∧ w''.ownsRow wr.heap.size 68 2 v d.dur.length (secCells d.dur) ∧ Below wr.heap.size wr w'' := durable_any b F d wr h.dev
theorem Bg.pending {A : Nat → Addr} {w wr : World} {b : Nat} {F : Nat → Prop} {d : Dev} (h : Bg A w wr b F d) (hp : d.pend.length ≤ 5864062014805) :
    Calls Tryd.prog 15 #[.pointer (some ⟨b, 0, none⟩)] wr fun e w'' => ∃ v, e = .returned v ∧ w''.ownsRow wr.heap.size 68 2 v d.pend.length (secCells d.pend) ∧ Below wr.heap.size wr w'' := pending_any b F d wr h.dev hp
theorem Bg.read {A : Nat → Addr} {w wr : World} {b : Nat} {F : Nat → Prop} {d : Dev} (h : Bg A w wr b F d) (s n : Int) (hn : n < 9223372036854775808) :
    Calls Tryd.prog 13 #[.pointer (some ⟨b, 0, none⟩), .int .i64 s, .int .i64 n] wr fun e w'' => ∃ v, e = .returned (.tuple #[v, errV A (d.read s n).2.2]) ∧ w''.ownsRow wr.heap.size 5 1 v (d.read s n).2.1.length (u8s (d.read s n).2.1) ∧ Bg A w w'' b F (d.read s n).1 ∧ Step F F wr w'' := by
  refine (read_any w.heap.size A b F d wr h.dev h.err s n hn).mono ?_
  rintro e w'' ⟨v, rfl, hr, hd, hs⟩
  exact ⟨v, rfl, hr, h.go hd hs, hs⟩

theorem b7s : ∃ D0 D1, b7.dur = [⟨2, D0⟩, ⟨3, D1⟩] ∧ D0 = mkb (reps 512 8) ∧ D1.extract 0 4 = ⟨#[9, 9, 120, 0]⟩ ∧ 4 ≤ D1.size := by
  obtain ⟨x, y, hxy⟩ : ∃ x y, b7.dur = [x, y] := by
    have := b7l
    match h : b7.dur, this with
    | [x, y], _ => exact ⟨x, y, rfl⟩
  have hi := b7i; have ha := b7a; have hb := b7b
  rw [hxy] at hi ha hb
  simp only [List.map_cons, List.map_nil, List.cons.injEq, and_true] at hi
  simp only [List.map_cons, List.map_nil, List.getElem?_cons_zero, List.getElem?_cons_succ, Option.some.injEq] at ha hb
  refine ⟨x.dat, y.dat, ?_, ?_, ?_, ?_⟩
  · rw [hxy]; cases x; cases y; simp at hi ⊢; exact hi
  · rw [← ha]; rfl
  · apply ByteArray.ext; apply Array.ext'; rw [ByteArray.data_extract]; simp; exact hb
  · have := congrArg List.length hb; simp [bl] at this; omega
theorem owns_lit (w : World) : (w.alloc (.cells #[.int .i64 0, .int .i64 3, .int .i64 2, .string { data := #[120] }] 92)).ownsRow 0 92 4 (.slice (some ⟨w.heap.size, 0, none⟩) 1 1) [bf].length (fateCells [bf]) :=
  ⟨rfl, .inr ⟨w.heap.size, 1, #[.int .i64 0, .int .i64 3, .int .i64 2, .string { data := #[120] }], rfl, Nat.zero_le _, Array.getElem?_push_size, Nat.le_refl _, by unfold maxLen; omega, by simp, rfl⟩⟩
theorem chunk8 {w : World} {n g cap : Nat} (h : w.ownsRow n 5 1 (.slice (some ⟨g, 0, none⟩) 512 cap) 512 (u8s (reps 512 8))) (m : Nat) : (convert 36 9 (.slice (some ⟨g, 0, none⟩) 512 cap)).run Tryd.prog (w.drewN m) = .ok (.string (mkb (reps 512 8))) (w.drewN m) := by
  have h' := chunk_cells (w := w.drewN m) (g := g) (l := reps 512 8) (fun j hj => by
    have := owns_cell h rfl j _ (u8s_get _ j hj)
    exact this) 0 (by rw [reps_len]; omega) cap
  rw [Nat.zero_mul, List.drop_zero, List.take_of_length_le (by rw [reps_len]; omega)] at h'
  exact h'

set_option maxRecDepth 100000 in
set_option maxHeartbeats 3200000 in
theorem begun_any (base : Nat) (A : Nat → Addr) (w : World) (hE : ErrsB base A w) : Calls Tryd.prog 8 #[] w fun e w' => e = .returned (.bool true) ∧ Below w.heap.size w w' := by
  have HE : Hid (ErrsB w.heap.size A w) := hE.here
  have HFI : Hid (∀ (c : UInt8) (x : Int), x = (c.toNat : Int) → ∀ w', Calls Tryd.prog 40 #[.int .u8 x] w' fun e w'' => ∃ v, e = .returned v ∧ w''.ownsRow w'.heap.size 5 1 v 512 (u8s (reps 512 c)) ∧ Below w'.heap.size w' w'') := fun c x hx w' => fill_any c x hx w'
  have hev : errV A 0 = .nilIface := rfl
  have HEV : Hid (errV A 0 = .nilIface) := hev
  clear hE hev
  go_enter Tryd.func8, Tryd.ntmps8
  go_wp2_with fail
  refine (new_any 4 w).mono ?_
  rintro e w1 ⟨b, F1, rfl, hd1, hb1, hF1⟩
  have B1 : Hid (Bg A w w1 b F1 b0) := ⟨hd1, hb1, hF1, HE.out.up hb1⟩
  clear hd1 hb1 hF1
  go_wp2_with fail
  refine (size_any b F1 b0 w1 B1.out.dev).mono ?_
  rintro e w1' ⟨rfl, rfl⟩
  rw [b0s]
  go_wp2_with fail
  refine (HFI.out 7 7 rfl w1).mono ?_
  rintro e w2 ⟨v7, rfl, hv7, hb2⟩
  have W := B1.out.write (w' := w2) rfl 7 1 (by decide) v7 hb2 hv7
  rw [b1e, HEV.out] at W
  have HW : Hid (Calls Tryd.prog 39 #[.pointer (some ⟨b, 0, none⟩), .int .i64 1, v7] w2 fun e w'' => e = .returned .nilIface ∧ ∃ F', Bg A w w'' b F' b1) := W
  obtain ⟨va, vc, rfl, -⟩ := owns_form hv7
  clear W hv7 hb2 B1
  go_wp2_with fail
  refine HW.out.mono ?_
  rintro e w3 ⟨rfl, F3, B3⟩
  clear HW
  have R := B3.read 0 2 (by decide)
  rw [b2e, HEV.out, b2l] at R
  have HR : Hid (Calls Tryd.prog 13 #[.pointer (some ⟨b, 0, none⟩), .int .i64 0, .int .i64 2] w3 fun e w'' => ∃ v, e = .returned (.tuple #[v, .nilIface]) ∧ w''.ownsRow w3.heap.size 5 1 v 1024 (u8s (b1.read 0 2).2.1) ∧ Bg A w w'' b F3 b2 ∧ Step F3 F3 w3 w'') := R
  clear R B3
  go_wp2_with fail
  refine HR.out.mono ?_
  rintro e w4 ⟨vr, rfl, hvr, B4, -⟩
  obtain ⟨ra, rc, rfl, hra⟩ := owns_form hvr
  obtain ⟨g4, rfl⟩ := hra (by decide)
  have r1 : w4.cell? ⟨g4, 511, none⟩ = some (.int .u8 0) := owns_cell hvr rfl 511 _ (by rw [u8s, List.getElem?_map, b2a]; rfl)
  have r2 : w4.cell? ⟨g4, 512, none⟩ = some (.int .u8 7) := owns_cell hvr rfl 512 _ (by rw [u8s, List.getElem?_map, b2b]; rfl)
  have P := B4.pending (by rw [b2p]; decide)
  rw [b2p] at P
  have HP : Hid (Calls Tryd.prog 15 #[.pointer (some ⟨b, 0, none⟩)] w4 fun e w'' => ∃ v, e = .returned v ∧ w''.ownsRow w4.heap.size 68 2 v 1 (secCells b2.pend) ∧ Below w4.heap.size w4 w'') := P
  have HB4 : Hid (Bg A w w4 b F3 b2) := B4
  clear HR P hvr hra B4
  go_wp2_with fail
  refine HP.out.mono ?_
  rintro e w5 ⟨vp, rfl, hvp, hb5⟩
  obtain ⟨pa, pc, rfl, -⟩ := owns_form hvp
  have B5 := HB4.out.up hb5
  have D := B5.durable
  rw [b2d] at D
  have HD : Hid (Calls Tryd.prog 14 #[.pointer (some ⟨b, 0, none⟩)] w5 fun e w'' => ∃ v, e = .returned v ∧ w''.ownsRow w5.heap.size 68 2 v 0 (secCells b2.dur) ∧ Below w5.heap.size w5 w'') := D
  have HB5 : Hid (Bg A w w5 b F3 b2) := B5
  clear HP D hvp hb5 B5 HB4 r1 r2
  go_wp2_with fail
  refine HD.out.mono ?_
  rintro e w6 ⟨vd, rfl, hvd, hb6⟩
  obtain ⟨da, dc, rfl, -⟩ := owns_form hvd
  have B6 := HB5.out.up hb6
  have C := B6.crash (by rw [b2p]; decide) [] (.slice none 0 0) 0 (Below.refl _ _) (World.ownsRow_nil _ _ _ _)
  have HC : Hid (Calls Tryd.prog 9 #[.pointer (some ⟨b, 0, none⟩), .slice none 0 0] w6 fun e w'' => e = .returned (.tuple #[]) ∧ ∃ F', Bg A w w'' b F' (b2.crash [])) := C
  clear HD C hvd hb6 B6 HB5
  go_wp2_with fail
  refine HC.out.mono ?_
  rintro e w7 ⟨rfl, F7, B7⟩
  have HV : Hid (Calls Tryd.prog 12 #[.pointer (some ⟨b, 0, none⟩)] w7 fun e w'' => e = .returned (.tuple #[]) ∧ Bg A w w'' b F7 b3) := B7.revive
  clear HC B7
  go_wp2_with fail
  refine HV.out.mono ?_
  rintro e w8 ⟨rfl, B8⟩
  have D := B8.durable
  rw [b3d] at D
  have HD : Hid (Calls Tryd.prog 14 #[.pointer (some ⟨b, 0, none⟩)] w8 fun e w'' => ∃ v, e = .returned v ∧ w''.ownsRow w8.heap.size 68 2 v 0 (secCells b3.dur) ∧ Below w8.heap.size w8 w'') := D
  have HB8 : Hid (Bg A w w8 b F7 b3) := B8
  clear HV D B8
  go_wp2_with fail
  refine HD.out.mono ?_
  rintro e w9 ⟨vd9, rfl, hvd, hb9⟩
  obtain ⟨da9, dc9, rfl, -⟩ := owns_form hvd
  have HB9 : Hid (Bg A w w9 b F7 b3) := HB8.out.up hb9
  clear HD HB8 hvd hb9
  go_wp2_with fail
  refine (HFI.out 8 8 rfl w9).mono ?_
  rintro e w10 ⟨v8, rfl, hv8, hb10⟩
  have W := HB9.out.write (w' := w10) b3m 8 2 (by rw [b3p]; decide) v8 hb10 hv8
  rw [b4e, HEV.out] at W
  have HW : Hid (Calls Tryd.prog 39 #[.pointer (some ⟨b, 0, none⟩), .int .i64 2, v8] w10 fun e w'' => e = .returned .nilIface ∧ ∃ F', Bg A w w'' b F' b4) := W
  obtain ⟨va8, vc8, rfl, -⟩ := owns_form hv8
  clear W hv8 hb10 HB9
  go_wp2_with fail
  refine HW.out.mono ?_
  rintro e w11 ⟨rfl, F11, B11⟩
  have S := B11.sync (by rw [b4m]; exact opdone_nil _ _ _) (by rw [b4p]; decide)
  rw [b5e, HEV.out] at S
  have HS : Hid (Calls Tryd.prog 41 #[.pointer (some ⟨b, 0, none⟩)] w11 fun e w'' => e = .returned .nilIface ∧ ∃ F', Bg A w w'' b F' b5) := S
  clear HW S B11
  go_wp2_with fail
  refine HS.out.mono ?_
  rintro e w12 ⟨rfl, F12, B12⟩
  have HB12 : Hid (Bg A w w12 b F12 b5) := B12
  clear HS B12
  go_wp2_with fail
  refine (HFI.out 9 9 rfl w12).mono ?_
  rintro e w13 ⟨v9, rfl, hv9, hb13⟩
  have W := HB12.out.write (w' := w13) b5m 9 3 (by rw [b5p]; decide) v9 hb13 hv9
  rw [b6e, HEV.out] at W
  have HW : Hid (Calls Tryd.prog 39 #[.pointer (some ⟨b, 0, none⟩), .int .i64 3, v9] w13 fun e w'' => e = .returned .nilIface ∧ ∃ F', Bg A w w'' b F' b6) := W
  obtain ⟨va9, vc9, rfl, -⟩ := owns_form hv9
  clear W hv9 hb13 HB12
  go_wp2_with fail
  refine HW.out.mono ?_
  rintro e w14 ⟨rfl, F14, B14⟩
  have HB14 : Hid (Bg A w w14 b F14 b6) := B14
  have hb14 : Below w14.heap.size w14 (w14.alloc (.cells #[.int .i64 0, .int .i64 3, .int .i64 2, .string { data := #[120] }] 92)) := (Below.refl _ _).alloc (Nat.le_refl _) _
  have C := B14.crash (w' := w14.alloc (.cells #[.int .i64 0, .int .i64 3, .int .i64 2, .string { data := #[120] }] 92)) (by rw [b6p]; decide) [bf] (.slice (some ⟨w14.heap.size, 0, none⟩) 1 1) 0 hb14 (owns_lit w14)
  clear HW hb14
  have HC : Hid (Calls Tryd.prog 9 #[.pointer (some ⟨b, 0, none⟩), .slice (some ⟨w14.heap.size, 0, none⟩) 1 1] (w14.alloc (.cells #[.int .i64 0, .int .i64 3, .int .i64 2, .string { data := #[120] }] 92)) fun e w'' => e = .returned (.tuple #[]) ∧ ∃ F', Bg A w w'' b F' b7) := C
  clear C B14
  go_wp2_with fail
  refine HC.out.mono ?_
  rintro e w15 ⟨rfl, F15, B15⟩
  have D := B15.durable
  rw [b7l] at D
  have HD : Hid (Calls Tryd.prog 14 #[.pointer (some ⟨b, 0, none⟩)] w15 fun e w'' => ∃ v, e = .returned v ∧ w''.ownsRow w15.heap.size 68 2 v 2 (secCells b7.dur) ∧ Below w15.heap.size w15 w'') := D
  have HB15 : Hid (Bg A w w15 b F15 b7) := B15
  clear HC D B15
  go_wp2_with fail
  refine HD.out.mono ?_
  rintro e w16 ⟨vd7, rfl, hvd, hb16⟩
  obtain ⟨D0, D1, hdur, hD0, hD1, hs1⟩ := b7s
  rw [hdur] at hvd
  obtain ⟨da7, dc7, rfl, hda⟩ := owns_form hvd
  obtain ⟨g7, rfl⟩ := hda (by decide)
  have c0 : w16.cell? ⟨g7, 0, none⟩ = some (.int .i64 2) := owns_cell hvd rfl 0 _ rfl
  have c1 : w16.cell? ⟨g7, 1, none⟩ = some (.string D0) := owns_cell hvd rfl 1 _ rfl
  have c2 : w16.cell? ⟨g7, 2, none⟩ = some (.int .i64 3) := owns_cell hvd rfl 2 _ rfl
  have c3 : w16.cell? ⟨g7, 3, none⟩ = some (.string D1) := owns_cell hvd rfl 3 _ rfl
  have B16 := HB15.out.up hb16
  have HDD : Hid (∀ m, Calls Tryd.prog 42 #[.pointer (some ⟨b, 0, none⟩)] (w16.drewN m) fun e w'' => e = .returned (.bool true) ∧ w16.drewN m = w'') := fun m => by
    have h := dead_any b F15 b7 (w16.drewN m) (B16.dev.below (below_drewN (Below.refl _ _) m))
    rw [b7d] at h; exact h
  have HBB : Hid (Below w.heap.size w w16) := B16.bel
  have HD0 : Hid (D0 = mkb (reps 512 8)) := hD0
  clear HD hvd hb16 hda hdur B16 HB15 hD0
  have e4 : ((4 : Int) ≤ (D1.size : Int)) := by omega
  go_wp2_with fail
  go_region_held (fun w' => w'.cell? ⟨g7, 0, none⟩ = some (.int .i64 2) ∧ w'.cell? ⟨g7, 1, none⟩ = some (.string D0) ∧ w'.cell? ⟨g7, 2, none⟩ = some (.int .i64 3) ∧ w'.cell? ⟨g7, 3, none⟩ = some (.string D1)) (go_keep)
    (first
      | (go_at_call 42; refine (HDD.out _).mono ?_; rintro e w' ⟨rfl, rfl⟩)
      | (go_at_call 40; refine (HFI.out 8 8 rfl _).mono ?_; rintro e w17 ⟨v8', rfl, hv8', hbd⟩; obtain ⟨va8', vc8', rfl, hva⟩ := owns_form hv8'; obtain ⟨g8, rfl⟩ := hva (by decide); have hb17 := undrew hbd; have hcv : ∀ m, (convert 36 9 (.slice (some ⟨g8, 0, none⟩) 512 vc8')).run Tryd.prog (w17.drewN m) = .ok (.string D0) (w17.drewN m) := (fun m => by rw [HD0.out]; exact chunk8 hv8' m); have hcv0 : (convert 36 9 (.slice (some ⟨g8, 0, none⟩) 512 vc8')).run Tryd.prog w17 = .ok (.string D0) w17 := hcv 0; clear hcv;  clear hbd hv8' hva; have k0 := cell_below hb17 c0; have k1 := cell_below hb17 c1; have k2 := cell_below hb17 c2; have k3 := cell_below hb17 c3))
  have HR : Hid (Below w.heap.size w w17) := Below.next HBB.out hb17
  clear hb17 hcv0 k0 k1 k2 k3 c0 c1 c2 c3 HBB HDD HFI HE
  go_wp2_with fail
  go_ret
  exact ⟨rfl, HR.out⟩

end Go.Proofs.YtdieacdkomiooabDoor
