import Derived.Test.YtlopimdnjookeabGreatDoorA7
import Derived.BigQuiet
import Derived.Test.YtlopimdnjookeabGreatDoorA5
import Derived.Deep.AppendSrc
import Derived.Test.YtlopimdnjookeabGreatDoorA3b
import Derived.Test.YtlopimdnjookeabGreatDoorA3
namespace Go.Proofs.YtlopimdnjookeabGreatDoor.V
open Go.RowKit Go.Maps

theorem take_mid {x j z : List UInt8} {n : Nat} (hz : z.length = n) : (x ++ j.take n ++ z).take n = (x ++ j ++ z).take n := by
  rcases Nat.le_total j.length n with h | h
  · rw [List.take_of_length_le h]
  · have h1 : (x ++ j.take n ++ z).take n = (x ++ j.take n).take n := List.take_append_of_le_length (by rw [List.length_append, List.length_take]; omega)
    have h2 : (x ++ j ++ z).take n = (x ++ j).take n := List.take_append_of_le_length (by rw [List.length_append]; omega)
    rw [h1, h2, List.take_append, List.take_append, List.take_take]
    congr 2
    omega
theorem tornB_short (d : ByteArray) (f : Fate) : tornB d (shortF f) = tornB d f := by
  unfold tornB shortF
  simp only [bl_mkb]
  rw [take_mid (zeros_len 512)]
theorem meetD_short (pend dur : List Sec) (f : Fate) : meetD pend dur (shortF f) = meetD pend dur f := by
  unfold meetD
  rw [show (shortF f).ix = f.ix from rfl, show (shortF f).kind = f.kind from rfl]
  cases pend[f.ix.toNat]? with
  | none => rfl
  | some x => simp only [tornB_short]
theorem settleD_short (pend : List Sec) : ∀ (l : List Fate) (seen : List Int) (dur : List Sec), settleD pend seen dur (l.map shortF) = settleD pend seen dur l
  | [], _, _ => rfl
  | f :: r, seen, dur => by
    rw [List.map_cons]
    unfold settleD
    rw [show (shortF f).ix = f.ix from rfl, meetD_short, settleD_short, settleD_short]
theorem kill_short (d : Dev) (l : List Fate) : d.kill (l.map shortF) = d.kill l := by unfold Dev.kill; rw [settleD_short]

/-- A device whose arms hold their fates cut short: the program's, beside the document's. -/
def shortD (d : Dev) : Dev := { d with arms := d.arms.map fun a => { a with fates := a.fates.map shortF } }
theorem short_kill (d : Dev) (l : List Fate) : shortD (d.kill l) = (shortD d).kill l := rfl
theorem short_done (d : Dev) : (shortD d).done = (shortD d.done.1, d.done.2) := by
  obtain ⟨sz, dur, pend, arms, dead, nr, nw, ns⟩ := d
  cases arms with
  | nil => rfl
  | cons a r =>
    obtain ⟨n, fs⟩ := a
    unfold Dev.done shortD
    simp only [List.map_cons]
    by_cases h : 0 < n
    · rw [if_pos h, if_pos h]; rfl
    · rw [if_neg h, if_neg h, kill_short]; rfl
theorem short_write (d : Dev) (s : Int) (p : List UInt8) : (shortD d).write s p = (shortD (d.write s p).1, (d.write s p).2) := by
  unfold Dev.write
  rw [show (shortD d).dead = d.dead from rfl, show ∀ n, (shortD d).fits s n = d.fits s n from fun _ => rfl]
  split
  · rfl
  · split
    · rfl
    · exact short_done { d with pend := d.pend ++ chunks s p (p.length / 512), nw := wrap64 (d.nw + (p.length / 512 : Nat)) }
theorem short_sync (d : Dev) : (shortD d).sync = (shortD d.sync.1, d.sync.2) := by
  unfold Dev.sync
  rw [show (shortD d).dead = d.dead from rfl]
  split
  · rfl
  · exact short_done { d with dur := syncD d.dur d.pend, pend := [], ns := wrap64 (d.ns + 1) }
theorem short_read (d : Dev) (s n : Int) : (shortD d).read s n = (shortD (d.read s n).1, (d.read s n).2) := by
  unfold Dev.read
  rw [show (shortD d).dead = d.dead from rfl, show (shortD d).fits s n = d.fits s n from rfl]
  repeat' split
  all_goals rfl
theorem short_crash (d : Dev) (l : List Fate) : (shortD d).crash l = shortD (d.crash l) := by
  unfold Dev.crash
  rw [show (shortD d).dead = d.dead from rfl]
  split <;> rfl
theorem short_arm (d : Dev) (n : Int) (l : List Fate) : (shortD d).arm n l = shortD (d.armF n l) := by
  unfold Dev.arm Dev.armF shortD
  simp
set_option maxHeartbeats 400000 in
theorem counts_any (b : Nat) (F : Nat → Prop) (d : Dev) (w : World) (h : DevAt w b F d) : Calls Tryz.prog 12 #[.pointer (some ⟨b, 0, none⟩)] w fun e w' => e = .returned (.tuple #[.int .i64 d.nr, .int .i64 d.nw, .int .i64 d.ns]) ∧ Below w.heap.size w w' := by
  obtain ⟨mb, nb, pv, av, Dn, h⟩ := h
  have c6 : w.cell? ⟨b, 6, none⟩ = some (.int .i64 d.nr) := h.cell 6
  have c7 : w.cell? ⟨b, 7, none⟩ = some (.int .i64 d.nw) := h.cell 7
  have c8 : w.cell? ⟨b, 8, none⟩ = some (.int .i64 d.ns) := h.cell 8
  clear h
  go_enter Tryz.func12, Tryz.ntmps12
  go_wp2
  go_quiet (fail)
  go_wp2
  refine bodyPost_ret (v := .tuple #[.int .i64 d.nr, .int .i64 d.nw, .int .i64 d.ns]) (by simp [results, Tryz.f12]) rfl ?_
  exact ⟨rfl, below_drewN (Below.refl _ _) _⟩
set_option maxHeartbeats 400000 in
theorem rrevAll_any (b : Nat) (F : Nat → Prop) (d : Dev) (T : Nat) (w : World) (h : RAll w b F d T) :
    Calls Tryz.prog 27 #[.pointer (some ⟨b, 0, none⟩)] w fun e w' => e = .returned (.tuple #[]) ∧ RAll w' b F d.revive T ∧ Step F F w w' := by
  obtain ⟨tv, lv, pv, av, h⟩ := h
  have c4 : w.cell? ⟨b, 4, none⟩ = some (.bool d.dead) := h.body.cell 4
  have z4 : w.frozen? ⟨b, 4, none⟩ = false := frozen_cells h.body.blk
  obtain ⟨h1, s1⟩ := h.setCount (d' := d.revive) 4 (.bool false) rfl rfl rfl rfl h.ok.revive
  have HP := Hid.mk2 (And.intro h1 s1)
  clear h h1 s1
  go_enter Tryz.func27, Tryz.ntmps27
  go_wp2_with fail
  go_end0
  exact ⟨rfl, ⟨_, _, _, _, HP.out.1⟩, HP.out.2⟩

theorem done_armsIn {d : Dev} {P : List Fate → Prop} (h : ∀ a ∈ d.arms, P a.fates) : ∀ a ∈ d.done.1.arms, P a.fates := by
  unfold Dev.done
  cases ha : d.arms with
  | nil => simp only [ha]; intro a h'; cases h'
  | cons x r =>
    rw [ha] at h
    simp only []
    split
    · intro a h'
      rcases List.mem_cons.1 h' with e | e
      · rw [e]; exact h x (by simp)
      · exact h a (by simp [e])
    · intro a h'; exact h a (List.mem_cons_of_mem _ h')
theorem read_arms (d : Dev) (s n : Int) : (d.read s n).1.arms = d.arms := by
  unfold Dev.read; repeat' split
  all_goals rfl
theorem read_pend (d : Dev) (s n : Int) : (d.read s n).1.pend = d.pend := by
  unfold Dev.read; repeat' split
  all_goals rfl
theorem crash_arms (d : Dev) (l : List Fate) : (d.crash l).arms = d.arms := by
  unfold Dev.crash; split <;> rfl
theorem crash_pend (d : Dev) (l : List Fate) : (d.crash l).pend.length ≤ d.pend.length := by
  unfold Dev.crash; split
  · exact Nat.le_refl _
  · simp [Dev.kill]
theorem done_pend (d : Dev) : d.done.1.pend.length ≤ d.pend.length := by
  unfold Dev.done
  cases d.arms with
  | nil => exact Nat.le_refl _
  | cons a r => simp only []; split
                · exact Nat.le_refl _
                · simp [Dev.kill]
theorem done_armsN (d : Dev) : d.done.1.arms.length ≤ d.arms.length := by
  unfold Dev.done
  cases h : d.arms with
  | nil => simp [h]
  | cons a r => simp only []; split <;> simp [Dev.kill]
theorem write_pend (d : Dev) (s : Int) (l : List UInt8) : (d.write s l).1.pend.length ≤ d.pend.length + l.length / 512 := by
  unfold Dev.write; split
  · simp only []; omega
  · split
    · simp only []; omega
    · have := done_pend { d with pend := d.pend ++ chunks s l (l.length / 512), nw := wrap64 (d.nw + ((l.length / 512 : Nat) : Int)) }
      simp only [List.length_append, chunks_len] at this
      exact this
theorem write_armsN (d : Dev) (s : Int) (l : List UInt8) : (d.write s l).1.arms.length ≤ d.arms.length := by
  unfold Dev.write; repeat' split
  all_goals (try (simp only []; omega))
  exact Nat.le_trans (done_armsN _) (by simp only []; omega)
theorem write_armsIn {d : Dev} {P : List Fate → Prop} (h : ∀ a ∈ d.arms, P a.fates) (s : Int) (l : List UInt8) : ∀ a ∈ (d.write s l).1.arms, P a.fates := by
  unfold Dev.write; repeat' split
  · exact h
  · exact h
  · exact done_armsIn (d := { d with pend := _, nw := _ }) h
theorem sync_pend (d : Dev) : d.sync.1.pend.length ≤ d.pend.length := by
  unfold Dev.sync; split
  · exact Nat.le_refl _
  · have := done_pend { d with dur := syncD d.dur d.pend, pend := [], ns := wrap64 (d.ns + 1) }
    simp only [List.length_nil] at this
    omega
theorem sync_armsN (d : Dev) : d.sync.1.arms.length ≤ d.arms.length := by
  unfold Dev.sync; split
  · simp only []; omega
  · exact Nat.le_trans (done_armsN _) (by simp only []; omega)
theorem sync_armsIn {d : Dev} {P : List Fate → Prop} (h : ∀ a ∈ d.arms, P a.fates) : ∀ a ∈ d.sync.1.arms, P a.fates := by
  unfold Dev.sync; split
  · exact h
  · exact done_armsIn (d := { d with dur := _, pend := _, ns := _ }) h

end Go.Proofs.YtlopimdnjookeabGreatDoor.V

namespace Go.Proofs.YtlopimdnjookeabGreatDoor.V
open Go.RowKit Go.Maps

theorem map_ne_cell {w : World} {P : Program} {k : TypeId} {R : Value → Option (DataW Unit × List MemPlace)} {m n g x : Nat} {D : DataW Unit} {u : Value} (h : w.ownsMap P k R m n D) (hc : w.cell? ⟨g, x, none⟩ = some u) : g ≠ m := fun he => by
  obtain ⟨es, ck, hb, _⟩ := h
  unfold World.cell? at hc
  rw [show (⟨g, x, none⟩ : Addr).block = m from he, hb] at hc
  simp at hc
set_option maxRecDepth 100000 in
set_option maxHeartbeats 1600000 in
theorem settleI_body {w : World} {b : Nat} {F : Nat → Prop} {d : Dev} {mb nb : Nat} {pv av : Value} {Dn : DataW Unit} (h : DevBody w b F d mb nb pv av Dn) (l : List Fate) (fv : Value) (hl : FatesIn w fv l) (hp : d.pend.length ≤ 140737488355328) :
    Calls Tryz.prog 56 #[.pointer (some ⟨b, 0, none⟩), fv] w fun e w' => e = .returned (.tuple #[]) ∧ ∃ F', DevAt w' b F' { d with dur := settleD d.pend [] d.dur l, pend := [] } ∧ Step F F' w w' := by
  obtain ⟨i0, hi, hz0, hz1, hz2⟩ := info_parts Tryz.info4
  have c2 : w.cell? ⟨b, 2, none⟩ = some pv := h.cell 2
  obtain ⟨pa, pc, rfl, hpa⟩ := owns_form h.pend
  obtain ⟨fa, fc, fg, fo, rfl, hfl, hfa, hfc⟩ := hl.cells
  obtain ⟨n, hn⟩ : ∃ n, n = d.pend.length := ⟨_, rfl⟩
  obtain ⟨m, hm⟩ : ∃ m, m = l.length := ⟨_, rfl⟩
  have hm2 : m ≤ 3518437208883 := by rw [hm]; exact hfl
  have HN : Hid (n = d.pend.length) := hn
  have HL : Hid (m = l.length) := hm
  have h0 : Hid (DevBody w b F d mb nb (.slice pa n pc) av Dn) := by rw [hn]; exact h
  have HFC := Hid.mk2 hfc
  rw [← hn] at c2 hp hpa
  rw [← hm] at hfa ⊢
  clear h hl hn hm hfc hfl
  go_enter Tryz.func56, Tryz.ntmps56
  go_wp2_with (first
    | (at_make; refine wpList_make_full _ rfl _ _ 112 rfl 0 4 i0 (.bool false) 1 Tryz.underlying112 hi hz0 hz1 .i64 .i64 _ _ n rfl rfl rfl rfl ?c1 ?c2 (Nat.zero_le _) ?_))
  case c1 => rw [hz2]; omega
  case c2 => unfold maxLen; omega
  intro w1 hrow1 hg1
  rw [boolRow_nil] at hrow1
  have hb1 : Below w.heap.size w w1 := ⟨hg1.os, hg1.tape, hg1.output, hg1.size, fun k hk => hg1.block k hk (by simp)⟩
  have HI : Hid (SetInv w w1 b F d l mb nb w.heap.size (.slice pa n pc) av Dn 0 ([], d.dur)) := ⟨rfl, h0.out.alloc hb1, by rw [← HN.out]; exact hrow1, fun i hi _ => hb1.block i hi, Step.of_below hb1⟩
  clear hrow1 hg1 hb1 c2
  go_wp2_with fail
  go_loopw [15] (fun i wr => ∃ k s, k ≤ m ∧ i = .int .i64 (k : Int) ∧ SetInv w wr b F d l mb nb w.heap.size (.slice pa n pc) av Dn k s) (fun i _ => m - (intOf i).toNat)
  case atStart => exact ⟨0, _, Nat.zero_le _, rfl, HI.out⟩
  case round =>
    obtain ⟨k, s, hk, rfl, inv⟩ := hrel
    have INV : Hid (SetInv w wr b F d l mb nb w.heap.size (.slice pa n pc) av Dn k s) := inv
    clear inv
    by_cases hlt : k < m
    · obtain rfl := hfa (by omega)
      have hkl : k < l.length := by rw [← HL.out]; exact hlt
      obtain ⟨f, hf⟩ : ∃ f, f = l[k] := ⟨_, rfl⟩
      have HF : Hid (f = l[k]) := hf
      obtain ⟨f0, f1, f2, f3⟩ := HFC.out k hkl
      rw [← hf] at f0 f1 f2 f3
      clear hf
      have hgm : fg ≠ mb := map_ne_cell h0.out.mapD f0
      have keep : ∀ i u, w.cell? ⟨fg, i, none⟩ = some u → wr.cell? ⟨fg, i, none⟩ = some u := fun i u hu => (World.cell?_of_block (a := ⟨fg, i, none⟩) (INV.out.keep fg (World.block_lt_of_cell? w _ hu) hgm)).trans hu
      have a0 := keep _ _ f0
      have a1 := keep _ _ f1
      have a2 := keep _ _ f2
      have a3 := keep _ _ f3
      clear f0 f1 f2 f3 keep
      obtain ⟨fi, fk, fc', fj⟩ := f
      simp only [] at a0 a1 a2 a3
      have hb2 : Below wr.heap.size wr (wr.alloc (.cells #[.int .i64 fi, .int .i64 fk, .int .i64 fc', .string fj] 114)) := below_new wr _
      have hI2 : ∀ s', s' = settleStep d.pend s ⟨fi, fk, fc', fj⟩ → s' = s → SetInv w (wr.alloc (.cells #[.int .i64 fi, .int .i64 fk, .int .i64 fc', .string fj] 114)) b F d l mb nb w.heap.size (.slice pa n pc) av Dn (k + 1) s' := fun s' h1 h2 => by
        have v := INV.out
        refine ⟨?_, by rw [h2]; exact v.body.alloc hb2, by rw [h2]; exact owns_below v.row hb2, fun i hi hn => (hb2.block i (Nat.lt_of_lt_of_le hi v.step.size)).trans (v.keep i hi hn), v.step.trans (Step.of_below hb2)⟩
        rw [take_next' l k hkl, List.foldl_append, ← v.eq, ← HF.out, h1]
        rfl
      have HI2 : Hid (∀ s', s' = settleStep d.pend s ⟨fi, fk, fc', fj⟩ → s' = s → SetInv w (wr.alloc (.cells #[.int .i64 fi, .int .i64 fk, .int .i64 fc', .string fj] 114)) b F d l mb nb w.heap.size (.slice pa n pc) av Dn (k + 1) s') := hI2
      clear hI2 hb2
      rcases (show fi < 0 ∨ 0 ≤ fi by omega) with g0 | g0
      · have hd1 : decide (fi < 0) = true := decide_eq_true g0
        go_wp2_with fail
        go_roundw
        case rel => exact ⟨k + 1, _, by omega, by go_num, HI2.out s (by unfold settleStep; rw [if_pos (.inl g0)]) rfl⟩
        case measure => simp [intOf]; omega
      · have hd1 : decide (fi < 0) = false := decide_eq_false (by omega)
        rcases (show (n : Int) ≤ fi ∨ fi < (n : Int) by omega) with g1 | g1
        · have hd2 : decide ((n : Int) ≤ fi) = true := decide_eq_true g1
          go_wp2_with fail
          go_roundw
          case rel => exact ⟨k + 1, _, by omega, by go_num, HI2.out s (by unfold settleStep; rw [if_pos (.inr (.inl (by rw [← HN.out]; exact g1)))]) rfl⟩
          case measure => simp [intOf]; omega
        · have hd2 : decide ((n : Int) ≤ fi) = false := decide_eq_false (by omega)
          obtain ⟨j, rfl⟩ : ∃ j : Nat, fi = (j : Int) := ⟨fi.toNat, by omega⟩
          have hj : j < n := by omega
          have q0 : wr.cell? ⟨w.heap.size, j, none⟩ = some (.bool (decide ((j : Int) ∈ s.1))) := owns_cell INV.out.row rfl j _ (boolRow_get _ _ j (by rw [← HN.out]; exact hj))
          have hd3 : decide (n ≤ j) = false := decide_eq_false (by omega)
          by_cases hs : (j : Int) ∈ s.1
          · rw [decide_eq_true hs] at q0
            have q1 := cell_below (below_new wr (.cells #[.int .i64 (j : Int), .int .i64 fk, .int .i64 fc', .string fj] 114)) q0
            go_wp2_with fail
            go_roundw
            case rel => exact ⟨k + 1, _, by omega, by go_num, HI2.out s (by unfold settleStep; rw [if_pos (.inr (.inr hs))]) rfl⟩
            case measure => simp [intOf]; omega
          · rw [decide_eq_false hs] at q0
            have q1 := cell_below (below_new wr (.cells #[.int .i64 (j : Int), .int .i64 fk, .int .i64 fc', .string fj] 114)) q0
            obtain ⟨cur, hcur⟩ : ∃ cur, wr.heap[w.heap.size]? = some (.cells cur 4 (0, 0)) := by
              obtain ⟨_, _, cur, hcur⟩ := owns_blk INV.out.row w.heap.size rfl
              exact ⟨cur, hcur⟩
            have hwr : w.heap.size < wr.heap.size := (Array.getElem?_eq_some_iff.1 hcur).1
            have z1 : (wr.alloc (.cells #[.int .i64 (j : Int), .int .i64 fk, .int .i64 fc', .string fj] 114)).frozen? ⟨w.heap.size, j, none⟩ = false := by
              unfold World.frozen?
              rw [show (wr.alloc _).heap[(⟨w.heap.size, j, none⟩ : Addr).block]? = _ from ((below_new wr _).block w.heap.size hwr).trans hcur]
              simp
            have HS : Hid (¬ (j : Int) ∈ s.1) := hs
            clear hs
            obtain ⟨w3, hw3⟩ : ∃ w3, w3 = (wr.setCell ⟨w.heap.size, j, none⟩ (.bool true)).alloc (.cells #[.int .i64 (j : Int), .int .i64 fk, .int .i64 fc', .string fj] 114) := ⟨_, rfl⟩
            have hne : ∀ i, i < wr.heap.size → i ≠ w.heap.size → w3.heap[i]? = wr.heap[i]? := fun i hi hn => by
              rw [hw3, (below_new _ _).block i (by simpa [World.setCell] using hi), Below.heap_setCell wr ⟨w.heap.size, j, none⟩ _ i hn]
            have hs3 : wr.heap.size ≤ w3.heap.size := by rw [hw3]; simp [World.setCell]
            have hos : w3.os = wr.os := by rw [hw3]; rfl
            have htp : w3.tape = wr.tape := by rw [hw3]; rfl
            have hou : w3.output = wr.output := by rw [hw3]; rfl
            have hFw : ∀ i, F i → i ≠ w.heap.size := fun i hi => by have := h0.out.lt i hi; omega
            have B3 : DevBody w3 b F { d with dur := s.2 } mb nb (.slice pa n pc) av Dn := INV.out.body.same (fun i hi => hne i (INV.out.body.lt i hi) (hFw i hi)) hs3
            have hjp : j < d.pend.length := by rw [← HN.out]; exact hj
            have M := meet_body (w := w3.drew) (B3.same (fun _ _ => rfl) (Nat.le_refl _)) d.pend[j] ⟨(j : Int), fk, fc', fj⟩ (secOk_of h0.out.ok hjp)
            obtain ⟨gp, rfl⟩ := hpa (by omega)
            obtain ⟨p0, p1⟩ := secCells_get d.pend j hjp
            have hpend := B3.pend
            simp only [← HN.out] at hpend
            have p0 := owns_cell hpend rfl _ _ p0
            have p1 := owns_cell hpend rfl _ _ p1
            have p2 : w3.cell? ⟨b, 2, none⟩ = some (.slice (some ⟨gp, 0, none⟩) n pc) := B3.cell 2
            obtain ⟨r1, s1⟩ := INV.out.row.stored j (.bool true)
            rw [boolRow_set _ _ j hjp] at r1
            have R3 : w3.ownsRow 0 4 1 (.slice (some ⟨w.heap.size, 0, none⟩) d.pend.length d.pend.length) d.pend.length (boolRow d.pend.length ((j : Int) :: s.1)) := by
              rw [hw3]; exact owns_below r1 (below_new _ _)
            obtain ⟨x, hx⟩ : ∃ x, x = d.pend[j] := ⟨_, rfl⟩
            rw [← hx] at M p0 p1
            have HX : Hid (x = d.pend[j]) := hx
            obtain ⟨xi, xd⟩ := x
            have HM : Hid (Calls Tryz.prog 73 #[.pointer (some ⟨b, 0, none⟩), .agg #[.int .i64 xi, .string xd], .agg #[.int .i64 (j : Int), .int .i64 fk, .int .i64 fc', .string fj]] w3.drew fun e w' => e = .returned (.tuple #[]) ∧ DevBody w' b F { d with dur := meetX s.2 ⟨xi, xd⟩ ⟨(j : Int), fk, fc', fj⟩ } mb nb (.slice (some ⟨gp, 0, none⟩) n pc) av Dn ∧ w3.drew.grownBy w' (some mb)) := M
            have hsz : (wr.setCell ⟨w.heap.size, j, none⟩ (.bool true)).heap.size = wr.heap.size := by simp [World.setCell]
            have hbx := boxed_new (wr.setCell ⟨w.heap.size, j, none⟩ (.bool true)) #[.int .i64 (j : Int), .int .i64 fk, .int .i64 fc', .string fj] 114
            rw [hsz, ← hw3] at hbx
            have t0 : w3.cell? ⟨wr.heap.size, 0, none⟩ = some (.int .i64 (j : Int)) := hbx.2 0 (by simp)
            have t1 : w3.cell? ⟨wr.heap.size, 1, none⟩ = some (.int .i64 fk) := hbx.2 1 (by simp)
            have t2 : w3.cell? ⟨wr.heap.size, 2, none⟩ = some (.int .i64 fc') := hbx.2 2 (by simp)
            have t3 : w3.cell? ⟨wr.heap.size, 3, none⟩ = some (.string fj) := hbx.2 3 (by simp)
            clear hbx hsz
            have n1 : wr.heap.size ≠ mb := by have := INV.out.body.mapD.lt; omega
            have n2 : gp ≠ mb := by
              obtain ⟨_, _, cur', hc'⟩ := owns_blk B3.pend gp rfl
              exact map_ne_cells B3.mapD hc'
            have n3 : b ≠ mb := map_ne_cells B3.mapD B3.blk
            have n4 : w.heap.size ≠ mb := by have := h0.out.mapD.lt; omega
            have HB3 : Hid (DevBody w3 b F { d with dur := s.2 } mb nb (.slice (some ⟨gp, 0, none⟩) n pc) av Dn) := B3
            have HR3 : Hid (w3.ownsRow 0 4 1 (.slice (some ⟨w.heap.size, 0, none⟩) d.pend.length d.pend.length) d.pend.length (boolRow d.pend.length ((j : Int) :: s.1))) := R3
            have HNE : Hid (∀ i, i < wr.heap.size → i ≠ w.heap.size → w3.heap[i]? = wr.heap[i]?) := hne
            clear B3 R3 hne M r1 s1 hpend hx hcur hFw HI2
            go_wp2_with fail
            rw [← hw3]
            clear hw3
            go_region_held3 (fun w' => (w'.cell? ⟨wr.heap.size, 0, none⟩ = some (.int .i64 (j : Int)) ∧ w'.cell? ⟨wr.heap.size, 1, none⟩ = some (.int .i64 fk) ∧ w'.cell? ⟨wr.heap.size, 2, none⟩ = some (.int .i64 fc') ∧ w'.cell? ⟨wr.heap.size, 3, none⟩ = some (.string fj)) ∧ w'.cell? ⟨b, 2, none⟩ = some (.slice (some ⟨gp, 0, none⟩) n pc) ∧ w'.cell? ⟨gp, j * 2, none⟩ = some (.int .i64 xi) ∧ w'.cell? ⟨gp, j * 2 + 1, none⟩ = some (.string xd)) (go_keep)
              (first
                | (go_at_call 73; refine HM.out.mono ?_; rintro e w4 ⟨rfl, h4, s4d⟩; have s4 : w3.grownBy w4 (some mb) := ⟨s4d.os, s4d.tape, s4d.output, s4d.size, s4d.block⟩; clear s4d; have y0 := grown_cell s4 t0 n1; have y1 := grown_cell s4 t1 n1; have y2 := grown_cell s4 t2 n1; have y3 := grown_cell s4 t3 n1; have y4 := grown_cell s4 p2 n3; have y5 := grown_cell s4 p0 n2; have y6 := grown_cell s4 p1 n2))
            have hno : ¬ ((j : Int) < 0 ∨ (d.pend.length : Int) ≤ (j : Int) ∨ (j : Int) ∈ s.1) := fun h => h.elim (fun h => by omega) (fun h => h.elim (fun h => by omega) HS.out)
            have V : SetInv w w4 b F d l mb nb w.heap.size (.slice (some ⟨gp, 0, none⟩) n pc) av Dn (k + 1) ((j : Int) :: s.1, meetX s.2 ⟨xi, xd⟩ ⟨(j : Int), fk, fc', fj⟩) := by
              have v := INV.out
              refine ⟨?_, h4, owns_block HR3.out fun i hi => ?_, fun i hi hn => ?_, ?_⟩
              · rw [take_next' l k hkl, List.foldl_append, ← v.eq, ← HF.out]
                show _ = settleStep d.pend s _
                unfold settleStep
                rw [if_neg hno, meetD_X d.pend s.2 _ j hjp rfl, ← HX.out]
              · simp only [Value.ownBlock, Option.some.injEq] at hi
                subst hi
                exact s4.block _ (owns_blk HR3.out _ rfl).2.1 (by simpa using n4)
              · rw [s4.block i (by omega) (by simpa using hn), HNE.out i (by omega) (by omega), v.keep i hi hn]
              · have hx : Step F F w w4 := ⟨s4.os.trans (hos.trans v.step.os), s4.tape.trans (htp.trans v.step.tape), s4.output.trans (hou.trans v.step.output), by have := v.step.size; have := s4.size; omega, fun i hi hn => by
                    rw [s4.block i (by omega) (fun e => hn (by rw [Option.some.inj e]; exact h0.out.fm)), HNE.out i (by omega) (by omega), v.step.block i hi hn], fun _ h => .inl h⟩
                exact hx
            clear HM HB3 HR3 HNE INV y0 y1 y2 y3 y4 y5 y6 t0 t1 t2 t3 p0 p1 p2 h4 s4 HI
            go_wp2_with fail
            go_roundw
            case rel => exact ⟨k + 1, _, by omega, by go_num, V⟩
            case measure => simp [intOf]; omega
    · have hke : k = m := by omega
      have V := INV.out
      have D := drop_any b F _ wr ⟨_, _, _, _, _, V.body⟩
      have E : s.2 = settleD d.pend [] d.dur l := by
        rw [settle_fold, V.eq, hke, HL.out, List.take_of_length_le (Nat.le_refl _)]
      rw [E] at D
      have HD : Hid (Calls Tryz.prog 52 #[.pointer (some ⟨b, 0, none⟩)] wr fun e w' => e = .returned (.tuple #[]) ∧ DevAt w' b (fun k => F k ∨ k = wr.heap.size) { d with dur := settleD d.pend [] d.dur l, pend := [] } ∧ Step F (fun k => F k ∨ k = wr.heap.size) wr w') := D
      clear D E V HI
      go_wp2_with fail
      refine HD.out.mono ?_
      rintro e w4 ⟨rfl, h4, s4⟩
      go_wp2_with fail
      go_end0
      exact ⟨rfl, _, h4, INV.out.step.trans s4⟩


end Go.Proofs.YtlopimdnjookeabGreatDoor.V

namespace Go.Proofs.YtlopimdnjookeabGreatDoor.V
open Go.RowKit Go.Maps

set_option maxHeartbeats 400000 in
theorem crashI_any (b : Nat) (F : Nat → Prop) (d : Dev) (w : World) (h : DevAt w b F d) (l : List Fate) (fv : Value) (hl : FatesIn w fv l) (hp : d.pend.length ≤ 140737488355328) :
    Calls Tryz.prog 24 #[.pointer (some ⟨b, 0, none⟩), fv] w fun e w' => e = .returned (.tuple #[]) ∧ DevPost w b F (d.crash l) w' := by
  obtain ⟨mb, nb, pv, av, Dn, h⟩ := h
  have c5 : w.cell? ⟨b, 5, none⟩ = some (.bool d.dead) := h.cell 5
  have HC : Hid (d.crash l = if d.dead then d else d.kill l) := (rfl : d.crash l = _)
  have S := settleI_body h l fv hl hp
  have HS : Hid (Calls Tryz.prog 56 #[.pointer (some ⟨b, 0, none⟩), fv] w fun e w' => e = .returned (.tuple #[]) ∧ ∃ F', DevAt w' b F' { d with dur := settleD d.pend [] d.dur l, pend := [] } ∧ Step F F' w w') := S
  have HK : Hid (DevAt w b F d) := ⟨_, _, _, _, _, h⟩
  obtain ⟨fa, fc, _, _, rfl, -⟩ := hl
  clear S h
  go_enter Tryz.func24, Tryz.ntmps24
  cases hd : d.dead
  · rw [hd] at c5
    go_wp2_with fail
    refine HS.out.mono ?_
    rintro e w1 ⟨rfl, F1, h1, s1⟩
    have hok := h1.ok
    obtain ⟨mb1, nb1, pv1, av1, Dn1, h1⟩ := h1
    have k5 : w1.cell? ⟨b, 5, none⟩ = some (.bool d.dead) := h1.cell 5
    have f5 := h1.frozen 5
    obtain ⟨h2, s2⟩ := h1.set (d' := d.kill l) 5 (.bool true) rfl rfl rfl rfl ⟨hok.s0, hok.s1, hok.dur, hok.rise, hok.pend, hok.arms⟩
    have HH : Hid (DevBody (w1.setCell ⟨b, 5, none⟩ (.bool true)) b F1 (d.kill l) mb1 nb1 pv1 av1 Dn1 ∧ Step F1 F1 w1 (w1.setCell ⟨b, 5, none⟩ (.bool true))) := ⟨h2, s2⟩
    have HS1 : Hid (Step F F1 w w1) := s1
    clear HS h1 h2 s2 s1 hok
    go_wp2_with fail
    go_end0
    refine ⟨rfl, ?_⟩
    rw [HC.out, hd]
    exact ⟨F1, ⟨_, _, _, _, _, HH.out.1⟩, HS1.out.trans HH.out.2⟩
  · rw [hd] at c5
    clear HS
    go_wp2_with fail
    refine bodyPost_ret (results_none rfl _ _ _) rfl ?_
    refine ⟨rfl, ?_⟩
    rw [HC.out, hd]
    exact ⟨F, HK.out, Step.refl _ _⟩


set_option maxRecDepth 100000 in
set_option maxHeartbeats 800000 in
theorem clonefI_any (l : List Fate) (v : Value) (w : World) (hv : FatesIn w v l) :
    Calls Tryz.prog 77 #[v] w fun e w' => ∃ v', e = .returned v' ∧ w'.ownsRow w.heap.size 114 4 v' l.length (fateCells l) ∧ Below w.heap.size w w' := by
  obtain ⟨i0, hi, hz0, hz1, hz2⟩ := info_parts Tryz.info114
  obtain ⟨a, c, g, off, rfl, hb, ha, hc⟩ := hv
  obtain ⟨n, hn⟩ : ∃ n, n = l.length := ⟨_, rfl⟩
  have q22 : ∀ (w : World) (a : Option Addr) (n c n' c' : Nat), (binOp .eql 34 (.slice a n c) (.slice none n' c')).run Tryz.prog w = .ok (.bool a.isNone) w := fun w a n c n' c' => Lib.run_eql_slice_nil w _ _ a n c n' c' Tryz.underlying34
  have HL : Hid ((fateCells l).length = n * 4) := by rw [hn]; exact fateCells_len l
  have H1 := fateCells_one l
  have HN : Hid (n = l.length) := hn
  have HC : Hid (∀ ad, a = some ad → ∀ j u, (fateCells l)[j]? = some u → w.cell? (ad.add j) = some u) := fun ad had j u hu => by
    have hj := (List.getElem?_eq_some_iff.1 hu).1
    rw [fateCells_len] at hj
    have := ha (by omega)
    rw [had] at this
    obtain rfl := Option.some.inj this
    rw [Addr.add_mid]; exact hc j u hu
  have hae : a = none → n = 0 := fun h => by
    rw [hn]
    rcases Nat.eq_zero_or_pos l.length with h0 | h0
    · exact h0
    · have hg := ha h0; rw [h] at hg; cases hg
  have hs0 : Hid (fateCells l = [] ∨ 0 < n) := by
    show _ ∨ _
    rcases Nat.eq_zero_or_pos n with h0 | h0
    · left; exact List.length_eq_zero_iff.1 (by rw [HL.out, h0])
    · exact .inr h0
  rw [← hn] at hb ⊢
  clear ha hc
  generalize fateCells l = xs at *
  clear hn
  go_enter Tryz.func77, Tryz.ntmps77
  cases a with
  | none =>
    have h0 := hae rfl
    subst h0
    obtain rfl : xs = [] := List.length_eq_zero_iff.1 (by simpa using HL.out)
    go_wp2_with fail
    go_ret
    exact ⟨_, rfl, World.ownsRow_nil _ _ _ _, Below.refl _ _⟩
  | some ad =>
    have hcell := HC.out ad rfl
    clear HC hae
    go_wp2_with (at_builtin; refine wpList_append_own _ rfl _ _ 34 rfl w.heap.size 114 i0 (.agg #[.int .i64 0, .int .i64 0, .int .i64 0, .string ⟨#[]⟩]) 4 40 Tryz.underlying34 hi hz0 hz1 hz2 rfl (by decide) _ _ _ rfl (World.ownsRow_made w #[] 0 (Nat.le_refl _) (Nat.zero_le _) (by simp)) ad n c xs rfl ?qc1 ?qc2 ?qc3 ?qc4 ?qc5 ?qc6 ?_)
    case qc1 => exact HL.out
    case qc2 =>
      intro j u hj
      exact Lib.cell?_alloc_some _ (hcell j u hj)
    case qc3 => exact H1
    case qc4 => unfold maxLen; omega
    case qc5 => omega
    case qc6 => simp
    intro v' w1 hown hgrow hnil
    have HR : Hid (w1.ownsRow w.heap.size 114 4 v' n xs ∧ Below w.heap.size w w1) := ⟨by simpa using hown, ((Below.refl _ w).alloc (Nat.le_refl _) _).grown hgrow (by simp) (by intro k hk; simp [Value.ownBlock] at hk; omega)⟩
    clear hown hgrow hnil hcell q22
    go_wp2_with fail
    go_ret
    exact ⟨v', rfl, HR.out⟩

set_option maxRecDepth 100000 in
set_option maxHeartbeats 800000 in
theorem ownfI_any (l : List Fate) (v : Value) (w : World) (hv : FatesIn w v l) (hb : l.length ≤ 3518437208883) :
    Calls Tryz.prog 58 #[v] w fun e w' => ∃ v', e = .returned v' ∧ w'.ownsRow w.heap.size 114 4 v' l.length (fateCells (l.map shortF)) ∧ Below w.heap.size w w' := by
  have HC := Hid.mk2 (clonefI_any l v w hv)
  obtain ⟨a, c, _, _, rfl, -⟩ := hv
  obtain ⟨n, hn⟩ : ∃ n, n = l.length := ⟨_, rfl⟩
  have HN := Hid.mk2 hn
  rw [← hn] at HC hb ⊢
  clear hn
  go_enter Tryz.func58, Tryz.ntmps58
  go_wp2_with fail
  refine HC.out.mono ?_
  rintro e w1 ⟨v1, rfl, hv1, hb1⟩
  obtain ⟨a1, c1, rfl, ha1⟩ := owns_form hv1
  have HI : Hid (OwInv w w1 (.slice a1 n c1) l 0) := ⟨by rw [ownL_zero, ← HN.out]; exact hv1, hb1⟩
  clear hv1 hb1 HC
  go_wp2_with fail
  go_loopw [10] (fun i wr => ∃ k : Nat, k ≤ n ∧ i = .int .i64 (k : Int) ∧ OwInv w wr (.slice a1 n c1) l k) (fun i _ => n - (intOf i).toNat)
  case atStart => exact ⟨0, Nat.zero_le _, rfl, HI.out⟩
  case round =>
    obtain ⟨k, hk, rfl, inv⟩ := hrel
    have INV := Hid.mk2 inv
    clear inv HI
    by_cases hlt : k < n
    · obtain ⟨g, rfl⟩ := ha1 (by omega)
      have hkl : k < l.length := by rw [← HN.out]; exact hlt
      have k0 : (0 : Int) ≤ (k : Int) := Int.natCast_nonneg _
      have k1 : (k : Int) < (n : Int) := by omega
      have hkl' : k < (ownL l k).length := by rw [ownL_len]; exact hkl
      obtain ⟨q0, q1, q2, q3⟩ := fateCells_get (ownL l k) k hkl'
      rw [ownL_get l k hkl] at q0 q1 q2 q3
      have hrow := INV.out.row
      rw [← HN.out] at hrow
      have x0 := owns_cell hrow rfl _ _ q0
      have x1 := owns_cell hrow rfl _ _ q1
      have x2 := owns_cell hrow rfl _ _ q2
      have x3 := owns_cell hrow rfl _ _ q3
      have HX := Hid.mk2 (And.intro hrow rfl : wr.ownsRow w.heap.size 114 4 (.slice (some ⟨g, 0, none⟩) n c1) n (fateCells (ownL l k)) ∧ 0 = 0)
      have HSET : Hid (fateCells (ownL l (k + 1)) = (fateCells (ownL l k)).set (k * 4 + 3) (.string (shortF l[k]).junk)) := by
        show _ = _
        rw [ownL_succ l k hkl]
        exact fateCells_set _ k _ hkl' (by rw [ownL_get l k hkl]; rfl) (by rw [ownL_get l k hkl]; rfl) (by rw [ownL_get l k hkl]; rfl)
      have HSJ : Hid ((shortF l[k]).junk = mkb ((bl l[k].junk).take 512)) := (rfl : (shortF l[k]).junk = _)
      generalize (shortF l[k]).junk = SJ at *
      generalize l[k] = X at *
      obtain ⟨xi, xk, xc, xj⟩ := X
      simp only [] at x0 x1 x2 x3 HSJ
      clear q0 q1 q2 q3 hrow
      have HHD : Hid (∀ w', Calls Tryz.prog 79 #[.string xj, .int .i64 512] w' fun e w'' => e = .returned (.string SJ) ∧ w' = w'') := fun w' => by rw [HSJ.out]; exact head_any xj 512 w' (Nat.le_refl _)
      have HCL : Hid (∀ w', Calls Tryz.prog 78 #[.string SJ] w' fun e w'' => e = .returned (.string SJ) ∧ Below w'.heap.size w' w'') := fun w' => sclone_any SJ w' (by rw [HSJ.out, mkb_size, List.length_take]; omega)
      go_wp2_with fail
      refine (HHD.out _).mono ?_
      rintro e w2 ⟨rfl, rfl⟩
      go_wp2_with fail
      refine (HCL.out _).mono ?_
      rintro e w3 ⟨rfl, hb3⟩
      have hb13 : Below wr.heap.size wr w3 := Below.next (below_new _ _) hb3
      have hr3 := owns_below HX.out.1 hb13
      have z3 : w3.cell? ⟨g, k * 4 + 3, none⟩ = some (.string xj) := cell_below hb13 x3
      have f3 : w3.frozen? ⟨g, k * 4 + 3, none⟩ = false := hr3.frozenAt _
      have HR3 : Hid (OwInv w (w3.setCell ⟨g, k * 4 + 3, none⟩ (.string SJ)) (.slice (some ⟨g, 0, none⟩) n c1) l (k + 1)) := by
        refine ⟨?_, ?_⟩
        · rw [HSET.out, ← HN.out]; exact (hr3.stored _ _).1
        · have hg : w.heap.size ≤ g := (owns_blk hr3 g rfl).1
          have := Below.next INV.out.bel hb13
          exact ⟨this.os, this.tape, this.output, by have := this.size; simpa [World.setCell] using this, fun j hj => (set_other (by omega)).trans (this.block j hj)⟩
      clear hr3 hb13 hb3 x0 x1 x2 x3 HX HHD HCL INV
      go_wp2_with fail
      refine ⟨⟨k + 1, by omega, by simp, HR3.out⟩, ?_⟩
      simp only [intOf]
      omega
    · have k1 : ¬ (k : Int) < (n : Int) := by omega
      have HL : Hid (wr.ownsRow w.heap.size 114 4 (.slice a1 n c1) n (fateCells (l.map shortF)) ∧ Below w.heap.size w wr) := by
        refine ⟨?_, INV.out.bel⟩
        have := INV.out.row
        rw [show k = l.length by rw [← HN.out]; omega, ownL_all, ← HN.out] at this
        exact this
      clear INV
      go_wp2_with fail
      go_wp2_with fail
      go_ret
      exact ⟨_, rfl, HL.out⟩




set_option maxRecDepth 100000 in
set_option maxHeartbeats 1600000 in
theorem armI_any (b : Nat) (F : Nat → Prop) (d : Dev) (w : World) (h : DevAt w b F d) (n : Int) (l : List Fate) (fv : Value) (hl : FatesIn w fv l) (_hb : l.length ≤ 3518437208883) (hn : n < 9223372036854775808) (ha : (d.arms.length + 1) * 32 ≤ 140737488355328) :
    Calls Tryz.prog 28 #[.pointer (some ⟨b, 0, none⟩), .int .i64 n, fv] w fun e w' => e = .returned (.tuple #[]) ∧ DevPost w b F (d.arm n l) w' := by
  obtain ⟨mb, nb, pv, av, Dn, h⟩ := h
  have c4 : w.cell? ⟨b, 4, none⟩ = some av := h.cell 4
  have f4 : w.frozen? ⟨b, 4, none⟩ = false := h.frozen 4
  have HH := Hid.mk2 h
  have HLT := Hid.mk2 h.lt
  have HAR := Hid.mk2 h.arms
  have HOW : Hid (∀ w', Below w.heap.size w w' → Calls Tryz.prog 58 #[fv] w' fun e w'' => ∃ v', e = .returned v' ∧ w''.ownsRow w'.heap.size 114 4 v' l.length (fateCells (l.map shortF)) ∧ Below w'.heap.size w' w'') := fun w' hb' => ownfI_any l fv w' (hl.keep hb') _hb
  obtain ⟨fa, fc, _, _, rfl, -⟩ := hl
  obtain ⟨va, vn, vc, rfl⟩ : ∃ va vn vc, av = .slice va vn vc := by
    rcases h.arms with ⟨_, h2⟩ | ⟨g, off, cap, cur, fv, h2, _⟩
    · exact ⟨_, _, _, h2⟩
    · exact ⟨_, _, _, h2⟩
  have HLL : Hid (l.length = (l.map shortF).length) := by simp [Hid]
  have HB4 : Hid (∀ wa w2 g2, Below w.heap.size w wa → ArmStep wa w2 F g2 → w2.cell? ⟨b, 4, none⟩ = some (.slice va vn vc) ∧ w2.frozen? ⟨b, 4, none⟩ = false) := fun wa w2 g2 hb1 hs1 => by
    have hs := hs1.after hb1
    have hb2 : w2.heap[b]? = _ := (hs.block b (HH.out.lt b HH.out.fb) (fun e => by
      obtain ⟨_, cur, hc⟩ := hs.at' (by have := HH.out.lt b HH.out.fb; omega)
      have := HH.out.blk
      rw [e, hc] at this
      simp at this)).trans HH.out.blk
    exact ⟨by rw [cell_of_row _ _ _ _ _ _ hb2]; rfl, frozen_cells hb2⟩
  have HEND : Hid (∀ wa w2 g2 v', Below w.heap.size w wa → ArmStep wa w2 F g2 → ArmsAt w2 (fun k => F k ∨ (w.heap.size ≤ k ∧ k < w2.heap.size)) v' (d.arms ++ [⟨max n 0, l.map shortF⟩]) → DevPost w b F (d.arm n l) (w2.setCell ⟨b, 4, none⟩ v')) := fun wa w2 g2 v' hb1 hs1 ha1 => by
    obtain ⟨hx, hy⟩ := HH.out.armed (Nat.le_refl _) (Nat.le_refl _) ha1 (hs1.after hb1) (by simp only []; omega)
    have e : d.arm n l = { d with arms := d.arms ++ [⟨max n 0, l.map shortF⟩] } := by
      unfold Dev.arm
      rw [show (if n < 0 then 0 else n) = max n 0 by split <;> omega]
    rw [e]
    exact ⟨_, ⟨_, _, _, _, _, hx⟩, hy⟩
  have HZ4 : Hid (∀ w1 v1, Below w.heap.size w w1 → (w1.alloc (.cells #[.int .i64 (max n 0), v1] 95)).cell? ⟨b, 4, none⟩ = some (.slice va vn vc)) := fun w1 v1 hb1 => cell_below (below_new w1 _) (cell_below hb1 c4)
  clear h
  go_enter Tryz.func28, Tryz.ntmps28
  go_wp2_with fail
  go_region_law
    (first
      | (refine step_ownf _ (by rfl) _ (.slice fa l.length fc) (by rfl) (by rfl) ((HOW.out _ (by first | exact bdrew1 (Below.refl _ _) | exact Below.refl _ _)).mono ?_); rintro e w1 ⟨v1, rfl, hv1, hbd1⟩; have hb1 : Below w.heap.size w w1 := (by first | exact hbd1 | exact undrew hbd1); have HV1 := Hid.mk2 hv1; have HB1 := Hid.mk2 hb1; obtain ⟨a1, q1, rfl, -⟩ := owns_form hv1; have u4 := cell_below hb1 c4; have z4 := HZ4.out w1 (.slice a1 l.length q1) hb1; clear hbd1 hb1 hv1; refine ⟨_, rfl, ?_⟩)
      | (refine step_append_arm _ (by rfl) _ _ (by rfl) (.slice va vn vc) d.arms F (by rfl) (by exact HAR.out.below fun k hk => (alloc_old (Nat.lt_of_lt_of_le (HLT.out k hk) HB1.out.size)).trans (HB1.out.block k (HLT.out k hk))) w1.heap.size w.heap.size (max n 0) (l.map shortF) (.slice a1 l.length q1) (by rfl) (by exact heap_alloc_new w1 _) (by rw [← HLL.out]; exact HV1.out.alloc _) (by have := HB1.out.size; simp; omega) ha ?_; intro g2 off2 cap2 w2 hA2 hS2; have hbb := HB4.out _ w2 g2 (HB1.out.alloc HB1.out.size _) hS2; have HPO := Hid.mk2 (HEND.out _ w2 g2 _ (HB1.out.alloc HB1.out.size _) hS2 hA2); have hx4 := hbb.1; have hf4 := hbb.2; clear hbb hA2 hS2))
  all_goals
    go_wp2_with fail
    go_end0
    exact ⟨rfl, HPO.out⟩




end Go.Proofs.YtlopimdnjookeabGreatDoor.V

namespace Go.Proofs.YtlopimdnjookeabGreatDoor.V
open Go.RowKit Go.Maps

/-- A list of fates that can be read, wherever it lies. -/
def FatesR (w : World) (v : Value) : Prop := ∃ a m c, v = .slice a m c ∧ m ≤ 9223372036854775807 ∧ ∀ k, k < m → ∃ g off fi fk fc fj, a = some ⟨g, off, none⟩ ∧ g < w.heap.size ∧
  w.cell? ⟨g, off + k * 4, none⟩ = some (.int .i64 fi) ∧ w.cell? ⟨g, off + k * 4 + 1, none⟩ = some (.int .i64 fk) ∧ w.cell? ⟨g, off + k * 4 + 2, none⟩ = some (.int .i64 fc) ∧ w.cell? ⟨g, off + k * 4 + 3, none⟩ = some (.string fj)
theorem FatesR.below {w w' : World} {v : Value} (h : FatesR w v) (hb : Below w.heap.size w w') : FatesR w' v := by
  obtain ⟨a, m, c, hv, hm, h⟩ := h
  refine ⟨a, m, c, hv, hm, fun k hk => ?_⟩
  obtain ⟨g, off, fi, fk, fc, fj, ha, hg, h0, h1, h2, h3⟩ := h k hk
  exact ⟨g, off, fi, fk, fc, fj, ha, Nat.lt_of_lt_of_le hg hb.size, (hb.cell hg).trans h0, (hb.cell hg).trans h1, (hb.cell hg).trans h2, (hb.cell hg).trans h3⟩

set_option maxRecDepth 100000 in
set_option maxHeartbeats 1600000 in
theorem settle_none (w : World) (b : Nat) (F : Nat → Prop) (d : Dev) (h : DevAt w b F d) (hp : d.pend = []) (fv : Value) (hl : FatesR w fv) :
    Calls Tryz.prog 56 #[.pointer (some ⟨b, 0, none⟩), fv] w fun e w' => e = .returned (.tuple #[]) ∧ ∃ F', DevAt w' b F' d ∧ Step F F' w w' := by
  obtain ⟨i0, hi, hz0, hz1, hz2⟩ := info_parts Tryz.info4
  have HD := (show Hid (DevAt w b F d) from h)
  obtain ⟨fa, m, fc, rfl, hm, hl⟩ := hl
  have HLL : Hid (∀ k, k < m → ∃ g off fi fk fc fj, fa = some ⟨g, off, none⟩ ∧ g < w.heap.size ∧ w.cell? ⟨g, off + k * 4, none⟩ = some (.int .i64 fi) ∧ w.cell? ⟨g, off + k * 4 + 1, none⟩ = some (.int .i64 fk) ∧ w.cell? ⟨g, off + k * 4 + 2, none⟩ = some (.int .i64 fc) ∧ w.cell? ⟨g, off + k * 4 + 3, none⟩ = some (.string fj)) := hl
  obtain ⟨mb, nb, pv, av, Dn, h⟩ := h
  have c2 : w.cell? ⟨b, 2, none⟩ = some pv := h.cell 2
  obtain ⟨pa, pc, rfl, hpa⟩ := owns_form h.pend
  rw [hp] at c2
  have HPE : Hid (d.pend = []) := hp
  have HSAME : Hid ({ d with pend := [] } = d) := by show _ = _; rw [← hp]
  simp only [List.length_nil] at c2
  clear h hl hp hpa
  go_enter Tryz.func56, Tryz.ntmps56
  go_wp2_with (first
    | (at_make; refine wpList_make_full _ rfl _ _ 112 rfl 0 4 i0 (.bool false) 1 Tryz.underlying112 hi hz0 hz1 .i64 .i64 _ _ 0 rfl rfl rfl rfl ?c1 ?c2 (Nat.zero_le _) ?_))
  case c1 => rw [hz2]; omega
  case c2 => unfold maxLen; omega
  intro w1 hrow1 hg1
  have HB1 : Hid (Below w.heap.size w w1) := ⟨hg1.os, hg1.tape, hg1.output, hg1.size, fun k hk => hg1.block k hk (by simp)⟩
  clear hrow1 hg1 c2
  go_wp2_with fail
  go_loopw [15] (fun i wr => ∃ k : Nat, k ≤ m ∧ i = .int .i64 (k : Int) ∧ Below w.heap.size w wr) (fun i _ => m - (intOf i).toNat)
  case atStart => exact ⟨0, Nat.zero_le _, rfl, HB1.out⟩
  case round =>
    obtain ⟨k, hk, rfl, hbr⟩ := hrel
    have HBR : Hid (Below w.heap.size w wr) := hbr
    clear hbr HB1
    by_cases hlt : k < m
    · obtain ⟨g, off, fi, fk, fc', fj, rfl, hg, h0, h1, h2, h3⟩ := HLL.out k hlt
      have a0 : wr.cell? ⟨g, off + k * 4, none⟩ = some (.int .i64 fi) := (HBR.out.cell hg).trans h0
      have a1 : wr.cell? ⟨g, off + k * 4 + 1, none⟩ = some (.int .i64 fk) := (HBR.out.cell hg).trans h1
      have a2 : wr.cell? ⟨g, off + k * 4 + 2, none⟩ = some (.int .i64 fc') := (HBR.out.cell hg).trans h2
      have a3 : wr.cell? ⟨g, off + k * 4 + 3, none⟩ = some (.string fj) := (HBR.out.cell hg).trans h3
      clear h0 h1 h2 h3
      have HB2 : Hid (Below w.heap.size w (wr.alloc (.cells #[.int .i64 fi, .int .i64 fk, .int .i64 fc', .string fj] 114))) := HBR.out.trans ((below_new wr _).mono HBR.out.size)
      rcases (show fi < 0 ∨ 0 ≤ fi by omega) with g0 | g0
      · have hd1 : decide (fi < 0) = true := decide_eq_true g0
        go_wp2_with fail
        go_roundw
        case rel => exact ⟨k + 1, by omega, by go_num, HB2.out⟩
        case measure => simp [intOf]; omega
      · have hd1 : decide (fi < 0) = false := decide_eq_false (by omega)
        have hd2 : decide ((0 : Int) ≤ fi) = true := decide_eq_true g0
        go_wp2_with fail
        go_roundw
        case rel => exact ⟨k + 1, by omega, by go_num, HB2.out⟩
        case measure => simp [intOf]; omega
    · have D := drop_any b F d wr (HD.out.below HBR.out)
      rw [HSAME.out] at D
      have HDR : Hid (Calls Tryz.prog 52 #[.pointer (some ⟨b, 0, none⟩)] wr fun e w' => e = .returned (.tuple #[]) ∧ DevAt w' b (fun k => F k ∨ k = wr.heap.size) d ∧ Step F (fun k => F k ∨ k = wr.heap.size) wr w') := D
      clear D
      go_wp2_with fail
      refine Calls.mono HDR.out ?_
      rintro e w2 ⟨rfl, hd2, hs2⟩
      have HF : Hid (∃ F', DevAt w2 b F' d ∧ Step F F' w w2) := ⟨_, hd2, (Step.of_below HBR.out).trans hs2⟩
      clear hd2 hs2
      go_wp2_with fail
      go_end0
      exact ⟨rfl, HF.out⟩

set_option maxHeartbeats 400000 in
/-- A failure of the power over a device with nothing pending. -/
theorem crash_none (b : Nat) (F : Nat → Prop) (d : Dev) (w : World) (h : DevAt w b F d) (hp : d.pend = []) (hdead : d.dead = false) (fv : Value) (hl : FatesR w fv) :
    Calls Tryz.prog 24 #[.pointer (some ⟨b, 0, none⟩), fv] w fun e w' => e = .returned (.tuple #[]) ∧ DevPost w b F { d with dead := true } w' := by
  have S := settle_none w b F d h hp fv hl
  have HS : Hid (Calls Tryz.prog 56 #[.pointer (some ⟨b, 0, none⟩), fv] w fun e w' => e = .returned (.tuple #[]) ∧ ∃ F', DevAt w' b F' d ∧ Step F F' w w') := S
  obtain ⟨mb, nb, pv, av, Dn, h⟩ := h
  have c5 : w.cell? ⟨b, 5, none⟩ = some (.bool d.dead) := h.cell 5
  obtain ⟨fa, m, fc, rfl, hm, -⟩ := hl
  rw [hdead] at c5
  clear S h
  go_enter Tryz.func24, Tryz.ntmps24
  go_wp2_with fail
  refine HS.out.mono ?_
  rintro e w1 ⟨rfl, F1, h1, s1⟩
  have hok := h1.ok
  obtain ⟨mb1, nb1, pv1, av1, Dn1, h1⟩ := h1
  have k5 : w1.cell? ⟨b, 5, none⟩ = some (.bool d.dead) := h1.cell 5
  have f5 := h1.frozen 5
  obtain ⟨h2, s2⟩ := h1.set (d' := { d with dead := true }) 5 (.bool true) rfl rfl rfl rfl ⟨hok.s0, hok.s1, hok.dur, hok.rise, hok.pend, hok.arms⟩
  have HH : Hid (DevBody (w1.setCell ⟨b, 5, none⟩ (.bool true)) b F1 { d with dead := true } mb1 nb1 pv1 av1 Dn1 ∧ Step F1 F1 w1 (w1.setCell ⟨b, 5, none⟩ (.bool true))) := ⟨h2, s2⟩
  have HS1 : Hid (Step F F1 w w1) := s1
  clear HS h1 h2 s2 s1 hok
  go_wp2_with fail
  go_end0
  exact ⟨rfl, F1, ⟨_, _, _, _, _, HH.out.1⟩, HS1.out.trans HH.out.2⟩

end Go.Proofs.YtlopimdnjookeabGreatDoor.V

namespace Go.Proofs.YtlopimdnjookeabGreatDoor.V
open Go.RowKit Go.Maps

theorem allZ_zsec {t : ByteArray} (h : t.size = 512) (hz : allZ t = true) : t = zsec := by
  apply bl_inj
  rw [zsec, bl_mkb]
  have := of_decide_eq_true hz
  rw [h] at this
  exact this
theorem find_ins {x : Sec} {j : Int} : ∀ {l : List Sec}, (∀ y ∈ l, y.ix ≠ x.ix) → (insD x l).find? (fun y => decide (y.ix = j)) = if x.ix = j then some x else l.find? (fun y => decide (y.ix = j))
  | [], _ => by unfold insD; rw [List.find?_cons]; by_cases hx : x.ix = j <;> simp [hx]
  | y :: r, h => by
    unfold insD
    split
    · rw [List.find?_cons]; by_cases hx : x.ix = j <;> simp [hx]
    · rw [List.find?_cons, find_ins (fun z hz => h z (by simp [hz]))]
      by_cases hx : x.ix = j
      · have hy : y.ix ≠ j := fun e => h y (by simp) (e.trans hx.symm)
        simp [hx, hy]
      · simp [hx, List.find?_cons]
theorem find_drop {i j : Int} : ∀ l : List Sec, (dropD i l).find? (fun y => decide (y.ix = j)) = if i = j then none else l.find? (fun y => decide (y.ix = j))
  | [] => by simp [dropD]
  | y :: r => by
    have ih := find_drop (i := i) (j := j) r
    unfold dropD at ih ⊢
    rw [List.filter_cons]
    by_cases hy : y.ix = i
    · simp only [hy, ne_eq, not_true_eq_false, decide_false, Bool.false_eq_true, if_false, ih, List.find?_cons]
      by_cases hij : i = j <;> simp [hij]
    · simp only [ne_eq, hy, not_false_eq_true, decide_true, if_true, List.find?_cons, ih]
      by_cases hyj : y.ix = j
      · have : i ≠ j := fun e => hy (hyj.trans e.symm)
        simp [hyj, this]
      · simp [hyj]
theorem lasting_set (l : List Sec) (i j : Int) (t : ByteArray) (ht : t.size = 512) : lasting (setD l i t) j = if i = j then t else lasting l j := by
  unfold lasting setD
  cases hz : allZ t
  · rw [if_neg (by simp), find_ins (fun y hy => (dropD_mem hy).2), find_drop]
    by_cases h : i = j <;> simp [h]
  · rw [if_pos rfl, find_drop]
    by_cases h : i = j
    · simp [h, (allZ_zsec ht hz).symm]
    · simp [h]

theorem sync_chunks (dur : List Sec) (a : Int) (p : List UInt8) (hl : p.length = 4096) : ∀ n : Nat, n ≤ 8 → ∀ j : Int, lasting (syncD dur (chunks a p n)) j = if a ≤ j ∧ j < a + n then mkb ((p.drop ((j - a).toNat * 512)).take 512) else lasting dur j := by
  intro n
  induction n with
  | zero =>
    intro _ j
    rw [if_neg (by omega)]; rfl
  | succ n ih =>
    intro hn j
    have hs : (mkb ((p.drop (n * 512)).take 512)).size = 512 := by rw [mkb_size, List.length_take, List.length_drop]; omega
    rw [chunks_succ, syncD_snoc, chunk, lasting_set _ _ _ _ hs, ih (by omega) j]
    by_cases h1 : a + (n : Int) = j
    · subst h1
      rw [if_pos rfl, if_pos ⟨by omega, by omega⟩, show (a + (n : Int) - a).toNat = n by omega]
    · rw [if_neg h1]
      by_cases h2 : a ≤ j ∧ j < a + (n : Int)
      · rw [if_pos h2, if_pos ⟨h2.1, by omega⟩]
      · rw [if_neg h2, if_neg (by omega)]
theorem flat_chunks (p : List UInt8) : ∀ n : Nat, (List.range n).flatMap (fun i : Nat => (p.drop (i * 512)).take 512) = p.take (n * 512) := by
  intro n
  induction n with
  | zero => simp
  | succ n ih =>
    rw [List.range_succ, List.flatMap_append, ih, Nat.succ_mul, List.take_add]
    simp
theorem readB_dur (d : Dev) (hp : d.pend = []) (s : Int) (n : Nat) : readB d s n = (List.range n).flatMap fun i : Nat => bl (lasting d.dur (s + (i : Int))) := by
  unfold readB standing
  rw [hp]; rfl

end Go.Proofs.YtlopimdnjookeabGreatDoor.V
