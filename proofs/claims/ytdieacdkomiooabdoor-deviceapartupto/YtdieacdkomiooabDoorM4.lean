import Derived.Test.YtdieacdkomiooabDoorGF
namespace Go.Proofs.YtdieacdkomiooabDoor
open Go.RowKit Go.Maps

theorem Tryd.info4 : (Tryd.prog.info? 4).map (fun i => (i.zero, i.size, i.bytes)) = some (some (.bool false), 1, 1) := by kernel_rfl
def settleStep (pend : List Sec) (s : List Int × List Sec) (f : Fate) : List Int × List Sec :=
  if f.ix < 0 ∨ (pend.length : Int) ≤ f.ix ∨ f.ix ∈ s.1 then s else (f.ix :: s.1, meetD pend s.2 f)
theorem settle_fold (pend : List Sec) : ∀ (l : List Fate) (seen : List Int) (dur : List Sec), settleD pend seen dur l = (l.foldl (settleStep pend) (seen, dur)).2
  | [], _, _ => rfl
  | f :: r, seen, dur => by
    rw [List.foldl_cons, settleD]
    by_cases h : f.ix < 0 ∨ (pend.length : Int) ≤ f.ix ∨ f.ix ∈ seen
    · rw [if_pos h, show settleStep pend (seen, dur) f = (seen, dur) by unfold settleStep; rw [if_pos h]]
      exact settle_fold pend r seen dur
    · rw [if_neg h, show settleStep pend (seen, dur) f = (f.ix :: seen, meetD pend dur f) by unfold settleStep; rw [if_neg h]]
      exact settle_fold pend r _ _
def boolRow (n : Nat) (seen : List Int) : List Value := (List.range n).map fun j : Nat => .bool (decide ((j : Int) ∈ seen))
theorem boolRow_len (n : Nat) (seen : List Int) : (boolRow n seen).length = n := by simp [boolRow]
theorem boolRow_get (n : Nat) (seen : List Int) (j : Nat) (h : j < n) : (boolRow n seen)[j]? = some (.bool (decide ((j : Int) ∈ seen))) := by simp [boolRow, h]
theorem boolRow_set (n : Nat) (seen : List Int) (j : Nat) (h : j < n) : (boolRow n seen).set j (.bool true) = boolRow n ((j : Int) :: seen) := by
  apply List.ext_getElem?
  intro k
  by_cases hk : k < n
  · rw [boolRow_get n _ k hk, List.getElem?_set]
    by_cases e : j = k
    · subst e; simp [boolRow_len, h]
    · have : (k : Int) ≠ (j : Int) := by omega
      simp [e, boolRow_get n _ k hk, this]
  · rw [List.getElem?_eq_none (by rw [List.length_set, boolRow_len]; omega), List.getElem?_eq_none (by rw [boolRow_len]; omega)]
theorem boolRow_nil (n : Nat) : (madeCells #[Value.bool false] n).toList = boolRow n [] := by
  simp [madeCells, boolRow, Nat.mod_one]
theorem secOk_of {d : Dev} (h : d.Ok) {j : Nat} (hj : j < d.pend.length) : SecOk d.size d.pend[j] := h.pend _ (List.getElem_mem hj)
theorem meetD_X (pend dur : List Sec) (f : Fate) (j : Nat) (hj : j < pend.length) (hf : f.ix = (j : Int)) : meetD pend dur f = meetX dur pend[j] f := by
  unfold meetD
  rw [hf]
  simp only [Int.toNat_natCast, List.getElem?_eq_getElem hj]
  rfl
theorem take_next' {α : Type} (l : List α) (k : Nat) (h : k < l.length) : l.take (k + 1) = l.take k ++ [l[k]] := by rw [List.take_succ_eq_append_getElem h]

/-- What settle's loop holds. -/
structure SetInv (w wr : World) (b : Nat) (F : Nat → Prop) (d : Dev) (l : List Fate) (mb nb sb : Nat) (pv av : Value) (Dn : DataW Unit) (k : Nat) (s : List Int × List Sec) : Prop where
  eq : s = (l.take k).foldl (settleStep d.pend) ([], d.dur)
  body : DevBody wr b F { d with dur := s.2 } mb nb pv av Dn
  row : wr.ownsRow 0 4 1 (.slice (some ⟨sb, 0, none⟩) d.pend.length d.pend.length) d.pend.length (boolRow d.pend.length s.1)
  keep : ∀ i, i < w.heap.size → i ≠ mb → wr.heap[i]? = w.heap[i]?
  step : Step F F w wr

set_option maxRecDepth 100000 in
set_option maxHeartbeats 1600000 in
theorem settle_body {w : World} {b : Nat} {F : Nat → Prop} {d : Dev} {mb nb : Nat} {pv av : Value} {Dn : DataW Unit} (h : DevBody w b F d mb nb pv av Dn) (l : List Fate) (fv : Value) (hl : w.ownsRow 0 92 4 fv l.length (fateCells l)) (hp : d.pend.length ≤ 140737488355328) :
    Calls Tryd.prog 43 #[.pointer (some ⟨b, 0, none⟩), fv] w fun e w' => e = .returned (.tuple #[]) ∧ ∃ F', DevAt w' b F' { d with dur := settleD d.pend [] d.dur l, pend := [] } ∧ Step F F' w w' := by
  obtain ⟨i0, hi, hz0, hz1, hz2⟩ := info_parts Tryd.info4
  have c2 : w.cell? ⟨b, 2, none⟩ = some pv := h.cell 2
  obtain ⟨pa, pc, rfl, hpa⟩ := owns_form h.pend
  obtain ⟨fa, fc, rfl, hfa⟩ := owns_form hl
  obtain ⟨n, hn⟩ : ∃ n, n = d.pend.length := ⟨_, rfl⟩
  obtain ⟨m, hm⟩ : ∃ m, m = l.length := ⟨_, rfl⟩
  have hm2 : m ≤ maxLen := by
    rw [hm]
    rcases hl.2 with ⟨h', h0⟩ | ⟨g, cap, cur, h', _, _, h1, h2, _⟩
    · rw [h0]; exact Nat.zero_le _
    · exact Nat.le_trans h1 h2
  unfold maxLen at hm2
  have HN : Hid (n = d.pend.length) := hn
  have HL : Hid (m = l.length) := hm
  have h0 : Hid (DevBody w b F d mb nb (.slice pa n pc) av Dn) := by rw [hn]; exact h
  have hl0 : Hid (w.ownsRow 0 92 4 (.slice fa m fc) m (fateCells l)) := by rw [hm]; exact hl
  rw [← hn] at c2 hp hpa
  rw [← hm] at hfa ⊢
  clear h hl hn hm
  go_enter Tryd.func43, Tryd.ntmps43
  go_wp2_with (first
    | (at_make; refine wpList_make_full _ rfl _ _ 127 rfl 0 4 i0 (.bool false) 1 Tryd.underlying127 hi hz0 hz1 .i64 .i64 _ _ n rfl rfl rfl rfl ?c1 ?c2 (Nat.zero_le _) ?_))
  case c1 => rw [hz2]; omega
  case c2 => unfold maxLen; omega
  intro w1 hrow1 hg1
  rw [boolRow_nil] at hrow1
  have hb1 : Below w.heap.size w w1 := ⟨hg1.os, hg1.tape, hg1.output, hg1.size, fun k hk => hg1.block k hk (by simp)⟩
  have HI : Hid (SetInv w w1 b F d l mb nb w.heap.size (.slice pa n pc) av Dn 0 ([], d.dur)) := ⟨rfl, h0.out.alloc hb1, by rw [← HN.out]; exact hrow1, fun i hi _ => hb1.block i hi, Step.of_below hb1⟩
  clear hrow1 hg1 hb1 c2
  go_wp2_with fail
  go_loopw [15] (fun i wr => ∃ k s, k ≤ m ∧ i = .int .i64 (k : Int) ∧ SetInv w wr b F d l mb nb w.heap.size (.slice pa n pc) av Dn k s) (fun i _ => m - (intOf i).toNat)
  case atStart => exact ⟨0, _, Nat.zero_le _, rfl, HI.out⟩
  case round =>
    obtain ⟨k, s, hk, rfl, inv⟩ := hrel
    have INV : Hid (SetInv w wr b F d l mb nb w.heap.size (.slice pa n pc) av Dn k s) := inv
    clear inv
    by_cases hlt : k < m
    · obtain ⟨g, rfl⟩ := hfa (by omega)
      have hkl : k < l.length := by rw [← HL.out]; exact hlt
      obtain ⟨f, hf⟩ : ∃ f, f = l[k] := ⟨_, rfl⟩
      have HF : Hid (f = l[k]) := hf
      have hfb := fun i u hu => owns_cell hl0.out rfl i u hu
      obtain ⟨f0, f1, f2, f3⟩ := fateCells_get l k hkl
      rw [← hf] at f0 f1 f2 f3
      clear hf
      have hgm : g ≠ mb := by
        obtain ⟨_, _, cur, hcur⟩ := owns_blk hl0.out g rfl
        exact map_ne_cells h0.out.mapD hcur
      have keep : ∀ i u, w.cell? ⟨g, i, none⟩ = some u → wr.cell? ⟨g, i, none⟩ = some u := fun i u hu => (World.cell?_of_block (a := ⟨g, i, none⟩) (INV.out.keep g (World.block_lt_of_cell? w _ hu) hgm)).trans hu
      have a0 := keep _ _ (hfb _ _ f0)
      have a1 := keep _ _ (hfb _ _ f1)
      have a2 := keep _ _ (hfb _ _ f2)
      have a3 := keep _ _ (hfb _ _ f3)
      clear f0 f1 f2 f3 hfb keep
      obtain ⟨fi, fk, fc', fj⟩ := f
      simp only [] at a0 a1 a2 a3
      have hb2 : Below wr.heap.size wr (wr.alloc (.cells #[.int .i64 fi, .int .i64 fk, .int .i64 fc', .string fj] 92)) := below_new wr _
      have hI2 : ∀ s', s' = settleStep d.pend s ⟨fi, fk, fc', fj⟩ → s' = s → SetInv w (wr.alloc (.cells #[.int .i64 fi, .int .i64 fk, .int .i64 fc', .string fj] 92)) b F d l mb nb w.heap.size (.slice pa n pc) av Dn (k + 1) s' := fun s' h1 h2 => by
        have v := INV.out
        refine ⟨?_, by rw [h2]; exact v.body.alloc hb2, by rw [h2]; exact owns_below v.row hb2, fun i hi hn => (hb2.block i (Nat.lt_of_lt_of_le hi v.step.size)).trans (v.keep i hi hn), v.step.trans (Step.of_below hb2)⟩
        rw [take_next' l k hkl, List.foldl_append, ← v.eq, ← HF.out, h1]
        rfl
      have HI2 : Hid (∀ s', s' = settleStep d.pend s ⟨fi, fk, fc', fj⟩ → s' = s → SetInv w (wr.alloc (.cells #[.int .i64 fi, .int .i64 fk, .int .i64 fc', .string fj] 92)) b F d l mb nb w.heap.size (.slice pa n pc) av Dn (k + 1) s') := hI2
      clear hI2 hb2
      rcases (show fi < 0 ∨ 0 ≤ fi by omega) with g0 | g0
      · have hd1 : decide (fi < 0) = true := decide_eq_true g0
        go_wp2_with fail
        go_roundw
        case rel => exact ⟨k + 1, _, by omega, by go_num, HI2.out s (by unfold settleStep; rw [if_pos (.inl g0)]) rfl⟩
        case measure => simp [intOf]; omega
      · have hd1 : decide (fi < 0) = false := decide_eq_false (by omega)
        rcases (show (n : Int) ≤ fi ∨ fi < (n : Int) by omega) with g1 | g1
        · have hd2 : decide ((n : Int) ≤ fi) = true := decide_eq_true g1
          go_wp2_with fail
          go_roundw
          case rel => exact ⟨k + 1, _, by omega, by go_num, HI2.out s (by unfold settleStep; rw [if_pos (.inr (.inl (by rw [← HN.out]; exact g1)))]) rfl⟩
          case measure => simp [intOf]; omega
        · have hd2 : decide ((n : Int) ≤ fi) = false := decide_eq_false (by omega)
          obtain ⟨j, rfl⟩ : ∃ j : Nat, fi = (j : Int) := ⟨fi.toNat, by omega⟩
          have hj : j < n := by omega
          have q0 : wr.cell? ⟨w.heap.size, j, none⟩ = some (.bool (decide ((j : Int) ∈ s.1))) := owns_cell INV.out.row rfl j _ (boolRow_get _ _ j (by rw [← HN.out]; exact hj))
          have hd3 : decide (n ≤ j) = false := decide_eq_false (by omega)
          by_cases hs : (j : Int) ∈ s.1
          · rw [decide_eq_true hs] at q0
            have q1 := cell_below (below_new wr (.cells #[.int .i64 (j : Int), .int .i64 fk, .int .i64 fc', .string fj] 92)) q0
            go_wp2_with fail
            go_roundw
            case rel => exact ⟨k + 1, _, by omega, by go_num, HI2.out s (by unfold settleStep; rw [if_pos (.inr (.inr hs))]) rfl⟩
            case measure => simp [intOf]; omega
          · rw [decide_eq_false hs] at q0
            have q1 := cell_below (below_new wr (.cells #[.int .i64 (j : Int), .int .i64 fk, .int .i64 fc', .string fj] 92)) q0
            obtain ⟨cur, hcur⟩ : ∃ cur, wr.heap[w.heap.size]? = some (.cells cur 4 (0, 0)) := by
              obtain ⟨_, _, cur, hcur⟩ := owns_blk INV.out.row w.heap.size rfl
              exact ⟨cur, hcur⟩
            have hwr : w.heap.size < wr.heap.size := (Array.getElem?_eq_some_iff.1 hcur).1
            have z1 : (wr.alloc (.cells #[.int .i64 (j : Int), .int .i64 fk, .int .i64 fc', .string fj] 92)).frozen? ⟨w.heap.size, j, none⟩ = false := by
              unfold World.frozen?
              rw [show (wr.alloc _).heap[(⟨w.heap.size, j, none⟩ : Addr).block]? = _ from ((below_new wr _).block w.heap.size hwr).trans hcur]
              simp
            have HS : Hid (¬ (j : Int) ∈ s.1) := hs
            clear hs
            obtain ⟨w3, hw3⟩ : ∃ w3, w3 = (wr.setCell ⟨w.heap.size, j, none⟩ (.bool true)).alloc (.cells #[.int .i64 (j : Int), .int .i64 fk, .int .i64 fc', .string fj] 92) := ⟨_, rfl⟩
            have hne : ∀ i, i < wr.heap.size → i ≠ w.heap.size → w3.heap[i]? = wr.heap[i]? := fun i hi hn => by
              rw [hw3, (below_new _ _).block i (by simpa [World.setCell] using hi), Below.heap_setCell wr ⟨w.heap.size, j, none⟩ _ i hn]
            have hs3 : wr.heap.size ≤ w3.heap.size := by rw [hw3]; simp [World.setCell]
            have hos : w3.os = wr.os := by rw [hw3]; rfl
            have htp : w3.tape = wr.tape := by rw [hw3]; rfl
            have hou : w3.output = wr.output := by rw [hw3]; rfl
            have hFw : ∀ i, F i → i ≠ w.heap.size := fun i hi => by have := h0.out.lt i hi; omega
            have B3 : DevBody w3 b F { d with dur := s.2 } mb nb (.slice pa n pc) av Dn := INV.out.body.same (fun i hi => hne i (INV.out.body.lt i hi) (hFw i hi)) hs3
            have hjp : j < d.pend.length := by rw [← HN.out]; exact hj
            have M := meet_body (w := w3.drew) (B3.same (fun _ _ => rfl) (Nat.le_refl _)) d.pend[j] ⟨(j : Int), fk, fc', fj⟩ (secOk_of h0.out.ok hjp)
            obtain ⟨gp, rfl⟩ := hpa (by omega)
            obtain ⟨p0, p1⟩ := secCells_get d.pend j hjp
            have hpend := B3.pend
            simp only [← HN.out] at hpend
            have p0 := owns_cell hpend rfl _ _ p0
            have p1 := owns_cell hpend rfl _ _ p1
            have p2 : w3.cell? ⟨b, 2, none⟩ = some (.slice (some ⟨gp, 0, none⟩) n pc) := B3.cell 2
            obtain ⟨r1, s1⟩ := INV.out.row.stored j (.bool true)
            rw [boolRow_set _ _ j hjp] at r1
            have R3 : w3.ownsRow 0 4 1 (.slice (some ⟨w.heap.size, 0, none⟩) d.pend.length d.pend.length) d.pend.length (boolRow d.pend.length ((j : Int) :: s.1)) := by
              rw [hw3]; exact owns_below r1 (below_new _ _)
            obtain ⟨x, hx⟩ : ∃ x, x = d.pend[j] := ⟨_, rfl⟩
            rw [← hx] at M p0 p1
            have HX : Hid (x = d.pend[j]) := hx
            obtain ⟨xi, xd⟩ := x
            have HM : Hid (Calls Tryd.prog 78 #[.pointer (some ⟨b, 0, none⟩), .agg #[.int .i64 xi, .string xd], .agg #[.int .i64 (j : Int), .int .i64 fk, .int .i64 fc', .string fj]] w3.drew fun e w' => e = .returned (.tuple #[]) ∧ DevBody w' b F { d with dur := meetX s.2 ⟨xi, xd⟩ ⟨(j : Int), fk, fc', fj⟩ } mb nb (.slice (some ⟨gp, 0, none⟩) n pc) av Dn ∧ w3.drew.grownBy w' (some mb)) := M
            have hsz : (wr.setCell ⟨w.heap.size, j, none⟩ (.bool true)).heap.size = wr.heap.size := by simp [World.setCell]
            have hbx := boxed_new (wr.setCell ⟨w.heap.size, j, none⟩ (.bool true)) #[.int .i64 (j : Int), .int .i64 fk, .int .i64 fc', .string fj] 92
            rw [hsz, ← hw3] at hbx
            have t0 : w3.cell? ⟨wr.heap.size, 0, none⟩ = some (.int .i64 (j : Int)) := hbx.2 0 (by simp)
            have t1 : w3.cell? ⟨wr.heap.size, 1, none⟩ = some (.int .i64 fk) := hbx.2 1 (by simp)
            have t2 : w3.cell? ⟨wr.heap.size, 2, none⟩ = some (.int .i64 fc') := hbx.2 2 (by simp)
            have t3 : w3.cell? ⟨wr.heap.size, 3, none⟩ = some (.string fj) := hbx.2 3 (by simp)
            clear hbx hsz
            have n1 : wr.heap.size ≠ mb := by have := INV.out.body.mapD.lt; omega
            have n2 : gp ≠ mb := by
              obtain ⟨_, _, cur', hc'⟩ := owns_blk B3.pend gp rfl
              exact map_ne_cells B3.mapD hc'
            have n3 : b ≠ mb := map_ne_cells B3.mapD B3.blk
            have n4 : w.heap.size ≠ mb := by have := h0.out.mapD.lt; omega
            have HB3 : Hid (DevBody w3 b F { d with dur := s.2 } mb nb (.slice (some ⟨gp, 0, none⟩) n pc) av Dn) := B3
            have HR3 : Hid (w3.ownsRow 0 4 1 (.slice (some ⟨w.heap.size, 0, none⟩) d.pend.length d.pend.length) d.pend.length (boolRow d.pend.length ((j : Int) :: s.1))) := R3
            have HNE : Hid (∀ i, i < wr.heap.size → i ≠ w.heap.size → w3.heap[i]? = wr.heap[i]?) := hne
            clear B3 R3 hne M r1 s1 hpend hx hcur hFw HI2
            go_wp2_with fail
            rw [← hw3]
            clear hw3
            go_region_held3 (fun w' => (w'.cell? ⟨wr.heap.size, 0, none⟩ = some (.int .i64 (j : Int)) ∧ w'.cell? ⟨wr.heap.size, 1, none⟩ = some (.int .i64 fk) ∧ w'.cell? ⟨wr.heap.size, 2, none⟩ = some (.int .i64 fc') ∧ w'.cell? ⟨wr.heap.size, 3, none⟩ = some (.string fj)) ∧ w'.cell? ⟨b, 2, none⟩ = some (.slice (some ⟨gp, 0, none⟩) n pc) ∧ w'.cell? ⟨gp, j * 2, none⟩ = some (.int .i64 xi) ∧ w'.cell? ⟨gp, j * 2 + 1, none⟩ = some (.string xd)) (go_keep)
              (first
                | (go_at_call 78; refine HM.out.mono ?_; rintro e w4 ⟨rfl, h4, s4d⟩; have s4 : w3.grownBy w4 (some mb) := ⟨s4d.os, s4d.tape, s4d.output, s4d.size, s4d.block⟩; clear s4d; have y0 := grown_cell s4 t0 n1; have y1 := grown_cell s4 t1 n1; have y2 := grown_cell s4 t2 n1; have y3 := grown_cell s4 t3 n1; have y4 := grown_cell s4 p2 n3; have y5 := grown_cell s4 p0 n2; have y6 := grown_cell s4 p1 n2))
            have hno : ¬ ((j : Int) < 0 ∨ (d.pend.length : Int) ≤ (j : Int) ∨ (j : Int) ∈ s.1) := fun h => h.elim (fun h => by omega) (fun h => h.elim (fun h => by omega) HS.out)
            have V : SetInv w w4 b F d l mb nb w.heap.size (.slice (some ⟨gp, 0, none⟩) n pc) av Dn (k + 1) ((j : Int) :: s.1, meetX s.2 ⟨xi, xd⟩ ⟨(j : Int), fk, fc', fj⟩) := by
              have v := INV.out
              refine ⟨?_, h4, owns_block HR3.out fun i hi => ?_, fun i hi hn => ?_, ?_⟩
              · rw [take_next' l k hkl, List.foldl_append, ← v.eq, ← HF.out]
                show _ = settleStep d.pend s _
                unfold settleStep
                rw [if_neg hno, meetD_X d.pend s.2 _ j hjp rfl, ← HX.out]
              · simp only [Value.ownBlock, Option.some.injEq] at hi
                subst hi
                exact s4.block _ (owns_blk HR3.out _ rfl).2.1 (by simpa using n4)
              · rw [s4.block i (by omega) (by simpa using hn), HNE.out i (by omega) (by omega), v.keep i hi hn]
              · have hx : Step F F w w4 := ⟨s4.os.trans (hos.trans v.step.os), s4.tape.trans (htp.trans v.step.tape), s4.output.trans (hou.trans v.step.output), by have := v.step.size; have := s4.size; omega, fun i hi hn => by
                    rw [s4.block i (by omega) (fun e => hn (by rw [Option.some.inj e]; exact h0.out.fm)), HNE.out i (by omega) (by omega), v.step.block i hi hn], fun _ h => .inl h⟩
                exact hx
            clear HM HB3 HR3 HNE INV y0 y1 y2 y3 y4 y5 y6 t0 t1 t2 t3 p0 p1 p2 h4 s4 HI
            go_wp2_with fail
            go_roundw
            case rel => exact ⟨k + 1, _, by omega, by go_num, V⟩
            case measure => simp [intOf]; omega
    · have hke : k = m := by omega
      have V := INV.out
      have D := drop_any b F _ wr ⟨_, _, _, _, _, V.body⟩
      have E : s.2 = settleD d.pend [] d.dur l := by
        rw [settle_fold, V.eq, hke, HL.out, List.take_of_length_le (Nat.le_refl _)]
      rw [E] at D
      have HD : Hid (Calls Tryd.prog 77 #[.pointer (some ⟨b, 0, none⟩)] wr fun e w' => e = .returned (.tuple #[]) ∧ DevAt w' b (fun k => F k ∨ k = wr.heap.size) { d with dur := settleD d.pend [] d.dur l, pend := [] } ∧ Step F (fun k => F k ∨ k = wr.heap.size) wr w') := D
      clear D E V HI
      go_wp2_with fail
      refine HD.out.mono ?_
      rintro e w4 ⟨rfl, h4, s4⟩
      go_wp2_with fail
      go_end0
      exact ⟨rfl, _, h4, INV.out.step.trans s4⟩

end Go.Proofs.YtdieacdkomiooabDoor
