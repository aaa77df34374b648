import Derived.Test.YtlopimdnjookeabGreatDoorA2
namespace Go.Proofs.YtlopimdnjookeabGreatDoor.V
open Go.RowKit Go.Maps

theorem Tryz.info4 : (Tryz.prog.info? 4).map (fun i => (i.zero, i.size, i.bytes)) = some (some (.bool false), 1, 1) := by kernel_rfl
def settleStep (pend : List Sec) (s : List Int × List Sec) (f : Fate) : List Int × List Sec :=
  if f.ix < 0 ∨ (pend.length : Int) ≤ f.ix ∨ f.ix ∈ s.1 then s else (f.ix :: s.1, meetD pend s.2 f)
theorem settle_fold (pend : List Sec) : ∀ (l : List Fate) (seen : List Int) (dur : List Sec), settleD pend seen dur l = (l.foldl (settleStep pend) (seen, dur)).2
  | [], _, _ => rfl
  | f :: r, seen, dur => by
    rw [List.foldl_cons, settleD]
    by_cases h : f.ix < 0 ∨ (pend.length : Int) ≤ f.ix ∨ f.ix ∈ seen
    · rw [if_pos h, show settleStep pend (seen, dur) f = (seen, dur) by unfold settleStep; rw [if_pos h]]
      exact settle_fold pend r seen dur
    · rw [if_neg h, show settleStep pend (seen, dur) f = (f.ix :: seen, meetD pend dur f) by unfold settleStep; rw [if_neg h]]
      exact settle_fold pend r _ _
def boolRow (n : Nat) (seen : List Int) : List Value := (List.range n).map fun j : Nat => .bool (decide ((j : Int) ∈ seen))
theorem boolRow_len (n : Nat) (seen : List Int) : (boolRow n seen).length = n := by simp [boolRow]
theorem boolRow_get (n : Nat) (seen : List Int) (j : Nat) (h : j < n) : (boolRow n seen)[j]? = some (.bool (decide ((j : Int) ∈ seen))) := by simp [boolRow, h]
theorem boolRow_set (n : Nat) (seen : List Int) (j : Nat) (h : j < n) : (boolRow n seen).set j (.bool true) = boolRow n ((j : Int) :: seen) := by
  apply List.ext_getElem?
  intro k
  by_cases hk : k < n
  · rw [boolRow_get n _ k hk, List.getElem?_set]
    by_cases e : j = k
    · subst e; simp [boolRow_len, h]
    · have : (k : Int) ≠ (j : Int) := by omega
      simp [e, boolRow_get n _ k hk, this]
  · rw [List.getElem?_eq_none (by rw [List.length_set, boolRow_len]; omega), List.getElem?_eq_none (by rw [boolRow_len]; omega)]
theorem boolRow_nil (n : Nat) : (madeCells #[Value.bool false] n).toList = boolRow n [] := by
  simp [madeCells, boolRow, Nat.mod_one]
theorem secOk_of {d : Dev} (h : d.Ok) {j : Nat} (hj : j < d.pend.length) : SecOk d.size d.pend[j] := h.pend _ (List.getElem_mem hj)
theorem meetD_X (pend dur : List Sec) (f : Fate) (j : Nat) (hj : j < pend.length) (hf : f.ix = (j : Int)) : meetD pend dur f = meetX dur pend[j] f := by
  unfold meetD
  rw [hf]
  simp only [Int.toNat_natCast, List.getElem?_eq_getElem hj]
  rfl
theorem take_next' {α : Type} (l : List α) (k : Nat) (h : k < l.length) : l.take (k + 1) = l.take k ++ [l[k]] := by rw [List.take_succ_eq_append_getElem h]

/-- What settle's loop holds. -/
structure SetInv (w wr : World) (b : Nat) (F : Nat → Prop) (d : Dev) (l : List Fate) (mb nb sb : Nat) (pv av : Value) (Dn : DataW Unit) (k : Nat) (s : List Int × List Sec) : Prop where
  eq : s = (l.take k).foldl (settleStep d.pend) ([], d.dur)
  body : DevBody wr b F { d with dur := s.2 } mb nb pv av Dn
  row : wr.ownsRow 0 4 1 (.slice (some ⟨sb, 0, none⟩) d.pend.length d.pend.length) d.pend.length (boolRow d.pend.length s.1)
  keep : ∀ i, i < w.heap.size → i ≠ mb → wr.heap[i]? = w.heap[i]?
  step : Step F F w wr

set_option maxRecDepth 100000 in
set_option maxHeartbeats 1600000 in
theorem settle_body {w : World} {b : Nat} {F : Nat → Prop} {d : Dev} {mb nb : Nat} {pv av : Value} {Dn : DataW Unit} (h : DevBody w b F d mb nb pv av Dn) (l : List Fate) (fv : Value) (hl : w.ownsRow 0 114 4 fv l.length (fateCells l)) (hp : d.pend.length ≤ 140737488355328) :
    Calls Tryz.prog 56 #[.pointer (some ⟨b, 0, none⟩), fv] w fun e w' => e = .returned (.tuple #[]) ∧ ∃ F', DevAt w' b F' { d with dur := settleD d.pend [] d.dur l, pend := [] } ∧ Step F F' w w' := by
  obtain ⟨i0, hi, hz0, hz1, hz2⟩ := info_parts Tryz.info4
  have c2 : w.cell? ⟨b, 2, none⟩ = some pv := h.cell 2
  obtain ⟨pa, pc, rfl, hpa⟩ := owns_form h.pend
  obtain ⟨fa, fc, rfl, hfa⟩ := owns_form hl
  obtain ⟨n, hn⟩ : ∃ n, n = d.pend.length := ⟨_, rfl⟩
  obtain ⟨m, hm⟩ : ∃ m, m = l.length := ⟨_, rfl⟩
  have hm2 : m ≤ maxLen := by
    rw [hm]
    rcases hl.2 with ⟨h', h0⟩ | ⟨g, cap, cur, h', _, _, h1, h2, _⟩
    · rw [h0]; exact Nat.zero_le _
    · exact Nat.le_trans h1 h2
  unfold maxLen at hm2
  have HN : Hid (n = d.pend.length) := hn
  have HL : Hid (m = l.length) := hm
  have h0 : Hid (DevBody w b F d mb nb (.slice pa n pc) av Dn) := by rw [hn]; exact h
  have hl0 : Hid (w.ownsRow 0 114 4 (.slice fa m fc) m (fateCells l)) := by rw [hm]; exact hl
  rw [← hn] at c2 hp hpa
  rw [← hm] at hfa ⊢
  clear h hl hn hm
  go_enter Tryz.func56, Tryz.ntmps56
  go_wp2_with (first
    | (at_make; refine wpList_make_full _ rfl _ _ 112 rfl 0 4 i0 (.bool false) 1 Tryz.underlying112 hi hz0 hz1 .i64 .i64 _ _ n rfl rfl rfl rfl ?c1 ?c2 (Nat.zero_le _) ?_))
  case c1 => rw [hz2]; omega
  case c2 => unfold maxLen; omega
  intro w1 hrow1 hg1
  rw [boolRow_nil] at hrow1
  have hb1 : Below w.heap.size w w1 := ⟨hg1.os, hg1.tape, hg1.output, hg1.size, fun k hk => hg1.block k hk (by simp)⟩
  have HI : Hid (SetInv w w1 b F d l mb nb w.heap.size (.slice pa n pc) av Dn 0 ([], d.dur)) := ⟨rfl, h0.out.alloc hb1, by rw [← HN.out]; exact hrow1, fun i hi _ => hb1.block i hi, Step.of_below hb1⟩
  clear hrow1 hg1 hb1 c2
  go_wp2_with fail
  go_loopw [15] (fun i wr => ∃ k s, k ≤ m ∧ i = .int .i64 (k : Int) ∧ SetInv w wr b F d l mb nb w.heap.size (.slice pa n pc) av Dn k s) (fun i _ => m - (intOf i).toNat)
  case atStart => exact ⟨0, _, Nat.zero_le _, rfl, HI.out⟩
  case round =>
    obtain ⟨k, s, hk, rfl, inv⟩ := hrel
    have INV : Hid (SetInv w wr b F d l mb nb w.heap.size (.slice pa n pc) av Dn k s) := inv
    clear inv
    by_cases hlt : k < m
    · obtain ⟨g, rfl⟩ := hfa (by omega)
      have hkl : k < l.length := by rw [← HL.out]; exact hlt
      obtain ⟨f, hf⟩ : ∃ f, f = l[k] := ⟨_, rfl⟩
      have HF : Hid (f = l[k]) := hf
      have hfb := fun i u hu => owns_cell hl0.out rfl i u hu
      obtain ⟨f0, f1, f2, f3⟩ := fateCells_get l k hkl
      rw [← hf] at f0 f1 f2 f3
      clear hf
      have hgm : g ≠ mb := by
        obtain ⟨_, _, cur, hcur⟩ := owns_blk hl0.out g rfl
        exact map_ne_cells h0.out.mapD hcur
      have keep : ∀ i u, w.cell? ⟨g, i, none⟩ = some u → wr.cell? ⟨g, i, none⟩ = some u := fun i u hu => (World.cell?_of_block (a := ⟨g, i, none⟩) (INV.out.keep g (World.block_lt_of_cell? w _ hu) hgm)).trans hu
      have a0 := keep _ _ (hfb _ _ f0)
      have a1 := keep _ _ (hfb _ _ f1)
      have a2 := keep _ _ (hfb _ _ f2)
      have a3 := keep _ _ (hfb _ _ f3)
      clear f0 f1 f2 f3 hfb keep
      obtain ⟨fi, fk, fc', fj⟩ := f
      simp only [] at a0 a1 a2 a3
      have hb2 : Below wr.heap.size wr (wr.alloc (.cells #[.int .i64 fi, .int .i64 fk, .int .i64 fc', .string fj] 114)) := below_new wr _
      have hI2 : ∀ s', s' = settleStep d.pend s ⟨fi, fk, fc', fj⟩ → s' = s → SetInv w (wr.alloc (.cells #[.int .i64 fi, .int .i64 fk, .int .i64 fc', .string fj] 114)) b F d l mb nb w.heap.size (.slice pa n pc) av Dn (k + 1) s' := fun s' h1 h2 => by
        have v := INV.out
        refine ⟨?_, by rw [h2]; exact v.body.alloc hb2, by rw [h2]; exact owns_below v.row hb2, fun i hi hn => (hb2.block i (Nat.lt_of_lt_of_le hi v.step.size)).trans (v.keep i hi hn), v.step.trans (Step.of_below hb2)⟩
        rw [take_next' l k hkl, List.foldl_append, ← v.eq, ← HF.out, h1]
        rfl
      have HI2 : Hid (∀ s', s' = settleStep d.pend s ⟨fi, fk, fc', fj⟩ → s' = s → SetInv w (wr.alloc (.cells #[.int .i64 fi, .int .i64 fk, .int .i64 fc', .string fj] 114)) b F d l mb nb w.heap.size (.slice pa n pc) av Dn (k + 1) s') := hI2
      clear hI2 hb2
      rcases (show fi < 0 ∨ 0 ≤ fi by omega) with g0 | g0
      · have hd1 : decide (fi < 0) = true := decide_eq_true g0
        go_wp2_with fail
        go_roundw
        case rel => exact ⟨k + 1, _, by omega, by go_num, HI2.out s (by unfold settleStep; rw [if_pos (.inl g0)]) rfl⟩
        case measure => simp [intOf]; omega
      · have hd1 : decide (fi < 0) = false := decide_eq_false (by omega)
        rcases (show (n : Int) ≤ fi ∨ fi < (n : Int) by omega) with g1 | g1
        · have hd2 : decide ((n : Int) ≤ fi) = true := decide_eq_true g1
          go_wp2_with fail
          go_roundw
          case rel => exact ⟨k + 1, _, by omega, by go_num, HI2.out s (by unfold settleStep; rw [if_pos (.inr (.inl (by rw [← HN.out]; exact g1)))]) rfl⟩
          case measure => simp [intOf]; omega
        · have hd2 : decide ((n : Int) ≤ fi) = false := decide_eq_false (by omega)
          obtain ⟨j, rfl⟩ : ∃ j : Nat, fi = (j : Int) := ⟨fi.toNat, by omega⟩
          have hj : j < n := by omega
          have q0 : wr.cell? ⟨w.heap.size, j, none⟩ = some (.bool (decide ((j : Int) ∈ s.1))) := owns_cell INV.out.row rfl j _ (boolRow_get _ _ j (by rw [← HN.out]; exact hj))
          have hd3 : decide (n ≤ j) = false := decide_eq_false (by omega)
          by_cases hs : (j : Int) ∈ s.1
          · rw [decide_eq_true hs] at q0
            have q1 := cell_below (below_new wr (.cells #[.int .i64 (j : Int), .int .i64 fk, .int .i64 fc', .string fj] 114)) q0
            go_wp2_with fail
            go_roundw
            case rel => exact ⟨k + 1, _, by omega, by go_num, HI2.out s (by unfold settleStep; rw [if_pos (.inr (.inr hs))]) rfl⟩
            case measure => simp [intOf]; omega
          · rw [decide_eq_false hs] at q0
            have q1 := cell_below (below_new wr (.cells #[.int .i64 (j : Int), .int .i64 fk, .int .i64 fc', .string fj] 114)) q0
            obtain ⟨cur, hcur⟩ : ∃ cur, wr.heap[w.heap.size]? = some (.cells cur 4 (0, 0)) := by
              obtain ⟨_, _, cur, hcur⟩ := owns_blk INV.out.row w.heap.size rfl
              exact ⟨cur, hcur⟩
            have hwr : w.heap.size < wr.heap.size := (Array.getElem?_eq_some_iff.1 hcur).1
            have z1 : (wr.alloc (.cells #[.int .i64 (j : Int), .int .i64 fk, .int .i64 fc', .string fj] 114)).frozen? ⟨w.heap.size, j, none⟩ = false := by
              unfold World.frozen?
              rw [show (wr.alloc _).heap[(⟨w.heap.size, j, none⟩ : Addr).block]? = _ from ((below_new wr _).block w.heap.size hwr).trans hcur]
              simp
            have HS : Hid (¬ (j : Int) ∈ s.1) := hs
            clear hs
            obtain ⟨w3, hw3⟩ : ∃ w3, w3 = (wr.setCell ⟨w.heap.size, j, none⟩ (.bool true)).alloc (.cells #[.int .i64 (j : Int), .int .i64 fk, .int .i64 fc', .string fj] 114) := ⟨_, rfl⟩
            have hne : ∀ i, i < wr.heap.size → i ≠ w.heap.size → w3.heap[i]? = wr.heap[i]? := fun i hi hn => by
              rw [hw3, (below_new _ _).block i (by simpa [World.setCell] using hi), Below.heap_setCell wr ⟨w.heap.size, j, none⟩ _ i hn]
            have hs3 : wr.heap.size ≤ w3.heap.size := by rw [hw3]; simp [World.setCell]
            have hos : w3.os = wr.os := by rw [hw3]; rfl
            have htp : w3.tape = wr.tape := by rw [hw3]; rfl
            have hou : w3.output = wr.output := by rw [hw3]; rfl
            have hFw : ∀ i, F i → i ≠ w.heap.size := fun i hi => by have := h0.out.lt i hi; omega
            have B3 : DevBody w3 b F { d with dur := s.2 } mb nb (.slice pa n pc) av Dn := INV.out.body.same (fun i hi => hne i (INV.out.body.lt i hi) (hFw i hi)) hs3
            have hjp : j < d.pend.length := by rw [← HN.out]; exact hj
            have M := meet_body (w := w3.drew) (B3.same (fun _ _ => rfl) (Nat.le_refl _)) d.pend[j] ⟨(j : Int), fk, fc', fj⟩ (secOk_of h0.out.ok hjp)
            obtain ⟨gp, rfl⟩ := hpa (by omega)
            obtain ⟨p0, p1⟩ := secCells_get d.pend j hjp
            have hpend := B3.pend
            simp only [← HN.out] at hpend
            have p0 := owns_cell hpend rfl _ _ p0
            have p1 := owns_cell hpend rfl _ _ p1
            have p2 : w3.cell? ⟨b, 2, none⟩ = some (.slice (some ⟨gp, 0, none⟩) n pc) := B3.cell 2
            obtain ⟨r1, s1⟩ := INV.out.row.stored j (.bool true)
            rw [boolRow_set _ _ j hjp] at r1
            have R3 : w3.ownsRow 0 4 1 (.slice (some ⟨w.heap.size, 0, none⟩) d.pend.length d.pend.length) d.pend.length (boolRow d.pend.length ((j : Int) :: s.1)) := by
              rw [hw3]; exact owns_below r1 (below_new _ _)
            obtain ⟨x, hx⟩ : ∃ x, x = d.pend[j] := ⟨_, rfl⟩
            rw [← hx] at M p0 p1
            have HX : Hid (x = d.pend[j]) := hx
            obtain ⟨xi, xd⟩ := x
            have HM : Hid (Calls Tryz.prog 73 #[.pointer (some ⟨b, 0, none⟩), .agg #[.int .i64 xi, .string xd], .agg #[.int .i64 (j : Int), .int .i64 fk, .int .i64 fc', .string fj]] w3.drew fun e w' => e = .returned (.tuple #[]) ∧ DevBody w' b F { d with dur := meetX s.2 ⟨xi, xd⟩ ⟨(j : Int), fk, fc', fj⟩ } mb nb (.slice (some ⟨gp, 0, none⟩) n pc) av Dn ∧ w3.drew.grownBy w' (some mb)) := M
            have hsz : (wr.setCell ⟨w.heap.size, j, none⟩ (.bool true)).heap.size = wr.heap.size := by simp [World.setCell]
            have hbx := boxed_new (wr.setCell ⟨w.heap.size, j, none⟩ (.bool true)) #[.int .i64 (j : Int), .int .i64 fk, .int .i64 fc', .string fj] 114
            rw [hsz, ← hw3] at hbx
            have t0 : w3.cell? ⟨wr.heap.size, 0, none⟩ = some (.int .i64 (j : Int)) := hbx.2 0 (by simp)
            have t1 : w3.cell? ⟨wr.heap.size, 1, none⟩ = some (.int .i64 fk) := hbx.2 1 (by simp)
            have t2 : w3.cell? ⟨wr.heap.size, 2, none⟩ = some (.int .i64 fc') := hbx.2 2 (by simp)
            have t3 : w3.cell? ⟨wr.heap.size, 3, none⟩ = some (.string fj) := hbx.2 3 (by simp)
            clear hbx hsz
            have n1 : wr.heap.size ≠ mb := by have := INV.out.body.mapD.lt; omega
            have n2 : gp ≠ mb := by
              obtain ⟨_, _, cur', hc'⟩ := owns_blk B3.pend gp rfl
              exact map_ne_cells B3.mapD hc'
            have n3 : b ≠ mb := map_ne_cells B3.mapD B3.blk
            have n4 : w.heap.size ≠ mb := by have := h0.out.mapD.lt; omega
            have HB3 : Hid (DevBody w3 b F { d with dur := s.2 } mb nb (.slice (some ⟨gp, 0, none⟩) n pc) av Dn) := B3
            have HR3 : Hid (w3.ownsRow 0 4 1 (.slice (some ⟨w.heap.size, 0, none⟩) d.pend.length d.pend.length) d.pend.length (boolRow d.pend.length ((j : Int) :: s.1))) := R3
            have HNE : Hid (∀ i, i < wr.heap.size → i ≠ w.heap.size → w3.heap[i]? = wr.heap[i]?) := hne
            clear B3 R3 hne M r1 s1 hpend hx hcur hFw HI2
            go_wp2_with fail
            rw [← hw3]
            clear hw3
            go_region_held3 (fun w' => (w'.cell? ⟨wr.heap.size, 0, none⟩ = some (.int .i64 (j : Int)) ∧ w'.cell? ⟨wr.heap.size, 1, none⟩ = some (.int .i64 fk) ∧ w'.cell? ⟨wr.heap.size, 2, none⟩ = some (.int .i64 fc') ∧ w'.cell? ⟨wr.heap.size, 3, none⟩ = some (.string fj)) ∧ w'.cell? ⟨b, 2, none⟩ = some (.slice (some ⟨gp, 0, none⟩) n pc) ∧ w'.cell? ⟨gp, j * 2, none⟩ = some (.int .i64 xi) ∧ w'.cell? ⟨gp, j * 2 + 1, none⟩ = some (.string xd)) (go_keep)
              (first
                | (go_at_call 73; refine HM.out.mono ?_; rintro e w4 ⟨rfl, h4, s4d⟩; have s4 : w3.grownBy w4 (some mb) := ⟨s4d.os, s4d.tape, s4d.output, s4d.size, s4d.block⟩; clear s4d; have y0 := grown_cell s4 t0 n1; have y1 := grown_cell s4 t1 n1; have y2 := grown_cell s4 t2 n1; have y3 := grown_cell s4 t3 n1; have y4 := grown_cell s4 p2 n3; have y5 := grown_cell s4 p0 n2; have y6 := grown_cell s4 p1 n2))
            have hno : ¬ ((j : Int) < 0 ∨ (d.pend.length : Int) ≤ (j : Int) ∨ (j : Int) ∈ s.1) := fun h => h.elim (fun h => by omega) (fun h => h.elim (fun h => by omega) HS.out)
            have V : SetInv w w4 b F d l mb nb w.heap.size (.slice (some ⟨gp, 0, none⟩) n pc) av Dn (k + 1) ((j : Int) :: s.1, meetX s.2 ⟨xi, xd⟩ ⟨(j : Int), fk, fc', fj⟩) := by
              have v := INV.out
              refine ⟨?_, h4, owns_block HR3.out fun i hi => ?_, fun i hi hn => ?_, ?_⟩
              · rw [take_next' l k hkl, List.foldl_append, ← v.eq, ← HF.out]
                show _ = settleStep d.pend s _
                unfold settleStep
                rw [if_neg hno, meetD_X d.pend s.2 _ j hjp rfl, ← HX.out]
              · simp only [Value.ownBlock, Option.some.injEq] at hi
                subst hi
                exact s4.block _ (owns_blk HR3.out _ rfl).2.1 (by simpa using n4)
              · rw [s4.block i (by omega) (by simpa using hn), HNE.out i (by omega) (by omega), v.keep i hi hn]
              · have hx : Step F F w w4 := ⟨s4.os.trans (hos.trans v.step.os), s4.tape.trans (htp.trans v.step.tape), s4.output.trans (hou.trans v.step.output), by have := v.step.size; have := s4.size; omega, fun i hi hn => by
                    rw [s4.block i (by omega) (fun e => hn (by rw [Option.some.inj e]; exact h0.out.fm)), HNE.out i (by omega) (by omega), v.step.block i hi hn], fun _ h => .inl h⟩
                exact hx
            clear HM HB3 HR3 HNE INV y0 y1 y2 y3 y4 y5 y6 t0 t1 t2 t3 p0 p1 p2 h4 s4 HI
            go_wp2_with fail
            go_roundw
            case rel => exact ⟨k + 1, _, by omega, by go_num, V⟩
            case measure => simp [intOf]; omega
    · have hke : k = m := by omega
      have V := INV.out
      have D := drop_any b F _ wr ⟨_, _, _, _, _, V.body⟩
      have E : s.2 = settleD d.pend [] d.dur l := by
        rw [settle_fold, V.eq, hke, HL.out, List.take_of_length_le (Nat.le_refl _)]
      rw [E] at D
      have HD : Hid (Calls Tryz.prog 52 #[.pointer (some ⟨b, 0, none⟩)] wr fun e w' => e = .returned (.tuple #[]) ∧ DevAt w' b (fun k => F k ∨ k = wr.heap.size) { d with dur := settleD d.pend [] d.dur l, pend := [] } ∧ Step F (fun k => F k ∨ k = wr.heap.size) wr w') := D
      clear D E V HI
      go_wp2_with fail
      refine HD.out.mono ?_
      rintro e w4 ⟨rfl, h4, s4⟩
      go_wp2_with fail
      go_end0
      exact ⟨rfl, _, h4, INV.out.step.trans s4⟩

end Go.Proofs.YtlopimdnjookeabGreatDoor.V

namespace Go.Proofs.YtlopimdnjookeabGreatDoor.V
open Go.RowKit Go.Maps

/-- What a method that may turn the device leaves. -/
def DevPost (w : World) (b : Nat) (F : Nat → Prop) (d : Dev) (w' : World) : Prop := ∃ F', DevAt w' b F' d ∧ Step F F' w w'

set_option maxHeartbeats 400000 in
theorem crash_any (b : Nat) (F : Nat → Prop) (d : Dev) (w : World) (h : DevAt w b F d) (l : List Fate) (fv : Value) (hl : w.ownsRow 0 114 4 fv l.length (fateCells l)) (hp : d.pend.length ≤ 140737488355328) :
    Calls Tryz.prog 24 #[.pointer (some ⟨b, 0, none⟩), fv] w fun e w' => e = .returned (.tuple #[]) ∧ DevPost w b F (d.crash l) w' := by
  obtain ⟨mb, nb, pv, av, Dn, h⟩ := h
  have c5 : w.cell? ⟨b, 5, none⟩ = some (.bool d.dead) := h.cell 5
  have HC : Hid (d.crash l = if d.dead then d else d.kill l) := (rfl : d.crash l = _)
  have S := settle_body h l fv hl hp
  have HS : Hid (Calls Tryz.prog 56 #[.pointer (some ⟨b, 0, none⟩), fv] w fun e w' => e = .returned (.tuple #[]) ∧ ∃ F', DevAt w' b F' { d with dur := settleD d.pend [] d.dur l, pend := [] } ∧ Step F F' w w') := S
  have HK : Hid (DevAt w b F d) := ⟨_, _, _, _, _, h⟩
  obtain ⟨fa, fc, rfl, -⟩ := owns_form hl
  clear S h hl
  go_enter Tryz.func24, Tryz.ntmps24
  cases hd : d.dead
  · rw [hd] at c5
    go_wp2_with fail
    refine HS.out.mono ?_
    rintro e w1 ⟨rfl, F1, h1, s1⟩
    have hok := h1.ok
    obtain ⟨mb1, nb1, pv1, av1, Dn1, h1⟩ := h1
    have k5 : w1.cell? ⟨b, 5, none⟩ = some (.bool d.dead) := h1.cell 5
    have f5 := h1.frozen 5
    obtain ⟨h2, s2⟩ := h1.set (d' := d.kill l) 5 (.bool true) rfl rfl rfl rfl ⟨hok.s0, hok.s1, hok.dur, hok.rise, hok.pend, hok.arms⟩
    have HH : Hid (DevBody (w1.setCell ⟨b, 5, none⟩ (.bool true)) b F1 (d.kill l) mb1 nb1 pv1 av1 Dn1 ∧ Step F1 F1 w1 (w1.setCell ⟨b, 5, none⟩ (.bool true))) := ⟨h2, s2⟩
    have HS1 : Hid (Step F F1 w w1) := s1
    clear HS h1 h2 s2 s1 hok
    go_wp2_with fail
    go_end0
    refine ⟨rfl, ?_⟩
    rw [HC.out, hd]
    exact ⟨F1, ⟨_, _, _, _, _, HH.out.1⟩, HS1.out.trans HH.out.2⟩
  · rw [hd] at c5
    clear HS
    go_wp2_with fail
    refine bodyPost_ret (results_none rfl _ _ _) rfl ?_
    refine ⟨rfl, ?_⟩
    rw [HC.out, hd]
    exact ⟨F, HK.out, Step.refl _ _⟩

end Go.Proofs.YtlopimdnjookeabGreatDoor.V

namespace Go.Proofs.YtlopimdnjookeabGreatDoor.V
open Go.RowKit Go.Maps

/-- What operationDone does. -/
def DoneOk (A : Nat → Addr) (w : World) (b : Nat) (F : Nat → Prop) (d : Dev) : Prop := Calls Tryz.prog 53 #[.pointer (some ⟨b, 0, none⟩)] w fun e w' => e = .returned (errV A d.done.2) ∧ DevPost w b F d.done.1 w'
/-- It does so with these arms. -/
def OpOk (base : Nat) (A : Nat → Addr) (b : Nat) (arms : List Armed) : Prop := ∀ w F d, d.arms = arms → DevAt w b F d → ErrsB base A w → (∀ k, F k → base ≤ k) → d.pend.length ≤ 140737488355328 → d.dead = false → DoneOk A w b F d

set_option maxHeartbeats 400000 in
theorem opdone_nil (base : Nat) (A : Nat → Addr) (b : Nat) : OpOk base A b [] := by
  intro w F d ha h _ _ _ _
  obtain ⟨mb, nb, pv, av, Dn, h⟩ := h
  have c4 : w.cell? ⟨b, 4, none⟩ = some av := h.cell 4
  have HH : Hid (DevBody w b F d mb nb pv av Dn) := h
  have harms := h.arms
  have HD : Hid (d.done = (d, 0)) := by show d.done = _; unfold Dev.done; rw [ha]
  obtain ⟨a, c, rfl⟩ : ∃ a c, av = .slice a 0 c := by
    rw [ha] at harms
    rcases harms with ⟨_, rfl⟩ | ⟨g, off, cap, cur, fv, rfl, _⟩
    · exact ⟨_, _, rfl⟩
    · exact ⟨_, _, rfl⟩
  unfold DoneOk
  clear h harms ha
  go_enter Tryz.func53, Tryz.ntmps53
  go_wp2_with fail
  go_ret
  rw [HD.out]
  exact ⟨rfl, F, ⟨_, _, _, _, _, HH.out⟩, Step.refl _ _⟩

/-- What Sync's loop holds. -/
structure SyncInv (w wr : World) (b : Nat) (F : Nat → Prop) (d : Dev) (mb nb : Nat) (pv av : Value) (Dn : DataW Unit) (k : Nat) : Prop where
  body : DevBody wr b F { d with dur := syncD d.dur (d.pend.take k) } mb nb pv av Dn
  step : Step F F w wr
theorem syncD_snoc (dur l : List Sec) (x : Sec) : syncD dur (l ++ [x]) = setD (syncD dur l) x.ix x.dat := by simp [syncD, List.foldl_append]

set_option maxRecDepth 100000 in
set_option maxHeartbeats 800000 in
theorem sync_any (base : Nat) (A : Nat → Addr) (b : Nat) (F : Nat → Prop) (d : Dev) (w : World) (h : DevAt w b F d) (hE : ErrsB base A w) (hF : ∀ k, F k → base ≤ k) (hp : d.pend.length ≤ 140737488355328) (hop : OpOk base A b d.arms) :
    Calls Tryz.prog 22 #[.pointer (some ⟨b, 0, none⟩)] w fun e w' => e = .returned (errV A d.sync.2) ∧ DevPost w b F d.sync.1 w' := by
  obtain ⟨mb, nb, pv, av, Dn, h⟩ := h
  have c5 : w.cell? ⟨b, 5, none⟩ = some (.bool d.dead) := h.cell 5
  have e7 := hE.dead
  have HE : Hid (ErrsB base A w) := hE
  have HF : Hid (∀ k, F k → base ≤ k) := hF
  have HO : Hid (OpOk base A b d.arms) := hop
  have HH : Hid (DevBody w b F d mb nb pv av Dn) := h
  cases hd : d.dead
  · have c2 : w.cell? ⟨b, 2, none⟩ = some pv := h.cell 2
    obtain ⟨pa, pc, rfl, hpa⟩ := owns_form h.pend
    obtain ⟨n, hn⟩ : ∃ n, n = d.pend.length := ⟨_, rfl⟩
    have HN : Hid (n = d.pend.length) := hn
    rw [← hn] at c2 hp hpa HH
    have HI : Hid (SyncInv w w b F d mb nb (.slice pa n pc) av Dn 0) := ⟨by simpa [syncD] using HH.out, Step.refl _ _⟩
    rw [hd] at c5
    have HS : Hid (d.sync = Dev.done { d with dur := syncD d.dur d.pend, pend := [], ns := wrap64 (d.ns + 1) }) := by show d.sync = _; unfold Dev.sync; rw [hd]; rfl
    clear h hE hF hop hn e7
    go_enter Tryz.func22, Tryz.ntmps22
    go_wp2_with fail
    go_loopw [15] (fun i wr => ∃ k, k ≤ n ∧ i = .int .i64 (k : Int) ∧ SyncInv w wr b F d mb nb (.slice pa n pc) av Dn k) (fun i _ => n - (intOf i).toNat)
    case atStart => exact ⟨0, Nat.zero_le _, rfl, HI.out⟩
    case round =>
      obtain ⟨k, hk, rfl, inv⟩ := hrel
      have INV : Hid (SyncInv w wr b F d mb nb (.slice pa n pc) av Dn k) := inv
      clear inv HI
      by_cases hlt : k < n
      · obtain ⟨gp, rfl⟩ := hpa (by omega)
        have hkp : k < d.pend.length := by rw [← HN.out]; exact hlt
        obtain ⟨p0, p1⟩ := secCells_get d.pend k hkp
        have hpend := INV.out.body.pend
        simp only [← HN.out] at hpend
        have p0 := owns_cell hpend rfl _ _ p0
        have p1 := owns_cell hpend rfl _ _ p1
        have hok := secOk_of HH.out.ok hkp
        obtain ⟨x, hx⟩ : ∃ x, x = d.pend[k] := ⟨_, rfl⟩
        rw [← hx] at p0 p1 hok
        have HX : Hid (x = d.pend[k]) := hx
        clear hx hpend
        obtain ⟨xi, xd⟩ := x
        have hb2 := below_new wr (.cells #[.int .i64 xi, .string xd] 72)
        have M := maked_body (INV.out.body.alloc hb2) xi xd (by rw [show xd.size = 512 from hok.len]; omega) hok.lo hok.hi
        rw [pad_full xd hok.len] at M
        have HM : Hid (Calls Tryz.prog 51 #[.pointer (some ⟨b, 0, none⟩), .int .i64 xi, .string xd] (wr.alloc (.cells #[.int .i64 xi, .string xd] 72)) fun e w' => e = .returned (.tuple #[]) ∧ DevBody w' b F { d with dur := setD (syncD d.dur (d.pend.take k)) xi xd } mb nb (.slice (some ⟨gp, 0, none⟩) n pc) av Dn ∧ (wr.alloc (.cells #[.int .i64 xi, .string xd] 72)).grownBy w' (some mb)) := M
        have HB2 : Hid _ := hb2
        clear M hok hb2
        go_wp2_with fail
        refine HM.out.mono ?_
        rintro e w4 ⟨rfl, h4, s4⟩
        have V : SyncInv w w4 b F d mb nb (.slice (some ⟨gp, 0, none⟩) n pc) av Dn (k + 1) := by
          refine ⟨?_, (INV.out.step.trans (Step.of_below HB2.out)).trans ((INV.out.body.alloc HB2.out).step s4)⟩
          rw [take_next' _ k hkp, syncD_snoc, ← HX.out]
          exact h4
        clear HM HB2 INV h4 s4 p0 p1
        go_wp2_with fail
        go_roundw
        case rel => exact ⟨k + 1, by omega, by go_num, V⟩
        case measure => simp [intOf]; omega
      · have hke : k = d.pend.length := by rw [← HN.out]; omega
        have V := INV.out.body
        rw [hke, List.take_of_length_le (Nat.le_refl _)] at V
        have D := drop_any b F _ wr ⟨_, _, _, _, _, V⟩
        have HD : Hid (Calls Tryz.prog 52 #[.pointer (some ⟨b, 0, none⟩)] wr fun e w' => e = .returned (.tuple #[]) ∧ DevAt w' b (fun k => F k ∨ k = wr.heap.size) { d with dur := syncD d.dur d.pend, pend := [] } ∧ Step F (fun k => F k ∨ k = wr.heap.size) wr w') := D
        clear D V hke
        go_wp2_with fail
        refine HD.out.mono ?_
        rintro e w4 ⟨rfl, h4, s4⟩
        have hok := h4.ok
        obtain ⟨mb4, nb4, pv4, av4, Dn4, h4⟩ := h4
        have k8 : w4.cell? ⟨b, 8, none⟩ = some (.int .i64 d.ns) := h4.cell 8
        have f8 := h4.frozen 8
        obtain ⟨h5, s5⟩ := h4.set (d' := { d with dur := syncD d.dur d.pend, pend := [], ns := wrap64 (d.ns + 1) }) 8 (.int .i64 (wrap64 (d.ns + 1))) rfl rfl rfl rfl ⟨hok.s0, hok.s1, hok.dur, hok.rise, hok.pend, hok.arms⟩
        have S5 : Step F (fun k => F k ∨ k = wr.heap.size) w (w4.setCell ⟨b, 8, none⟩ (.int .i64 (wrap64 (d.ns + 1)))) := (INV.out.step.trans s4).trans s5
        have O := HO.out _ _ { d with dur := syncD d.dur d.pend, pend := [], ns := wrap64 (d.ns + 1) } rfl ⟨_, _, _, _, _, h5⟩ (HE.out.step S5 HF.out) (S5.ge HF.out HE.out.size) (Nat.zero_le _) hd
        have HO2 : Hid (DoneOk A (w4.setCell ⟨b, 8, none⟩ (.int .i64 (wrap64 (d.ns + 1)))) b (fun k => F k ∨ k = wr.heap.size) { d with dur := syncD d.dur d.pend, pend := [], ns := wrap64 (d.ns + 1) }) := O
        have HS5 : Hid (Step F (fun k => F k ∨ k = wr.heap.size) w (w4.setCell ⟨b, 8, none⟩ (.int .i64 (wrap64 (d.ns + 1))))) := S5
        clear HD h4 h5 s4 s5 S5 O hok INV
        go_wp2_with fail
        refine HO2.out.mono ?_
        rintro e w6 ⟨rfl, F6, h6, s6⟩
        have HR : Hid (DevPost w b F d.sync.1 w6) := by rw [HS.out]; exact ⟨F6, h6, HS5.out.trans s6⟩
        have HV : Hid (Dev.done { d with dur := syncD d.dur d.pend, pend := [], ns := wrap64 (d.ns + 1) } = d.sync) := HS.out.symm
        rw [HV.out]
        clear HO2 HS5 HS h6 s6
        go_wp2_with fail
        go_ret
        exact ⟨rfl, HR.out⟩
  · rw [hd] at c5
    have HS : Hid (d.sync = (d, 8)) := by show d.sync = _; unfold Dev.sync; rw [hd]; rfl
    clear h hE hF hop
    go_enter Tryz.func22, Tryz.ntmps22
    go_wp2_with fail
    go_ret
    rw [HS.out]
    exact ⟨rfl, F, ⟨_, _, _, _, _, HH.out⟩, Step.refl _ _⟩

end Go.Proofs.YtlopimdnjookeabGreatDoor.V

namespace Go.Proofs.YtlopimdnjookeabGreatDoor.V
open Go.RowKit Go.Maps

theorem Tryz.info72 : (Tryz.prog.info? 72).map (fun i => (i.zero, i.size, i.bytes)) = some (some (.agg #[.int .i64 0, .string ⟨#[]⟩]), 2, 24) := by kernel_rfl
theorem newD_put {D : DataW Unit} {l : List Sec} (h : NewD D l) (hD : Maps.IsMap D) (x : Sec) : NewD (D.put (.int .i64 x.ix) (.lit (.int .i64 (l.length : Int)))) (l ++ [x]) := by
  intro i
  have hk : WideAt.IsKeyLit (.int .i64 x.ix) := trivial
  rw [lastIx_snoc]
  by_cases e : x.ix = i
  · subst e
    refine ⟨by rw [Maps.has_put_same hD hk, if_pos rfl]; rfl, fun k hk' => ?_⟩
    rw [if_pos rfl] at hk'
    rw [Maps.atKey_put_same hD hk, ← Option.some.inj hk']
  · have ne : (Lit.int .i64 i) ≠ .int .i64 x.ix := fun h => e (by simpa using h.symm)
    rw [if_neg e]
    refine ⟨by rw [Maps.has_put_other ne]; exact (h i).1, fun k hk' => ?_⟩
    rw [Maps.atKey_put_other ne]
    exact (h i).2 k hk'
/-- A device behind one more pending write. -/
theorem DevBody.pended {w w1 w2 w3 : World} {b : Nat} {F : Nat → Prop} {d : Dev} {mb nb : Nat} {pv av : Value} {Dn : DataW Unit} (h : DevBody w b F d mb nb pv av Dn) (x : Sec) (hx : SecOk d.size x)
    (hm : w1.ownsMap Tryz.prog 3 (plainElem Tryz.prog 3) nb (d.pend.length + 1) (Dn.put (.int .i64 x.ix) (.lit (.int .i64 (d.pend.length : Int))))) (hg1 : w.grownBy w1 (some nb))
    (g cap : Nat) (hr : w2.ownsRow 0 72 2 (.slice (some ⟨g, 0, none⟩) (d.pend.length + 1) cap) (d.pend.length + 1) (secCells (d.pend ++ [x]))) (hg2 : w1.grownBy w2 pv.ownBlock) (hat : pv.ownBlock = some g ∨ w.heap.size ≤ g)
    (hw3 : w3 = w2.setCell ⟨b, 2, none⟩ (.slice (some ⟨g, 0, none⟩) (d.pend.length + 1) cap)) :
    DevBody w3 b (fun k => F k ∨ k = g) { d with pend := d.pend ++ [x] } mb nb (.slice (some ⟨g, 0, none⟩) (d.pend.length + 1) cap) av (Dn.put (.int .i64 x.ix) (.lit (.int .i64 (d.pend.length : Int)))) ∧ Step F (fun k => F k ∨ k = g) w w3 := by
  have hpb : ∀ k, pv.ownBlock = some k → k < w.heap.size ∧ ∃ cur, w.heap[k]? = some (.cells cur 72 (0, 0)) := fun k hk => (owns_blk h.pend k hk).2
  have hsz : w2.heap.size = w3.heap.size := by rw [hw3]; simp [World.setCell]
  have hs2 : w.heap.size ≤ w2.heap.size := Nat.le_trans hg1.size hg2.size
  have hne : ∀ k, k < w.heap.size → k ≠ b → k ≠ nb → some k ≠ pv.ownBlock → w3.heap[k]? = w.heap[k]? := fun k h1 h2 h3 h4 => by
    rw [hw3, Below.heap_setCell w2 ⟨b, 2, none⟩ _ k h2, hg2.block k (Nat.lt_of_lt_of_le h1 hg1.size) h4, hg1.block k h1 (fun e => h3 (Option.some.inj e))]
  have hbp : some b ≠ pv.ownBlock := fun e => by
    obtain ⟨_, cur, hc⟩ := hpb b e.symm
    rw [h.blk] at hc; simp at hc
  have hmp : ∀ m n R D, w.ownsMap Tryz.prog 3 R m n D → some m ≠ pv.ownBlock := fun m n R D hm e => by
    obtain ⟨_, cur, hc⟩ := hpb m e.symm
    exact map_ne_cells hm hc rfl
  have hbn : b ≠ nb := map_ne_cells h.mapN h.blk
  have hbm : b ≠ mb := map_ne_cells h.mapD h.blk
  have hty : ∀ k (cur : Array Value) (e : TypeId), w.heap[k]? = some (Obj.cells cur e (0, 0)) → e ≠ 47 → e ≠ 72 → w3.heap[k]? = w.heap[k]? := fun k cur e hk h1 h2 => by
    refine hne k (Array.getElem?_eq_some_iff.1 hk).1 (fun hb => ?_) (map_ne_cells h.mapN hk) (fun he => ?_)
    · rw [hb, h.blk] at hk; simp at hk; exact h1 hk.2.symm
    · obtain ⟨_, c, hc⟩ := hpb k he.symm
      rw [hk] at hc; simp at hc; exact h2 hc.2
  have hb2 : w2.heap[b]? = w.heap[b]? := by
    rw [hg2.block b (Nat.lt_of_lt_of_le (Array.getElem?_eq_some_iff.1 h.blk).1 hg1.size) hbp, hg1.block b (Array.getElem?_eq_some_iff.1 h.blk).1 (fun e => hbn (Option.some.inj e))]
  have hgb : g ≠ b := fun e => by
    rcases hat with h' | h'
    · exact hbp (by rw [h', e])
    · have := (Array.getElem?_eq_some_iff.1 h.blk).1; omega
  refine ⟨⟨?_, .inl h.fb, .inl h.fm, .inl h.fn, h.ne, ownsMap_block h.mapD (hne mb h.mapD.lt hbm.symm h.ne (hmp _ _ _ _ h.mapD)), ?_, newD_put h.new h.mapN.isMap x, ?_, ?_, ?_, ?_, ?_⟩, ?_⟩
  · rw [hw3]
    unfold World.setCell
    simp only [Array.getElem?_modify, if_true]
    rw [hb2, h.blk]
    rfl
  · have := ownsMap_block hm (w' := w3) (by
      rw [hw3, Below.heap_setCell w2 ⟨b, 2, none⟩ _ nb hbn.symm, hg2.block nb hm.lt (hmp _ _ _ _ h.mapN)])
    simpa using this
  · have := owns_block hr (w' := w3) fun k hk => by
      simp only [Value.ownBlock, Option.some.injEq] at hk
      rw [hw3, Below.heap_setCell w2 ⟨b, 2, none⟩ _ k (by rw [← hk]; exact hgb)]
    simpa using this
  · intro k hk
    simp only [Value.ownBlock, Option.some.injEq] at hk
    exact .inr hk.symm
  · exact (h.arms.block fun k cur hk _ => by
      rcases hk with hk | hk
      · exact hty k cur _ hk (by decide) (by decide)
      · exact hty k cur _ hk (by decide) (by decide)).imp fun k hk => .inl hk
  · refine ⟨h.ok.s0, h.ok.s1, h.ok.dur, h.ok.rise, fun y hy => ?_, h.ok.arms⟩
    rcases List.mem_append.1 hy with e | e
    · exact h.ok.pend y e
    · rw [List.mem_singleton.1 e]; exact hx
  · intro i hi
    rw [← hsz]
    rcases hi with hi | hi
    · exact Nat.lt_of_lt_of_le (h.lt i hi) hs2
    · rw [hi]; exact (owns_blk hr g rfl).2.1
  · refine ⟨?_, ?_, ?_, by omega, fun k hk hn => hne k hk (fun e => hn (by rw [e]; exact h.fb)) (fun e => hn (by rw [e]; exact h.fn)) (fun e => hn (h.pf k e.symm)), fun k hk => hk.elim .inl fun e => ?_⟩
    · rw [hw3]; exact hg2.os.trans hg1.os
    · rw [hw3]; exact hg2.tape.trans hg1.tape
    · rw [hw3]; exact hg2.output.trans hg1.output
    · rcases hat with h' | h'
      · exact .inl (by rw [e]; exact h.pf g h')
      · exact .inr (by omega)

end Go.Proofs.YtlopimdnjookeabGreatDoor.V
