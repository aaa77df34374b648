import Derived.Test.YtdieacdkomiooabDoorM6
namespace Go.Proofs.YtdieacdkomiooabDoor
open Go.RowKit Go.Maps

theorem frozen_cells {w : World} {g j : Nat} {cur : Array Value} {e : TypeId} (h : w.heap[g]? = some (.cells cur e (0, 0))) : w.frozen? ⟨g, j, none⟩ = false := by
  unfold World.frozen?
  rw [show w.heap[(⟨g, j, none⟩ : Addr).block]? = _ from h]
  simp
theorem set_cells {w : World} {g j : Nat} {cur : Array Value} {e : TypeId} {v : Value} (h : w.heap[g]? = some (.cells cur e (0, 0))) : (w.setCell ⟨g, j, none⟩ v).heap[g]? = some (.cells (cur.setIfInBounds j v) e (0, 0)) := by
  unfold World.setCell
  simp only [Array.getElem?_modify, if_true]
  rw [h]
  rfl
theorem set_other {w : World} {g j k : Nat} {v : Value} (h : k ≠ g) : (w.setCell ⟨g, j, none⟩ v).heap[k]? = w.heap[k]? := Below.heap_setCell w ⟨g, j, none⟩ v k h
theorem set_size {w : World} {g j : Nat} {v : Value} : (w.setCell ⟨g, j, none⟩ v).heap.size = w.heap.size := by simp [World.setCell]
theorem alloc_old {w : World} {O : Obj} {k : Nat} (h : k < w.heap.size) : (w.alloc O).heap[k]? = w.heap[k]? := (below_new w O).block k h
theorem Hid.mk2 {p : Prop} (h : p) : Hid p := h
theorem DevBody.rearm {w w' : World} {b : Nat} {F : Nat → Prop} {d : Dev} {mb nb : Nat} {pv av av' : Value} {Dn : DataW Unit} {l' : List Armed} (h : DevBody w b F d mb nb pv av Dn) (g : Nat) (cur : Array Value) (hg : w.heap[g]? = some (.cells cur 130 (0, 0)))
    (hk : ∀ k, k < w.heap.size → k ≠ b → k ≠ g → w'.heap[k]? = w.heap[k]?) (hs : w.heap.size ≤ w'.heap.size) (hb : w'.heap[b]? = some (.cells (devCells { d with arms := l' } mb nb pv av') 97 (0, 0))) (ha : ArmsAt w' F av' l') (ho : { d with arms := l' }.Ok) :
    DevBody w' b F { d with arms := l' } mb nb pv av' Dn := by
  have hm : ∀ m, m < w.heap.size → b ≠ m → g ≠ m → w'.heap[m]? = w.heap[m]? := fun m h1 h2 h3 => hk m h1 h2.symm h3.symm
  refine ⟨hb, h.fb, h.fm, h.fn, h.ne, ownsMap_block h.mapD (hm mb h.mapD.lt (map_ne_cells h.mapD h.blk) (map_ne_cells h.mapD hg)), ownsMap_block h.mapN (hm nb h.mapN.lt (map_ne_cells h.mapN h.blk) (map_ne_cells h.mapN hg)), h.new, owns_block h.pend fun k hk' => ?_, h.pf, ha, ho, fun i hi => Nat.lt_of_lt_of_le (h.lt i hi) hs⟩
  obtain ⟨_, hlt, c, hc⟩ := owns_blk h.pend k hk'
  refine hk k hlt (fun e => ?_) (fun e => ?_)
  · rw [e, h.blk] at hc; simp at hc
  · rw [e, hg] at hc; simp at hc

set_option maxHeartbeats 800000 in
theorem opdone_any (base : Nat) (A : Nat → Addr) (b : Nat) : ∀ arms, OpOk base A b arms
  | [] => opdone_nil base A b
  | ⟨n, fs⟩ :: r => by
    intro w F d ha h hE hF hp hd
    obtain ⟨mb, nb, pv, av, Dn, h⟩ := h
    have c4 : w.cell? ⟨b, 4, none⟩ = some av := h.cell 4
    have HH : Hid (DevBody w b F d mb nb pv av Dn) := h
    have harms := h.arms
    clear h
    rw [ha] at harms
    rcases harms with ⟨h0, _⟩ | ⟨g, off, cap, cur, fv, rfl, hFg, hg, hl, hc, hsz, hfv, hall⟩
    · cases h0
    obtain ⟨k0, k1, k2, k3⟩ := hall 0 (by simp) (by rw [hfv]; simp)
    simp only [List.getElem_cons_zero, Nat.zero_mul, Nat.add_zero] at k0 k1 k2 k3
    generalize hfv0 : fv[0]'(by rw [hfv]; simp) = fv0 at k1 k2 k3
    have HV0 : Hid (fv[0]'(by rw [hfv]; simp) = fv0) := hfv0
    obtain ⟨fa, fc, rfl, -⟩ := owns_form k2
    have a0 : w.cell? ⟨g, off, none⟩ = some (.int .i64 n) := by rw [cell_of_row _ _ _ _ _ _ hg]; exact k0
    have a1 : w.cell? ⟨g, off + 1, none⟩ = some (.slice fa fs.length fc) := by rw [cell_of_row _ _ _ _ _ _ hg]; exact k1
    have hbg : b ≠ g := fun e => by have hx := HH.out.blk; rw [e, hg] at hx; simp at hx
    have i1 : ((r.length : Int) + 1 == 0) = false := by simp; omega
    have hn := (HH.out.ok.arms ⟨n, fs⟩ (by rw [ha]; simp))
    simp only [] at hn
    have w1 : IntKind.i64.wrap (n - 1) = n - 1 := wrap_i64 _ (by omega) (by omega)
    simp only [List.length_cons] at c4 hl hfv
    have fz : w.frozen? ⟨g, off, none⟩ = false := by unfold World.frozen?; rw [show w.heap[(⟨g, off, none⟩ : Addr).block]? = _ from hg]; simp
    have fz1 : w.frozen? ⟨g, off + 1, none⟩ = false := by unfold World.frozen?; rw [show w.heap[(⟨g, off + 1, none⟩ : Addr).block]? = _ from hg]; simp
    have fz4 : w.frozen? ⟨b, 4, none⟩ = false := HH.out.frozen 4
    have hgw : g < w.heap.size := (Array.getElem?_eq_some_iff.1 hg).1
    have hbx := World.new_ne w ⟨g, off, none⟩ (by rw [a0])
    have hby := World.new_ne w ⟨b, 4, none⟩ (by rw [c4])
    have HG : Hid (w.heap[g]? = some (.cells cur 130 (0, 0))) := hg
    have HA : Hid _ := hall
    have HK : Hid (w.ownsRow 0 92 4 (.slice fa fs.length fc) fs.length (fateCells fs) ∧ ∀ k, (Value.slice fa fs.length fc).ownBlock = some k → F k) := ⟨k2, k3⟩
    have HFv := Hid.mk2 hfv
    clear hg hall k0 k1 k2 k3 HV0 hfv0 hfv
    unfold DoneOk
    obtain ⟨O, hO⟩ : ∃ O, O = (Obj.cells #[.int .i64 n, .slice fa fs.length fc] 130) := ⟨_, rfl⟩
    have hbel : Below w.heap.size w (w.alloc O) := below_new w O
    have b4 : (w.alloc O).cell? ⟨b, 4, none⟩ = some (.slice (some ⟨g, off, none⟩) (r.length + 1) cap) := cell_below hbel c4
    have d0 : (w.alloc O).cell? ⟨g, off, none⟩ = some (.int .i64 n) := cell_below hbel a0
    have d1 : (w.alloc O).cell? ⟨g, off + 1, none⟩ = some (.slice fa fs.length fc) := cell_below hbel a1
    have hgO : (w.alloc O).heap[g]? = some (.cells cur 130 (0, 0)) := (hbel.block g hgw).trans HG.out
    have hbO := (hbel.block b (HH.out.lt b HH.out.fb)).trans HH.out.blk
    have y0 : (w.alloc O).frozen? ⟨g, off, none⟩ = false := by unfold World.frozen?; rw [show (w.alloc O).heap[(⟨g, off, none⟩ : Addr).block]? = _ from hgO]; simp
    have y1 : (w.alloc O).frozen? ⟨g, off + 1, none⟩ = false := by unfold World.frozen?; rw [show (w.alloc O).heap[(⟨g, off + 1, none⟩ : Addr).block]? = _ from hgO]; simp
    have y4 : (w.alloc O).frozen? ⟨b, 4, none⟩ = false := by unfold World.frozen?; rw [show (w.alloc O).heap[(⟨b, 4, none⟩ : Addr).block]? = _ from hbO]; simp
    have HGO := Hid.mk2 hgO
    have HBO := Hid.mk2 hbO
    have HBL := Hid.mk2 hbel
    have HO := Hid.mk2 hO
    have hgb : ¬ g = b := fun e => hbg e.symm
    clear hgO hbO hbel
    rw [hO] at b4 d0 d1 y0 y1 y4
    clear hO
    go_enter Tryd.func76, Tryd.ntmps76
    by_cases hn0 : 0 < n
    · have HD : Hid (d.done = ({ d with arms := ⟨n - 1, fs⟩ :: r }, 0)) := by show d.done = _; unfold Dev.done; rw [ha]; simp [hn0]
      have HE : Hid (DevAt ((w.setCell ⟨g, off, none⟩ (.int .i64 (n - 1))).alloc (.cells #[.int .i64 n, .slice fa fs.length fc] 130)) b F { d with arms := ⟨n - 1, fs⟩ :: r } ∧ Step F F w ((w.setCell ⟨g, off, none⟩ (.int .i64 (n - 1))).alloc (.cells #[.int .i64 n, .slice fa fs.length fc] 130))) := by
        rw [← HO.out]
        obtain ⟨w3, hw3⟩ : ∃ w3, w3 = (w.setCell ⟨g, off, none⟩ (.int .i64 (n - 1))).alloc O := ⟨_, rfl⟩
        have hz : w3.heap.size = w.heap.size + 1 := by rw [hw3]; simp [World.setCell]
        have hk3 : ∀ k, k < w.heap.size → k ≠ g → w3.heap[k]? = w.heap[k]? := fun k hk hn => by rw [hw3, alloc_old (by rw [set_size]; exact hk), set_other hn]
        have hg3 : w3.heap[g]? = some (.cells (cur.setIfInBounds off (.int .i64 (n - 1))) 130 (0, 0)) := by rw [hw3, alloc_old (by rw [set_size]; exact hgw)]; exact set_cells HG.out
        have hst : Step F F w w3 := ⟨by rw [hw3]; rfl, by rw [hw3]; rfl, by rw [hw3]; rfl, by omega, fun k hk hn => hk3 k hk (fun e => hn (by rw [e]; exact hFg)), fun _ h => .inl h⟩
        rw [← hw3]
        refine ⟨⟨mb, nb, pv, _, Dn, HH.out.rearm (l' := ⟨n - 1, fs⟩ :: r) g cur HG.out (fun k hk _ hn => hk3 k hk hn) (by omega) ((hk3 b (HH.out.lt b HH.out.fb) hbg).trans HH.out.blk) ?_ ⟨HH.out.ok.s0, HH.out.ok.s1, HH.out.ok.dur, HH.out.ok.rise, HH.out.ok.pend, fun a h => ?_⟩⟩, hst⟩
        · refine .inr ⟨g, off, cap, _, fv, rfl, hFg, hg3, hl, hc, by simpa using hsz, HFv.out, fun i h h' => ?_⟩
          obtain ⟨q0, q1, q2, q3⟩ := HA.out i h h'
          have hq : w3.ownsRow 0 92 4 fv[i] (⟨n, fs⟩ :: r : List Armed)[i].fates.length (fateCells (⟨n, fs⟩ :: r : List Armed)[i].fates) := owns_block q2 fun k hk => by
            obtain ⟨_, hlt, c, hc'⟩ := owns_blk q2 k hk
            exact hk3 k hlt (fun e => by rw [e, HG.out] at hc'; simp at hc')
          have ef : (⟨n - 1, fs⟩ :: r : List Armed)[i].fates = (⟨n, fs⟩ :: r : List Armed)[i].fates := by cases i <;> rfl
          refine ⟨?_, ?_, by rw [ef]; exact hq, q3⟩
          · cases i with
            | zero => rw [Nat.zero_mul, Nat.add_zero, Array.getElem?_setIfInBounds_self_of_lt (by omega)]; rfl
            | succ i => rw [Array.getElem?_setIfInBounds_ne (by omega)]; exact q0
          · rw [Array.getElem?_setIfInBounds_ne (by omega)]; exact q1
        · rcases List.mem_cons.1 h with e | h
          · rw [e]; simp only []; omega
          · exact HH.out.ok.arms a (by rw [ha]; exact List.mem_cons_of_mem _ h)
      go_wp2_with fail
      go_ret
      rw [HD.out]
      exact ⟨rfl, F, HE.out⟩
    · have HD : Hid (d.done = ({ d with arms := r }.kill fs, 8)) := by show d.done = _; unfold Dev.done; rw [ha]; simp [hn0]
      obtain ⟨w2, hw2⟩ : ∃ w2, w2 = (w.setCell ⟨g, off, none⟩ (.int .i64 0)).setCell ⟨g, off + 1, none⟩ (.slice none 0 0) := ⟨_, rfl⟩
      have hs2 : w2.heap.size = w.heap.size := by rw [hw2, set_size, set_size]
      have hg2 : w2.heap[g]? = some (.cells ((cur.setIfInBounds off (.int .i64 0)).setIfInBounds (off + 1) (.slice none 0 0)) 130 (0, 0)) := by rw [hw2]; exact set_cells (set_cells HG.out)
      have hk2 : ∀ k, k ≠ g → w2.heap[k]? = w.heap[k]? := fun k hk => by rw [hw2, set_other hk, set_other hk]
      have hb2 : w2.heap[b]? = _ := (hk2 b hbg).trans HH.out.blk
      have e4 : (w2.alloc O).cell? ⟨b, 4, none⟩ = some (.slice (some ⟨g, off, none⟩) (r.length + 1) cap) := cell_below (below_new w2 O) (by rw [World.cell?_of_block (hk2 b hbg)]; exact c4)
      have z4 : (w2.alloc O).frozen? ⟨b, 4, none⟩ = false := frozen_cells ((alloc_old (by rw [hs2]; exact HH.out.lt b HH.out.fb)).trans hb2)
      have HCR : Hid (∀ off', (off' = off + 2 ∨ (off' = off ∧ cap = 1)) → Calls Tryd.prog 9 #[.pointer (some ⟨b, 0, none⟩), .slice fa fs.length fc] ((w2.alloc O).setCell ⟨b, 4, none⟩ (.slice (some ⟨g, off', none⟩) r.length (cap - 1))) fun e w' => e = .returned (.tuple #[]) ∧ DevPost w b F ({ d with arms := r }.kill fs) w') := by
        intro off' hoff
        obtain ⟨w3, hw3⟩ : ∃ w3, w3 = (w2.alloc O).setCell ⟨b, 4, none⟩ (.slice (some ⟨g, off', none⟩) r.length (cap - 1)) := ⟨_, rfl⟩
        have hblt := HH.out.lt b HH.out.fb
        have hz : w3.heap.size = w.heap.size + 1 := by rw [hw3, set_size]; simp [hs2]
        have hk3 : ∀ k, k < w.heap.size → k ≠ b → k ≠ g → w3.heap[k]? = w.heap[k]? := fun k hk h1 h2 => by rw [hw3, set_other h1, alloc_old (by rw [hs2]; exact hk)]; exact hk2 k h2
        have hg3 : w3.heap[g]? = some (.cells ((cur.setIfInBounds off (.int .i64 0)).setIfInBounds (off + 1) (.slice none 0 0)) 130 (0, 0)) := by rw [hw3, set_other (fun e => hbg e.symm), alloc_old (by rw [hs2]; exact hgw)]; exact hg2
        have hb3 : w3.heap[b]? = some (.cells (devCells { d with arms := r } mb nb pv (.slice (some ⟨g, off', none⟩) r.length (cap - 1))) 97 (0, 0)) := by
          rw [hw3]; exact set_cells ((alloc_old (by rw [hs2]; exact hblt)).trans hb2)
        have hst : Step F F w w3 := ⟨by rw [hw3, hw2]; rfl, by rw [hw3, hw2]; rfl, by rw [hw3, hw2]; rfl, by omega, fun k hk hn => hk3 k hk (fun e => hn (by rw [e]; exact HH.out.fb)) (fun e => hn (by rw [e]; exact hFg)), fun _ h => .inl h⟩
        have hrow : ∀ v l, w.ownsRow 0 92 4 v l.length (fateCells l) → w3.ownsRow 0 92 4 v l.length (fateCells l) := fun v l q2 => owns_block q2 fun k hk => by
          obtain ⟨_, hlt, c, hc'⟩ := owns_blk q2 k hk
          exact hk3 k hlt (fun e => by rw [e, HH.out.blk] at hc'; simp at hc') (fun e => by rw [e, HG.out] at hc'; simp at hc')
        have hdev : DevAt w3 b F { d with arms := r } := by
          refine ⟨mb, nb, pv, _, Dn, HH.out.rearm (l' := r) g cur HG.out hk3 (by omega) hb3 ?_ ⟨HH.out.ok.s0, HH.out.ok.s1, HH.out.ok.dur, HH.out.ok.rise, HH.out.ok.pend, fun a h => HH.out.ok.arms a (by rw [ha]; exact List.mem_cons_of_mem _ h)⟩⟩
          refine .inr ⟨g, off', cap - 1, _, fv.tail, rfl, hFg, hg3, by omega, by omega, by simp; omega, by rw [List.length_tail, HFv.out]; rfl, fun i h h' => ?_⟩
          have ho : off' = off + 2 := by rcases hoff with h1 | ⟨_, h2⟩ <;> omega
          obtain ⟨q0, q1, q2, q3⟩ := HA.out (i + 1) (by simpa using h) (by rw [HFv.out]; omega)
          simp only [List.getElem_cons_succ] at q0 q1 q2 q3
          rw [ho, List.getElem_tail]
          refine ⟨?_, ?_, hrow _ _ q2, q3⟩
          · rw [Array.getElem?_setIfInBounds_ne (by omega), Array.getElem?_setIfInBounds_ne (by omega), ← q0]; congr 1; omega
          · rw [Array.getElem?_setIfInBounds_ne (by omega), Array.getElem?_setIfInBounds_ne (by omega), ← q1]; congr 1; omega
        rw [← hw3]
        refine (crash_any b F { d with arms := r } w3 hdev fs (.slice fa fs.length fc) (hrow _ _ HK.out.1) hp).mono fun e w' ⟨he, F', hd', hs'⟩ => ⟨he, F', ?_, hst.trans hs'⟩
        have : ({ d with arms := r } : Dev).crash fs = ({ d with arms := r } : Dev).kill fs := by unfold Dev.crash; rw [if_neg (by simp [hd])]
        rw [← this]; exact hd'
      have HERR := Hid.mk2 hE
      have HFF := Hid.mk2 hF
      clear hs2 hg2 hk2 hb2 hE hF
      rw [hw2, HO.out] at e4 z4 HCR
      clear hw2
      go_wp2_with fail
      all_goals first
        | refine (HCR.out (off + 2) (.inl rfl)).mono ?_
        | (have hcr := HCR.out off (.inr ⟨rfl, by omega⟩); rw [show cap - 1 = 0 by omega] at hcr; refine hcr.mono ?_)
      all_goals
        rintro e w4 ⟨rfl, F4, hd4, hs4⟩
        have e7 := (HERR.out.step hs4 HFF.out).dead
        have HP : Hid (DevPost w b F ({ d with arms := r }.kill fs) w4) := ⟨F4, hd4, hs4⟩
        clear hd4 hs4
        go_wp2_with fail
        go_ret
        rw [HD.out]
        exact ⟨rfl, HP.out⟩

end Go.Proofs.YtdieacdkomiooabDoor
