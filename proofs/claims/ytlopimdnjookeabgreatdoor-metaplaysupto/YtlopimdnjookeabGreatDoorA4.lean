import Derived.Test.YtlopimdnjookeabGreatDoorA3
import Derived.Test.YtlopimdnjookeabGreatDoorA1
import Derived.Shelf.Strconv.Clone
import Derived.Test.YtlopimdnjookeabGreatDoorA3b
import Derived.Deep.AppendSrc
import Derived.Deep.RegionLaw
import Derived.Test.YtlopimdnjookeabGreatDoorVM12
namespace Go.Proofs.YtlopimdnjookeabGreatDoor.V
open Go.RowKit Go.Maps

theorem frozen_cells {w : World} {g j : Nat} {cur : Array Value} {e : TypeId} (h : w.heap[g]? = some (.cells cur e (0, 0))) : w.frozen? ⟨g, j, none⟩ = false := by
  unfold World.frozen?
  rw [show w.heap[(⟨g, j, none⟩ : Addr).block]? = _ from h]
  simp
theorem set_cells {w : World} {g j : Nat} {cur : Array Value} {e : TypeId} {v : Value} (h : w.heap[g]? = some (.cells cur e (0, 0))) : (w.setCell ⟨g, j, none⟩ v).heap[g]? = some (.cells (cur.setIfInBounds j v) e (0, 0)) := by
  unfold World.setCell
  simp only [Array.getElem?_modify, if_true]
  rw [h]
  rfl
theorem set_other {w : World} {g j k : Nat} {v : Value} (h : k ≠ g) : (w.setCell ⟨g, j, none⟩ v).heap[k]? = w.heap[k]? := Below.heap_setCell w ⟨g, j, none⟩ v k h
theorem set_size {w : World} {g j : Nat} {v : Value} : (w.setCell ⟨g, j, none⟩ v).heap.size = w.heap.size := by simp [World.setCell]
theorem alloc_old {w : World} {O : Obj} {k : Nat} (h : k < w.heap.size) : (w.alloc O).heap[k]? = w.heap[k]? := (below_new w O).block k h
theorem Hid.mk2 {p : Prop} (h : p) : Hid p := h
theorem DevBody.rearm {w w' : World} {b : Nat} {F : Nat → Prop} {d : Dev} {mb nb : Nat} {pv av av' : Value} {Dn : DataW Unit} {l' : List Armed} (h : DevBody w b F d mb nb pv av Dn) (g : Nat) (cur : Array Value) (hg : w.heap[g]? = some (.cells cur 95 (0, 0)))
    (hk : ∀ k, k < w.heap.size → k ≠ b → k ≠ g → w'.heap[k]? = w.heap[k]?) (hs : w.heap.size ≤ w'.heap.size) (hb : w'.heap[b]? = some (.cells (devCells { d with arms := l' } mb nb pv av') 47 (0, 0))) (ha : ArmsAt w' F av' l') (ho : { d with arms := l' }.Ok) :
    DevBody w' b F { d with arms := l' } mb nb pv av' Dn := by
  have hm : ∀ m, m < w.heap.size → b ≠ m → g ≠ m → w'.heap[m]? = w.heap[m]? := fun m h1 h2 h3 => hk m h1 h2.symm h3.symm
  refine ⟨hb, h.fb, h.fm, h.fn, h.ne, ownsMap_block h.mapD (hm mb h.mapD.lt (map_ne_cells h.mapD h.blk) (map_ne_cells h.mapD hg)), ownsMap_block h.mapN (hm nb h.mapN.lt (map_ne_cells h.mapN h.blk) (map_ne_cells h.mapN hg)), h.new, owns_block h.pend fun k hk' => ?_, h.pf, ha, ho, fun i hi => Nat.lt_of_lt_of_le (h.lt i hi) hs⟩
  obtain ⟨_, hlt, c, hc⟩ := owns_blk h.pend k hk'
  refine hk k hlt (fun e => ?_) (fun e => ?_)
  · rw [e, h.blk] at hc; simp at hc
  · rw [e, hg] at hc; simp at hc

set_option maxHeartbeats 800000 in
theorem opdone_any (base : Nat) (A : Nat → Addr) (b : Nat) : ∀ arms, OpOk base A b arms
  | [] => opdone_nil base A b
  | ⟨n, fs⟩ :: r => by
    intro w F d ha h hE hF hp hd
    obtain ⟨mb, nb, pv, av, Dn, h⟩ := h
    have c4 : w.cell? ⟨b, 4, none⟩ = some av := h.cell 4
    have HH : Hid (DevBody w b F d mb nb pv av Dn) := h
    have harms := h.arms
    clear h
    rw [ha] at harms
    rcases harms with ⟨h0, _⟩ | ⟨g, off, cap, cur, fv, rfl, hFg, hg, hl, hc, hsz, hfv, hall⟩
    · cases h0
    obtain ⟨k0, k1, k2, k3⟩ := hall 0 (by simp) (by rw [hfv]; simp)
    simp only [List.getElem_cons_zero, Nat.zero_mul, Nat.add_zero] at k0 k1 k2 k3
    generalize hfv0 : fv[0]'(by rw [hfv]; simp) = fv0 at k1 k2 k3
    have HV0 : Hid (fv[0]'(by rw [hfv]; simp) = fv0) := hfv0
    obtain ⟨fa, fc, rfl, -⟩ := owns_form k2
    have a0 : w.cell? ⟨g, off, none⟩ = some (.int .i64 n) := by rw [cell_of_row _ _ _ _ _ _ hg]; exact k0
    have a1 : w.cell? ⟨g, off + 1, none⟩ = some (.slice fa fs.length fc) := by rw [cell_of_row _ _ _ _ _ _ hg]; exact k1
    have hbg : b ≠ g := fun e => by have hx := HH.out.blk; rw [e, hg] at hx; simp at hx
    have i1 : ((r.length : Int) + 1 == 0) = false := by simp; omega
    have hn := (HH.out.ok.arms ⟨n, fs⟩ (by rw [ha]; simp))
    simp only [] at hn
    have w1 : IntKind.i64.wrap (n - 1) = n - 1 := wrap_i64 _ (by omega) (by omega)
    simp only [List.length_cons] at c4 hl hfv
    have fz : w.frozen? ⟨g, off, none⟩ = false := by unfold World.frozen?; rw [show w.heap[(⟨g, off, none⟩ : Addr).block]? = _ from hg]; simp
    have fz1 : w.frozen? ⟨g, off + 1, none⟩ = false := by unfold World.frozen?; rw [show w.heap[(⟨g, off + 1, none⟩ : Addr).block]? = _ from hg]; simp
    have fz4 : w.frozen? ⟨b, 4, none⟩ = false := HH.out.frozen 4
    have hgw : g < w.heap.size := (Array.getElem?_eq_some_iff.1 hg).1
    have hbx := World.new_ne w ⟨g, off, none⟩ (by rw [a0])
    have hby := World.new_ne w ⟨b, 4, none⟩ (by rw [c4])
    have HG : Hid (w.heap[g]? = some (.cells cur 95 (0, 0))) := hg
    have HA : Hid _ := hall
    have HK : Hid (w.ownsRow 0 114 4 (.slice fa fs.length fc) fs.length (fateCells fs) ∧ ∀ k, (Value.slice fa fs.length fc).ownBlock = some k → F k) := ⟨k2, k3⟩
    have HFv := Hid.mk2 hfv
    clear hg hall k0 k1 k2 k3 HV0 hfv0 hfv
    unfold DoneOk
    obtain ⟨O, hO⟩ : ∃ O, O = (Obj.cells #[.int .i64 n, .slice fa fs.length fc] 95) := ⟨_, rfl⟩
    have hbel : Below w.heap.size w (w.alloc O) := below_new w O
    have b4 : (w.alloc O).cell? ⟨b, 4, none⟩ = some (.slice (some ⟨g, off, none⟩) (r.length + 1) cap) := cell_below hbel c4
    have d0 : (w.alloc O).cell? ⟨g, off, none⟩ = some (.int .i64 n) := cell_below hbel a0
    have d1 : (w.alloc O).cell? ⟨g, off + 1, none⟩ = some (.slice fa fs.length fc) := cell_below hbel a1
    have hgO : (w.alloc O).heap[g]? = some (.cells cur 95 (0, 0)) := (hbel.block g hgw).trans HG.out
    have hbO := (hbel.block b (HH.out.lt b HH.out.fb)).trans HH.out.blk
    have y0 : (w.alloc O).frozen? ⟨g, off, none⟩ = false := by unfold World.frozen?; rw [show (w.alloc O).heap[(⟨g, off, none⟩ : Addr).block]? = _ from hgO]; simp
    have y1 : (w.alloc O).frozen? ⟨g, off + 1, none⟩ = false := by unfold World.frozen?; rw [show (w.alloc O).heap[(⟨g, off + 1, none⟩ : Addr).block]? = _ from hgO]; simp
    have y4 : (w.alloc O).frozen? ⟨b, 4, none⟩ = false := by unfold World.frozen?; rw [show (w.alloc O).heap[(⟨b, 4, none⟩ : Addr).block]? = _ from hbO]; simp
    have HGO := Hid.mk2 hgO
    have HBO := Hid.mk2 hbO
    have HBL := Hid.mk2 hbel
    have HO := Hid.mk2 hO
    have hgb : ¬ g = b := fun e => hbg e.symm
    clear hgO hbO hbel
    rw [hO] at b4 d0 d1 y0 y1 y4
    clear hO
    go_enter Tryz.func53, Tryz.ntmps53
    by_cases hn0 : 0 < n
    · have HD : Hid (d.done = ({ d with arms := ⟨n - 1, fs⟩ :: r }, 0)) := by show d.done = _; unfold Dev.done; rw [ha]; simp [hn0]
      have HE : Hid (DevAt ((w.setCell ⟨g, off, none⟩ (.int .i64 (n - 1))).alloc (.cells #[.int .i64 n, .slice fa fs.length fc] 95)) b F { d with arms := ⟨n - 1, fs⟩ :: r } ∧ Step F F w ((w.setCell ⟨g, off, none⟩ (.int .i64 (n - 1))).alloc (.cells #[.int .i64 n, .slice fa fs.length fc] 95))) := by
        rw [← HO.out]
        obtain ⟨w3, hw3⟩ : ∃ w3, w3 = (w.setCell ⟨g, off, none⟩ (.int .i64 (n - 1))).alloc O := ⟨_, rfl⟩
        have hz : w3.heap.size = w.heap.size + 1 := by rw [hw3]; simp [World.setCell]
        have hk3 : ∀ k, k < w.heap.size → k ≠ g → w3.heap[k]? = w.heap[k]? := fun k hk hn => by rw [hw3, alloc_old (by rw [set_size]; exact hk), set_other hn]
        have hg3 : w3.heap[g]? = some (.cells (cur.setIfInBounds off (.int .i64 (n - 1))) 95 (0, 0)) := by rw [hw3, alloc_old (by rw [set_size]; exact hgw)]; exact set_cells HG.out
        have hst : Step F F w w3 := ⟨by rw [hw3]; rfl, by rw [hw3]; rfl, by rw [hw3]; rfl, by omega, fun k hk hn => hk3 k hk (fun e => hn (by rw [e]; exact hFg)), fun _ h => .inl h⟩
        rw [← hw3]
        refine ⟨⟨mb, nb, pv, _, Dn, HH.out.rearm (l' := ⟨n - 1, fs⟩ :: r) g cur HG.out (fun k hk _ hn => hk3 k hk hn) (by omega) ((hk3 b (HH.out.lt b HH.out.fb) hbg).trans HH.out.blk) ?_ ⟨HH.out.ok.s0, HH.out.ok.s1, HH.out.ok.dur, HH.out.ok.rise, HH.out.ok.pend, fun a h => ?_⟩⟩, hst⟩
        · refine .inr ⟨g, off, cap, _, fv, rfl, hFg, hg3, hl, hc, by simpa using hsz, HFv.out, fun i h h' => ?_⟩
          obtain ⟨q0, q1, q2, q3⟩ := HA.out i h h'
          have hq : w3.ownsRow 0 114 4 fv[i] (⟨n, fs⟩ :: r : List Armed)[i].fates.length (fateCells (⟨n, fs⟩ :: r : List Armed)[i].fates) := owns_block q2 fun k hk => by
            obtain ⟨_, hlt, c, hc'⟩ := owns_blk q2 k hk
            exact hk3 k hlt (fun e => by rw [e, HG.out] at hc'; simp at hc')
          have ef : (⟨n - 1, fs⟩ :: r : List Armed)[i].fates = (⟨n, fs⟩ :: r : List Armed)[i].fates := by cases i <;> rfl
          refine ⟨?_, ?_, by rw [ef]; exact hq, q3⟩
          · cases i with
            | zero => rw [Nat.zero_mul, Nat.add_zero, Array.getElem?_setIfInBounds_self_of_lt (by omega)]; rfl
            | succ i => rw [Array.getElem?_setIfInBounds_ne (by omega)]; exact q0
          · rw [Array.getElem?_setIfInBounds_ne (by omega)]; exact q1
        · rcases List.mem_cons.1 h with e | h
          · rw [e]; simp only []; omega
          · exact HH.out.ok.arms a (by rw [ha]; exact List.mem_cons_of_mem _ h)
      go_wp2_with fail
      go_ret
      rw [HD.out]
      exact ⟨rfl, F, HE.out⟩
    · have HD : Hid (d.done = ({ d with arms := r }.kill fs, 8)) := by show d.done = _; unfold Dev.done; rw [ha]; simp [hn0]
      obtain ⟨w2, hw2⟩ : ∃ w2, w2 = (w.setCell ⟨g, off, none⟩ (.int .i64 0)).setCell ⟨g, off + 1, none⟩ (.slice none 0 0) := ⟨_, rfl⟩
      have hs2 : w2.heap.size = w.heap.size := by rw [hw2, set_size, set_size]
      have hg2 : w2.heap[g]? = some (.cells ((cur.setIfInBounds off (.int .i64 0)).setIfInBounds (off + 1) (.slice none 0 0)) 95 (0, 0)) := by rw [hw2]; exact set_cells (set_cells HG.out)
      have hk2 : ∀ k, k ≠ g → w2.heap[k]? = w.heap[k]? := fun k hk => by rw [hw2, set_other hk, set_other hk]
      have hb2 : w2.heap[b]? = _ := (hk2 b hbg).trans HH.out.blk
      have e4 : (w2.alloc O).cell? ⟨b, 4, none⟩ = some (.slice (some ⟨g, off, none⟩) (r.length + 1) cap) := cell_below (below_new w2 O) (by rw [World.cell?_of_block (hk2 b hbg)]; exact c4)
      have z4 : (w2.alloc O).frozen? ⟨b, 4, none⟩ = false := frozen_cells ((alloc_old (by rw [hs2]; exact HH.out.lt b HH.out.fb)).trans hb2)
      have HCR : Hid (∀ off', (off' = off + 2 ∨ (off' = off ∧ cap = 1)) → Calls Tryz.prog 24 #[.pointer (some ⟨b, 0, none⟩), .slice fa fs.length fc] ((w2.alloc O).setCell ⟨b, 4, none⟩ (.slice (some ⟨g, off', none⟩) r.length (cap - 1))) fun e w' => e = .returned (.tuple #[]) ∧ DevPost w b F ({ d with arms := r }.kill fs) w') := by
        intro off' hoff
        obtain ⟨w3, hw3⟩ : ∃ w3, w3 = (w2.alloc O).setCell ⟨b, 4, none⟩ (.slice (some ⟨g, off', none⟩) r.length (cap - 1)) := ⟨_, rfl⟩
        have hblt := HH.out.lt b HH.out.fb
        have hz : w3.heap.size = w.heap.size + 1 := by rw [hw3, set_size]; simp [hs2]
        have hk3 : ∀ k, k < w.heap.size → k ≠ b → k ≠ g → w3.heap[k]? = w.heap[k]? := fun k hk h1 h2 => by rw [hw3, set_other h1, alloc_old (by rw [hs2]; exact hk)]; exact hk2 k h2
        have hg3 : w3.heap[g]? = some (.cells ((cur.setIfInBounds off (.int .i64 0)).setIfInBounds (off + 1) (.slice none 0 0)) 95 (0, 0)) := by rw [hw3, set_other (fun e => hbg e.symm), alloc_old (by rw [hs2]; exact hgw)]; exact hg2
        have hb3 : w3.heap[b]? = some (.cells (devCells { d with arms := r } mb nb pv (.slice (some ⟨g, off', none⟩) r.length (cap - 1))) 47 (0, 0)) := by
          rw [hw3]; exact set_cells ((alloc_old (by rw [hs2]; exact hblt)).trans hb2)
        have hst : Step F F w w3 := ⟨by rw [hw3, hw2]; rfl, by rw [hw3, hw2]; rfl, by rw [hw3, hw2]; rfl, by omega, fun k hk hn => hk3 k hk (fun e => hn (by rw [e]; exact HH.out.fb)) (fun e => hn (by rw [e]; exact hFg)), fun _ h => .inl h⟩
        have hrow : ∀ v l, w.ownsRow 0 114 4 v l.length (fateCells l) → w3.ownsRow 0 114 4 v l.length (fateCells l) := fun v l q2 => owns_block q2 fun k hk => by
          obtain ⟨_, hlt, c, hc'⟩ := owns_blk q2 k hk
          exact hk3 k hlt (fun e => by rw [e, HH.out.blk] at hc'; simp at hc') (fun e => by rw [e, HG.out] at hc'; simp at hc')
        have hdev : DevAt w3 b F { d with arms := r } := by
          refine ⟨mb, nb, pv, _, Dn, HH.out.rearm (l' := r) g cur HG.out hk3 (by omega) hb3 ?_ ⟨HH.out.ok.s0, HH.out.ok.s1, HH.out.ok.dur, HH.out.ok.rise, HH.out.ok.pend, fun a h => HH.out.ok.arms a (by rw [ha]; exact List.mem_cons_of_mem _ h)⟩⟩
          refine .inr ⟨g, off', cap - 1, _, fv.tail, rfl, hFg, hg3, by omega, by omega, by simp; omega, by rw [List.length_tail, HFv.out]; rfl, fun i h h' => ?_⟩
          have ho : off' = off + 2 := by rcases hoff with h1 | ⟨_, h2⟩ <;> omega
          obtain ⟨q0, q1, q2, q3⟩ := HA.out (i + 1) (by simpa using h) (by rw [HFv.out]; omega)
          simp only [List.getElem_cons_succ] at q0 q1 q2 q3
          rw [ho, List.getElem_tail]
          refine ⟨?_, ?_, hrow _ _ q2, q3⟩
          · rw [Array.getElem?_setIfInBounds_ne (by omega), Array.getElem?_setIfInBounds_ne (by omega), ← q0]; congr 1; omega
          · rw [Array.getElem?_setIfInBounds_ne (by omega), Array.getElem?_setIfInBounds_ne (by omega), ← q1]; congr 1; omega
        rw [← hw3]
        refine (crash_any b F { d with arms := r } w3 hdev fs (.slice fa fs.length fc) (hrow _ _ HK.out.1) hp).mono fun e w' ⟨he, F', hd', hs'⟩ => ⟨he, F', ?_, hst.trans hs'⟩
        have : ({ d with arms := r } : Dev).crash fs = ({ d with arms := r } : Dev).kill fs := by unfold Dev.crash; rw [if_neg (by simp [hd])]
        rw [← this]; exact hd'
      have HERR := Hid.mk2 hE
      have HFF := Hid.mk2 hF
      clear hs2 hg2 hk2 hb2 hE hF
      rw [hw2, HO.out] at e4 z4 HCR
      clear hw2
      go_wp2_with fail
      all_goals first
        | refine (HCR.out (off + 2) (.inl rfl)).mono ?_
        | (have hcr := HCR.out off (.inr ⟨rfl, by omega⟩); rw [show cap - 1 = 0 by omega] at hcr; refine hcr.mono ?_)
      all_goals
        rintro e w4 ⟨rfl, F4, hd4, hs4⟩
        have e7 := (HERR.out.step hs4 HFF.out).dead
        have HP : Hid (DevPost w b F ({ d with arms := r }.kill fs) w4) := ⟨F4, hd4, hs4⟩
        clear hd4 hs4
        go_wp2_with fail
        go_ret
        rw [HD.out]
        exact ⟨rfl, HP.out⟩



end Go.Proofs.YtlopimdnjookeabGreatDoor.V

namespace Go.Proofs
open Go.Shelf
def Tryz.lays316_ren : Go.Shelf.Ren := ⟨fun | 316 => 100 | n => n, fun | 5 => 5 | 9 => 9 | 3 => 3 | 4 => 4 | 37 => 33 | 0 => 0 | 127 => 147 | n => n, fun | n => n⟩
theorem Tryz.lays316 : Go.Proofs.LaysM.n316 Tryz.prog Tryz.lays316_ren := {
  mixed := by kernel_rfl
  f316 := Tryz.func100.trans (congrArg some (by kernel_rfl))
  t0 := Tryz.underlying0
  a0 := Tryz.isAgg0
  z0 := Tryz.sizeOf0
  v0 := Tryz.zeroValue0
  t3 := Tryz.underlying3
  a3 := Tryz.isAgg3
  z3 := Tryz.sizeOf3
  v3 := Tryz.zeroValue3
  t4 := Tryz.underlying4
  a4 := Tryz.isAgg4
  z4 := Tryz.sizeOf4
  v4 := Tryz.zeroValue4
  t5 := Tryz.underlying5
  a5 := Tryz.isAgg5
  z5 := Tryz.sizeOf5
  v5 := Tryz.zeroValue5
  t9 := Tryz.underlying9
  a9 := Tryz.isAgg9
  z9 := Tryz.sizeOf9
  v9 := Tryz.zeroValue9
  t37 := Tryz.underlying33
  a37 := Tryz.isAgg33
  z37 := Tryz.sizeOf33
  v37 := Tryz.zeroValue33
  t127 := Tryz.underlying147
  a127 := Tryz.isAgg147
  z127 := Tryz.sizeOf147
  v127 := Tryz.zeroValue147
  i0 := by kernel_rfl
  i3 := by kernel_rfl
  i4 := by kernel_rfl
  i5 := by kernel_rfl
  i9 := by kernel_rfl
  i37 := by kernel_rfl
  i127 := by kernel_rfl }
namespace YtlopimdnjookeabGreatDoor
open Go.RowKit
theorem slclone_any (s : ByteArray) (w : World) (h : s.size ≤ 281474976710656) : Calls Tryz.prog 100 #[.string s] w fun e w' => e = .returned (.string s) ∧ Below w.heap.size w w' := Any.stringslite_Clone Tryz.lays316 s w h
theorem sclone_any (s : ByteArray) (w : World) (h : s.size ≤ 281474976710656) : Calls Tryz.prog 78 #[.string s] w fun e w' => e = .returned (.string s) ∧ Below w.heap.size w w' := by
  go_enter Tryz.func78, Tryz.ntmps78
  go_wp2_with fail
  refine (slclone_any s w h).mono ?_
  rintro e w1 ⟨rfl, hb⟩
  go_wp2_with fail
  go_ret
  exact ⟨rfl, hb⟩
end YtlopimdnjookeabGreatDoor
end Go.Proofs

namespace Go.Proofs.YtlopimdnjookeabGreatDoor.V
open Go.RowKit Go.Maps

theorem fateCells_set : ∀ (l : List Fate) (k : Nat) (f : Fate) (h : k < l.length), f.ix = l[k].ix → f.kind = l[k].kind → f.cut = l[k].cut → fateCells (l.set k f) = (fateCells l).set (k * 4 + 3) (.string f.junk)
  | [], _, _, h, _, _, _ => absurd h (by simp)
  | x :: r, 0, f, _, h1, h2, h3 => by
    simp only [List.getElem_cons_zero] at h1 h2 h3
    simp [fateCells_cons, h1, h2, h3]
  | x :: r, k + 1, f, h, h1, h2, h3 => by
    simp only [List.getElem_cons_succ] at h1 h2 h3
    have := fateCells_set r k f (by simpa using h) h1 h2 h3
    rw [List.set_cons_succ, fateCells_cons, fateCells_cons, this, show (k + 1) * 4 + 3 = k * 4 + 3 + 4 by omega]
    rfl
/-- Fates, so many of them cut short. -/
def ownL (l : List Fate) (k : Nat) : List Fate := l.mapIdx fun i f => if i < k then shortF f else f
theorem ownL_len (l : List Fate) (k : Nat) : (ownL l k).length = l.length := by simp [ownL]
theorem ownL_zero (l : List Fate) : ownL l 0 = l := by
  apply List.ext_getElem (ownL_len l 0)
  intro i _ _; simp [ownL]
theorem ownL_all (l : List Fate) : ownL l l.length = l.map shortF := by
  apply List.ext_getElem (by rw [ownL_len, List.length_map])
  intro i h1 h2
  have : i < l.length := by rw [ownL_len] at h1; exact h1
  simp [ownL, this]
theorem ownL_get (l : List Fate) (k : Nat) (h : k < l.length) : (ownL l k)[k]'(by rw [ownL_len]; exact h) = l[k] := by simp [ownL]
theorem ownL_succ (l : List Fate) (k : Nat) (h : k < l.length) : ownL l (k + 1) = (ownL l k).set k (shortF l[k]) := by
  apply List.ext_getElem (by rw [ownL_len, List.length_set, ownL_len])
  intro i h1 h2
  rw [List.getElem_set]
  by_cases e : k = i
  · subst e; simp [ownL]
  · rw [if_neg e]
    simp only [ownL, List.getElem_mapIdx]
    by_cases h' : i < k
    · rw [if_pos h', if_pos (by omega)]
    · rw [if_neg h', if_neg (by omega)]
structure OwInv (w wr : World) (v : Value) (l : List Fate) (k : Nat) : Prop where
  row : wr.ownsRow w.heap.size 114 4 v l.length (fateCells (ownL l k))
  bel : Below w.heap.size w wr

set_option maxRecDepth 100000 in
set_option maxHeartbeats 800000 in
theorem ownf_any (l : List Fate) (v : Value) (w : World) (hv : w.ownsRow 0 114 4 v l.length (fateCells l)) (hb : l.length ≤ 3518437208883) :
    Calls Tryz.prog 58 #[v] w fun e w' => ∃ v', e = .returned v' ∧ w'.ownsRow w.heap.size 114 4 v' l.length (fateCells (l.map shortF)) ∧ Below w.heap.size w w' := by
  have HC := Hid.mk2 (clonef_any l v w hv hb)
  obtain ⟨a, c, rfl, -⟩ := owns_form hv
  obtain ⟨n, hn⟩ : ∃ n, n = l.length := ⟨_, rfl⟩
  have HN := Hid.mk2 hn
  rw [← hn] at HC hb ⊢
  clear hv hn
  go_enter Tryz.func58, Tryz.ntmps58
  go_wp2_with fail
  refine HC.out.mono ?_
  rintro e w1 ⟨v1, rfl, hv1, hb1⟩
  obtain ⟨a1, c1, rfl, ha1⟩ := owns_form hv1
  have HI : Hid (OwInv w w1 (.slice a1 n c1) l 0) := ⟨by rw [ownL_zero, ← HN.out]; exact hv1, hb1⟩
  clear hv1 hb1 HC
  go_wp2_with fail
  go_loopw [10] (fun i wr => ∃ k : Nat, k ≤ n ∧ i = .int .i64 (k : Int) ∧ OwInv w wr (.slice a1 n c1) l k) (fun i _ => n - (intOf i).toNat)
  case atStart => exact ⟨0, Nat.zero_le _, rfl, HI.out⟩
  case round =>
    obtain ⟨k, hk, rfl, inv⟩ := hrel
    have INV := Hid.mk2 inv
    clear inv HI
    by_cases hlt : k < n
    · obtain ⟨g, rfl⟩ := ha1 (by omega)
      have hkl : k < l.length := by rw [← HN.out]; exact hlt
      have k0 : (0 : Int) ≤ (k : Int) := Int.natCast_nonneg _
      have k1 : (k : Int) < (n : Int) := by omega
      have hkl' : k < (ownL l k).length := by rw [ownL_len]; exact hkl
      obtain ⟨q0, q1, q2, q3⟩ := fateCells_get (ownL l k) k hkl'
      rw [ownL_get l k hkl] at q0 q1 q2 q3
      have hrow := INV.out.row
      rw [← HN.out] at hrow
      have x0 := owns_cell hrow rfl _ _ q0
      have x1 := owns_cell hrow rfl _ _ q1
      have x2 := owns_cell hrow rfl _ _ q2
      have x3 := owns_cell hrow rfl _ _ q3
      have HX := Hid.mk2 (And.intro hrow rfl : wr.ownsRow w.heap.size 114 4 (.slice (some ⟨g, 0, none⟩) n c1) n (fateCells (ownL l k)) ∧ 0 = 0)
      have HSET : Hid (fateCells (ownL l (k + 1)) = (fateCells (ownL l k)).set (k * 4 + 3) (.string (shortF l[k]).junk)) := by
        show _ = _
        rw [ownL_succ l k hkl]
        exact fateCells_set _ k _ hkl' (by rw [ownL_get l k hkl]; rfl) (by rw [ownL_get l k hkl]; rfl) (by rw [ownL_get l k hkl]; rfl)
      have HSJ : Hid ((shortF l[k]).junk = mkb ((bl l[k].junk).take 512)) := (rfl : (shortF l[k]).junk = _)
      generalize (shortF l[k]).junk = SJ at *
      generalize l[k] = X at *
      obtain ⟨xi, xk, xc, xj⟩ := X
      simp only [] at x0 x1 x2 x3 HSJ
      clear q0 q1 q2 q3 hrow
      have HHD : Hid (∀ w', Calls Tryz.prog 79 #[.string xj, .int .i64 512] w' fun e w'' => e = .returned (.string SJ) ∧ w' = w'') := fun w' => by rw [HSJ.out]; exact head_any xj 512 w' (Nat.le_refl _)
      have HCL : Hid (∀ w', Calls Tryz.prog 78 #[.string SJ] w' fun e w'' => e = .returned (.string SJ) ∧ Below w'.heap.size w' w'') := fun w' => sclone_any SJ w' (by rw [HSJ.out, mkb_size, List.length_take]; omega)
      go_wp2_with fail
      refine (HHD.out _).mono ?_
      rintro e w2 ⟨rfl, rfl⟩
      go_wp2_with fail
      refine (HCL.out _).mono ?_
      rintro e w3 ⟨rfl, hb3⟩
      have hb13 : Below wr.heap.size wr w3 := Below.next (below_new _ _) hb3
      have hr3 := owns_below HX.out.1 hb13
      have z3 : w3.cell? ⟨g, k * 4 + 3, none⟩ = some (.string xj) := cell_below hb13 x3
      have f3 : w3.frozen? ⟨g, k * 4 + 3, none⟩ = false := hr3.frozenAt _
      have HR3 : Hid (OwInv w (w3.setCell ⟨g, k * 4 + 3, none⟩ (.string SJ)) (.slice (some ⟨g, 0, none⟩) n c1) l (k + 1)) := by
        refine ⟨?_, ?_⟩
        · rw [HSET.out, ← HN.out]; exact (hr3.stored _ _).1
        · have hg : w.heap.size ≤ g := (owns_blk hr3 g rfl).1
          have := Below.next INV.out.bel hb13
          exact ⟨this.os, this.tape, this.output, by have := this.size; simpa [World.setCell] using this, fun j hj => (set_other (by omega)).trans (this.block j hj)⟩
      clear hr3 hb13 hb3 x0 x1 x2 x3 HX HHD HCL INV
      go_wp2_with fail
      refine ⟨⟨k + 1, by omega, by simp, HR3.out⟩, ?_⟩
      simp only [intOf]
      omega
    · have k1 : ¬ (k : Int) < (n : Int) := by omega
      have HL : Hid (wr.ownsRow w.heap.size 114 4 (.slice a1 n c1) n (fateCells (l.map shortF)) ∧ Below w.heap.size w wr) := by
        refine ⟨?_, INV.out.bel⟩
        have := INV.out.row
        rw [show k = l.length by rw [← HN.out]; omega, ownL_all, ← HN.out] at this
        exact this
      clear INV
      go_wp2_with fail
      go_wp2_with fail
      go_ret
      exact ⟨_, rfl, HL.out⟩



end Go.Proofs.YtlopimdnjookeabGreatDoor.V

namespace Go.Proofs.YtlopimdnjookeabGreatDoor.V
open Go.RowKit Go.Maps

theorem Tryz.info95 : (Tryz.prog.info? 95).map (fun i => (i.zero, i.size, i.bytes)) = some (some (.agg #[.int .i64 0, .slice none 0 0]), 2, 32) := by kernel_rfl

/-- What an append to the arms leaves. -/
structure ArmStep (w w' : World) (F : Nat → Prop) (g : Nat) : Prop where
  os : w'.os = w.os
  tape : w'.tape = w.tape
  output : w'.output = w.output
  size : w.heap.size ≤ w'.heap.size
  block : ∀ k, k < w.heap.size → k ≠ g → w'.heap[k]? = w.heap[k]?
  at' : (g < w.heap.size → F g ∧ ∃ cur, w.heap[g]? = some (.cells cur 95 (0, 0)))
  lt : g < w'.heap.size

theorem pair_get {cs : List Value} {u0 u1 : Value} {n : Nat} (h : cs.length = n * 2) : (cs ++ [u0, u1])[n * 2]? = some u0 ∧ (cs ++ [u0, u1])[n * 2 + 1]? = some u1 := by
  constructor
  · rw [List.getElem?_append_right (by omega), h, Nat.sub_self]; rfl
  · rw [List.getElem?_append_right (by omega), h, show n * 2 + 1 - n * 2 = 1 by omega]; rfl

/-- The cells of arms, with where their fates lie. -/
def armCells (l : List Armed) (fv : List Value) : List Value := (l.zip fv).flatMap fun x => [.int .i64 x.1.after, x.2]
theorem armCells_len : ∀ (l : List Armed) (fv : List Value), fv.length = l.length → (armCells l fv).length = l.length * 2
  | [], _, _ => by simp [armCells]
  | a :: l, [], h => by simp at h
  | a :: l, f :: fv, h => by
    have := armCells_len l fv (by simpa using h)
    simp only [armCells, List.zip_cons_cons, List.flatMap_cons, List.length_append, List.length_cons, List.length_nil] at this ⊢
    omega
theorem armCells_get : ∀ (l : List Armed) (fv : List Value) (i : Nat) (h : i < l.length) (h' : i < fv.length), (armCells l fv)[i * 2]? = some (.int .i64 l[i].after) ∧ (armCells l fv)[i * 2 + 1]? = some fv[i]
  | [], _, _, h, _ => absurd h (by simp)
  | _ :: _, [], _, _, h' => absurd h' (by simp)
  | a :: l, f :: fv, 0, _, _ => ⟨rfl, rfl⟩
  | a :: l, f :: fv, i + 1, h, h' => by
    have := armCells_get l fv i (by simpa using h) (by simpa using h')
    simp only [List.getElem_cons_succ]
    rw [show (i + 1) * 2 = i * 2 + 2 by omega]
    exact this
theorem armCells_one : ∀ (l : List Armed) (fv : List Value) (i : Nat) (v : Value), (armCells l fv)[i]? = some v → ∃ k, i = k * 2 ∧ k < l.length ∧ k < fv.length ∨ i = k * 2 + 1 ∧ k < l.length ∧ k < fv.length
  | [], _, _, _, h => by simp [armCells] at h
  | _ :: _, [], _, _, h => by simp [armCells] at h
  | a :: l, f :: fv, 0, _, _ => ⟨0, .inl (by simp)⟩
  | a :: l, f :: fv, 1, _, _ => ⟨0, .inr (by simp)⟩
  | a :: l, f :: fv, i + 2, v, h => by
    obtain ⟨k, hk⟩ := armCells_one l fv i v h
    exact ⟨k + 1, by simp only [List.length_cons]; omega⟩

theorem add_mid' (b o j : Nat) : (⟨b, o, none⟩ : Addr).add j = ⟨b, o + j, none⟩ := by unfold Addr.add; split <;> simp_all

/-- One arm more. -/
theorem arm_append (ty : TypeId) (w : World) (v : Value) (l : List Armed) (F : Nat → Prop) (h : ArmsAt w F v l) (B n0 : Nat) (u0 : Int) (fs : List Fate) (u1 : Value) (hB : w.heap[B]? = some (.cells #[.int .i64 u0, u1] 95 (0, 0)))
    (hf : w.ownsRow n0 114 4 u1 fs.length (fateCells fs)) (h0 : n0 ≤ w.heap.size) (hn : (l.length + 1) * 32 ≤ 140737488355328) :
    ∃ g off cap w', (Builtin.append_ #[45, 45] ty #[v, .slice (some ⟨B, 0, none⟩) 1 1]).run Tryz.prog w = .ok (.slice (some ⟨g, off, none⟩) (l.length + 1) cap) w' ∧
      ArmsAt w' (fun k => F k ∨ (n0 ≤ k ∧ k < w'.heap.size)) (.slice (some ⟨g, off, none⟩) (l.length + 1) cap) (l ++ [⟨u0, fs⟩]) ∧ ArmStep w w' F g := by
  obtain ⟨i0, hi, hz0, hz1, hz2⟩ := info_parts Tryz.info95
  have hun : Tryz.prog.underlying 45 = some (.slice 95) := Tryz.underlying45
  obtain ⟨fa, fc, rfl, -⟩ := owns_form hf
  have hs : ∀ W : World, W.heap[B]? = some (.cells #[Value.int .i64 u0, Value.slice fa fs.length fc] 95 (0, 0)) → Src Tryz.prog i0.size 45 (.slice (some ⟨B, 0, none⟩) 1 1) 1 [Value.int .i64 u0, Value.slice fa fs.length fc] W := fun W hW => Src.ofSlice W hun ⟨B, 0, none⟩ 1 1 _ (by rw [hz1]; rfl) (World.news_of_block hW) (by intro u hu; simp at hu; rcases hu with rfl | rfl <;> rfl)
  have hblk : ∀ k cur e, w.heap[k]? = some (Obj.cells cur e (0, 0)) → k < w.heap.size := fun k cur e hk => (Array.getElem?_eq_some_iff.1 hk).1
  -- what a new row gives
  have grow : ∀ (bs : Option Addr) (sc : Nat) (fv : List Value), v = .slice bs l.length sc → sc < l.length + 1 → fv.length = l.length →
      (∀ i (h : i < l.length) (h' : i < fv.length), w.ownsRow 0 114 4 fv[i] l[i].fates.length (fateCells l[i].fates) ∧ ∀ k, fv[i].ownBlock = some k → F k) →
      (Builtin.firstCells i0.size l.length (.slice bs l.length sc)).run Tryz.prog w.drew = .ok (armCells l fv).toArray w.drew →
      ∃ g off cap w', (Builtin.append_ #[45, 45] ty #[v, .slice (some ⟨B, 0, none⟩) 1 1]).run Tryz.prog w = .ok (.slice (some ⟨g, off, none⟩) (l.length + 1) cap) w' ∧
      ArmsAt w' (fun k => F k ∨ (n0 ≤ k ∧ k < w'.heap.size)) (.slice (some ⟨g, off, none⟩) (l.length + 1) cap) (l ++ [⟨u0, fs⟩]) ∧ ArmStep w w' F g := by
    rintro bs sc fv rfl hsc hfl hfr hold
    have hrun := run_append_grow_src (P := Tryz.prog) w 45 45 ty 95 i0 (.agg #[.int .i64 0, .slice none 0 0]) hun hi hz0 bs l.length sc (armCells l fv) hold (.slice (some ⟨B, 0, none⟩) 1 1) 1 _ (hs w hB) hsc (by omega) (growslice_fits hsc (by rw [hz2]; exact hn))
    have hge := grownCap_ge w (l.length + 1) sc 95
    have hcm := grownCap_le_maxLen w (l.length + 1) sc 95 (by unfold maxLen; omega)
    refine ⟨w.heap.size, 0, _, _, hrun, ?_, ⟨rfl, rfl, rfl, by simp, fun k hk _ => Below.heap_alloc w.drew _ k hk, fun h => absurd h (Nat.lt_irrefl _), by simp⟩⟩
    have hal := armCells_len l fv hfl
    have hnew : (w.drew.alloc (.cells ((armCells l fv ++ [Value.int .i64 u0, Value.slice fa fs.length fc]).toArray ++ Builtin.zeroCells (Value.agg #[.int .i64 0, .slice none 0 0]).cells (grownCap w (l.length + 1) sc 95 - (l.length + 1))) 95)).heap[w.heap.size]? = some (.cells ((armCells l fv ++ [Value.int .i64 u0, Value.slice fa fs.length fc]).toArray ++ Builtin.zeroCells (Value.agg #[.int .i64 0, .slice none 0 0]).cells (grownCap w (l.length + 1) sc 95 - (l.length + 1))) 95 (0, 0)) := heap_alloc_new w.drew _
    have hold2 : ∀ k, k < w.heap.size → (w.drew.alloc (.cells ((armCells l fv ++ [Value.int .i64 u0, Value.slice fa fs.length fc]).toArray ++ Builtin.zeroCells (Value.agg #[.int .i64 0, .slice none 0 0]).cells (grownCap w (l.length + 1) sc 95 - (l.length + 1))) 95)).heap[k]? = w.heap[k]? := fun k hk => Below.heap_alloc w.drew _ k hk
    generalize hW : w.drew.alloc (.cells ((armCells l fv ++ [Value.int .i64 u0, Value.slice fa fs.length fc]).toArray ++ Builtin.zeroCells (Value.agg #[.int .i64 0, .slice none 0 0]).cells (grownCap w (l.length + 1) sc 95 - (l.length + 1))) 95) = W' at hnew hold2 ⊢
    have hsz : w.heap.size < W'.heap.size := (Array.getElem?_eq_some_iff.1 hnew).1
    refine .inr ⟨w.heap.size, 0, _, _, fv ++ [.slice fa fs.length fc], by simp, .inr ⟨h0, hsz⟩, hnew, by simpa using hge, hcm, ?_, by simp [hfl], fun i hi1 hi2 => ?_⟩
    · rw [Array.size_append, List.size_toArray, List.length_append, hal, size_zeroCells]
      simp [Value.cells]
      omega
    · have hcell : ∀ j u, (armCells l fv ++ [Value.int .i64 u0, Value.slice fa fs.length fc])[j]? = some u → ((armCells l fv ++ [Value.int .i64 u0, Value.slice fa fs.length fc]).toArray ++ Builtin.zeroCells (Value.agg #[.int .i64 0, .slice none 0 0]).cells (grownCap w (l.length + 1) sc 95 - (l.length + 1)))[j]? = some u := fun j u hj => by
        rw [Array.getElem?_append_left (by rw [List.size_toArray]; exact (List.getElem?_eq_some_iff.1 hj).1), List.getElem?_toArray]
        exact hj
      rw [Nat.zero_add, List.length_append, List.length_singleton] at *
      by_cases hil : i < l.length
      · obtain ⟨q0, q1⟩ := armCells_get l fv i hil (by omega)
        obtain ⟨q2, q3⟩ := hfr i hil (by omega)
        rw [List.getElem_append_left hil, List.getElem_append_left (by omega)]
        refine ⟨hcell _ _ (by rw [List.getElem?_append_left (by omega)]; exact q0), hcell _ _ (by rw [List.getElem?_append_left (by omega)]; exact q1), owns_block q2 fun k hk => ?_, fun k hk => .inl (q3 k hk)⟩
        obtain ⟨_, hlt, _⟩ := owns_blk q2 k hk
        exact hold2 k hlt
      · obtain rfl : i = l.length := by (try simp at hi1); omega
        rw [List.getElem_append_right (by omega), List.getElem_append_right (by omega)]
        simp only [Nat.sub_self, hfl, List.getElem_singleton]
        obtain ⟨p0, p1⟩ := pair_get (u0 := .int .i64 u0) (u1 := .slice fa fs.length fc) hal
        refine ⟨hcell _ _ p0, hcell _ _ p1, ?_, fun k hk => ?_⟩
        · have := owns_block hf (w' := W') fun k hk => hold2 k (owns_blk hf k hk).2.1
          exact ⟨this.1, this.2.imp id fun ⟨g, cap, cur, r1, _, r3⟩ => ⟨g, cap, cur, r1, Nat.zero_le _, r3⟩⟩
        · obtain ⟨r1, r2, _⟩ := owns_blk hf k hk
          exact .inr ⟨r1, by omega⟩
  rcases h with ⟨rfl, rfl⟩ | ⟨g, off, cap, cur, fv, rfl, hFg, hg, hl, hc, hsz, hfv, hall⟩
  · exact grow none 0 [] rfl (by simp) rfl (fun i h => absurd h (by simp)) (by simpa [armCells] using run_firstCells_none w.drew i0.size 0 0 0)
  · by_cases hroom : l.length + 1 ≤ cap
    · have hgl := hblk g cur _ hg
      have hrun := run_append_room_src (P := Tryz.prog) w 45 45 ty 95 i0 hun hi g off l.length cap (.slice (some ⟨B, 0, none⟩) 1 1) 1 _ (hs w hB) hroom
        (fun j hj => by
          rw [hz1, cell_of_row w g _ _ _ _ hg, Array.getElem?_eq_getElem (by simp at hj; omega)]; rfl)
        (fun j _ => frozen_cells hg)
      rw [hz1] at hrun
      have hg2 : (w.setCells g (off + l.length * 2) [Value.int .i64 u0, Value.slice fa fs.length fc]).heap[g]? = some (.cells ((cur.setIfInBounds (off + l.length * 2) (.int .i64 u0)).setIfInBounds (off + l.length * 2 + 1) (.slice fa fs.length fc)) 95 (0, 0)) := set_cells (set_cells hg)
      have hk2 : ∀ k, k ≠ g → (w.setCells g (off + l.length * 2) [Value.int .i64 u0, Value.slice fa fs.length fc]).heap[k]? = w.heap[k]? := fun k hk => (set_other hk).trans (set_other hk)
      have hz2' : (w.setCells g (off + l.length * 2) [Value.int .i64 u0, Value.slice fa fs.length fc]).heap.size = w.heap.size := set_size.trans set_size
      refine ⟨g, off, cap, _, hrun, ?_, ⟨rfl, rfl, rfl, by omega, fun k _ hk => hk2 k hk, fun _ => ⟨hFg, cur, hg⟩, by omega⟩⟩
      generalize w.setCells g (off + l.length * 2) [Value.int .i64 u0, Value.slice fa fs.length fc] = W' at hg2 hk2 hz2' ⊢
      refine .inr ⟨g, off, cap, _, fv ++ [.slice fa fs.length fc], by simp, .inl hFg, hg2, by simpa using hroom, hc, by simpa using hsz, by simp [hfv], fun i hi1 hi2 => ?_⟩
      have hrow : ∀ {b' v' n xs}, w.ownsRow b' 114 4 v' n xs → W'.ownsRow 0 114 4 v' n xs := fun {b' v' n xs} q2 => by
        have := owns_block q2 (w' := W') fun k hk => by
          obtain ⟨_, _, c, hc'⟩ := owns_blk q2 k hk
          exact hk2 k (fun e => by rw [e, hg] at hc'; simp at hc')
        exact ⟨this.1, this.2.imp id fun ⟨g, cap, cur, r1, _, r3⟩ => ⟨g, cap, cur, r1, Nat.zero_le _, r3⟩⟩
      by_cases hil : i < l.length
      · obtain ⟨q0, q1, q2, q3⟩ := hall i hil (by omega)
        rw [List.getElem_append_left hil, List.getElem_append_left (by omega)]
        refine ⟨?_, ?_, hrow q2, fun k hk => .inl (q3 k hk)⟩
        · rw [Array.getElem?_setIfInBounds_ne (by omega), Array.getElem?_setIfInBounds_ne (by omega)]; exact q0
        · rw [Array.getElem?_setIfInBounds_ne (by omega), Array.getElem?_setIfInBounds_ne (by omega)]; exact q1
      · obtain rfl : i = l.length := by (try simp at hi1); omega
        rw [List.getElem_append_right (by omega), List.getElem_append_right (by omega)]
        simp only [Nat.sub_self, hfv, List.getElem_singleton]
        refine ⟨?_, ?_, hrow hf, fun k hk => ?_⟩
        · rw [Array.getElem?_setIfInBounds_ne (by omega), Array.getElem?_setIfInBounds_self_of_lt (by omega)]
        · rw [Array.getElem?_setIfInBounds_self_of_lt (by simp; omega)]
        · obtain ⟨r1, r2, _⟩ := owns_blk hf k hk
          exact .inr ⟨r1, by omega⟩
    · refine grow (some ⟨g, off, none⟩) cap fv rfl (by omega) hfv (fun i h h' => ⟨(hall i h h').2.2.1, (hall i h h').2.2.2⟩) ?_
      refine run_firstCells_some w.drew i0.size l.length ⟨g, off, none⟩ l.length cap (armCells l fv) (by rw [armCells_len l fv hfv, hz1]) fun j u hj => ?_
      rw [add_mid']
      have : w.drew.cell? ⟨g, off + j, none⟩ = cur[off + j]? := cell_of_row w.drew g _ _ _ _ hg
      rw [this]
      rcases armCells_one l fv j u hj with ⟨k, ⟨rfl, k1, k2⟩ | ⟨rfl, k1, k2⟩⟩
      · rw [(armCells_get l fv k k1 k2).1] at hj
        rw [← hj]; exact (hall k k1 k2).1
      · rw [(armCells_get l fv k k1 k2).2] at hj
        rw [← hj]; exact (hall k k1 k2).2.1



end Go.Proofs.YtlopimdnjookeabGreatDoor.V

namespace Go.Proofs.YtlopimdnjookeabGreatDoor.V
open Go.RowKit Go.Maps

theorem step_append_arm {ops : Array Oper} {o : Oper} {a : Act} {K : Act → World → Prop} {Q : Exit → Act → World → Prop} {E : Prop} (w : World) (hgd : o.guard = none) (s x : Operand)
    (ho : o.op = .call { callee := .builtin .append, args := #[s, x], argTypes := #[45, 45] })
    (v : Value) (l : List Armed) (F : Nat → Prop) (hs : a.eval s = v) (h : ArmsAt w F v l) (B n0 : Nat) (u0 : Int) (fs : List Fate) (u1 : Value) (hx : a.eval x = .slice (some ⟨B, 0, none⟩) 1 1) (hB : w.heap[B]? = some (.cells #[.int .i64 u0, u1] 95 (0, 0)))
    (hf : w.ownsRow n0 114 4 u1 fs.length (fateCells fs)) (h0 : n0 ≤ w.heap.size) (hn : (l.length + 1) * 32 ≤ 140737488355328)
    (hK : ∀ g off cap w', ArmsAt w' (fun k => F k ∨ (n0 ≤ k ∧ k < w'.heap.size)) (.slice (some ⟨g, off, none⟩) (l.length + 1) cap) (l ++ [⟨u0, fs⟩]) → ArmStep w w' F g → K (a.put o.dst (.slice (some ⟨g, off, none⟩) (l.length + 1) cap)) w') :
    if Region.wanted o (yielded ops a.tmps) = true then Oper.wp Tryz.prog o a w K Q else E := by
  have hw : Region.wanted o (yielded ops a.tmps) = true := by simp [Region.wanted, hgd]
  rw [if_pos hw]
  obtain ⟨g, off, cap, w', hr, h2, h3⟩ := arm_append o.type w v l F h B n0 u0 fs u1 hB hf h0 hn
  unfold Oper.wp execOp
  simp only [ho, resolve, invoke, builtin, Sem.run_bind, Sem.run_pure, Result.andThen_ok, List.map_toArray, List.map_cons, List.map_nil, hs, hx, hr]
  exact hK g off cap w' h2 h3

theorem step_ownf {ops : Array Oper} {o : Oper} {a : Act} {K : Act → World → Prop} {Q : Exit → Act → World → Prop} {E : Prop} (w : World) (hgd : o.guard = none) (x : Operand) (v0 : Value)
    (ho : o.op = .call { callee := .value (.func 58), args := #[x], argTypes := #[34] }) (hx : a.eval x = v0)
    (h : Calls Tryz.prog 58 #[v0] w fun e w' => ∃ v, e = .returned v ∧ K (a.put o.dst v) w') :
    if Region.wanted o (yielded ops a.tmps) = true then Oper.wp Tryz.prog o a w K Q else E := by
  have hw : Region.wanted o (yielded ops a.tmps) = true := by simp [Region.wanted, hgd]
  rw [if_pos hw]
  have hrun : (execOp a.eval o).run Tryz.prog w = .ok (.enter 58 #[v0]) w := by
    have he : execOp a.eval o = callFunc 58 #[v0] := by
      obtain ⟨dst, op, ty, pos, after, guard⟩ := o
      simp only [] at ho
      subst ho
      have hy : execOp a.eval { dst := dst, op := .call { callee := .value (.func 58), args := #[x], argTypes := #[34] }, type := ty, pos := pos, after := after, guard := guard } = callFunc 58 (#[] ++ #[x].map a.eval ++ #[]) := rfl
      rw [hy]
      simp [hx]
    rw [he]
    simp [callFunc, go_sem, Tryz.func58, Tryz.f58]
  unfold Oper.wp
  rw [hrun]
  refine h.mono ?_
  rintro e w' ⟨v, rfl, hk⟩
  exact hk

/-- A device with one arm more. -/
theorem DevBody.armed {w w2 : World} {b : Nat} {F : Nat → Prop} {d : Dev} {mb nb : Nat} {pv av v' : Value} {Dn : DataW Unit} {a : Armed} {g n0 : Nat} (h : DevBody w b F d mb nb pv av Dn) (hw : w.heap.size ≤ n0 + 0) (h0 : n0 ≤ w.heap.size)
    (ha : ArmsAt w2 (fun k => F k ∨ (n0 ≤ k ∧ k < w2.heap.size)) v' (d.arms ++ [a])) (hs : ArmStep w w2 F g) (hok : 0 ≤ a.after ∧ a.after < 9223372036854775808) :
    DevBody (w2.setCell ⟨b, 4, none⟩ v') b (fun k => F k ∨ (n0 ≤ k ∧ k < w2.heap.size)) { d with arms := d.arms ++ [a] } mb nb pv v' Dn ∧ Step F (fun k => F k ∨ (n0 ≤ k ∧ k < w2.heap.size)) w (w2.setCell ⟨b, 4, none⟩ v') := by
  have hne : ∀ k, k < w.heap.size → (∀ cur, w.heap[k]? ≠ some (.cells cur 95 (0, 0))) → w2.heap[k]? = w.heap[k]? := fun k hk hn => hs.block k hk (fun e => by
    obtain ⟨_, cur, hc⟩ := hs.at' (by omega)
    exact hn cur (by rw [e]; exact hc))
  have hb2 : w2.heap[b]? = some (.cells (devCells d mb nb pv av) 47 (0, 0)) := (hne b (h.lt b h.fb) (fun cur hc => by rw [h.blk] at hc; simp at hc)).trans h.blk
  have hkeep : ∀ k, k < w.heap.size → k ≠ b → (∀ cur, w.heap[k]? ≠ some (.cells cur 95 (0, 0))) → (w2.setCell ⟨b, 4, none⟩ v').heap[k]? = w.heap[k]? := fun k hk h1 h2 => (set_other h1).trans (hne k hk h2)
  refine ⟨⟨?_, .inl h.fb, .inl h.fm, .inl h.fn, h.ne, ?_, ?_, h.new, ?_, fun k hk => .inl (h.pf k hk), ?_, ?_, ?_⟩, ⟨hs.os, hs.tape, hs.output, by rw [set_size]; exact hs.size, fun k hk hn => ?_, fun k hk => ?_⟩⟩
  · exact set_cells hb2
  · exact ownsMap_block h.mapD (hkeep mb h.mapD.lt (fun e => map_ne_cells h.mapD h.blk e.symm) (fun cur hc => map_ne_cells h.mapD hc rfl))
  · exact ownsMap_block h.mapN (hkeep nb h.mapN.lt (fun e => map_ne_cells h.mapN h.blk e.symm) (fun cur hc => map_ne_cells h.mapN hc rfl))
  · refine owns_block h.pend fun k hk => ?_
    obtain ⟨_, hlt, c, hc⟩ := owns_blk h.pend k hk
    exact hkeep k hlt (fun e => by rw [e, h.blk] at hc; simp at hc) (fun cur hc' => by rw [hc] at hc'; simp at hc')
  · refine ha.block fun k cur hk _ => ?_
    refine set_other (fun e => ?_)
    rcases hk with hk | hk <;> (rw [e, hb2] at hk; simp at hk)
  · refine ⟨h.ok.s0, h.ok.s1, h.ok.dur, h.ok.rise, h.ok.pend, fun x hx => ?_⟩
    rcases List.mem_append.1 hx with hx | hx
    · exact h.ok.arms x hx
    · rw [List.mem_singleton.1 hx]; exact hok
  · rintro k (hk | ⟨_, hk⟩)
    · rw [set_size]; exact Nat.lt_of_lt_of_le (h.lt k hk) hs.size
    · rw [set_size]; exact hk
  · exact (set_other (fun e => hn (by rw [e]; exact h.fb))).trans (hs.block k hk (fun e => hn (by rw [e]; exact (hs.at' (by omega)).1)))
  · rcases hk with hk | ⟨hk, _⟩
    · exact .inl hk
    · exact .inr (by omega)

theorem bdrew1 {n : Nat} {a w : World} (h : Below n a w) : Below n a w.drew := ⟨h.os, h.tape, h.output, h.size, h.block⟩
theorem ArmStep.after {w wa w2 : World} {F : Nat → Prop} {g : Nat} (hb : Below w.heap.size w wa) (h : ArmStep wa w2 F g) : ArmStep w w2 F g :=
  ⟨h.os.trans hb.os, h.tape.trans hb.tape, h.output.trans hb.output, Nat.le_trans hb.size h.size, fun k hk hn => (h.block k (Nat.lt_of_lt_of_le hk hb.size) hn).trans (hb.block k hk),
    fun hg => by
      obtain ⟨h1, cur, h2⟩ := h.at' (Nat.lt_of_lt_of_le hg hb.size)
      exact ⟨h1, cur, (hb.block g hg).symm.trans h2⟩, h.lt⟩
theorem ArmsAt.below {w w' : World} {F : Nat → Prop} {v : Value} {l : List Armed} (h : ArmsAt w F v l) (hb : ∀ k, F k → w'.heap[k]? = w.heap[k]?) : ArmsAt w' F v l := h.block fun k _ _ hk => hb k hk

set_option maxRecDepth 100000 in
set_option maxHeartbeats 1600000 in
theorem arm_any (b : Nat) (F : Nat → Prop) (d : Dev) (w : World) (h : DevAt w b F d) (n : Int) (l : List Fate) (fv : Value) (hl : w.ownsRow 0 114 4 fv l.length (fateCells l)) (hb : l.length ≤ 3518437208883) (hn : n < 9223372036854775808) (ha : (d.arms.length + 1) * 32 ≤ 140737488355328) :
    Calls Tryz.prog 28 #[.pointer (some ⟨b, 0, none⟩), .int .i64 n, fv] w fun e w' => e = .returned (.tuple #[]) ∧ DevPost w b F (d.arm n l) w' := by
  obtain ⟨mb, nb, pv, av, Dn, h⟩ := h
  have c4 : w.cell? ⟨b, 4, none⟩ = some av := h.cell 4
  have f4 : w.frozen? ⟨b, 4, none⟩ = false := h.frozen 4
  have HH := Hid.mk2 h
  have HLT := Hid.mk2 h.lt
  have HAR := Hid.mk2 h.arms
  have HOW : Hid (∀ w', Below w.heap.size w w' → Calls Tryz.prog 58 #[fv] w' fun e w'' => ∃ v', e = .returned v' ∧ w''.ownsRow w'.heap.size 114 4 v' l.length (fateCells (l.map shortF)) ∧ Below w'.heap.size w' w'') := fun w' hb' => ownf_any l fv w' (owns_below hl hb') hb
  obtain ⟨fa, fc, rfl, -⟩ := owns_form hl
  obtain ⟨va, vn, vc, rfl⟩ : ∃ va vn vc, av = .slice va vn vc := by
    rcases h.arms with ⟨_, h2⟩ | ⟨g, off, cap, cur, fv, h2, _⟩
    · exact ⟨_, _, _, h2⟩
    · exact ⟨_, _, _, h2⟩
  have HLL : Hid (l.length = (l.map shortF).length) := by simp [Hid]
  have HB4 : Hid (∀ wa w2 g2, Below w.heap.size w wa → ArmStep wa w2 F g2 → w2.cell? ⟨b, 4, none⟩ = some (.slice va vn vc) ∧ w2.frozen? ⟨b, 4, none⟩ = false) := fun wa w2 g2 hb1 hs1 => by
    have hs := hs1.after hb1
    have hb2 : w2.heap[b]? = _ := (hs.block b (HH.out.lt b HH.out.fb) (fun e => by
      obtain ⟨_, cur, hc⟩ := hs.at' (by have := HH.out.lt b HH.out.fb; omega)
      have := HH.out.blk
      rw [e, hc] at this
      simp at this)).trans HH.out.blk
    exact ⟨by rw [cell_of_row _ _ _ _ _ _ hb2]; rfl, frozen_cells hb2⟩
  have HEND : Hid (∀ wa w2 g2 v', Below w.heap.size w wa → ArmStep wa w2 F g2 → ArmsAt w2 (fun k => F k ∨ (w.heap.size ≤ k ∧ k < w2.heap.size)) v' (d.arms ++ [⟨max n 0, l.map shortF⟩]) → DevPost w b F (d.arm n l) (w2.setCell ⟨b, 4, none⟩ v')) := fun wa w2 g2 v' hb1 hs1 ha1 => by
    obtain ⟨hx, hy⟩ := HH.out.armed (Nat.le_refl _) (Nat.le_refl _) ha1 (hs1.after hb1) (by simp only []; omega)
    have e : d.arm n l = { d with arms := d.arms ++ [⟨max n 0, l.map shortF⟩] } := by
      unfold Dev.arm
      rw [show (if n < 0 then 0 else n) = max n 0 by split <;> omega]
    rw [e]
    exact ⟨_, ⟨_, _, _, _, _, hx⟩, hy⟩
  have HZ4 : Hid (∀ w1 v1, Below w.heap.size w w1 → (w1.alloc (.cells #[.int .i64 (max n 0), v1] 95)).cell? ⟨b, 4, none⟩ = some (.slice va vn vc)) := fun w1 v1 hb1 => cell_below (below_new w1 _) (cell_below hb1 c4)
  clear h hl
  go_enter Tryz.func28, Tryz.ntmps28
  go_wp2_with fail
  go_region_law
    (first
      | (refine step_ownf _ (by rfl) _ (.slice fa l.length fc) (by rfl) (by rfl) ((HOW.out _ (by first | exact bdrew1 (Below.refl _ _) | exact Below.refl _ _)).mono ?_); rintro e w1 ⟨v1, rfl, hv1, hbd1⟩; have hb1 : Below w.heap.size w w1 := (by first | exact hbd1 | exact undrew hbd1); have HV1 := Hid.mk2 hv1; have HB1 := Hid.mk2 hb1; obtain ⟨a1, q1, rfl, -⟩ := owns_form hv1; have u4 := cell_below hb1 c4; have z4 := HZ4.out w1 (.slice a1 l.length q1) hb1; clear hbd1 hb1 hv1; refine ⟨_, rfl, ?_⟩)
      | (refine step_append_arm _ (by rfl) _ _ (by rfl) (.slice va vn vc) d.arms F (by rfl) (by exact HAR.out.below fun k hk => (alloc_old (Nat.lt_of_lt_of_le (HLT.out k hk) HB1.out.size)).trans (HB1.out.block k (HLT.out k hk))) w1.heap.size w.heap.size (max n 0) (l.map shortF) (.slice a1 l.length q1) (by rfl) (by exact heap_alloc_new w1 _) (by rw [← HLL.out]; exact HV1.out.alloc _) (by have := HB1.out.size; simp; omega) ha ?_; intro g2 off2 cap2 w2 hA2 hS2; have hbb := HB4.out _ w2 g2 (HB1.out.alloc HB1.out.size _) hS2; have HPO := Hid.mk2 (HEND.out _ w2 g2 _ (HB1.out.alloc HB1.out.size _) hS2 hA2); have hx4 := hbb.1; have hf4 := hbb.2; clear hbb hA2 hS2))
  all_goals
    go_wp2_with fail
    go_end0
    exact ⟨rfl, HPO.out⟩



end Go.Proofs.YtlopimdnjookeabGreatDoor.V

namespace Go.Proofs.YtlopimdnjookeabGreatDoor.V
open Go.RowKit Go.Maps

/-- Sectors that are read. -/
def SecsIn (w : World) (v : Value) (l : List Sec) : Prop := ∃ a cap g off, v = .slice a l.length cap ∧ l.length ≤ 5864062014805 ∧ (0 < l.length → a = some ⟨g, off, none⟩) ∧ ∀ j u, (secCells l)[j]? = some u → w.cell? ⟨g, off + j, none⟩ = some u
def FatesIn (w : World) (v : Value) (l : List Fate) : Prop := ∃ a cap g off, v = .slice a l.length cap ∧ l.length ≤ 3518437208883 ∧ (0 < l.length → a = some ⟨g, off, none⟩) ∧ ∀ j u, (fateCells l)[j]? = some u → w.cell? ⟨g, off + j, none⟩ = some u
theorem SecsIn.keep {w w' : World} {v : Value} {l : List Sec} (h : SecsIn w v l) (hb : Below w.heap.size w w') : SecsIn w' v l := by
  obtain ⟨a, cap, g, off, h1, h2, h3, h4⟩ := h
  exact ⟨a, cap, g, off, h1, h2, h3, fun j u hu => cell_below hb (h4 j u hu)⟩
theorem FatesIn.keep {w w' : World} {v : Value} {l : List Fate} (h : FatesIn w v l) (hb : Below w.heap.size w w') : FatesIn w' v l := by
  obtain ⟨a, cap, g, off, h1, h2, h3, h4⟩ := h
  exact ⟨a, cap, g, off, h1, h2, h3, fun j u hu => cell_below hb (h4 j u hu)⟩
theorem secsIn_own {w : World} {base : Nat} {v : Value} {l : List Sec} (h : w.ownsRow base 72 2 v l.length (secCells l)) (hl : l.length ≤ 5864062014805) : SecsIn w v l := by
  obtain ⟨a, c, rfl, ha⟩ := owns_form h
  by_cases h0 : 0 < l.length
  · obtain ⟨g, rfl⟩ := ha h0
    exact ⟨_, c, g, 0, rfl, hl, fun _ => rfl, fun j u hu => by rw [Nat.zero_add]; exact owns_cell h rfl j u hu⟩
  · obtain rfl : l = [] := List.length_eq_zero_iff.1 (by omega)
    exact ⟨a, c, 0, 0, rfl, hl, fun h => absurd h (by simp), fun j u hu => by simp [secCells] at hu⟩

theorem openD_snoc (l : List Sec) (x : Sec) : openD (l ++ [x]) = if allZ x.dat then openD l else openD l ++ [x] := by
  unfold openD
  rw [List.filter_append]
  cases h : allZ x.dat <;> simp [h]
theorem dropD_none {i : Int} {l : List Sec} (h : ∀ y ∈ l, y.ix < i) : dropD i l = l := by
  unfold dropD
  exact List.filter_eq_self.2 fun y hy => by have := h y hy; simp; omega
theorem insD_last {x : Sec} : ∀ {l : List Sec}, (∀ y ∈ l, y.ix < x.ix) → insD x l = l ++ [x]
  | [], _ => rfl
  | y :: r, h => by
    have := h y (by simp)
    unfold insD
    rw [if_neg (by omega), insD_last fun z hz => h z (by simp [hz])]
    rfl
theorem setD_last {l : List Sec} {x : Sec} (h : ∀ y ∈ l, y.ix < x.ix) : setD l x.ix x.dat = if allZ x.dat then l else l ++ [x] := by
  unfold setD
  rw [dropD_none h]
  split
  · rfl
  · exact insD_last h
theorem ret_int {k : IntKind} {a b : Int} (h : a = b) : Ending.returned (.int k a) = .returned (.int k b) := by rw [h]
def reps (n : Nat) (c : UInt8) : List UInt8 := List.replicate n c
theorem reps_len (n : Nat) (c : UInt8) : (reps n c).length = n := by simp [reps]
theorem reps_succ (n : Nat) (c : UInt8) : reps (n + 1) c = reps n c ++ [c] := by simp [reps, List.replicate_succ']
set_option maxRecDepth 100000 in
set_option maxHeartbeats 800000 in
theorem sames_any (l : List Sec) (va vb : Value) (w : World) (ha : SecsIn w va l) (hb : SecsIn w vb l) :
    Calls Tryz.prog 7 #[va, vb] w fun e w' => e = .returned (.bool true) ∧ Below w.heap.size w w' := by
  obtain ⟨a, c, g, off, rfl, hl, ha1, ha2⟩ := ha
  obtain ⟨a', c', g', off', rfl, _, hb1, hb2⟩ := hb
  obtain ⟨n, hn⟩ : ∃ n, n = l.length := ⟨_, rfl⟩
  have HN : Hid (n = l.length) := hn
  rw [← hn] at hl ha1 hb1 ⊢
  have hne : ((n : Int) != (n : Int)) = false := by simp
  have HA : Hid (∀ j u, (secCells l)[j]? = some u → w.cell? ⟨g, off + j, none⟩ = some u) := ha2
  have HB : Hid (∀ j u, (secCells l)[j]? = some u → w.cell? ⟨g', off' + j, none⟩ = some u) := hb2
  clear ha2 hb2 hn
  go_enter Tryz.func7, Tryz.ntmps7
  go_wp2_with fail
  go_loopw [5] (fun i wr => ∃ k m, k ≤ n ∧ i = .int .i64 (k : Int) ∧ wr = w.drewN m) (fun i _ => n - (intOf i).toNat)
  case atStart => exact ⟨0, 0, Nat.zero_le _, rfl, rfl⟩
  case round =>
    obtain ⟨k, m, hk, rfl, rfl⟩ := hrel
    by_cases hlt : k < n
    · obtain rfl := ha1 (by omega)
      obtain rfl := hb1 (by omega)
      have hkl : k < l.length := by rw [← HN.out]; exact hlt
      obtain ⟨x0, x1⟩ := secCells_get l k hkl
      have p0 := HA.out _ _ x0
      have p1 := HA.out _ _ x1
      have q0 := HB.out _ _ x0
      have q1 := HB.out _ _ x1
      obtain ⟨xi, hxi⟩ : ∃ x, x = l[k].ix := ⟨_, rfl⟩
      obtain ⟨xd, hxd⟩ : ∃ x, x = l[k].dat := ⟨_, rfl⟩
      rw [← hxi] at p0 q0
      rw [← hxd] at p1 q1
      rw [← Nat.add_assoc] at p1 q1
      clear x0 x1 hxi hxd
      have j1 : (k : Int) < (n : Int) := by omega
      go_wp2_with fail
      go_quiet (fail)
      go_wp2_with fail
      exact ⟨⟨k + 1, _, by omega, by go_num, rfl⟩, by simp [intOf]; omega⟩
    · go_wp2_with fail
      go_ret
      exact ⟨rfl, below_drewN (Below.refl _ _) _⟩

/-- Bytes that are read. -/
def BytesIn (w : World) (v : Value) (l : List UInt8) : Prop := ∃ a cap g off, v = .slice a l.length cap ∧ l.length ≤ 140737488355328 ∧ (0 < l.length → a = some ⟨g, off, none⟩) ∧ ∀ j (h : j < l.length), w.cell? ⟨g, off + j, none⟩ = some (.int .u8 (l[j].toNat : Int))
theorem BytesIn.keep {w w' : World} {v : Value} {l : List UInt8} (h : BytesIn w v l) (hb : Below w.heap.size w w') : BytesIn w' v l := by
  obtain ⟨a, cap, g, off, h1, h2, h3, h4⟩ := h
  exact ⟨a, cap, g, off, h1, h2, h3, fun j hj => cell_below hb (h4 j hj)⟩
theorem bytesIn_own {w : World} {base : Nat} {v : Value} {l : List UInt8} (h : w.ownsRow base 5 1 v l.length (u8s l)) (hl : l.length ≤ 140737488355328) : BytesIn w v l := by
  obtain ⟨a, c, rfl, ha⟩ := owns_form h
  by_cases h0 : 0 < l.length
  · obtain ⟨g, rfl⟩ := ha h0
    exact ⟨_, c, g, 0, rfl, hl, fun _ => rfl, fun j hj => by rw [Nat.zero_add]; exact owns_cell h rfl j _ (u8s_get l j hj)⟩
  · exact ⟨a, c, 0, 0, rfl, hl, fun h => absurd h h0, fun j hj => absurd hj (by omega)⟩
theorem bytesAt_own {w : World} {base : Nat} {F : Nat → Prop} {v : Value} {l : List UInt8} (h : w.ownsRow base 5 1 v l.length (u8s l)) (hl : l.length ≤ 140737488355328) (hF : ∀ g, v.ownBlock = some g → ¬ F g) : BytesAt w F v l := by
  have hcap : ∀ a c, v = .slice a l.length c → l.length ≤ c := fun a c hv => by
    rcases h.2 with ⟨h', h0⟩ | ⟨g, cap, cur, h', _, _, h1, _⟩
    · rw [h0]; exact Nat.zero_le _
    · rw [h'] at hv; simp only [Value.slice.injEq] at hv; omega
  obtain ⟨a, c, rfl, ha⟩ := owns_form h
  by_cases h0 : 0 < l.length
  · obtain ⟨g, rfl⟩ := ha h0
    exact ⟨_, c, g, rfl, hcap _ _ rfl, hl, fun _ => ⟨rfl, hF g rfl⟩, fun j hj => owns_cell h rfl j _ (u8s_get l j hj)⟩
  · exact ⟨a, c, 0, rfl, hcap _ _ rfl, hl, fun h => absurd h h0, fun j hj => absurd hj (by omega)⟩

set_option maxRecDepth 100000 in
set_option maxHeartbeats 800000 in
theorem sameb_any (l : List UInt8) (va vb : Value) (w : World) (ha : BytesIn w va l) (hb : BytesIn w vb l) :
    Calls Tryz.prog 93 #[va, vb] w fun e w' => e = .returned (.bool true) ∧ Below w.heap.size w w' := by
  obtain ⟨a, c, g, off, rfl, hl, ha1, ha2⟩ := ha
  obtain ⟨a', c', g', off', rfl, _, hb1, hb2⟩ := hb
  obtain ⟨n, hn⟩ : ∃ n, n = l.length := ⟨_, rfl⟩
  have HN : Hid (n = l.length) := hn
  rw [← hn] at hl ha1 hb1 ⊢
  have hne : ((n : Int) != (n : Int)) = false := by simp
  have HA : Hid (∀ j (h : j < l.length), w.cell? ⟨g, off + j, none⟩ = some (.int .u8 (l[j].toNat : Int))) := ha2
  have HB : Hid (∀ j (h : j < l.length), w.cell? ⟨g', off' + j, none⟩ = some (.int .u8 (l[j].toNat : Int))) := hb2
  clear ha2 hb2 hn
  go_enter Tryz.func93, Tryz.ntmps93
  go_wp2_with fail
  go_loopw [5] (fun i wr => ∃ k m, k ≤ n ∧ i = .int .i64 (k : Int) ∧ wr = w.drewN m) (fun i _ => n - (intOf i).toNat)
  case atStart => exact ⟨0, 0, Nat.zero_le _, rfl, rfl⟩
  case round =>
    obtain ⟨k, m, hk, rfl, rfl⟩ := hrel
    by_cases hlt : k < n
    · obtain rfl := ha1 (by omega)
      obtain rfl := hb1 (by omega)
      have hkl : k < l.length := by rw [← HN.out]; exact hlt
      have p0 := HA.out k hkl
      have q0 := HB.out k hkl
      obtain ⟨x, hx⟩ : ∃ x, x = (l[k].toNat : Int) := ⟨_, rfl⟩
      rw [← hx] at p0 q0
      clear hx
      have j1 : (k : Int) < (n : Int) := by omega
      go_wp2_with fail
      go_quiet (fail)
      go_wp2_with fail
      exact ⟨⟨k + 1, _, by omega, by go_num, rfl⟩, by simp [intOf]; omega⟩
    · go_wp2_with fail
      go_ret
      exact ⟨rfl, below_drewN (Below.refl _ _) _⟩



end Go.Proofs.YtlopimdnjookeabGreatDoor.V

namespace Go.Proofs.YtlopimdnjookeabGreatDoor.V
open Go.RowKit Go.Maps

/-- The document's device, as far as it is looked at. -/
structure RBody (w : World) (b : Nat) (F : Nat → Prop) (d : Dev) (tv lv pv av : Value) : Prop where
  blk : w.heap[b]? = some (.cells #[tv, .int .i64 d.size, lv, pv, .bool d.dead, av, .int .i64 d.nr, .int .i64 d.nw, .int .i64 d.ns] 52 (0, 0))
  fb : F b
  last : w.ownsRow 0 72 2 lv d.dur.length (secCells d.dur)
  lf : ∀ g, lv.ownBlock = some g → F g
  pend : w.ownsRow 0 72 2 pv d.pend.length (secCells d.pend)
  pf : ∀ g, pv.ownBlock = some g → F g
  lt : ∀ k, F k → k < w.heap.size
def RAt (w : World) (b : Nat) (F : Nat → Prop) (d : Dev) : Prop := ∃ tv lv pv av, RBody w b F d tv lv pv av
theorem RAt.keep {w w' : World} {b : Nat} {F G G' : Nat → Prop} {d : Dev} (h : RAt w b F d) (hs : Step G G' w w') (hn : ∀ k, F k → ¬ G k) : RAt w' b F d := by
  obtain ⟨tv, lv, pv, av, h⟩ := h
  have hk : ∀ k, F k → w'.heap[k]? = w.heap[k]? := fun k hf => hs.block k (h.lt k hf) (hn k hf)
  exact ⟨tv, lv, pv, av, (hk b h.fb).trans h.blk, h.fb, owns_block h.last (fun g hg => hk g (h.lf g hg)), h.lf, owns_block h.pend (fun g hg => hk g (h.pf g hg)), h.pf, fun k hf => Nat.lt_of_lt_of_le (h.lt k hf) hs.size⟩
theorem RAt.below {w w' : World} {b : Nat} {F : Nat → Prop} {d : Dev} (h : RAt w b F d) (hs : Below w.heap.size w w') : RAt w' b F d := h.keep (Step.of_below (F := fun _ => False) hs) (fun _ _ h => h)
theorem RBody.cell {w : World} {b : Nat} {F : Nat → Prop} {d : Dev} {tv lv pv av : Value} (h : RBody w b F d tv lv pv av) (j : Nat) : w.cell? ⟨b, j, none⟩ = #[tv, .int .i64 d.size, lv, pv, .bool d.dead, av, .int .i64 d.nr, .int .i64 d.nw, .int .i64 d.ns][j]? := cell_of_row w b j _ _ _ h.blk

theorem Hid.mk'' {p : Prop} (h : p) : Hid p := h
set_option maxHeartbeats 400000 in
theorem rclamp_any (n : Int) (w : World) : Calls Tryz.prog 14 #[.int .i64 n, .int .i64 0, .int .i64 8388615] w fun e w' => e = .returned (.int .i64 (clampN n 0 8388615)) ∧ w = w' := by
  have H1 : Hid (n < 0 → clampN n 0 8388615 = 0) := fun h => by unfold clampN; rw [if_pos h]
  have H2 : Hid (¬ n < 0 → 8388615 < n → clampN n 0 8388615 = 8388615) := fun h h' => by unfold clampN; rw [if_neg h, if_pos h']
  have H3 : Hid (¬ n < 0 → ¬ 8388615 < n → clampN n 0 8388615 = n) := fun h h' => by unfold clampN; rw [if_neg h, if_neg h']
  go_enter Tryz.func14, Tryz.ntmps14
  by_cases h : n < 0
  · go_wp2_with fail
    go_ret
    exact ⟨ret_int (H1.out h).symm, rfl⟩
  · by_cases h' : 8388615 < n
    · go_wp2_with fail
      go_ret
      exact ⟨ret_int (H2.out h h').symm, rfl⟩
    · go_wp2_with fail
      go_ret
      exact ⟨ret_int (H3.out h h').symm, rfl⟩
theorem rnew_dev (w : World) (n s : Int) (hs : clampN n 0 8388615 = s) :
    RAt (w.alloc (.cells #[.slice none 0 0, .int .i64 s, .slice none 0 0, .slice none 0 0, .bool false, .slice none 0 0, .int .i64 0, .int .i64 0, .int .i64 0] 52)) w.heap.size (fun k => k = w.heap.size) (newDev n) := by
  refine ⟨.slice none 0 0, .slice none 0 0, .slice none 0 0, .slice none 0 0, ?_, rfl, World.ownsRow_nil _ _ _ _, fun g hg => by simp [Value.ownBlock] at hg, World.ownsRow_nil _ _ _ _, fun g hg => by simp [Value.ownBlock] at hg, fun k hk => by rw [hk]; simp⟩
  rw [← hs]
  exact Array.getElem?_push_size
set_option maxHeartbeats 400000 in
theorem rnew_any (n : Int) (w : World) : Calls Tryz.prog 5 #[.int .i64 n] w fun e w' => ∃ b F, e = .returned (.pointer (some ⟨b, 0, none⟩)) ∧ RAt w' b F (newDev n) ∧ Below w.heap.size w w' ∧ ∀ k, F k → w.heap.size ≤ k := by
  have HC := Hid.mk'' (rclamp_any n w)
  have HN : Hid (RAt (w.alloc (.cells #[.slice none 0 0, .int .i64 (clampN n 0 8388615), .slice none 0 0, .slice none 0 0, .bool false, .slice none 0 0, .int .i64 0, .int .i64 0, .int .i64 0] 52)) w.heap.size (fun k => k = w.heap.size) (newDev n)) := rnew_dev w n _ rfl
  generalize clampN n 0 8388615 = s at *
  go_enter Tryz.func5, Tryz.ntmps5
  go_wp2_with fail
  refine HC.out.mono ?_
  rintro e w' ⟨rfl, rfl⟩
  go_wp2_with fail
  go_ret
  exact ⟨_, _, rfl, HN.out, below_new _ _, fun k hk => by rw [hk]; exact Nat.le_refl _⟩
theorem allZ_iff (s : ByteArray) : allZ s = true ↔ ∀ i (h : i < s.size), s[i] = 0 := by
  unfold allZ
  rw [decide_eq_true_eq]
  constructor
  · intro h i hi
    have : (bl s)[i]'(by rw [bl_len]; exact hi) = (zeros s.size)[i]'(by rw [zeros_len]; exact hi) := by simp only [h]
    rw [show (zeros s.size)[i]'(by rw [zeros_len]; exact hi) = 0 from List.getElem_replicate _] at this
    exact this
  · intro h
    apply List.ext_getElem
    · rw [bl_len, zeros_len]
    · intro i h1 h2
      rw [show (zeros s.size)[i] = 0 from List.getElem_replicate _]
      exact h i (by rw [← bl_len]; exact h1)
set_option maxRecDepth 100000 in
set_option maxHeartbeats 400000 in
theorem rzero_any (s : ByteArray) (w : World) (hs : s.size ≤ 140737488355328) : Calls Tryz.prog 72 #[.string s] w fun e w' => e = .returned (.bool (allZ s)) ∧ w = w' := by
  have HT : Hid ((∀ i (h : i < s.size), s[i] = 0) → allZ s = true) := (allZ_iff s).2
  have HF : Hid (∀ i (h : i < s.size), s[i] ≠ 0 → allZ s = false) := fun i h hn => by
    cases ha : allZ s
    · rfl
    · exact absurd ((allZ_iff s).1 ha i h) hn
  go_enter Tryz.func72, Tryz.ntmps72
  go_wp2_with fail
  go_loopw [3] (fun i wr => ∃ k : Nat, k ≤ s.size ∧ i = .int .i64 (k : Int) ∧ (∀ i (h : i < s.size), i < k → s[i] = 0) ∧ w = wr) (fun i _ => s.size - (intOf i).toNat)
  case atStart => exact ⟨0, Nat.zero_le _, rfl, fun i _ h => by omega, rfl⟩
  case round =>
    obtain ⟨k, hk, rfl, hz, rfl⟩ := hrel
    have HZ : Hid (∀ i (h : i < s.size), i < k → s[i] = 0) := hz
    clear hz
    by_cases hlt : k < s.size
    · have k0 : (0 : Int) ≤ (k : Int) := Int.natCast_nonneg _
      have k1 : (k : Int) < (s.size : Int) := by omega
      by_cases hx : s[k] = 0
      · have HN : Hid (∀ i (h : i < s.size), i < k + 1 → s[i] = 0) := fun i h hik => by
          rcases (show i < k ∨ i = k by omega) with h' | h'
          · exact HZ.out i h h'
          · subst h'; exact hx
        have hx2 : (s[k].toNat : Int) = 0 := by rw [hx]; rfl
        have hx3 : ((s[k].toNat : Int) != 0) = false := by simp [hx2]
        clear HT HF HZ
        go_wp2_with fail
        go_roundw
        case rel => exact ⟨k + 1, by omega, by go_num, HN.out, (by first | rfl | trivial)⟩
        case measure => simp [intOf]; omega
      · have HR : Hid (allZ s = false) := HF.out k hlt hx
        have hx2 : (s[k].toNat : Int) ≠ 0 := fun h => hx (by
          have : s[k].toNat = 0 := by omega
          exact UInt8.toNat_inj.1 this)
        have hx3 : ((s[k].toNat : Int) != 0) = true := by rw [bne_iff_ne]; exact hx2
        clear HT HF HZ
        go_wp2_with fail
        go_ret
        exact ⟨congrArg (fun b => Ending.returned (.bool b)) HR.out.symm, rfl⟩
    · have HR : Hid (allZ s = true) := HT.out (fun i h => HZ.out i h (by omega))
      clear HT HF HZ
      go_wp2_with fail
      go_ret
      exact ⟨congrArg (fun b => Ending.returned (.bool b)) HR.out.symm, rfl⟩

set_option maxRecDepth 100000 in
set_option maxHeartbeats 800000 in
theorem rdurs_any (l : List Sec) (v : Value) (b : Nat) (w : World) (hcell : w.cell? ⟨b, 2, none⟩ = some v) (hv : SecsIn w v l) :
    Calls Tryz.prog 9 #[.pointer (some ⟨b, 0, none⟩)] w fun e w' => ∃ v', e = .returned v' ∧ w'.ownsRow w.heap.size 72 2 v' l.length (secCells l) ∧ Below w.heap.size w w' := by
  obtain ⟨i0, hi, hz0, hz1, hz2⟩ := info_parts Tryz.info72
  obtain ⟨a, cap, g, off, rfl, hb, ha, hc⟩ := hv
  obtain ⟨n, hn⟩ : ∃ n, n = l.length := ⟨_, rfl⟩
  have HL : Hid ((secCells l).length = n * 2) := by rw [hn]; exact secCells_len l
  have H1 := secCells_one l
  rw [← hn] at hb ha hcell ⊢
  have HZ : Hid (n = 0 → secCells l = []) := fun h => List.length_eq_zero_iff.1 (by rw [HL.out, h])
  generalize secCells l = xs at *
  clear hn
  go_enter Tryz.func9, Tryz.ntmps9
  rcases Nat.eq_zero_or_pos n with h0 | h0
  · subst h0
    obtain rfl := HZ.out rfl
    clear HZ ha hc
    cases a with
    | none =>
      go_wp2_with fail
      go_ret
      exact ⟨_, rfl, World.ownsRow_nil _ _ _ _, Below.refl _ _⟩
    | some ad =>
      go_wp2_with fail
      go_ret
      exact ⟨_, rfl, World.ownsRow_nil _ _ _ _, Below.refl _ _⟩
  · obtain rfl := ha h0
    clear HZ ha
    go_wp2_with (at_builtin; refine wpList_append_own _ rfl _ _ 38 rfl w.heap.size 72 i0 (.agg #[.int .i64 0, .string ⟨#[]⟩]) 2 24 Tryz.underlying38 hi hz0 hz1 hz2 rfl (by decide) _ _ _ rfl (World.ownsRow_nil _ _ _ _) ⟨g, off, none⟩ n cap xs rfl ?qc1 ?qc2 ?qc3 ?qc4 ?qc5 ?qc6 ?_)
    case qc1 => exact HL.out
    case qc2 =>
      intro j u hj
      rw [Addr.add_mid]
      exact hc j u hj
    case qc3 => exact H1
    case qc4 => unfold maxLen; omega
    case qc5 => omega
    case qc6 => exact Nat.le_refl _
    intro v' w1 hown hgrow hnil
    have HR : Hid (w1.ownsRow w.heap.size 72 2 v' n xs ∧ Below w.heap.size w w1) := ⟨by simpa using hown, (Below.refl _ w).grown hgrow (Nat.le_refl _) (by intro k hk; simp [Value.ownBlock] at hk)⟩
    clear hown hgrow hnil hc
    go_wp2_with fail
    go_ret
    exact ⟨v', rfl, HR.out⟩


set_option maxRecDepth 100000 in
set_option maxHeartbeats 800000 in
theorem rpends_any (l : List Sec) (v : Value) (b : Nat) (w : World) (hcell : w.cell? ⟨b, 3, none⟩ = some v) (hv : SecsIn w v l) :
    Calls Tryz.prog 11 #[.pointer (some ⟨b, 0, none⟩)] w fun e w' => ∃ v', e = .returned v' ∧ w'.ownsRow w.heap.size 72 2 v' l.length (secCells l) ∧ Below w.heap.size w w' := by
  obtain ⟨i0, hi, hz0, hz1, hz2⟩ := info_parts Tryz.info72
  obtain ⟨a, cap, g, off, rfl, hb, ha, hc⟩ := hv
  obtain ⟨n, hn⟩ : ∃ n, n = l.length := ⟨_, rfl⟩
  have HL : Hid ((secCells l).length = n * 2) := by rw [hn]; exact secCells_len l
  have H1 := secCells_one l
  rw [← hn] at hb ha hcell ⊢
  have HZ : Hid (n = 0 → secCells l = []) := fun h => List.length_eq_zero_iff.1 (by rw [HL.out, h])
  generalize secCells l = xs at *
  clear hn
  go_enter Tryz.func11, Tryz.ntmps11
  rcases Nat.eq_zero_or_pos n with h0 | h0
  · subst h0
    obtain rfl := HZ.out rfl
    clear HZ ha hc
    cases a with
    | none =>
      go_wp2_with fail
      go_ret
      exact ⟨_, rfl, World.ownsRow_nil _ _ _ _, Below.refl _ _⟩
    | some ad =>
      go_wp2_with fail
      go_ret
      exact ⟨_, rfl, World.ownsRow_nil _ _ _ _, Below.refl _ _⟩
  · obtain rfl := ha h0
    clear HZ ha
    go_wp2_with (at_builtin; refine wpList_append_own _ rfl _ _ 38 rfl w.heap.size 72 i0 (.agg #[.int .i64 0, .string ⟨#[]⟩]) 2 24 Tryz.underlying38 hi hz0 hz1 hz2 rfl (by decide) _ _ _ rfl (World.ownsRow_nil _ _ _ _) ⟨g, off, none⟩ n cap xs rfl ?qc1 ?qc2 ?qc3 ?qc4 ?qc5 ?qc6 ?_)
    case qc1 => exact HL.out
    case qc2 =>
      intro j u hj
      rw [Addr.add_mid]
      exact hc j u hj
    case qc3 => exact H1
    case qc4 => unfold maxLen; omega
    case qc5 => omega
    case qc6 => exact Nat.le_refl _
    intro v' w1 hown hgrow hnil
    have HR : Hid (w1.ownsRow w.heap.size 72 2 v' n xs ∧ Below w.heap.size w w1) := ⟨by simpa using hown, (Below.refl _ w).grown hgrow (Nat.le_refl _) (by intro k hk; simp [Value.ownBlock] at hk)⟩
    clear hown hgrow hnil hc
    go_wp2_with fail
    go_ret
    exact ⟨v', rfl, HR.out⟩


theorem rdur_any (b : Nat) (F : Nat → Prop) (d : Dev) (w : World) (h : RAt w b F d) (hl : d.dur.length ≤ 5864062014805) : Calls Tryz.prog 9 #[.pointer (some ⟨b, 0, none⟩)] w fun e w' => ∃ v', e = .returned v' ∧ w'.ownsRow w.heap.size 72 2 v' d.dur.length (secCells d.dur) ∧ Below w.heap.size w w' := by
  obtain ⟨tv, lv, pv, av, h⟩ := h
  exact rdurs_any d.dur lv b w (h.cell 2) (secsIn_own h.last hl)
theorem rpend_any (b : Nat) (F : Nat → Prop) (d : Dev) (w : World) (h : RAt w b F d) (hl : d.pend.length ≤ 5864062014805) : Calls Tryz.prog 11 #[.pointer (some ⟨b, 0, none⟩)] w fun e w' => ∃ v', e = .returned v' ∧ w'.ownsRow w.heap.size 72 2 v' d.pend.length (secCells d.pend) ∧ Below w.heap.size w w' := by
  obtain ⟨tv, lv, pv, av, h⟩ := h
  exact rpends_any d.pend pv b w (h.cell 3) (secsIn_own h.pend hl)
set_option maxHeartbeats 400000 in
theorem rsize_any (b : Nat) (F : Nat → Prop) (d : Dev) (w : World) (h : RAt w b F d) : Calls Tryz.prog 40 #[.pointer (some ⟨b, 0, none⟩)] w fun e w' => e = .returned (.int .i64 d.size) ∧ w = w' := by
  obtain ⟨tv, lv, pv, av, h⟩ := h
  have c1 : w.cell? ⟨b, 1, none⟩ = some (.int .i64 d.size) := h.cell 1
  clear h
  go_enter Tryz.func40, Tryz.ntmps40
  go_wp2
  go_ret
  exact ⟨rfl, rfl⟩

end Go.Proofs.YtlopimdnjookeabGreatDoor.V
