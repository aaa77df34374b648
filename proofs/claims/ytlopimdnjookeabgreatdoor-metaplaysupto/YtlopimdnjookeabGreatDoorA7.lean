import Derived.Test.YtlopimdnjookeabGreatDoorVRE
namespace Go.Proofs.YtlopimdnjookeabGreatDoor.V
open Go.RowKit Go.Maps

/-- A list of fates that lies outside the device: it reads so wherever all but the device's blocks are as they were. -/
def FatesOut (w : World) (F : Nat → Prop) (v : Value) (l : List Fate) : Prop := ∀ w' : World, w.heap.size ≤ w'.heap.size → (∀ i, i < w.heap.size → ¬ F i → w'.heap[i]? = w.heap[i]?) → FatesIn w' v l

set_option maxHeartbeats 1000000 in
theorem rcrash_any (b : Nat) (F : Nat → Prop) (d : Dev) (T : Nat) (w : World) (h : RAll w b F d T) (l : List Fate) (v : Value) (hpl : d.pend.length ≤ 5864062014805) (hlen : l.length ≤ 1048576) (hT : T ≤ 1048576) (hJ : ∀ f ∈ l, f.junk.size ≤ 1048576) (hfi : FatesOut w F v l) :
    Calls Tryz.prog 25 #[.pointer (some ⟨b, 0, none⟩), v] w fun e w' => e = .returned (.tuple #[]) ∧ ∃ F' T', RAll w' b F' (d.crash l) T' ∧ Step F F' w w' ∧ T' ≤ T + l.length := by
  have HK := Hid.mk2 h
  obtain ⟨tv, lv, pv, av, h⟩ := h
  have c4 : w.cell? ⟨b, 4, none⟩ = some (.bool d.dead) := h.body.cell 4
  have HST := Hid.mk2 (rsettle_any b F d T w tv lv pv av h l v hpl hlen hT hJ (fun w' hz hs => hfi w' hz (fun i hi hn => hs i hi (fun e => hn (by rw [e]; exact h.body.fb)) (fun e => hn (h.tf i e)))))
  clear h hfi hJ
  cases hd : d.dead
  · rw [hd] at c4
    have HC : Hid (d.crash l = d.kill l) := by show _ = _; unfold Dev.crash; rw [hd]; rfl
    go_enter Tryz.func25, Tryz.ntmps25
    go_wp2_with fail
    refine HST.out.mono ?_
    rintro e w1 ⟨rfl, F1, T1, h1, s1, t1⟩
    have HP : Hid (∃ F' T', RAll w1 b F' (d.crash l) T' ∧ Step F F' w w1 ∧ T' ≤ T + l.length) := ⟨F1, T1, by rw [HC.out]; exact h1, s1, t1⟩
    clear h1 s1 t1 HST
    go_wp2_with fail
    go_end0
    exact ⟨rfl, HP.out⟩
  · rw [hd] at c4
    have HC : Hid (d.crash l = d) := by show _ = _; unfold Dev.crash; rw [hd]; rfl
    clear HST
    go_enter Tryz.func25, Tryz.ntmps25
    go_wp2_with fail
    go_end0
    exact ⟨rfl, F, T, by rw [HC.out]; exact HK.out, Step.refl _ _, by omega⟩

end Go.Proofs.YtlopimdnjookeabGreatDoor.V

namespace Go.Proofs.YtlopimdnjookeabGreatDoor.V
open Go.RowKit Go.Maps

theorem RFul.rearm {w w' : World} {b : Nat} {F : Nat → Prop} {d : Dev} {T : Nat} {tv lv pv av av' : Value} {l' : List Armed} (h : RFul w b F d T tv lv pv av) (g : Nat) (cur : Array Value) (hg : w.heap[g]? = some (.cells cur 97 (0, 0)))
    (hk : ∀ k, k < w.heap.size → k ≠ b → k ≠ g → w'.heap[k]? = w.heap[k]?) (hs : w.heap.size ≤ w'.heap.size) (hb : w'.heap[b]? = some (.cells #[tv, .int .i64 d.size, lv, pv, .bool d.dead, av', .int .i64 d.nr, .int .i64 d.nw, .int .i64 d.ns] 52 (0, 0))) (ha : RArmsAt w' F av' l') (ho : { d with arms := l' }.Ok) :
    RFul w' b F { d with arms := l' } T tv lv pv av' := by
  have hrow : ∀ (e : TypeId) (m : Nat) (v : Value) n xs, e ≠ 52 → e ≠ 97 → w.ownsRow 0 e m v n xs → w'.ownsRow 0 e m v n xs := fun e m v n xs he he' ho' => owns_block ho' fun k hk' => by
    obtain ⟨_, hlt, c, hc⟩ := owns_blk ho' k hk'
    exact hk k hlt (fun e' => by rw [e', h.body.blk] at hc; simp at hc; exact he hc.2.symm) (fun e' => by rw [e', hg] at hc; simp at hc; exact he' hc.2.symm)
  obtain ⟨cs, hcs⟩ := h.tears
  exact ⟨⟨hb, h.body.fb, hrow _ _ _ _ _ (by decide) (by decide) h.body.last, h.body.lf, hrow _ _ _ _ _ (by decide) (by decide) h.body.pend, h.body.pf, fun k hf => Nat.lt_of_lt_of_le (h.body.lt k hf) hs⟩, ⟨cs, hrow _ _ _ _ _ (by decide) (by decide) hcs⟩, h.tf, ha, h.apart, ho⟩
theorem fatesIn_own {w : World} {base : Nat} {v : Value} {l : List Fate} (h : w.ownsRow base 114 4 v l.length (fateCells l)) (hl : l.length ≤ 3518437208883) : FatesIn w v l := by
  obtain ⟨a, c, rfl, ha⟩ := owns_form h
  by_cases h0 : 0 < l.length
  · obtain ⟨g, rfl⟩ := ha h0
    exact ⟨_, c, g, 0, rfl, hl, fun _ => rfl, fun j u hu => by rw [Nat.zero_add]; exact owns_cell h rfl j u hu⟩
  · obtain rfl : l = [] := List.length_eq_zero_iff.1 (by omega)
    exact ⟨a, c, 0, 0, rfl, hl, fun h => absurd h (by simp), fun j u hu => by simp [fateCells] at hu⟩
/-- How many fates fall at the next operation: those of the first arm, if it falls then. -/
def Dev.first (d : Dev) : Nat := match d.arms with
  | [] => 0
  | a :: _ => if 0 < a.after then 0 else a.fates.length

set_option maxHeartbeats 2000000 in
theorem rdone_first (b : Nat) (F : Nat → Prop) (d : Dev) (T : Nat) (w : World) (h : RAll w b F d T) (hpl : d.pend.length ≤ 5864062014805) (hT : T ≤ 1048576) (hA : ∀ a ∈ d.arms, a.fates.length ≤ 1048576 ∧ ∀ f ∈ a.fates, f.junk.size ≤ 1048576) :
    Calls Tryz.prog 55 #[.pointer (some ⟨b, 0, none⟩)] w fun e w' => e = .returned (.int .i64 (d.done.2 : Int)) ∧ ∃ F' T', RAll w' b F' d.done.1 T' ∧ Step F F' w w' ∧ T' ≤ T + d.first := by
  have HALL := Hid.mk2 h
  obtain ⟨tv, lv, pv, av, h⟩ := h
  have c5 : w.cell? ⟨b, 5, none⟩ = some av := h.body.cell 5
  have HH := Hid.mk2 h
  have harms := h.arms
  clear h
  cases ha : d.arms with
  | nil =>
    rw [ha] at harms
    have HD : Hid (d.done = (d, 0) ∧ d.first = 0) := by constructor <;> simp [Dev.done, Dev.first, ha]
    obtain ⟨xa, xc, rfl⟩ : ∃ xa xc, av = .slice xa 0 xc := by
      rcases harms with ⟨_, h0⟩ | ⟨g, off, cap, cur, fv, h0, _⟩
      · exact ⟨_, _, h0⟩
      · exact ⟨_, _, h0⟩
    clear harms ha HH
    go_enter Tryz.func55, Tryz.ntmps55
    go_wp2_with fail
    go_ret
    rw [HD.out.1]
    exact ⟨rfl, F, T, HALL.out, Step.refl _ _, by omega⟩
  | cons a0 r =>
    obtain ⟨n, fs⟩ := a0
    rw [ha] at harms
    rcases harms with ⟨h0, _⟩ | ⟨g, off, cap, cur, fv, rfl, hFg, hg, hl, hc, hsz, hfv, hall⟩
    · cases h0
    have HFST : Hid (¬ 0 < n → d.first = fs.length) := by intro hn0; show d.first = _; simp [Dev.first, ha, hn0]
    have HFS := Hid.mk2 (hA ⟨n, fs⟩ (by rw [ha]; simp))
    obtain ⟨k0, k1, k2, k3⟩ := hall 0 (by simp) (by rw [hfv]; simp)
    simp only [List.getElem_cons_zero, Nat.zero_mul, Nat.add_zero] at k0 k1 k2 k3
    generalize hfv0 : fv[0]'(by rw [hfv]; simp) = fv0 at k1 k2 k3
    obtain ⟨fa, fc, rfl, -⟩ := owns_form k2
    have a0 : w.cell? ⟨g, off, none⟩ = some (.int .i64 n) := by rw [cell_of_row _ _ _ _ _ _ hg]; exact k0
    have a1 : w.cell? ⟨g, off + 1, none⟩ = some (.slice fa fs.length fc) := by rw [cell_of_row _ _ _ _ _ _ hg]; exact k1
    have hbg : b ≠ g := fun e => by have hx := HH.out.body.blk; rw [e, hg] at hx; simp at hx
    have i1 : ((r.length : Int) + 1 == 0) = false := by simp; omega
    have hn := (HH.out.ok.arms ⟨n, fs⟩ (by rw [ha]; simp))
    simp only [] at hn
    have w1 : IntKind.i64.wrap (n - 1) = n - 1 := wrap_i64 _ (by omega) (by omega)
    simp only [List.length_cons] at c5 hl hfv
    have hgw : g < w.heap.size := (Array.getElem?_eq_some_iff.1 hg).1
    have HBB : Hid (b < w.heap.size) := HH.out.body.lt b HH.out.body.fb
    have hbx := World.new_ne w ⟨g, off, none⟩ (by rw [a0])
    have hby := World.new_ne w ⟨b, 5, none⟩ (by rw [c5])
    have HG := Hid.mk2 hg
    have HA : Hid _ := hall
    have HK : Hid (w.ownsRow 0 114 4 (.slice fa fs.length fc) fs.length (fateCells fs) ∧ ∀ k, (Value.slice fa fs.length fc).ownBlock = some k → F k) := ⟨k2, k3⟩
    have HFv := Hid.mk2 hfv
    have HAA := Hid.mk2 ha
    clear hg hall k0 k1 k2 k3 hfv0 hfv hA
    obtain ⟨O, hO⟩ : ∃ O, O = (Obj.cells #[.int .i64 n, .slice fa fs.length fc] 97) := ⟨_, rfl⟩
    have hbel : Below w.heap.size w (w.alloc O) := below_new w O
    have b5 : (w.alloc O).cell? ⟨b, 5, none⟩ = some (.slice (some ⟨g, off, none⟩) (r.length + 1) cap) := cell_below hbel c5
    have d0 : (w.alloc O).cell? ⟨g, off, none⟩ = some (.int .i64 n) := cell_below hbel a0
    have d1 : (w.alloc O).cell? ⟨g, off + 1, none⟩ = some (.slice fa fs.length fc) := cell_below hbel a1
    have hgO : (w.alloc O).heap[g]? = some (.cells cur 97 (0, 0)) := (hbel.block g hgw).trans HG.out
    have hbO := (hbel.block b HBB.out).trans HH.out.body.blk
    have y0 : (w.alloc O).frozen? ⟨g, off, none⟩ = false := frozen_cells hgO
    have y5 : (w.alloc O).frozen? ⟨b, 5, none⟩ = false := frozen_cells hbO
    have HGO := Hid.mk2 hgO
    have HBO := Hid.mk2 hbO
    have HO := Hid.mk2 hO
    clear hgO hbO hbel ha
    rw [hO] at b5 d0 d1 y0 y5
    clear hO
    go_enter Tryz.func55, Tryz.ntmps55
    by_cases hn0 : 0 < n
    · have HD : Hid (d.done = ({ d with arms := ⟨n - 1, fs⟩ :: r }, 0)) := by show d.done = _; unfold Dev.done; rw [HAA.out]; simp [hn0]
      have HE : Hid (RAll ((w.setCell ⟨g, off, none⟩ (.int .i64 (n - 1))).alloc (.cells #[.int .i64 n, .slice fa fs.length fc] 97)).drew b F { d with arms := ⟨n - 1, fs⟩ :: r } T ∧ Step F F w ((w.setCell ⟨g, off, none⟩ (.int .i64 (n - 1))).alloc (.cells #[.int .i64 n, .slice fa fs.length fc] 97)).drew) := by
        rw [← HO.out]
        obtain ⟨w3, hw3⟩ : ∃ w3, w3 = ((w.setCell ⟨g, off, none⟩ (.int .i64 (n - 1))).alloc O).drew := ⟨_, rfl⟩
        have hz : w3.heap.size = w.heap.size + 1 := by rw [hw3]; simp [World.setCell]
        have hk3 : ∀ k, k < w.heap.size → k ≠ g → w3.heap[k]? = w.heap[k]? := fun k hk hn => by
          rw [hw3]
          show ((w.setCell ⟨g, off, none⟩ (.int .i64 (n - 1))).alloc O).heap[k]? = _
          rw [alloc_old (by rw [set_size]; exact hk), set_other hn]
        have hg3 : w3.heap[g]? = some (.cells (cur.setIfInBounds off (.int .i64 (n - 1))) 97 (0, 0)) := by
          rw [hw3]
          show ((w.setCell ⟨g, off, none⟩ (.int .i64 (n - 1))).alloc O).heap[g]? = _
          rw [alloc_old (by rw [set_size]; exact hgw)]; exact set_cells HG.out
        have hst : Step F F w w3 := ⟨by rw [hw3]; rfl, by rw [hw3]; rfl, by rw [hw3]; rfl, by omega, fun k hk hn => hk3 k hk (fun e => hn (by rw [e]; exact hFg)), fun _ h => .inl h⟩
        rw [← hw3]
        refine ⟨⟨tv, lv, pv, _, HH.out.rearm (l' := ⟨n - 1, fs⟩ :: r) g cur HG.out (fun k hk _ hn => hk3 k hk hn) (by omega) ((hk3 b HBB.out hbg).trans HH.out.body.blk) ?_ ⟨HH.out.ok.s0, HH.out.ok.s1, HH.out.ok.dur, HH.out.ok.rise, HH.out.ok.pend, fun a h => ?_⟩⟩, hst⟩
        · refine .inr ⟨g, off, cap, _, fv, rfl, hFg, hg3, hl, hc, by simpa using hsz, HFv.out, fun i h h' => ?_⟩
          obtain ⟨q0, q1, q2, q3⟩ := HA.out i h h'
          have hq : w3.ownsRow 0 114 4 fv[i] (⟨n, fs⟩ :: r : List Armed)[i].fates.length (fateCells (⟨n, fs⟩ :: r : List Armed)[i].fates) := owns_block q2 fun k hk => by
            obtain ⟨_, hlt, c, hc'⟩ := owns_blk q2 k hk
            exact hk3 k hlt (fun e => by rw [e, HG.out] at hc'; simp at hc')
          have ef : (⟨n - 1, fs⟩ :: r : List Armed)[i].fates = (⟨n, fs⟩ :: r : List Armed)[i].fates := by cases i <;> rfl
          refine ⟨?_, ?_, by rw [ef]; exact hq, q3⟩
          · cases i with
            | zero => rw [Nat.zero_mul, Nat.add_zero, Array.getElem?_setIfInBounds_self_of_lt (by omega)]; rfl
            | succ i => rw [Array.getElem?_setIfInBounds_ne (by omega)]; exact q0
          · rw [Array.getElem?_setIfInBounds_ne (by omega)]; exact q1
        · rcases List.mem_cons.1 h with e | h
          · rw [e]; simp only []; omega
          · exact HH.out.ok.arms a (by rw [HAA.out]; exact List.mem_cons_of_mem _ h)
      go_wp2_with fail
      go_region
      all_goals
        go_wp2_with fail
        go_ret
        rw [HD.out]
        exact ⟨rfl, F, T, HE.out.1, HE.out.2, by omega⟩
    · have HFS2 := Hid.mk2 (HFST.out hn0)
      have HD : Hid (d.done = ({ d with arms := r }.kill fs, 8)) := by show d.done = _; unfold Dev.done; rw [HAA.out]; simp [hn0]
      have HCR : Hid (∀ off' cap', (off' = off + 2 ∧ cap' = cap - 1) ∨ (off' = off ∧ cap = 1 ∧ cap' = 0) → Calls Tryz.prog 57 #[.pointer (some ⟨b, 0, none⟩), .slice fa fs.length fc] ((w.alloc O).setCell ⟨b, 5, none⟩ (.slice (some ⟨g, off', none⟩) r.length cap')) fun e w' => e = .returned (.tuple #[]) ∧ ∃ F' T', RAll w' b F' ({ d with arms := r }.kill fs) T' ∧ Step F F' w w' ∧ T' ≤ T + fs.length) := by
        intro off' cap' hoff
        obtain ⟨w3, hw3⟩ : ∃ w3, w3 = (w.alloc O).setCell ⟨b, 5, none⟩ (.slice (some ⟨g, off', none⟩) r.length cap') := ⟨_, rfl⟩
        have hz : w3.heap.size = w.heap.size + 1 := by rw [hw3, set_size]; simp
        have hk3 : ∀ k, k < w.heap.size → k ≠ b → w3.heap[k]? = w.heap[k]? := fun k hk h1 => by rw [hw3, set_other h1, alloc_old hk]
        have hg3 : w3.heap[g]? = some (.cells cur 97 (0, 0)) := (hk3 g hgw (fun e => hbg e.symm)).trans HG.out
        have hb3 : w3.heap[b]? = some (.cells #[tv, .int .i64 d.size, lv, pv, .bool d.dead, .slice (some ⟨g, off', none⟩) r.length cap', .int .i64 d.nr, .int .i64 d.nw, .int .i64 d.ns] 52 (0, 0)) := by
          rw [hw3]; exact set_cells ((alloc_old HBB.out).trans HH.out.body.blk)
        have hst : Step F F w w3 := ⟨by rw [hw3]; rfl, by rw [hw3]; rfl, by rw [hw3]; rfl, by omega, fun k hk hn => hk3 k hk (fun e => hn (by rw [e]; exact HH.out.body.fb)), fun _ h => .inl h⟩
        have hrow : ∀ v l, w.ownsRow 0 114 4 v l.length (fateCells l) → w3.ownsRow 0 114 4 v l.length (fateCells l) := fun v l q2 => owns_block q2 fun k hk => by
          obtain ⟨_, hlt, c, hc'⟩ := owns_blk q2 k hk
          exact hk3 k hlt (fun e => by rw [e, HH.out.body.blk] at hc'; simp at hc')
        have hful : RFul w3 b F { d with arms := r } T tv lv pv (.slice (some ⟨g, off', none⟩) r.length cap') := by
          refine HH.out.rearm (l' := r) g cur HG.out (fun k hk h1 _ => hk3 k hk h1) (by omega) hb3 ?_ ⟨HH.out.ok.s0, HH.out.ok.s1, HH.out.ok.dur, HH.out.ok.rise, HH.out.ok.pend, fun a h => HH.out.ok.arms a (by rw [HAA.out]; exact List.mem_cons_of_mem _ h)⟩
          refine .inr ⟨g, off', cap', cur, fv.tail, rfl, hFg, hg3, by omega, by omega, by omega, by rw [List.length_tail, HFv.out]; rfl, fun i h h' => ?_⟩
          have ho : off' = off + 2 := by rcases hoff with h1 | h2 <;> omega
          obtain ⟨q0, q1, q2, q3⟩ := HA.out (i + 1) (by simpa using h) (by rw [HFv.out]; omega)
          simp only [List.getElem_cons_succ] at q0 q1 q2 q3
          have et : fv.tail[i] = fv[i + 1]'(by rw [HFv.out]; omega) := by simp
          refine ⟨?_, ?_, ?_, ?_⟩
          · rw [← q0, ho]; congr 1; omega
          · rw [et, ← q1, ho]; congr 1; omega
          · rw [et]; exact hrow _ _ q2
          · rw [et]; exact q3
        rw [← hw3]
        refine (rsettle_any b F { d with arms := r } T w3 tv lv pv _ hful fs _ hpl HFS.out.1 hT HFS.out.2 (fun w' hz' hs' => fatesIn_own (owns_block (hrow _ _ HK.out.1) (fun k hk => ?_)) (by have := HFS.out.1; simp only [] at this; omega))).mono ?_
        · obtain ⟨_, hlt, c, hc'⟩ := owns_blk (hrow _ _ HK.out.1) k hk
          obtain ⟨cs, hcs⟩ := hful.tears
          exact hs' k hlt (fun e => by rw [e, hb3] at hc'; simp at hc') (fun e => by
            obtain ⟨_, _, c2, hc2⟩ := owns_blk hcs k e
            rw [hc'] at hc2; simp at hc2)
        · rintro e w4 ⟨rfl, F4, T4, h4, s4, t4⟩
          exact ⟨rfl, F4, T4, h4, hst.trans s4, t4⟩
      rw [HO.out] at HCR
      go_wp2_with fail
      all_goals
        refine (HCR.out _ _ (by first | exact .inl ⟨rfl, rfl⟩ | exact .inr ⟨rfl, by assumption, rfl⟩ | exact .inr ⟨rfl, by omega, rfl⟩)).mono ?_
        rintro e w4 ⟨rfl, hp⟩
        have HP := Hid.mk2 hp
        clear hp HCR
        go_wp2_with fail
        go_ret
        rw [HD.out, HFS2.out]
        exact ⟨rfl, HP.out⟩
/-- The fates that the arms hold. -/
def armSum (l : List Armed) : Nat := (l.map fun a => a.fates.length).sum
theorem done_sum (d : Dev) (T T' : Nat) (h : T' ≤ T + d.first) : T' + armSum d.done.1.arms ≤ T + armSum d.arms := by
  unfold Dev.first at h
  unfold Dev.done
  cases ha : d.arms with
  | nil => rw [ha] at h; simp only [] at h; simp only [ha, armSum, List.map_nil, List.sum_nil]; omega
  | cons a r =>
    rw [ha] at h
    simp only [] at h ⊢
    split
    · rename_i h0
      rw [if_pos h0] at h
      simp only [armSum, List.map_cons, List.sum_cons]; omega
    · rename_i h0
      rw [if_neg h0] at h
      simp only [Dev.kill, armSum, List.map_cons, List.sum_cons]; omega
theorem rdone_any (b : Nat) (F : Nat → Prop) (d : Dev) (T : Nat) (w : World) (h : RAll w b F d T) (hpl : d.pend.length ≤ 5864062014805) (hT : T ≤ 1048576) (hA : ∀ a ∈ d.arms, a.fates.length ≤ 1048576 ∧ ∀ f ∈ a.fates, f.junk.size ≤ 1048576) :
    Calls Tryz.prog 55 #[.pointer (some ⟨b, 0, none⟩)] w fun e w' => e = .returned (.int .i64 (d.done.2 : Int)) ∧ ∃ F' T', RAll w' b F' d.done.1 T' ∧ Step F F' w w' ∧ T' + armSum d.done.1.arms ≤ T + armSum d.arms :=
  (rdone_first b F d T w h hpl hT hA).mono fun _ _ ⟨h1, F', T', h2, h3, h4⟩ => ⟨h1, F', T', h2, h3, done_sum d T T' h4⟩

end Go.Proofs.YtlopimdnjookeabGreatDoor.V

namespace Go.Proofs.YtlopimdnjookeabGreatDoor.V
open Go.RowKit Go.Maps

theorem RFul.rset {wr : World} {b : Nat} {F : Nat → Prop} {d : Dev} {T : Nat} {tv lv pv av : Value} (h : RFul wr b F d T tv lv pv av) (yi : Int) (dd : ByteArray) (hd : dd.size = 512) (W : World) (hW : Below wr.heap.size wr W) :
    Calls Tryz.prog 54 #[lv, .agg #[.int .i64 yi, .string dd]] W fun e w' => ∃ v', e = .returned v' ∧ w'.ownsRow W.heap.size 72 2 v' (setD d.dur yi dd).length (secCells (setD d.dur yi dd)) ∧ Below W.heap.size W w' := by
  have hdl := Dev.Ok.dur_len h.ok
  exact rset_any d.dur lv ⟨yi, dd⟩ W ((secsIn_own h.body.last (by omega)).keep hW) h.ok.rise hd (by omega)
theorem sync_take (dur pend : List Sec) (k : Nat) (h : k < pend.length) : syncD dur (pend.take (k + 1)) = setD (syncD dur (pend.take k)) pend[k].ix pend[k].dat := by
  unfold syncD
  rw [List.take_succ_eq_append_getElem h, List.foldl_append]
  rfl
theorem sync_take_ok {d : Dev} (h : d.Ok) : ∀ k, k ≤ d.pend.length → { d with dur := syncD d.dur (d.pend.take k) }.Ok
  | 0, _ => by simpa [syncD] using h
  | k + 1, hk => by
    have ih := sync_take_ok h k (by omega)
    rw [sync_take d.dur d.pend k (by omega)]
    obtain ⟨h1, h2⟩ := setD_ok ih.dur ih.rise (h.pend _ (List.getElem_mem (by omega : k < d.pend.length)))
    exact ⟨h.s0, h.s1, h1, h2, h.pend, h.arms⟩

set_option maxRecDepth 100000 in
set_option maxHeartbeats 2000000 in
theorem rsync_any (b : Nat) (F : Nat → Prop) (d : Dev) (T : Nat) (w : World) (h : RAll w b F d T) (hpl : d.pend.length ≤ 5864062014805) (hT : T ≤ 1048576) (hA : ∀ a ∈ d.arms, a.fates.length ≤ 1048576 ∧ ∀ f ∈ a.fates, f.junk.size ≤ 1048576) :
    Calls Tryz.prog 23 #[.pointer (some ⟨b, 0, none⟩)] w fun e w' => e = .returned (.int .i64 (d.sync.2 : Int)) ∧ ∃ F' T', RAll w' b F' d.sync.1 T' ∧ Step F F' w w' ∧ T' + armSum d.sync.1.arms ≤ T + armSum d.arms := by
  have HALL := Hid.mk2 h
  obtain ⟨tv, lv, pv, av, h⟩ := h
  have c4 : w.cell? ⟨b, 4, none⟩ = some (.bool d.dead) := h.body.cell 4
  have HOK := Hid.mk2 h.ok
  have HA := Hid.mk2 hA
  cases hd : d.dead
  · rw [hd] at c4
    have HD : Hid (d.sync = Dev.done { d with dur := syncD d.dur d.pend, pend := [], ns := wrap64 (d.ns + 1) }) := by show d.sync = _; unfold Dev.sync; rw [hd]; rfl
    obtain ⟨PN, hPN⟩ : ∃ PN, PN = d.pend.length := ⟨_, rfl⟩
    have HPN := Hid.mk2 hPN
    rw [← hPN] at hpl
    have HI0 : Hid (RFul w b F { d with dur := syncD d.dur (d.pend.take 0) } T tv lv pv av) := by simpa [syncD, Hid] using h
    clear h hA hPN hd
    go_enter Tryz.func23, Tryz.ntmps23
    go_wp2_with fail
    go_loopw [3] (fun i wr => ∃ k F' lv', k ≤ PN ∧ i = .int .i64 (k : Int) ∧ RFul wr b F' { d with dur := syncD d.dur (d.pend.take k) } T tv lv' pv av ∧ Step F F' w wr) (fun i _ => PN - (intOf i).toNat)
    case atStart => exact ⟨0, F, lv, Nat.zero_le _, rfl, HI0.out, Step.refl _ _⟩
    case round =>
      obtain ⟨k, F', lv', hk, rfl, hful, hst⟩ := hrel
      have HF := Hid.mk2 hful
      have HST := Hid.mk2 hst
      clear hful hst HI0
      by_cases hlt : k < PN
      · have hkl : k < d.pend.length := by have := HPN.out; omega
        obtain ⟨gp, cp, hpe, hpc⟩ := secs_at HF.out.body.pend (by show 0 < d.pend.length; omega)
        obtain ⟨p0, p1⟩ := hpc k hkl
        have c3 : wr.cell? ⟨b, 3, none⟩ = some (.slice (some ⟨gp, 0, none⟩) PN cp) := by rw [HPN.out, HF.out.body.cell 3]; exact congrArg some hpe
        have l2 : wr.cell? ⟨b, 2, none⟩ = some lv' := HF.out.body.cell 2
        have HZ2 := Hid.mk2 (frozen_cells (j := 2) HF.out.body.blk)
        have hcb : b < wr.heap.size := World.block_lt_of_cell? _ _ l2
        have HSO : Hid (SecOk d.size d.pend[k]) := HOK.out.pend _ (List.getElem_mem hkl)
        have HNXT : Hid (syncD d.dur (d.pend.take (k + 1)) = setD (syncD d.dur (d.pend.take k)) d.pend[k].ix d.pend[k].dat) := sync_take _ _ _ hkl
        have HOK1 := Hid.mk2 (sync_take_ok HOK.out (k + 1) (by omega))
        simp only [] at p0 p1
        generalize d.pend[k] = y at *
        obtain ⟨yi, yd⟩ := y
        simp only [] at p0 p1 HNXT
        have HRS := Hid.mk2 (fun (W : World) (hW : Below wr.heap.size wr W) => HF.out.rset yi yd HSO.out.len W hW)
        have HNX : Hid (∀ (W w1 : World) (v' : Value), Below wr.heap.size wr W → Below W.heap.size W w1 → w1.ownsRow W.heap.size 72 2 v' (setD (syncD d.dur (d.pend.take k)) yi yd).length (secCells (setD (syncD d.dur (d.pend.take k)) yi yd)) → ∃ F1, RFul (w1.setCell ⟨b, 2, none⟩ v') b F1 { d with dur := syncD d.dur (d.pend.take (k + 1)) } T tv v' pv av ∧ Step F F1 w (w1.setCell ⟨b, 2, none⟩ v')) := fun W w1 v' hW h1 hr => by
          have hl := (HF.out.below hW).setLast h1 (by rw [← HNXT.out] at hr; exact hr) HOK1.out
          exact ⟨_, hl.1, (HST.out.trans (Step.of_below hW)).trans hl.2⟩
        clear hpe hpc
        have hlt' : (k : Int) < (PN : Int) := by omega
        have hk0 : (0 : Int) ≤ (k : Int) := by omega
        go_wp2_with fail
        go_region_law
          (first
            | (refine step_rset _ (by rfl) _ _ lv' (.agg #[.int .i64 yi, .string yd]) (by rfl) (by rfl) (by rfl) ((HRS.out _ (by first | exact bdrew1 (Below.refl _ _) | exact Below.refl _ _)).mono ?_); rintro e w5 ⟨v5, rfl, hr5, hb5⟩; have hb6 : Below wr.heap.size wr w5 := (by first | exact hb5 | exact undrew hb5); have HX5 := Hid.mk2 (HNX.out _ w5 v5 (by first | exact bdrew1 (Below.refl _ _) | exact Below.refl _ _) hb5 hr5); obtain ⟨a5, c5, rfl, -⟩ := owns_form hr5; have s2 : w5.cell? ⟨b, 2, none⟩ = some lv' := cell_below hb6 l2; have sz2 : w5.frozen? ⟨b, 2, none⟩ = false := (hb6.frozen (p := ⟨b, 2, none⟩) hcb).trans HZ2.out; clear hb5 hb6 hr5; refine ⟨_, rfl, ?_⟩))
        all_goals
          clear HRS HNX l2 p0 p1 c3
          go_wp2_with fail
          obtain ⟨F1, hx1, hx2⟩ := HX5.out
          exact ⟨⟨k + 1, F1, _, by omega, by go_num, hx1, hx2⟩, by simp [intOf]; omega⟩
      · have hke : k = PN := by omega
        subst hke
        obtain ⟨pa, pc, hpv, -⟩ := owns_form HF.out.body.pend
        have c3 : wr.cell? ⟨b, 3, none⟩ = some (.slice pa k pc) := by rw [HPN.out, HF.out.body.cell 3]; exact congrArg some hpv
        have z3 : wr.frozen? ⟨b, 3, none⟩ = false := frozen_cells HF.out.body.blk
        obtain ⟨h1, s1⟩ := HF.out.noPend
        have e8 : (wr.setCell ⟨b, 3, none⟩ (.slice none 0 0)).cell? ⟨b, 8, none⟩ = some (.int .i64 d.ns) := h1.body.cell 8
        have z8 : (wr.setCell ⟨b, 3, none⟩ (.slice none 0 0)).frozen? ⟨b, 8, none⟩ = false := frozen_cells h1.body.blk
        have hdur : syncD d.dur (d.pend.take k) = syncD d.dur d.pend := by rw [HPN.out, List.take_length]
        obtain ⟨h2, s2⟩ := h1.setCount (d' := { d with dur := syncD d.dur d.pend, pend := [], ns := wrap64 (d.ns + 1) }) 8 (.int .i64 (wrap64 (d.ns + 1))) rfl (by show syncD d.dur d.pend = syncD d.dur (d.pend.take k); rw [hdur]) rfl rfl ⟨h1.ok.s0, h1.ok.s1, by have := h1.ok.dur; simp only [hdur] at this; exact this, by have := h1.ok.rise; simp only [hdur] at this; exact this, by simp, h1.ok.arms⟩
        have DN := Hid.mk2 (rdone_any b F' { d with dur := syncD d.dur d.pend, pend := [], ns := wrap64 (d.ns + 1) } T _ ⟨_, _, _, _, h2⟩ (by simp) hT HA.out)
        have HS2 := Hid.mk2 ((HST.out.trans s1).trans s2)
        clear h1 s1 h2 s2 hpv hdur
        rw [← HD.out] at DN
        go_wp2_with fail
        refine DN.out.mono ?_
        rintro e w4 ⟨rfl, F4, T4, h4, s4, t4⟩
        have HP : Hid (∃ F' T', RAll w4 b F' d.sync.1 T' ∧ Step F F' w w4 ∧ T' + armSum d.sync.1.arms ≤ T + armSum d.arms) := ⟨F4, T4, h4, HS2.out.trans s4, t4⟩
        clear h4 s4 t4 DN HS2
        go_wp2_with fail
        go_ret
        exact ⟨rfl, HP.out⟩
  · rw [hd] at c4
    have HD : Hid (d.sync = (d, 8)) := by show d.sync = _; unfold Dev.sync; rw [hd]; rfl
    clear h hA
    go_enter Tryz.func23, Tryz.ntmps23
    go_wp2_with fail
    go_ret
    rw [HD.out]
    exact ⟨rfl, F, T, HALL.out, Step.refl _ _, Nat.le_refl _⟩
end Go.Proofs.YtlopimdnjookeabGreatDoor.V

namespace Go.Proofs.YtlopimdnjookeabGreatDoor.V
open Go.RowKit Go.Maps

theorem RFul.armed {w W w2 : World} {b : Nat} {F : Nat → Prop} {d : Dev} {T : Nat} {tv lv pv av v' : Value} {l' : List Armed} {g : Nat} (h : RFul w b F d T tv lv pv av) (hb : Below w.heap.size w W) (hs : RArmStep W w2 F g)
    (ha : RArmsAt w2 (fun k => F k ∨ (w.heap.size ≤ k ∧ k < w2.heap.size)) v' l') (ho : { d with arms := l' }.Ok) :
    RFul (w2.setCell ⟨b, 5, none⟩ v') b (fun k => F k ∨ (w.heap.size ≤ k ∧ k < w2.heap.size)) { d with arms := l' } T tv lv pv v' ∧ Step F (fun k => F k ∨ (w.heap.size ≤ k ∧ k < w2.heap.size)) w (w2.setCell ⟨b, 5, none⟩ v') := by
  have hz : w.heap.size ≤ w2.heap.size := Nat.le_trans hb.size hs.size
  have hk2 : ∀ k, k < w.heap.size → k ≠ g → w2.heap[k]? = w.heap[k]? := fun k hk hn => (hs.block k (Nat.lt_of_lt_of_le hk hb.size) hn).trans (hb.block k hk)
  have hne : ∀ k cur (e : TypeId), e ≠ 97 → w.heap[k]? = some (Obj.cells cur e (0, 0)) → k ≠ g := fun k cur e he hc e' => by
    subst e'
    have hl : k < w.heap.size := (Array.getElem?_eq_some_iff.1 hc).1
    obtain ⟨_, cur', hc'⟩ := hs.at' (Nat.lt_of_lt_of_le hl hb.size)
    rw [hb.block k hl, hc] at hc'
    simp at hc'
    exact he hc'.2
  have hbl := h.body.lt b h.body.fb
  have hb2 : w2.heap[b]? = _ := (hk2 b hbl (hne b _ _ (by decide) h.body.blk)).trans h.body.blk
  have hrow : ∀ (e : TypeId) (m : Nat) (v : Value) n xs, e ≠ 52 → e ≠ 97 → w.ownsRow 0 e m v n xs → (w2.setCell ⟨b, 5, none⟩ v').ownsRow 0 e m v n xs := fun e m v n xs he he' ho' => owns_block ho' fun k hk' => by
    obtain ⟨_, hlt, c, hc⟩ := owns_blk ho' k hk'
    rw [set_other (fun e' => by rw [e', h.body.blk] at hc; simp at hc; exact he hc.2.symm)]
    exact hk2 k hlt (hne k c e he' hc)
  obtain ⟨cs, hcs⟩ := h.tears
  refine ⟨⟨⟨set_cells hb2, .inl h.body.fb, hrow _ _ _ _ _ (by decide) (by decide) h.body.last, fun g hg => .inl (h.body.lf g hg), hrow _ _ _ _ _ (by decide) (by decide) h.body.pend, fun g hg => .inl (h.body.pf g hg), fun k hk => ?_⟩, ⟨cs, hrow _ _ _ _ _ (by decide) (by decide) hcs⟩, fun g hg => .inl (h.tf g hg), ?_, h.apart, ho⟩,
    ⟨hs.os.trans hb.os, hs.tape.trans hb.tape, hs.output.trans hb.output, by rw [set_size]; exact hz, fun k hk hn => ?_, fun k hk => hk.imp id (fun h => h.1)⟩⟩
  · rw [set_size]
    rcases hk with h' | h'
    · exact Nat.lt_of_lt_of_le (h.body.lt k h') hz
    · exact h'.2
  · refine ha.block fun k cur hk _ => set_other (fun e => ?_)
    rw [e, hb2] at hk
    simp at hk
  · rw [set_other (fun e => hn (by rw [e]; exact h.body.fb))]
    refine hk2 k hk (fun e => hn ?_)
    subst e
    exact (hs.at' (Nat.lt_of_lt_of_le hk hb.size)).1
/-- The document's Arm: it keeps the fates as they are. -/
def Dev.armF (d : Dev) (after : Int) (l : List Fate) : Dev := { d with arms := d.arms ++ [⟨if after < 0 then 0 else after, l⟩] }

theorem wpList_append_runV {ops : Array Oper} {rest : List Oper} {o : Oper} {a : Act} {w : World} {Q : Exit → Act → World → Prop} (t : TypeId) (hgd : o.guard = none) (d x : Operand)
    (ho : o.op = .call { callee := .builtin .append, args := #[d, x], argTypes := #[t, t] }) (hty : o.type = t) (vd vx : Value) (hd : a.eval d = vd) (hx : a.eval x = vx) (v : Value) (w' : World)
    (hrun : (Builtin.append_ #[t, t] t #[vd, vx]).run Tryz.prog w = .ok v w') (h : wpList Tryz.prog ops Q rest (a.put o.dst v) w') : wpList Tryz.prog ops Q (o :: rest) a w :=
  wpList_plain hgd fun _ hK => by
    unfold Oper.wp
    simp [execOp, ho, resolve, invoke, builtin, hd, hx, hty, hrun, Result.andThen]
    exact hK _ _ h

set_option maxRecDepth 100000 in
set_option maxHeartbeats 2000000 in
theorem rarm_any (b : Nat) (F : Nat → Prop) (d : Dev) (T : Nat) (w : World) (h : RAll w b F d T) (n : Int) (hn : -9223372036854775808 ≤ n ∧ n < 9223372036854775808) (l : List Fate) (v : Value) (hl : FatesIn w v l) (hlen : l.length ≤ 1048576) (ha : (d.arms.length + 1) * 32 ≤ 140737488355328) :
    Calls Tryz.prog 29 #[.pointer (some ⟨b, 0, none⟩), .int .i64 n, v] w fun e w' => e = .returned (.tuple #[]) ∧ ∃ F', RAll w' b F' (d.armF n l) T ∧ Step F F' w w' := by
  obtain ⟨tv, lv, pv, av, h⟩ := h
  have c5 : w.cell? ⟨b, 5, none⟩ = some av := h.body.cell 5
  have HH := Hid.mk2 h
  obtain ⟨i0, hi, hz0, hz1, hz2⟩ := info_parts Tryz.info114
  obtain ⟨fa, fc, fg, fo, rfl, hlb, hfa, hcs⟩ := hl
  have HF3 : Hid (∃ u w1, (Builtin.append_ #[34, 34] 34 #[.slice none 0 0, .slice fa l.length fc]).run Tryz.prog w = .ok u w1 ∧ w1.ownsRow w.heap.size 114 4 u l.length (fateCells l) ∧ Below w.heap.size w w1) := by
    by_cases h0 : 0 < l.length
    · obtain rfl := hfa h0
      obtain ⟨u, w1, hr, ho, hg, _⟩ := run_append_own (P := Tryz.prog) w w.heap.size 34 34 114 i0 _ 4 40 Tryz.underlying34 hi hz0 hz1 hz2 rfl (by decide) (.slice none 0 0) 0 [] (World.ownsRow_nil _ _ _ _) ⟨fg, fo, none⟩ l.length fc (fateCells l) (fateCells_len l) (fun j u hu => by
        have : (⟨fg, fo, none⟩ : Addr).add j = ⟨fg, fo + j, none⟩ := Addr.add_mid fg fo j
        rw [this]; exact hcs j u hu) (fateCells_one l) (by unfold maxLen; omega) (by omega) (Nat.le_refl _)
      refine ⟨u, w1, hr, by simpa using ho, ⟨hg.os, hg.tape, hg.output, hg.size, fun k hk => hg.block k hk (fun e => by cases e)⟩⟩
    · obtain rfl : l = [] := List.length_eq_zero_iff.1 (by omega)
      cases fa with
      | none =>
        refine ⟨.slice none 0 0, w, ?_, World.ownsRow_nil _ _ _ _, Below.refl _ _⟩
        simp [Builtin.append_, run_underlying Tryz.underlying34, sizeOf, typeInfo, hi, Builtin.lenOf, Builtin.firstCells]
      | some ad =>
        obtain ⟨u, w1, hr, ho, hg, _⟩ := run_append_own (P := Tryz.prog) w w.heap.size 34 34 114 i0 _ 4 40 Tryz.underlying34 hi hz0 hz1 hz2 rfl (by decide) (.slice none 0 0) 0 [] (World.ownsRow_nil _ _ _ _) ad 0 fc [] rfl (fun j u hu => by simp at hu) (fun u hu => by simp at hu) (by decide) (by omega) (Nat.le_refl _)
        exact ⟨u, w1, hr, by simpa [fateCells] using ho, ⟨hg.os, hg.tape, hg.output, hg.size, fun k hk => hg.block k hk (fun e => by cases e)⟩⟩
  obtain ⟨u, w1, hr1, ho1, hb1⟩ := HF3.out
  obtain ⟨m, hm⟩ : ∃ m : Int, m = if n < 0 then 0 else n := ⟨_, rfl⟩
  obtain ⟨ua, uc, rfl, -⟩ := owns_form ho1
  have hb2 : Below w.heap.size w (w1.alloc (.cells #[.int .i64 m, .slice ua l.length uc] 97)) := Below.next hb1 (below_new w1 _)
  obtain ⟨g2, off2, cap2, w2, hr2, hA2, hS2⟩ := rarm_append 50 (w1.alloc (.cells #[.int .i64 m, .slice ua l.length uc] 97)) av d.arms F (HH.out.arms.block (fun k _ _ hf => hb2.block k (HH.out.body.lt k hf))) w1.heap.size w.heap.size m l (.slice ua l.length uc) (heap_alloc_new w1 _) (ho1.alloc _) (by have := hb1.size; simp; omega) ha
  have HFIN := Hid.mk2 (HH.out.armed hb2 hS2 hA2 ⟨HH.out.ok.s0, HH.out.ok.s1, HH.out.ok.dur, HH.out.ok.rise, HH.out.ok.pend, fun a h => by
    rcases List.mem_append.1 h with h | h
    · exact HH.out.ok.arms a h
    · simp only [List.mem_singleton] at h
      subst h
      simp only []
      rw [hm]
      split <;> omega⟩)
  have HE : Hid (d.armF n l = { d with arms := d.arms ++ [⟨m, l⟩] }) := by show d.armF n l = _; unfold Dev.armF; rw [hm]
  have hbl := HH.out.body.lt b HH.out.body.fb
  have hbb : b ≠ g2 := fun e => by
    subst e
    obtain ⟨_, cur, hc⟩ := hS2.at' (Nat.lt_of_lt_of_le hbl hb2.size)
    rw [hb2.block b hbl, HH.out.body.blk] at hc
    simp at hc
  have hb3 : w2.heap[b]? = _ := ((hS2.block b (Nat.lt_of_lt_of_le hbl hb2.size) hbb).trans (hb2.block b hbl)).trans HH.out.body.blk
  have e5 : w2.cell? ⟨b, 5, none⟩ = some av := by rw [cell_of_row _ _ _ _ _ _ hb3]; rfl
  have z5 : w2.frozen? ⟨b, 5, none⟩ = false := frozen_cells hb3
  have f5 : w1.cell? ⟨b, 5, none⟩ = some av := cell_below hb1 c5
  have HR1 := Hid.mk2 hr1
  have HR2 := Hid.mk2 hr2
  clear HF3 hr1 hr2 hA2 hS2 hb2 hb1 ho1 hcs hfa hbl hbb hb3 h HH hlb hi hz0 hz1 hz2
  by_cases h0 : n < 0
  · rw [if_pos h0] at hm
    subst hm
    go_enter Tryz.func29, Tryz.ntmps29
    go_wp2_with (first | (at_builtin; refine wpList_append_runV 34 rfl _ _ rfl rfl _ _ rfl rfl _ _ HR1.out ?_) | (at_builtin; refine wpList_append_runV 50 rfl _ _ rfl rfl _ _ rfl rfl _ _ HR2.out ?_))
    go_end0
    rw [HE.out]
    exact ⟨rfl, _, ⟨_, _, _, _, HFIN.out.1⟩, HFIN.out.2⟩
  · rw [if_neg h0] at hm
    subst hm
    go_enter Tryz.func29, Tryz.ntmps29
    go_wp2_with (first | (at_builtin; refine wpList_append_runV 34 rfl _ _ rfl rfl _ _ rfl rfl _ _ HR1.out ?_) | (at_builtin; refine wpList_append_runV 50 rfl _ _ rfl rfl _ _ rfl rfl _ _ HR2.out ?_))
    go_end0
    rw [HE.out]
    exact ⟨rfl, _, ⟨_, _, _, _, HFIN.out.1⟩, HFIN.out.2⟩
end Go.Proofs.YtlopimdnjookeabGreatDoor.V

namespace Go.Proofs.YtlopimdnjookeabGreatDoor.V
open Go.RowKit Go.Maps

/-- One pending write more: the row grew, in its own block or in a new one, and its place is turned. -/
theorem RFul.setPend {w w1 : World} {b : Nat} {F : Nat → Prop} {d : Dev} {T : Nat} {tv lv pv av v' : Value} {l' : List Sec} (h : RFul w b F d T tv lv pv av) (ho : w1.os = w.os) (ht : w1.tape = w.tape) (hu : w1.output = w.output) (hz : w.heap.size ≤ w1.heap.size)
    (hk0 : ∀ k, k < w.heap.size → pv.ownBlock ≠ some k → w1.heap[k]? = w.heap[k]?) (hr : w1.ownsRow 0 72 2 v' l'.length (secCells l')) (hv : ∀ g, v'.ownBlock = some g → pv.ownBlock = some g ∨ w.heap.size ≤ g) (hok : { d with pend := l' }.Ok) :
    RFul (w1.setCell ⟨b, 3, none⟩ v') b (grow F w w1) { d with pend := l' } T tv lv v' av ∧ Step F (grow F w w1) w (w1.setCell ⟨b, 3, none⟩ v') := by
  have hlt := h.body.lt b h.body.fb
  obtain ⟨cs, hcs⟩ := h.tears
  have hk1 : ∀ k, k ≠ b → (w1.setCell ⟨b, 3, none⟩ v').heap[k]? = w1.heap[k]? := fun k hk => set_other hk
  have hnt : ∀ k (cur : Array Value) (e : TypeId), e ≠ 72 → w.heap[k]? = some (Obj.cells cur e (0, 0)) → pv.ownBlock ≠ some k := fun k cur e he hc e' => by
    obtain ⟨_, _, c, hc'⟩ := owns_blk h.body.pend k e'
    rw [hc] at hc'
    simp at hc'
    exact he hc'.2
  have hk : ∀ k (cur : Array Value) (e : TypeId), e ≠ 72 → e ≠ 52 → w.heap[k]? = some (Obj.cells cur e (0, 0)) → (w1.setCell ⟨b, 3, none⟩ v').heap[k]? = w.heap[k]? := fun k cur e he he' (hc : w.heap[k]? = some (Obj.cells cur e (0, 0))) => by
    have hl : k < w.heap.size := (Array.getElem?_eq_some_iff.1 hc).1
    rw [hk1 k (fun e2 => by rw [e2, h.body.blk] at hc; simp at hc; exact he' hc.2.symm)]
    exact hk0 k hl (hnt k cur e he hc)
  have hb1 : w1.heap[b]? = _ := (hk0 b hlt (hnt b _ _ (by decide) h.body.blk)).trans h.body.blk
  have hlast : (w1.setCell ⟨b, 3, none⟩ v').ownsRow 0 72 2 lv d.dur.length (secCells d.dur) := owns_block h.body.last fun k hk' => by
    obtain ⟨_, hl, c, hc⟩ := owns_blk h.body.last k hk'
    rw [hk1 k (fun e2 => by rw [e2, h.body.blk] at hc; simp at hc)]
    exact hk0 k hl (h.apart k hk')
  have htear : (w1.setCell ⟨b, 3, none⟩ v').ownsRow 0 118 4 tv T cs := owns_block hcs fun k hk' => by
    obtain ⟨_, _, c, hc⟩ := owns_blk hcs k hk'
    exact hk k c _ (by decide) (by decide) hc
  refine ⟨⟨⟨set_cells hb1, .inl h.body.fb, hlast, fun g hg => .inl (h.body.lf g hg), ?_, fun g hg => ?_, fun k hk' => ?_⟩, ⟨cs, htear⟩, fun g hg => .inl (h.tf g hg), ?_, fun g hg hp => ?_, hok⟩, ⟨ho, ht, hu, by rw [set_size]; exact hz, fun k hl hn => ?_, fun k hk' => hk'.imp id (fun h => h.1)⟩⟩
  · refine owns_block hr fun k hk' => hk1 k (fun e => ?_)
    obtain ⟨_, _, c, hc⟩ := owns_blk hr k hk'
    rw [e, hb1] at hc
    simp at hc
  · rcases hv g hg with h' | h'
    · exact .inl (h.body.pf g h')
    · exact .inr ⟨h', (owns_blk hr g hg).2.1⟩
  · rw [set_size]
    rcases hk' with h' | h'
    · exact Nat.lt_of_lt_of_le (h.body.lt k h') hz
    · exact h'.2
  · refine (h.arms.block fun k cur hk' hf => ?_).imp (fun k hf => .inl hf)
    rcases hk' with hk' | hk'
    · exact hk k cur 97 (by decide) (by decide) hk'
    · exact hk k cur 114 (by decide) (by decide) hk'
  · rcases hv g hp with h' | h'
    · exact h.apart g hg h'
    · have := h.body.lt g (h.body.lf g hg); omega
  · rw [hk1 k (fun e => hn (by rw [e]; exact h.body.fb))]
    exact hk0 k hl (fun e => hn (h.body.pf k e))

end Go.Proofs.YtlopimdnjookeabGreatDoor.V

namespace Go.Proofs.YtlopimdnjookeabGreatDoor.V
open Go.RowKit Go.Maps

set_option maxRecDepth 100000 in
set_option maxHeartbeats 2000000 in
theorem rwrite_any (b : Nat) (F : Nat → Prop) (d : Dev) (T : Nat) (w : World) (h : RAll w b F d T) (s : Int) (hs : -9223372036854775808 ≤ s ∧ s < 9223372036854775808) (v : Value) (l : List UInt8) (hv : BytesAt w F v l) (hp : d.pend.length + l.length / 512 ≤ 5864062014805) (hT : T ≤ 1048576) (hA : ∀ a ∈ d.arms, a.fates.length ≤ 1048576 ∧ ∀ f ∈ a.fates, f.junk.size ≤ 1048576) :
    Calls Tryz.prog 32 #[.pointer (some ⟨b, 0, none⟩), .int .i64 s, v] w fun e w' => e = .returned (.int .i64 ((d.write s l).2 : Int)) ∧ ∃ F' T', RAll w' b F' (d.write s l).1 T' ∧ Step F F' w w' ∧ T' + armSum (d.write s l).1.arms ≤ T + armSum d.arms := by
  have HK := Hid.mk2 h
  obtain ⟨a, cap, g, rfl, hcap, hlen, hag, hcell⟩ := hv
  obtain ⟨tv, lv, pv, av, h⟩ := h
  have c4 : w.cell? ⟨b, 4, none⟩ = some (.bool d.dead) := h.body.cell 4
  have c1 : w.cell? ⟨b, 1, none⟩ = some (.int .i64 d.size) := h.body.cell 1
  have s0 := h.ok.s0
  have s1 := h.ok.s1
  have HA := Hid.mk2 hA
  have HC := Hid.mk2 hcell
  obtain ⟨L, hL⟩ : ∃ L, L = l.length := ⟨_, rfl⟩
  have HL := Hid.mk2 hL
  obtain ⟨n, hn⟩ : ∃ n, n = L / 512 := ⟨_, rfl⟩
  obtain ⟨m, hm⟩ : ∃ m, m = L % 512 := ⟨_, rfl⟩
  have q1 : ((L : Int) / 512) = (n : Int) := by omega
  have q1' : (L : Int).tdiv 512 = (n : Int) := by rw [Int.tdiv_eq_ediv_of_nonneg (by omega)]; omega
  have q2 : ((L : Int) % 512) = (m : Int) := by omega
  have q2' : (L : Int).tmod 512 = (m : Int) := by rw [Int.tmod_eq_emod_of_nonneg (by omega)]; omega
  have HNM : Hid (L = n * 512 + m ∧ m < 512) := ⟨by omega, by omega⟩
  have HP : Hid (d.pend.length + n ≤ 5864062014805) := by rw [← hL] at hp; rw [hn]; exact hp
  have HW : Hid (d.write s l = if d.dead then (d, 8) else if L = 0 ∨ m ≠ 0 ∨ d.fits s (n : Int) = false then (d, 1) else Dev.done { d with pend := d.pend ++ chunks s l n, nw := wrap64 (d.nw + (n : Int)) }) := by rw [hm, hn, hL]; rfl
  have HFI : Hid (d.fits s (n : Int) = decide (0 ≤ s ∧ 0 ≤ (n : Int) ∧ s ≤ d.size - n)) := (rfl : d.fits s _ = _)
  have HH := Hid.mk2 h
  rw [← hL] at hcap hlen hag
  rw [← hL]
  clear h hcell hL hp hA hn hm
  have HER : Hid (d.write s l = (d, 1) → (Ending.returned (.int .i64 1) = .returned (.int .i64 ((d.write s l).2 : Int)) ∧ ∃ F' T', RAll w b F' (d.write s l).1 T' ∧ Step F F' w w ∧ T' + armSum (d.write s l).1.arms ≤ T + armSum d.arms)) := fun e => by
    rw [e]; exact ⟨rfl, F, T, HK.out, Step.refl _ _, Nat.le_refl _⟩
  obtain ⟨sz, hsz⟩ : ∃ sz, sz = d.size := ⟨_, rfl⟩
  have HSZ := Hid.mk2 hsz
  rw [← hsz] at c1 s0 s1 HFI
  clear hsz
  cases hd : d.dead
  · rw [hd] at c4
    by_cases b1 : L = 0
    · have HR : Hid (d.write s l = (d, 1)) := by show d.write s l = _; rw [HW.out, hd, if_neg (by simp), if_pos (.inl b1)]
      have t1 : ((L : Int) == 0) = true := by simp [b1]
      clear HW b1 HNM
      go_enter Tryz.func32, Tryz.ntmps32
      go_wp2_with fail
      go_ret
      exact HER.out HR.out
    · have t1 : ((L : Int) == 0) = false := by simp; omega
      by_cases b2 : m = 0
      · subst b2
        by_cases b3 : s < 0
        · have HR : Hid (d.write s l = (d, 1)) := by show d.write s l = _; rw [HW.out, hd, if_neg (by simp), if_pos (.inr (.inr (by rw [HFI.out]; exact decide_eq_false (by omega))))]
          clear HW b1 HNM
          go_enter Tryz.func32, Tryz.ntmps32
          go_wp2_with fail
          go_ret
          exact HER.out HR.out
        · by_cases b4 : sz < s
          · have HR : Hid (d.write s l = (d, 1)) := by show d.write s l = _; rw [HW.out, hd, if_neg (by simp), if_pos (.inr (.inr (by rw [HFI.out]; exact decide_eq_false (by omega))))]
            clear HW b1 HNM
            go_enter Tryz.func32, Tryz.ntmps32
            go_wp2_with fail
            go_ret
            exact HER.out HR.out
          · have q4 : IntKind.i64.wrap (sz - s) = sz - s := wrap_i64 _ (by omega) (by omega)
            by_cases b5 : sz - s < (n : Int)
            · have HR : Hid (d.write s l = (d, 1)) := by show d.write s l = _; rw [HW.out, hd, if_neg (by simp), if_pos (.inr (.inr (by rw [HFI.out]; exact decide_eq_false (by omega))))]
              clear HW b1 HNM
              go_enter Tryz.func32, Tryz.ntmps32
              go_wp2_with fail
              go_ret
              exact HER.out HR.out
            · have HR : Hid (d.write s l = Dev.done { d with pend := d.pend ++ chunks s l n, nw := wrap64 (d.nw + (n : Int)) }) := by
                show d.write s l = _
                rw [HW.out, hd, if_neg (by simp), if_neg]
                rintro (h | h | h)
                · exact b1 h
                · exact h rfl
                · rw [HFI.out] at h
                  exact absurd (of_decide_eq_false h) (by omega)
              have HLn : Hid (L = n * 512) := by have := HNM.out; show L = _; omega
              have HLn2 : Hid (l.length = n * 512) := by show l.length = _; rw [← HL.out]; exact HLn.out
              obtain ⟨hag1, hag2⟩ := hag (by omega)
              subst hag1
              have hfs1 : 0 ≤ s := by omega
              have hfs2 : s ≤ sz - (n : Int) := by omega
              have HCK : Hid (∀ k, k < n → SecOk d.size (chunk s l k)) := fun k hk => chunk_ok hfs1 (by rw [← HSZ.out]; exact hfs2) HLn2.out hk
              have HI0 : Hid (RFul w b F { d with pend := d.pend ++ chunks s l 0 } T tv lv pv av) := by simpa [chunks, Hid] using HH.out
              have HOK := Hid.mk2 HH.out.ok
              obtain ⟨i0, hi, hz0, hz1, hz2⟩ := info_parts Tryz.info72
              clear HW HNM hag HH HER
              go_enter Tryz.func32, Tryz.ntmps32
              go_wp2_with fail
              clear c1 c4 q1 q1' q2 q2' t1 q4
              go_loopw [8] (fun i wr => ∃ k F' pv', k ≤ n ∧ i = .int .i64 (k : Int) ∧ RFul wr b F' { d with pend := d.pend ++ chunks s l k } T tv lv pv' av ∧ Step F F' w wr) (fun i _ => n - (intOf i).toNat)
              case atStart => exact ⟨0, F, pv, Nat.zero_le _, rfl, HI0.out, Step.refl _ _⟩
              case round =>
                obtain ⟨k, F', pv', hk, rfl, hful, hst⟩ := hrel
                have HF := Hid.mk2 hful
                have HST := Hid.mk2 hst
                clear hful hst HI0
                by_cases hlt : k < n
                · have hplen : (d.pend ++ chunks s l k).length = d.pend.length + k := by simp [chunks_len]
                  obtain ⟨P, hP⟩ : ∃ P, P = d.pend.length + k := ⟨_, rfl⟩
                  rw [← hP] at hplen
                  have hPb : P + 1 ≤ 5864062014805 := by have := HP.out; omega
                  have hpend : wr.ownsRow 0 72 2 pv' P (secCells (d.pend ++ chunks s l k)) := by rw [← hplen]; exact HF.out.body.pend
                  have x3 : wr.cell? ⟨b, 3, none⟩ = some pv' := HF.out.body.cell 3
                  obtain ⟨pa, pc, rfl, -⟩ := owns_form hpend
                  have hwk2 : IntKind.i64.wrap (s + (k : Int)) = s + (k : Int) := wrap_i64 _ (by omega) (by omega)
                  have hcv := chunk_cells (w := wr) (g := g) (l := l) (fun j h => HST.out.cell (a := ⟨g, j, none⟩) (HC.out j h) hag2) k (by rw [← HL.out, HLn.out]; omega) (cap - k * 512)
                  obtain ⟨D, hD⟩ : ∃ D, D = mkb ((l.drop (k * 512)).take 512) := ⟨_, rfl⟩
                  rw [← hD] at hcv
                  have HD := Hid.mk2 hD
                  have i1 : IntKind.i64.wrap ((k : Int) * 512) = (k : Int) * 512 := wrap_i64 _ (by omega) (by omega)
                  have i2 : IntKind.i64.wrap (((k : Int) + 1) * 512) = ((k : Int) + 1) * 512 := wrap_i64 _ (by omega) (by omega)
                  have hLb1 : ((k : Int) + 1) * 512 ≤ (cap : Int) := by have := HLn.out; omega
                  have e512 : (k + 1) * 512 - k * 512 = 512 := by omega
                  have hLb2 : (k : Int) * 512 ≤ ((k : Int) + 1) * 512 := by omega
                  have hLb3 : (0 : Int) ≤ (k : Int) * 512 := by omega
                  have hlt' : (k : Int) < (n : Int) := by omega
                  have HROW := Hid.mk2 hpend
                  have HPL := Hid.mk2 hplen
                  have HPP := Hid.mk2 hP
                  clear hD hpend hplen hP
                  go_wp2_with (first
                    | (at_builtin; refine wpList_append_lies _ rfl _ _ 38 rfl 0 72 i0 (.agg #[.int .i64 0, .string ⟨#[]⟩]) 2 24 Tryz.underlying38 hi hz0 hz1 hz2 rfl (by decide) _ P _ rfl (HROW.out.alloc _) ⟨wr.heap.size, 0, none⟩ 1 1 [.int .i64 (s + (k : Int)), .string D] rfl rfl ?c1 ?c2 ?c3 ?c4 ?c5 ?c6 (wr.heap.size + 1) ?c7 ?_))
                  case c1 => exact World.news_of_block (heap_alloc_new wr _)
                  case c2 => intro u hu; simp only [List.mem_cons, List.not_mem_nil, or_false] at hu; rcases hu with rfl | rfl <;> rfl
                  case c3 => decide
                  case c4 => unfold maxLen; omega
                  case c5 => omega
                  case c6 => exact Nat.zero_le _
                  case c7 => simp
                  intro g2 cap2 w2 hown2 hgrow2 hat2 hlg2
                  have hW := HF.out.below (below_new wr (.cells #[.int .i64 (s + (k : Int)), .string D] 72))
                  have hrow2 : w2.ownsRow 0 72 2 (.slice (some ⟨g2, 0, none⟩) (P + 1) cap2) (d.pend ++ chunks s l (k + 1)).length (secCells (d.pend ++ chunks s l (k + 1))) := by
                    rw [chunks_succ, ← List.append_assoc, List.length_append, HPL.out, secCells_app]
                    have : secCells [chunk s l k] = [.int .i64 (s + (k : Int)), .string D] := by rw [HD.out]; rfl
                    rw [this]
                    exact hown2
                  have hok2 : ({ d with pend := d.pend ++ chunks s l (k + 1) } : Dev).Ok := ⟨HOK.out.s0, HOK.out.s1, HOK.out.dur, HOK.out.rise, fun x hx => by
                    rcases List.mem_append.1 hx with hx | hx
                    · exact HOK.out.pend x hx
                    · simp only [chunks, List.mem_map, List.mem_range] at hx
                      obtain ⟨j, hj, rfl⟩ := hx
                      exact HCK.out j (by omega), HOK.out.arms⟩
                  have PB := hW.setPend (w1 := w2) (l' := d.pend ++ chunks s l (k + 1)) hgrow2.os hgrow2.tape hgrow2.output hgrow2.size (fun j hj hne => hgrow2.block j hj (fun e => hne e.symm)) hrow2 (fun j hj => by
                    simp only [Value.ownBlock, Option.some.injEq] at hj
                    subst hj
                    exact hat2.imp id (fun e => by simp; omega)) hok2
                  have hpb : (Value.slice pa P pc).ownBlock ≠ some b := fun e => by
                    obtain ⟨_, _, c, hc⟩ := owns_blk HROW.out b e
                    rw [HF.out.body.blk] at hc
                    simp at hc
                  have hb2 : w2.heap[b]? = _ := (hgrow2.block b (hW.body.lt b hW.body.fb) (fun e => hpb e.symm)).trans hW.body.blk
                  have z3 : w2.cell? ⟨b, 3, none⟩ = some (.slice pa P pc) := by rw [cell_of_row _ _ _ _ _ _ hb2]; rfl
                  have fz3 : w2.frozen? ⟨b, 3, none⟩ = false := frozen_cells hb2
                  have HPB := Hid.mk2 PB
                  have HSB := Hid.mk2 ((HST.out.trans (Step.of_below (below_new wr (.cells #[.int .i64 (s + (k : Int)), .string D] 72)))).trans PB.2)
                  clear PB hrow2 hown2 hgrow2 hat2 hlg2 hb2 hW hok2 hpb x3 hcv
                  go_wp2_with fail
                  go_roundw
                  case rel => exact ⟨k + 1, _, _, by omega, by go_num, HPB.out.1, HSB.out⟩
                  case measure => simp [intOf]; omega
                · have hke : k = n := by omega
                  subst hke
                  have x7 : wr.cell? ⟨b, 7, none⟩ = some (.int .i64 d.nw) := HF.out.body.cell 7
                  have f7 : wr.frozen? ⟨b, 7, none⟩ = false := frozen_cells HF.out.body.blk
                  have hok := HF.out.ok
                  obtain ⟨h5, s5⟩ := HF.out.setCount (d' := { d with pend := d.pend ++ chunks s l k, nw := wrap64 (d.nw + (k : Int)) }) 7 (.int .i64 (wrap64 (d.nw + (k : Int)))) rfl rfl rfl rfl ⟨hok.s0, hok.s1, hok.dur, hok.rise, hok.pend, hok.arms⟩
                  have DN := Hid.mk2 (rdone_any b F' { d with pend := d.pend ++ chunks s l k, nw := wrap64 (d.nw + (k : Int)) } T _ ⟨_, _, _, _, h5⟩ (by have := HP.out; simp [chunks_len]; omega) hT HA.out)
                  have HS2 := Hid.mk2 (HST.out.trans s5)
                  clear h5 s5 hok
                  rw [← HR.out] at DN
                  go_wp2_with fail
                  refine DN.out.mono ?_
                  rintro e w4 ⟨rfl, F4, T4, h4, s4, t4⟩
                  have HPF : Hid (∃ F' T', RAll w4 b F' (d.write s l).1 T' ∧ Step F F' w w4 ∧ T' + armSum (d.write s l).1.arms ≤ T + armSum d.arms) := ⟨F4, T4, h4, HS2.out.trans s4, t4⟩
                  clear h4 s4 t4 DN HS2
                  go_wp2_with fail
                  go_ret
                  exact ⟨rfl, HPF.out⟩
      · have HR : Hid (d.write s l = (d, 1)) := by show d.write s l = _; rw [HW.out, hd, if_neg (by simp), if_pos (.inr (.inl b2))]
        have t2 : ((m : Int) != 0) = true := by simp; omega
        clear HW b1 b2 HNM
        go_enter Tryz.func32, Tryz.ntmps32
        go_wp2_with fail
        go_ret
        exact HER.out HR.out
  · rw [hd] at c4
    have HR : Hid (d.write s l = (d, 8)) := by show d.write s l = _; rw [HW.out, hd]; rfl
    clear HW HNM
    go_enter Tryz.func32, Tryz.ntmps32
    go_wp2_with fail
    go_ret
    rw [HR.out]
    exact ⟨rfl, F, T, HK.out, Step.refl _ _, Nat.le_refl _⟩

end Go.Proofs.YtlopimdnjookeabGreatDoor.V
