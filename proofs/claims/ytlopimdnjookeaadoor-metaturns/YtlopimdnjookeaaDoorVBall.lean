import Derived.Test.YtlopimdnjookeaaDoorVM4
namespace Go.Proofs.YtlopimdnjookeaaDoor.V
open Go.RowKit Go.Maps

/-- What a method that may turn the device leaves. -/
def DevPost (w : World) (b : Nat) (F : Nat → Prop) (d : Dev) (w' : World) : Prop := ∃ F', DevAt w' b F' d ∧ Step F F' w w'

set_option maxHeartbeats 400000 in
theorem crash_any (b : Nat) (F : Nat → Prop) (d : Dev) (w : World) (h : DevAt w b F d) (l : List Fate) (fv : Value) (hl : w.ownsRow 0 80 4 fv l.length (fateCells l)) (hp : d.pend.length ≤ 140737488355328) :
    Calls Tryd.prog 15 #[.pointer (some ⟨b, 0, none⟩), fv] w fun e w' => e = .returned (.tuple #[]) ∧ DevPost w b F (d.crash l) w' := by
  obtain ⟨mb, nb, pv, av, Dn, h⟩ := h
  have c5 : w.cell? ⟨b, 5, none⟩ = some (.bool d.dead) := h.cell 5
  have HC : Hid (d.crash l = if d.dead then d else d.kill l) := (rfl : d.crash l = _)
  have S := settle_body h l fv hl hp
  have HS : Hid (Calls Tryd.prog 38 #[.pointer (some ⟨b, 0, none⟩), fv] w fun e w' => e = .returned (.tuple #[]) ∧ ∃ F', DevAt w' b F' { d with dur := settleD d.pend [] d.dur l, pend := [] } ∧ Step F F' w w') := S
  have HK : Hid (DevAt w b F d) := ⟨_, _, _, _, _, h⟩
  obtain ⟨fa, fc, rfl, -⟩ := owns_form hl
  clear S h hl
  go_enter Tryd.func15, Tryd.ntmps15
  cases hd : d.dead
  · rw [hd] at c5
    go_wp2_with fail
    refine HS.out.mono ?_
    rintro e w1 ⟨rfl, F1, h1, s1⟩
    have hok := h1.ok
    obtain ⟨mb1, nb1, pv1, av1, Dn1, h1⟩ := h1
    have k5 : w1.cell? ⟨b, 5, none⟩ = some (.bool d.dead) := h1.cell 5
    have f5 := h1.frozen 5
    obtain ⟨h2, s2⟩ := h1.set (d' := d.kill l) 5 (.bool true) rfl rfl rfl rfl ⟨hok.s0, hok.s1, hok.dur, hok.rise, hok.pend, hok.arms⟩
    have HH : Hid (DevBody (w1.setCell ⟨b, 5, none⟩ (.bool true)) b F1 (d.kill l) mb1 nb1 pv1 av1 Dn1 ∧ Step F1 F1 w1 (w1.setCell ⟨b, 5, none⟩ (.bool true))) := ⟨h2, s2⟩
    have HS1 : Hid (Step F F1 w w1) := s1
    clear HS h1 h2 s2 s1 hok
    go_wp2_with fail
    go_end0
    refine ⟨rfl, ?_⟩
    rw [HC.out, hd]
    exact ⟨F1, ⟨_, _, _, _, _, HH.out.1⟩, HS1.out.trans HH.out.2⟩
  · rw [hd] at c5
    clear HS
    go_wp2_with fail
    refine bodyPost_ret (results_none rfl _ _ _) rfl ?_
    refine ⟨rfl, ?_⟩
    rw [HC.out, hd]
    exact ⟨F, HK.out, Step.refl _ _⟩

end Go.Proofs.YtlopimdnjookeaaDoor.V

namespace Go.Proofs.YtlopimdnjookeaaDoor.V
open Go.RowKit Go.Maps

/-- What operationDone does. -/
def DoneOk (A : Nat → Addr) (w : World) (b : Nat) (F : Nat → Prop) (d : Dev) : Prop := Calls Tryd.prog 34 #[.pointer (some ⟨b, 0, none⟩)] w fun e w' => e = .returned (errV A d.done.2) ∧ DevPost w b F d.done.1 w'
/-- It does so with these arms. -/
def OpOk (base : Nat) (A : Nat → Addr) (b : Nat) (arms : List Armed) : Prop := ∀ w F d, d.arms = arms → DevAt w b F d → ErrsB base A w → (∀ k, F k → base ≤ k) → d.pend.length ≤ 140737488355328 → d.dead = false → DoneOk A w b F d

set_option maxHeartbeats 400000 in
theorem opdone_nil (base : Nat) (A : Nat → Addr) (b : Nat) : OpOk base A b [] := by
  intro w F d ha h _ _ _ _
  obtain ⟨mb, nb, pv, av, Dn, h⟩ := h
  have c4 : w.cell? ⟨b, 4, none⟩ = some av := h.cell 4
  have HH : Hid (DevBody w b F d mb nb pv av Dn) := h
  have harms := h.arms
  have HD : Hid (d.done = (d, 0)) := by show d.done = _; unfold Dev.done; rw [ha]
  obtain ⟨a, c, rfl⟩ : ∃ a c, av = .slice a 0 c := by
    rw [ha] at harms
    rcases harms with ⟨_, rfl⟩ | ⟨g, off, cap, cur, fv, rfl, _⟩
    · exact ⟨_, _, rfl⟩
    · exact ⟨_, _, rfl⟩
  unfold DoneOk
  clear h harms ha
  go_enter Tryd.func34, Tryd.ntmps34
  go_wp2_with fail
  go_ret
  rw [HD.out]
  exact ⟨rfl, F, ⟨_, _, _, _, _, HH.out⟩, Step.refl _ _⟩

/-- What Sync's loop holds. -/
structure SyncInv (w wr : World) (b : Nat) (F : Nat → Prop) (d : Dev) (mb nb : Nat) (pv av : Value) (Dn : DataW Unit) (k : Nat) : Prop where
  body : DevBody wr b F { d with dur := syncD d.dur (d.pend.take k) } mb nb pv av Dn
  step : Step F F w wr
theorem syncD_snoc (dur l : List Sec) (x : Sec) : syncD dur (l ++ [x]) = setD (syncD dur l) x.ix x.dat := by simp [syncD, List.foldl_append]

set_option maxRecDepth 100000 in
set_option maxHeartbeats 800000 in
theorem sync_any (base : Nat) (A : Nat → Addr) (b : Nat) (F : Nat → Prop) (d : Dev) (w : World) (h : DevAt w b F d) (hE : ErrsB base A w) (hF : ∀ k, F k → base ≤ k) (hp : d.pend.length ≤ 140737488355328) (hop : OpOk base A b d.arms) :
    Calls Tryd.prog 12 #[.pointer (some ⟨b, 0, none⟩)] w fun e w' => e = .returned (errV A d.sync.2) ∧ DevPost w b F d.sync.1 w' := by
  obtain ⟨mb, nb, pv, av, Dn, h⟩ := h
  have c5 : w.cell? ⟨b, 5, none⟩ = some (.bool d.dead) := h.cell 5
  have e7 := hE.dead
  have HE : Hid (ErrsB base A w) := hE
  have HF : Hid (∀ k, F k → base ≤ k) := hF
  have HO : Hid (OpOk base A b d.arms) := hop
  have HH : Hid (DevBody w b F d mb nb pv av Dn) := h
  cases hd : d.dead
  · have c2 : w.cell? ⟨b, 2, none⟩ = some pv := h.cell 2
    obtain ⟨pa, pc, rfl, hpa⟩ := owns_form h.pend
    obtain ⟨n, hn⟩ : ∃ n, n = d.pend.length := ⟨_, rfl⟩
    have HN : Hid (n = d.pend.length) := hn
    rw [← hn] at c2 hp hpa HH
    have HI : Hid (SyncInv w w b F d mb nb (.slice pa n pc) av Dn 0) := ⟨by simpa [syncD] using HH.out, Step.refl _ _⟩
    rw [hd] at c5
    have HS : Hid (d.sync = Dev.done { d with dur := syncD d.dur d.pend, pend := [], ns := wrap64 (d.ns + 1) }) := by show d.sync = _; unfold Dev.sync; rw [hd]; rfl
    clear h hE hF hop hn e7
    go_enter Tryd.func12, Tryd.ntmps12
    go_wp2_with fail
    go_loopw [15] (fun i wr => ∃ k, k ≤ n ∧ i = .int .i64 (k : Int) ∧ SyncInv w wr b F d mb nb (.slice pa n pc) av Dn k) (fun i _ => n - (intOf i).toNat)
    case atStart => exact ⟨0, Nat.zero_le _, rfl, HI.out⟩
    case round =>
      obtain ⟨k, hk, rfl, inv⟩ := hrel
      have INV : Hid (SyncInv w wr b F d mb nb (.slice pa n pc) av Dn k) := inv
      clear inv HI
      by_cases hlt : k < n
      · obtain ⟨gp, rfl⟩ := hpa (by omega)
        have hkp : k < d.pend.length := by rw [← HN.out]; exact hlt
        obtain ⟨p0, p1⟩ := secCells_get d.pend k hkp
        have hpend := INV.out.body.pend
        simp only [← HN.out] at hpend
        have p0 := owns_cell hpend rfl _ _ p0
        have p1 := owns_cell hpend rfl _ _ p1
        have hok := secOk_of HH.out.ok hkp
        obtain ⟨x, hx⟩ : ∃ x, x = d.pend[k] := ⟨_, rfl⟩
        rw [← hx] at p0 p1 hok
        have HX : Hid (x = d.pend[k]) := hx
        clear hx hpend
        obtain ⟨xi, xd⟩ := x
        have hb2 := below_new wr (.cells #[.int .i64 xi, .string xd] 74)
        have M := maked_body (INV.out.body.alloc hb2) xi xd (by rw [show xd.size = 512 from hok.len]; omega) hok.lo hok.hi
        rw [pad_full xd hok.len] at M
        have HM : Hid (Calls Tryd.prog 32 #[.pointer (some ⟨b, 0, none⟩), .int .i64 xi, .string xd] (wr.alloc (.cells #[.int .i64 xi, .string xd] 74)) fun e w' => e = .returned (.tuple #[]) ∧ DevBody w' b F { d with dur := setD (syncD d.dur (d.pend.take k)) xi xd } mb nb (.slice (some ⟨gp, 0, none⟩) n pc) av Dn ∧ (wr.alloc (.cells #[.int .i64 xi, .string xd] 74)).grownBy w' (some mb)) := M
        have HB2 : Hid _ := hb2
        clear M hok hb2
        go_wp2_with fail
        refine HM.out.mono ?_
        rintro e w4 ⟨rfl, h4, s4⟩
        have V : SyncInv w w4 b F d mb nb (.slice (some ⟨gp, 0, none⟩) n pc) av Dn (k + 1) := by
          refine ⟨?_, (INV.out.step.trans (Step.of_below HB2.out)).trans ((INV.out.body.alloc HB2.out).step s4)⟩
          rw [take_next' _ k hkp, syncD_snoc, ← HX.out]
          exact h4
        clear HM HB2 INV h4 s4 p0 p1
        go_wp2_with fail
        go_roundw
        case rel => exact ⟨k + 1, by omega, by go_num, V⟩
        case measure => simp [intOf]; omega
      · have hke : k = d.pend.length := by rw [← HN.out]; omega
        have V := INV.out.body
        rw [hke, List.take_of_length_le (Nat.le_refl _)] at V
        have D := drop_any b F _ wr ⟨_, _, _, _, _, V⟩
        have HD : Hid (Calls Tryd.prog 33 #[.pointer (some ⟨b, 0, none⟩)] wr fun e w' => e = .returned (.tuple #[]) ∧ DevAt w' b (fun k => F k ∨ k = wr.heap.size) { d with dur := syncD d.dur d.pend, pend := [] } ∧ Step F (fun k => F k ∨ k = wr.heap.size) wr w') := D
        clear D V hke
        go_wp2_with fail
        refine HD.out.mono ?_
        rintro e w4 ⟨rfl, h4, s4⟩
        have hok := h4.ok
        obtain ⟨mb4, nb4, pv4, av4, Dn4, h4⟩ := h4
        have k8 : w4.cell? ⟨b, 8, none⟩ = some (.int .i64 d.ns) := h4.cell 8
        have f8 := h4.frozen 8
        obtain ⟨h5, s5⟩ := h4.set (d' := { d with dur := syncD d.dur d.pend, pend := [], ns := wrap64 (d.ns + 1) }) 8 (.int .i64 (wrap64 (d.ns + 1))) rfl rfl rfl rfl ⟨hok.s0, hok.s1, hok.dur, hok.rise, hok.pend, hok.arms⟩
        have S5 : Step F (fun k => F k ∨ k = wr.heap.size) w (w4.setCell ⟨b, 8, none⟩ (.int .i64 (wrap64 (d.ns + 1)))) := (INV.out.step.trans s4).trans s5
        have O := HO.out _ _ { d with dur := syncD d.dur d.pend, pend := [], ns := wrap64 (d.ns + 1) } rfl ⟨_, _, _, _, _, h5⟩ (HE.out.step S5 HF.out) (S5.ge HF.out HE.out.size) (Nat.zero_le _) hd
        have HO2 : Hid (DoneOk A (w4.setCell ⟨b, 8, none⟩ (.int .i64 (wrap64 (d.ns + 1)))) b (fun k => F k ∨ k = wr.heap.size) { d with dur := syncD d.dur d.pend, pend := [], ns := wrap64 (d.ns + 1) }) := O
        have HS5 : Hid (Step F (fun k => F k ∨ k = wr.heap.size) w (w4.setCell ⟨b, 8, none⟩ (.int .i64 (wrap64 (d.ns + 1))))) := S5
        clear HD h4 h5 s4 s5 S5 O hok INV
        go_wp2_with fail
        refine HO2.out.mono ?_
        rintro e w6 ⟨rfl, F6, h6, s6⟩
        have HR : Hid (DevPost w b F d.sync.1 w6) := by rw [HS.out]; exact ⟨F6, h6, HS5.out.trans s6⟩
        have HV : Hid (Dev.done { d with dur := syncD d.dur d.pend, pend := [], ns := wrap64 (d.ns + 1) } = d.sync) := HS.out.symm
        rw [HV.out]
        clear HO2 HS5 HS h6 s6
        go_wp2_with fail
        go_ret
        exact ⟨rfl, HR.out⟩
  · rw [hd] at c5
    have HS : Hid (d.sync = (d, 8)) := by show d.sync = _; unfold Dev.sync; rw [hd]; rfl
    clear h hE hF hop
    go_enter Tryd.func12, Tryd.ntmps12
    go_wp2_with fail
    go_ret
    rw [HS.out]
    exact ⟨rfl, F, ⟨_, _, _, _, _, HH.out⟩, Step.refl _ _⟩

end Go.Proofs.YtlopimdnjookeaaDoor.V

namespace Go.Proofs.YtlopimdnjookeaaDoor.V
open Go.RowKit Go.Maps

theorem Tryd.info74 : (Tryd.prog.info? 74).map (fun i => (i.zero, i.size, i.bytes)) = some (some (.agg #[.int .i64 0, .string ⟨#[]⟩]), 2, 24) := by kernel_rfl
theorem newD_put {D : DataW Unit} {l : List Sec} (h : NewD D l) (hD : Maps.IsMap D) (x : Sec) : NewD (D.put (.int .i64 x.ix) (.lit (.int .i64 (l.length : Int)))) (l ++ [x]) := by
  intro i
  have hk : WideAt.IsKeyLit (.int .i64 x.ix) := trivial
  rw [lastIx_snoc]
  by_cases e : x.ix = i
  · subst e
    refine ⟨by rw [Maps.has_put_same hD hk, if_pos rfl]; rfl, fun k hk' => ?_⟩
    rw [if_pos rfl] at hk'
    rw [Maps.atKey_put_same hD hk, ← Option.some.inj hk']
  · have ne : (Lit.int .i64 i) ≠ .int .i64 x.ix := fun h => e (by simpa using h.symm)
    rw [if_neg e]
    refine ⟨by rw [Maps.has_put_other ne]; exact (h i).1, fun k hk' => ?_⟩
    rw [Maps.atKey_put_other ne]
    exact (h i).2 k hk'
/-- A device behind one more pending write. -/
theorem DevBody.pended {w w1 w2 w3 : World} {b : Nat} {F : Nat → Prop} {d : Dev} {mb nb : Nat} {pv av : Value} {Dn : DataW Unit} (h : DevBody w b F d mb nb pv av Dn) (x : Sec) (hx : SecOk d.size x)
    (hm : w1.ownsMap Tryd.prog 3 (plainElem Tryd.prog 3) nb (d.pend.length + 1) (Dn.put (.int .i64 x.ix) (.lit (.int .i64 (d.pend.length : Int))))) (hg1 : w.grownBy w1 (some nb))
    (g cap : Nat) (hr : w2.ownsRow 0 74 2 (.slice (some ⟨g, 0, none⟩) (d.pend.length + 1) cap) (d.pend.length + 1) (secCells (d.pend ++ [x]))) (hg2 : w1.grownBy w2 pv.ownBlock) (hat : pv.ownBlock = some g ∨ w.heap.size ≤ g)
    (hw3 : w3 = w2.setCell ⟨b, 2, none⟩ (.slice (some ⟨g, 0, none⟩) (d.pend.length + 1) cap)) :
    DevBody w3 b (fun k => F k ∨ k = g) { d with pend := d.pend ++ [x] } mb nb (.slice (some ⟨g, 0, none⟩) (d.pend.length + 1) cap) av (Dn.put (.int .i64 x.ix) (.lit (.int .i64 (d.pend.length : Int)))) ∧ Step F (fun k => F k ∨ k = g) w w3 := by
  have hpb : ∀ k, pv.ownBlock = some k → k < w.heap.size ∧ ∃ cur, w.heap[k]? = some (.cells cur 74 (0, 0)) := fun k hk => (owns_blk h.pend k hk).2
  have hsz : w2.heap.size = w3.heap.size := by rw [hw3]; simp [World.setCell]
  have hs2 : w.heap.size ≤ w2.heap.size := Nat.le_trans hg1.size hg2.size
  have hne : ∀ k, k < w.heap.size → k ≠ b → k ≠ nb → some k ≠ pv.ownBlock → w3.heap[k]? = w.heap[k]? := fun k h1 h2 h3 h4 => by
    rw [hw3, Below.heap_setCell w2 ⟨b, 2, none⟩ _ k h2, hg2.block k (Nat.lt_of_lt_of_le h1 hg1.size) h4, hg1.block k h1 (fun e => h3 (Option.some.inj e))]
  have hbp : some b ≠ pv.ownBlock := fun e => by
    obtain ⟨_, cur, hc⟩ := hpb b e.symm
    rw [h.blk] at hc; simp at hc
  have hmp : ∀ m n R D, w.ownsMap Tryd.prog 3 R m n D → some m ≠ pv.ownBlock := fun m n R D hm e => by
    obtain ⟨_, cur, hc⟩ := hpb m e.symm
    exact map_ne_cells hm hc rfl
  have hbn : b ≠ nb := map_ne_cells h.mapN h.blk
  have hbm : b ≠ mb := map_ne_cells h.mapD h.blk
  have hty : ∀ k (cur : Array Value) (e : TypeId), w.heap[k]? = some (Obj.cells cur e (0, 0)) → e ≠ 66 → e ≠ 74 → w3.heap[k]? = w.heap[k]? := fun k cur e hk h1 h2 => by
    refine hne k (Array.getElem?_eq_some_iff.1 hk).1 (fun hb => ?_) (map_ne_cells h.mapN hk) (fun he => ?_)
    · rw [hb, h.blk] at hk; simp at hk; exact h1 hk.2.symm
    · obtain ⟨_, c, hc⟩ := hpb k he.symm
      rw [hk] at hc; simp at hc; exact h2 hc.2
  have hb2 : w2.heap[b]? = w.heap[b]? := by
    rw [hg2.block b (Nat.lt_of_lt_of_le (Array.getElem?_eq_some_iff.1 h.blk).1 hg1.size) hbp, hg1.block b (Array.getElem?_eq_some_iff.1 h.blk).1 (fun e => hbn (Option.some.inj e))]
  have hgb : g ≠ b := fun e => by
    rcases hat with h' | h'
    · exact hbp (by rw [h', e])
    · have := (Array.getElem?_eq_some_iff.1 h.blk).1; omega
  refine ⟨⟨?_, .inl h.fb, .inl h.fm, .inl h.fn, h.ne, ownsMap_block h.mapD (hne mb h.mapD.lt hbm.symm h.ne (hmp _ _ _ _ h.mapD)), ?_, newD_put h.new h.mapN.isMap x, ?_, ?_, ?_, ?_, ?_⟩, ?_⟩
  · rw [hw3]
    unfold World.setCell
    simp only [Array.getElem?_modify, if_true]
    rw [hb2, h.blk]
    rfl
  · have := ownsMap_block hm (w' := w3) (by
      rw [hw3, Below.heap_setCell w2 ⟨b, 2, none⟩ _ nb hbn.symm, hg2.block nb hm.lt (hmp _ _ _ _ h.mapN)])
    simpa using this
  · have := owns_block hr (w' := w3) fun k hk => by
      simp only [Value.ownBlock, Option.some.injEq] at hk
      rw [hw3, Below.heap_setCell w2 ⟨b, 2, none⟩ _ k (by rw [← hk]; exact hgb)]
    simpa using this
  · intro k hk
    simp only [Value.ownBlock, Option.some.injEq] at hk
    exact .inr hk.symm
  · exact (h.arms.block fun k cur hk _ => by
      rcases hk with hk | hk
      · exact hty k cur _ hk (by decide) (by decide)
      · exact hty k cur _ hk (by decide) (by decide)).imp fun k hk => .inl hk
  · refine ⟨h.ok.s0, h.ok.s1, h.ok.dur, h.ok.rise, fun y hy => ?_, h.ok.arms⟩
    rcases List.mem_append.1 hy with e | e
    · exact h.ok.pend y e
    · rw [List.mem_singleton.1 e]; exact hx
  · intro i hi
    rw [← hsz]
    rcases hi with hi | hi
    · exact Nat.lt_of_lt_of_le (h.lt i hi) hs2
    · rw [hi]; exact (owns_blk hr g rfl).2.1
  · refine ⟨?_, ?_, ?_, by omega, fun k hk hn => hne k hk (fun e => hn (by rw [e]; exact h.fb)) (fun e => hn (by rw [e]; exact h.fn)) (fun e => hn (h.pf k e.symm)), fun k hk => hk.elim .inl fun e => ?_⟩
    · rw [hw3]; exact hg2.os.trans hg1.os
    · rw [hw3]; exact hg2.tape.trans hg1.tape
    · rw [hw3]; exact hg2.output.trans hg1.output
    · rcases hat with h' | h'
      · exact .inl (by rw [e]; exact h.pf g h')
      · exact .inr (by omega)

end Go.Proofs.YtlopimdnjookeaaDoor.V
