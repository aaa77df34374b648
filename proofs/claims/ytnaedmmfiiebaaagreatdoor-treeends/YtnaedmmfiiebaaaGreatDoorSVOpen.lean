import Derived.Test.YtnaedmmfiiebaaaGreatDoorG25
namespace Go.Proofs.YtnaedmmfiiebaaaGreatDoor.S.V
open Go.RowKit Go.Maps

theorem openD_snoc (l : List Sec) (x : Sec) : openD (l ++ [x]) = if allZ x.dat then openD l else openD l ++ [x] := by
  unfold openD
  rw [List.filter_append]
  cases h : allZ x.dat <;> simp [h]
theorem dropD_none {i : Int} {l : List Sec} (h : ∀ y ∈ l, y.ix < i) : dropD i l = l := by
  unfold dropD
  exact List.filter_eq_self.2 fun y hy => by have := h y hy; simp; omega
theorem insD_last {x : Sec} : ∀ {l : List Sec}, (∀ y ∈ l, y.ix < x.ix) → insD x l = l ++ [x]
  | [], _ => rfl
  | y :: r, h => by
    have := h y (by simp)
    unfold insD
    rw [if_neg (by omega), insD_last fun z hz => h z (by simp [hz])]
    rfl
theorem setD_last {l : List Sec} {x : Sec} (h : ∀ y ∈ l, y.ix < x.ix) : setD l x.ix x.dat = if allZ x.dat then l else l ++ [x] := by
  unfold setD
  rw [dropD_none h]
  split
  · rfl
  · exact insD_last h
/-- What Open's loop holds. -/
structure OpInv (w wr : World) (b : Nat) (F : Nat → Prop) (n : Int) (l : List Sec) (mb nb : Nat) (pv av : Value) (Dn : DataW Unit) (v : Value) (k : Nat) (least : Int) : Prop where
  body : DevBody wr b F { newDev n with dur := openD (l.take k) } mb nb pv av Dn
  far : ∀ y ∈ openD (l.take k), y.ix < least
  ok : opens (newDev n).size least (l.drop k) = opens (newDev n).size 0 l
  lo : 0 ≤ least ∧ least ≤ 8388615
  bel : Below w.heap.size w wr
def OpenPost (A : Nat → Addr) (w : World) (n : Int) (l : List Sec) (e : Ending) (w' : World) : Prop :=
  (opens (newDev n).size 0 l = true ∧ ∃ b F, e = .returned (.tuple #[.pointer (some ⟨b, 0, none⟩), .nilIface]) ∧ DevAt w' b F { newDev n with dur := openD l } ∧ Below w.heap.size w w' ∧ ∀ k, F k → w.heap.size ≤ k) ∨
  (opens (newDev n).size 0 l = false ∧ e = .returned (.tuple #[.pointer none, errV A 1]) ∧ Below w.heap.size w w')

/-- The slice value v reads as these sectors. -/
def SecR (w : World) (v : Value) (l : List Sec) : Prop := ∃ a c, v = .slice a l.length c ∧ ∀ j (h : j < l.length), ∃ g o, a = some ⟨g, o, none⟩ ∧ w.cell? ⟨g, o + j * 2, none⟩ = some (.int .i64 l[j].ix) ∧ w.cell? ⟨g, o + j * 2 + 1, none⟩ = some (.string l[j].dat)
set_option maxRecDepth 100000 in
set_option maxHeartbeats 1600000 in
theorem open_any (base : Nat) (A : Nat → Addr) (n : Int) (l : List Sec) (v : Value) (w : World) (hE : ErrsB base A w) (hv : SecR w v l) (hl : l.length ≤ 5864062014805) :
    Calls Tryz.prog 11 #[.int .i64 n, v] w (OpenPost A w n l) := by
  have HE : Hid (ErrsB base A w) := hE
  obtain ⟨a, c, rfl, ha⟩ := hv
  obtain ⟨N, hN⟩ : ∃ N, N = l.length := ⟨_, rfl⟩
  have HN : Hid (N = l.length) := hN
  have HNW : Hid (Calls Tryz.prog 38 #[.int .i64 n] w fun e w' => ∃ b F, e = .returned (.pointer (some ⟨b, 0, none⟩)) ∧ DevAt w' b F (newDev n) ∧ Below w.heap.size w w' ∧ ∀ k, F k → w.heap.size ≤ k) := new_any n w
  rw [← hN] at hl ⊢
  have HA : Hid (∀ (j : Nat) (h : j < l.length), ∃ g o, a = some ⟨g, o, none⟩ ∧ w.cell? ⟨g, o + j * 2, none⟩ = some (.int .i64 l[j].ix) ∧ w.cell? ⟨g, o + j * 2 + 1, none⟩ = some (.string l[j].dat)) := ha
  clear hE hN ha
  go_enter Tryz.func11, Tryz.ntmps11
  go_wp2_with fail
  refine HNW.out.mono ?_
  rintro e w1 ⟨b, F, rfl, hd1, hb1, hF1⟩
  obtain ⟨mb, nb, pv, av, Dn, h1⟩ := hd1
  have HI : Hid (OpInv w w1 b F n l mb nb pv av Dn (.slice a N c) 0 0) := ⟨by rw [List.take_zero]; exact h1, by simp [openD], by simp, by omega, hb1⟩
  have HF : Hid (∀ k, F k → w.heap.size ≤ k) := hF1
  clear HNW h1 hb1 hF1
  go_wp2_with fail
  go_loopw [7, 14] (fun le i wr => ∃ k least, k ≤ N ∧ i = .int .i64 (k : Int) ∧ le = .int .i64 least ∧ OpInv w wr b F n l mb nb pv av Dn (.slice a N c) k least) (fun _ i _ => N - (intOf i).toNat)
  case atStart => exact ⟨0, 0, Nat.zero_le _, rfl, rfl, HI.out⟩
  case round =>
    obtain ⟨k, least, hk, rfl, rfl, inv⟩ := hrel
    have INV : Hid (OpInv w wr b F n l mb nb pv av Dn (.slice a N c) k least) := inv
    have hle := inv.lo
    clear inv HI
    by_cases hlt : k < N
    · have hkl : k < l.length := by rw [← HN.out]; exact hlt
      obtain ⟨g, og, rfl, x0, x1⟩ := HA.out k hkl
      replace x0 := cell_below (INV.out.bel.mono (Nat.le_refl _)) x0
      replace x1 := cell_below (INV.out.bel.mono (Nat.le_refl _)) x1
      obtain ⟨x, hx⟩ : ∃ x, x = l[k] := ⟨_, rfl⟩
      rw [← hx] at x0 x1
      have HX : Hid (x = l[k]) := hx
      have HO : Hid (opens (newDev n).size 0 l = (decide (least ≤ x.ix ∧ x.ix < (newDev n).size ∧ x.dat.size = 512) && opens (newDev n).size (x.ix + 1) (l.drop (k + 1)))) := by
        show opens _ 0 l = _
        rw [← INV.out.ok, List.drop_eq_getElem_cons hkl, hx]; rfl
      clear hx
      obtain ⟨xi, xd⟩ := x
      simp only [] at x0 x1
      have hb2 := below_new wr (.cells #[.int .i64 xi, .string xd] 93)
      have B2 := INV.out.body.alloc hb2
      have H0 := holds_any b F _ xi 1 _ ⟨_, _, _, _, _, B2⟩ (by omega)
      have HB2 : Hid (Below wr.heap.size wr (wr.alloc (.cells #[.int .i64 xi, .string xd] 93))) := hb2
      have HB3 : Hid (DevBody (wr.alloc (.cells #[.int .i64 xi, .string xd] 93)) b F { newDev n with dur := openD (l.take k) } mb nb pv av Dn) := B2
      have e0 := ((HE.out.up INV.out.bel).up hb2).arg
      have HNO : Hid (∀ m, opens (newDev n).size 0 l = false → OpenPost A w n l (.returned (.tuple #[.pointer none, .iface 360 (.pointer (some (A 0)))])) ((wr.alloc (.cells #[.int .i64 xi, .string xd] 93)).drewN m)) := fun m ho => .inr ⟨ho, rfl, below_drewN (INV.out.bel.trans (hb2.mono INV.out.bel.size)) m⟩
      generalize hf : ({ newDev n with dur := openD (l.take k) } : Dev).fits xi 1 = fb at H0
      have HFI : Hid (fb = decide (0 ≤ xi ∧ xi < (newDev n).size)) := by
        rw [← hf]
        simp only [Dev.fits]
        exact decide_eq_decide.2 ⟨fun h => ⟨h.1, by omega⟩, fun h => ⟨h.1, by omega, by omega⟩⟩
      have HH0 : Hid (Calls Tryz.prog 41 #[.pointer (some ⟨b, 0, none⟩), .int .i64 xi, .int .i64 1] (wr.alloc (.cells #[.int .i64 xi, .string xd] 93)) fun e w' => e = .returned (.bool fb) ∧ (wr.alloc (.cells #[.int .i64 xi, .string xd] 93)) = w') := H0
      clear hb2 B2 H0 hf
      by_cases h1 : xi < least
      · have hd1 : decide (xi < least) = true := decide_eq_true h1
        have ho : opens (newDev n).size 0 l = false := by rw [HO.out, decide_eq_false (by simp only []; omega)]; rfl
        have HOO : Hid (opens (newDev n).size 0 l = false) := ho
        clear ho HO HH0
        go_wp2_with fail
        go_quiet (fail)
        go_wp2_with fail
        go_ret2
        exact HNO.out _ HOO.out
      · have hd1 : decide (xi < least) = false := decide_eq_false h1
        cases fb
        · have ho : opens (newDev n).size 0 l = false := by
            have := of_decide_eq_false HFI.out.symm
            rw [HO.out, decide_eq_false (by simp only []; omega)]; rfl
          have HOO : Hid (opens (newDev n).size 0 l = false) := ho
          clear ho HO
          go_wp2_with (go_at_call 41; refine HH0.out.mono ?_; rintro e w' ⟨rfl, rfl⟩)
          go_quiet (fail)
          go_wp2_with fail
          go_ret2
          exact HNO.out _ HOO.out
        · have hfit := of_decide_eq_true HFI.out.symm
          by_cases h5 : xd.size = 512
          · have t5 : ((xd.size : Int) != 512) = false := by simp; omega
            have hs1 : (newDev n).size ≤ 8388615 := (newDev_ok n).s1
            have M := maked_body HB3.out xi xd (by omega) hfit.1 hfit.2
            rw [pad_full xd h5, setD_last (x := ⟨xi, xd⟩) (fun y hy => by have := INV.out.far y hy; simp only []; omega)] at M
            have hT : openD (l.take (k + 1)) = if allZ xd then openD (l.take k) else openD (l.take k) ++ [⟨xi, xd⟩] := by
              rw [take_next' l k hkl, openD_snoc, ← HX.out]
            simp only [] at M
            rw [← hT] at M
            have HM : Hid (Calls Tryz.prog 42 #[.pointer (some ⟨b, 0, none⟩), .int .i64 xi, .string xd] (wr.alloc (.cells #[.int .i64 xi, .string xd] 93)) fun e w' => e = .returned (.tuple #[]) ∧ DevBody w' b F { newDev n with dur := openD (l.take (k + 1)) } mb nb pv av Dn ∧ (wr.alloc (.cells #[.int .i64 xi, .string xd] 93)).grownBy w' (some mb)) := M
            have HF2 : Hid (∀ y ∈ openD (l.take (k + 1)), y.ix < xi + 1) := fun y hy => by
              rw [hT] at hy
              split at hy
              · have := INV.out.far y hy; omega
              · rcases List.mem_append.1 hy with h' | h'
                · have := INV.out.far y h'; omega
                · rw [List.mem_singleton.1 h']; simp only []; omega
            have HO2 : Hid (opens (newDev n).size (xi + 1) (l.drop (k + 1)) = opens (newDev n).size 0 l) := by
              show _ = opens _ 0 l
              rw [HO.out, decide_eq_true (by simp only []; omega)]; rfl
            have hwk : IntKind.i64.wrap (xi + 1) = xi + 1 := wrap_i64 _ (by omega) (by omega)
            have hwk2 : wrap64 (xi + 1) = xi + 1 := wrap64_id (by omega) (by omega)
            have z0 : (wr.alloc (.cells #[.int .i64 xi, .string xd] 93)).cell? ⟨wr.heap.size, 0, none⟩ = some (.int .i64 xi) := (boxed_new wr #[.int .i64 xi, .string xd] 93).2 0 (by simp)
            have hzm : wr.heap.size ≠ mb := by have := INV.out.body.mapD.lt; omega
            clear M hT HO HNO e0
            go_wp2_with (go_at_call 41; refine HH0.out.mono ?_; rintro e w' ⟨rfl, rfl⟩)
            refine HM.out.mono ?_
            rintro e w4 ⟨rfl, h4, s4⟩
            have y0 := grown_cell s4 z0 hzm
            have V : OpInv w w4 b F n l mb nb pv av Dn (.slice (some ⟨g, og, none⟩) N c) (k + 1) (xi + 1) := ⟨h4, HF2.out, HO2.out, by omega, INV.out.bel.trans ((HB2.out.mono INV.out.bel.size).trans ⟨s4.os, s4.tape, s4.output, s4.size, fun i hi => s4.block i (by have := INV.out.bel.size; simp; omega) (fun e => by have := HF.out mb INV.out.body.fm; have := Option.some.inj e; omega)⟩)⟩
            clear HM h4 s4 z0 HF2 HO2 INV HB2 HB3 HH0
            go_wp2_with fail
            go_roundw
            case rel => exact ⟨k + 1, xi + 1, by omega, by go_num, by go_num, V⟩
            case measure => simp [intOf]; omega
          · have t5 : ((xd.size : Int) != 512) = true := by simp; omega
            have ho : opens (newDev n).size 0 l = false := by rw [HO.out, decide_eq_false (by simp only []; omega)]; rfl
            have HOO : Hid (opens (newDev n).size 0 l = false) := ho
            clear ho HO
            go_wp2_with (go_at_call 41; refine HH0.out.mono ?_; rintro e w' ⟨rfl, rfl⟩)
            go_quiet (fail)
            go_wp2_with fail
            go_ret2
            exact HNO.out _ HOO.out
    · have hke : k = l.length := by rw [← HN.out]; omega
      have V := INV.out
      have ho : opens (newDev n).size 0 l = true := by rw [← V.ok, hke, List.drop_length]; rfl
      have vb := V.body
      rw [show l.take k = l from List.take_of_length_le (by omega)] at vb
      have HR : Hid (OpenPost A w n l (.returned (.tuple #[.pointer (some ⟨b, 0, none⟩), .nilIface])) wr) := .inl ⟨ho, b, F, rfl, ⟨_, _, _, _, _, vb⟩, V.bel, HF.out⟩
      clear V vb ho INV hke
      go_wp2_with fail
      go_ret2
      exact HR.out

end Go.Proofs.YtnaedmmfiiebaaaGreatDoor.S.V
