import Derived.Test.YtnaedmmfiiebaaaGreatDoorG25
import Derived.Test.YtnaedmmfiiebaaaGreatDoorG00
import Derived.Deep.QuietTactic
import Derived.Lib.TrailingZeros
import Derived.Laws.Bits64b
import Derived.Test.YtnaedmmfiiebaaaGreatDoorG07
namespace Go.Proofs.YtnaedmmfiiebaaaGreatDoor.S.V
open Go.RowKit Go.Maps

theorem openD_snoc (l : List Sec) (x : Sec) : openD (l ++ [x]) = if allZ x.dat then openD l else openD l ++ [x] := by
  unfold openD
  rw [List.filter_append]
  cases h : allZ x.dat <;> simp [h]
theorem dropD_none {i : Int} {l : List Sec} (h : ∀ y ∈ l, y.ix < i) : dropD i l = l := by
  unfold dropD
  exact List.filter_eq_self.2 fun y hy => by have := h y hy; simp; omega
theorem insD_last {x : Sec} : ∀ {l : List Sec}, (∀ y ∈ l, y.ix < x.ix) → insD x l = l ++ [x]
  | [], _ => rfl
  | y :: r, h => by
    have := h y (by simp)
    unfold insD
    rw [if_neg (by omega), insD_last fun z hz => h z (by simp [hz])]
    rfl
theorem setD_last {l : List Sec} {x : Sec} (h : ∀ y ∈ l, y.ix < x.ix) : setD l x.ix x.dat = if allZ x.dat then l else l ++ [x] := by
  unfold setD
  rw [dropD_none h]
  split
  · rfl
  · exact insD_last h
/-- What Open's loop holds. -/
structure OpInv (w wr : World) (b : Nat) (F : Nat → Prop) (n : Int) (l : List Sec) (mb nb : Nat) (pv av : Value) (Dn : DataW Unit) (v : Value) (k : Nat) (least : Int) : Prop where
  body : DevBody wr b F { newDev n with dur := openD (l.take k) } mb nb pv av Dn
  far : ∀ y ∈ openD (l.take k), y.ix < least
  ok : opens (newDev n).size least (l.drop k) = opens (newDev n).size 0 l
  lo : 0 ≤ least ∧ least ≤ 8388615
  bel : Below w.heap.size w wr
def OpenPost (A : Nat → Addr) (w : World) (n : Int) (l : List Sec) (e : Ending) (w' : World) : Prop :=
  (opens (newDev n).size 0 l = true ∧ ∃ b F, e = .returned (.tuple #[.pointer (some ⟨b, 0, none⟩), .nilIface]) ∧ DevAt w' b F { newDev n with dur := openD l } ∧ Below w.heap.size w w' ∧ ∀ k, F k → w.heap.size ≤ k) ∨
  (opens (newDev n).size 0 l = false ∧ e = .returned (.tuple #[.pointer none, errV A 1]) ∧ Below w.heap.size w w')

/-- The slice value v reads as these sectors. -/
def SecR (w : World) (v : Value) (l : List Sec) : Prop := ∃ a c, v = .slice a l.length c ∧ ∀ j (h : j < l.length), ∃ g o, a = some ⟨g, o, none⟩ ∧ w.cell? ⟨g, o + j * 2, none⟩ = some (.int .i64 l[j].ix) ∧ w.cell? ⟨g, o + j * 2 + 1, none⟩ = some (.string l[j].dat)
set_option maxRecDepth 100000 in
set_option maxHeartbeats 1600000 in
theorem open_any (base : Nat) (A : Nat → Addr) (n : Int) (l : List Sec) (v : Value) (w : World) (hE : ErrsB base A w) (hv : SecR w v l) (hl : l.length ≤ 5864062014805) :
    Calls Tryz.prog 11 #[.int .i64 n, v] w (OpenPost A w n l) := by
  have HE : Hid (ErrsB base A w) := hE
  obtain ⟨a, c, rfl, ha⟩ := hv
  obtain ⟨N, hN⟩ : ∃ N, N = l.length := ⟨_, rfl⟩
  have HN : Hid (N = l.length) := hN
  have HNW : Hid (Calls Tryz.prog 38 #[.int .i64 n] w fun e w' => ∃ b F, e = .returned (.pointer (some ⟨b, 0, none⟩)) ∧ DevAt w' b F (newDev n) ∧ Below w.heap.size w w' ∧ ∀ k, F k → w.heap.size ≤ k) := new_any n w
  rw [← hN] at hl ⊢
  have HA : Hid (∀ (j : Nat) (h : j < l.length), ∃ g o, a = some ⟨g, o, none⟩ ∧ w.cell? ⟨g, o + j * 2, none⟩ = some (.int .i64 l[j].ix) ∧ w.cell? ⟨g, o + j * 2 + 1, none⟩ = some (.string l[j].dat)) := ha
  clear hE hN ha
  go_enter Tryz.func11, Tryz.ntmps11
  go_wp2_with fail
  refine HNW.out.mono ?_
  rintro e w1 ⟨b, F, rfl, hd1, hb1, hF1⟩
  obtain ⟨mb, nb, pv, av, Dn, h1⟩ := hd1
  have HI : Hid (OpInv w w1 b F n l mb nb pv av Dn (.slice a N c) 0 0) := ⟨by rw [List.take_zero]; exact h1, by simp [openD], by simp, by omega, hb1⟩
  have HF : Hid (∀ k, F k → w.heap.size ≤ k) := hF1
  clear HNW h1 hb1 hF1
  go_wp2_with fail
  go_loopw [7, 14] (fun le i wr => ∃ k least, k ≤ N ∧ i = .int .i64 (k : Int) ∧ le = .int .i64 least ∧ OpInv w wr b F n l mb nb pv av Dn (.slice a N c) k least) (fun _ i _ => N - (intOf i).toNat)
  case atStart => exact ⟨0, 0, Nat.zero_le _, rfl, rfl, HI.out⟩
  case round =>
    obtain ⟨k, least, hk, rfl, rfl, inv⟩ := hrel
    have INV : Hid (OpInv w wr b F n l mb nb pv av Dn (.slice a N c) k least) := inv
    have hle := inv.lo
    clear inv HI
    by_cases hlt : k < N
    · have hkl : k < l.length := by rw [← HN.out]; exact hlt
      obtain ⟨g, og, rfl, x0, x1⟩ := HA.out k hkl
      replace x0 := cell_below (INV.out.bel.mono (Nat.le_refl _)) x0
      replace x1 := cell_below (INV.out.bel.mono (Nat.le_refl _)) x1
      obtain ⟨x, hx⟩ : ∃ x, x = l[k] := ⟨_, rfl⟩
      rw [← hx] at x0 x1
      have HX : Hid (x = l[k]) := hx
      have HO : Hid (opens (newDev n).size 0 l = (decide (least ≤ x.ix ∧ x.ix < (newDev n).size ∧ x.dat.size = 512) && opens (newDev n).size (x.ix + 1) (l.drop (k + 1)))) := by
        show opens _ 0 l = _
        rw [← INV.out.ok, List.drop_eq_getElem_cons hkl, hx]; rfl
      clear hx
      obtain ⟨xi, xd⟩ := x
      simp only [] at x0 x1
      have hb2 := below_new wr (.cells #[.int .i64 xi, .string xd] 93)
      have B2 := INV.out.body.alloc hb2
      have H0 := holds_any b F _ xi 1 _ ⟨_, _, _, _, _, B2⟩ (by omega)
      have HB2 : Hid (Below wr.heap.size wr (wr.alloc (.cells #[.int .i64 xi, .string xd] 93))) := hb2
      have HB3 : Hid (DevBody (wr.alloc (.cells #[.int .i64 xi, .string xd] 93)) b F { newDev n with dur := openD (l.take k) } mb nb pv av Dn) := B2
      have e0 := ((HE.out.up INV.out.bel).up hb2).arg
      have HNO : Hid (∀ m, opens (newDev n).size 0 l = false → OpenPost A w n l (.returned (.tuple #[.pointer none, .iface 360 (.pointer (some (A 0)))])) ((wr.alloc (.cells #[.int .i64 xi, .string xd] 93)).drewN m)) := fun m ho => .inr ⟨ho, rfl, below_drewN (INV.out.bel.trans (hb2.mono INV.out.bel.size)) m⟩
      generalize hf : ({ newDev n with dur := openD (l.take k) } : Dev).fits xi 1 = fb at H0
      have HFI : Hid (fb = decide (0 ≤ xi ∧ xi < (newDev n).size)) := by
        rw [← hf]
        simp only [Dev.fits]
        exact decide_eq_decide.2 ⟨fun h => ⟨h.1, by omega⟩, fun h => ⟨h.1, by omega, by omega⟩⟩
      have HH0 : Hid (Calls Tryz.prog 41 #[.pointer (some ⟨b, 0, none⟩), .int .i64 xi, .int .i64 1] (wr.alloc (.cells #[.int .i64 xi, .string xd] 93)) fun e w' => e = .returned (.bool fb) ∧ (wr.alloc (.cells #[.int .i64 xi, .string xd] 93)) = w') := H0
      clear hb2 B2 H0 hf
      by_cases h1 : xi < least
      · have hd1 : decide (xi < least) = true := decide_eq_true h1
        have ho : opens (newDev n).size 0 l = false := by rw [HO.out, decide_eq_false (by simp only []; omega)]; rfl
        have HOO : Hid (opens (newDev n).size 0 l = false) := ho
        clear ho HO HH0
        go_wp2_with fail
        go_quiet (fail)
        go_wp2_with fail
        go_ret2
        exact HNO.out _ HOO.out
      · have hd1 : decide (xi < least) = false := decide_eq_false h1
        cases fb
        · have ho : opens (newDev n).size 0 l = false := by
            have := of_decide_eq_false HFI.out.symm
            rw [HO.out, decide_eq_false (by simp only []; omega)]; rfl
          have HOO : Hid (opens (newDev n).size 0 l = false) := ho
          clear ho HO
          go_wp2_with (go_at_call 41; refine HH0.out.mono ?_; rintro e w' ⟨rfl, rfl⟩)
          go_quiet (fail)
          go_wp2_with fail
          go_ret2
          exact HNO.out _ HOO.out
        · have hfit := of_decide_eq_true HFI.out.symm
          by_cases h5 : xd.size = 512
          · have t5 : ((xd.size : Int) != 512) = false := by simp; omega
            have hs1 : (newDev n).size ≤ 8388615 := (newDev_ok n).s1
            have M := maked_body HB3.out xi xd (by omega) hfit.1 hfit.2
            rw [pad_full xd h5, setD_last (x := ⟨xi, xd⟩) (fun y hy => by have := INV.out.far y hy; simp only []; omega)] at M
            have hT : openD (l.take (k + 1)) = if allZ xd then openD (l.take k) else openD (l.take k) ++ [⟨xi, xd⟩] := by
              rw [take_next' l k hkl, openD_snoc, ← HX.out]
            simp only [] at M
            rw [← hT] at M
            have HM : Hid (Calls Tryz.prog 42 #[.pointer (some ⟨b, 0, none⟩), .int .i64 xi, .string xd] (wr.alloc (.cells #[.int .i64 xi, .string xd] 93)) fun e w' => e = .returned (.tuple #[]) ∧ DevBody w' b F { newDev n with dur := openD (l.take (k + 1)) } mb nb pv av Dn ∧ (wr.alloc (.cells #[.int .i64 xi, .string xd] 93)).grownBy w' (some mb)) := M
            have HF2 : Hid (∀ y ∈ openD (l.take (k + 1)), y.ix < xi + 1) := fun y hy => by
              rw [hT] at hy
              split at hy
              · have := INV.out.far y hy; omega
              · rcases List.mem_append.1 hy with h' | h'
                · have := INV.out.far y h'; omega
                · rw [List.mem_singleton.1 h']; simp only []; omega
            have HO2 : Hid (opens (newDev n).size (xi + 1) (l.drop (k + 1)) = opens (newDev n).size 0 l) := by
              show _ = opens _ 0 l
              rw [HO.out, decide_eq_true (by simp only []; omega)]; rfl
            have hwk : IntKind.i64.wrap (xi + 1) = xi + 1 := wrap_i64 _ (by omega) (by omega)
            have hwk2 : wrap64 (xi + 1) = xi + 1 := wrap64_id (by omega) (by omega)
            have z0 : (wr.alloc (.cells #[.int .i64 xi, .string xd] 93)).cell? ⟨wr.heap.size, 0, none⟩ = some (.int .i64 xi) := (boxed_new wr #[.int .i64 xi, .string xd] 93).2 0 (by simp)
            have hzm : wr.heap.size ≠ mb := by have := INV.out.body.mapD.lt; omega
            clear M hT HO HNO e0
            go_wp2_with (go_at_call 41; refine HH0.out.mono ?_; rintro e w' ⟨rfl, rfl⟩)
            refine HM.out.mono ?_
            rintro e w4 ⟨rfl, h4, s4⟩
            have y0 := grown_cell s4 z0 hzm
            have V : OpInv w w4 b F n l mb nb pv av Dn (.slice (some ⟨g, og, none⟩) N c) (k + 1) (xi + 1) := ⟨h4, HF2.out, HO2.out, by omega, INV.out.bel.trans ((HB2.out.mono INV.out.bel.size).trans ⟨s4.os, s4.tape, s4.output, s4.size, fun i hi => s4.block i (by have := INV.out.bel.size; simp; omega) (fun e => by have := HF.out mb INV.out.body.fm; have := Option.some.inj e; omega)⟩)⟩
            clear HM h4 s4 z0 HF2 HO2 INV HB2 HB3 HH0
            go_wp2_with fail
            go_roundw
            case rel => exact ⟨k + 1, xi + 1, by omega, by go_num, by go_num, V⟩
            case measure => simp [intOf]; omega
          · have t5 : ((xd.size : Int) != 512) = true := by simp; omega
            have ho : opens (newDev n).size 0 l = false := by rw [HO.out, decide_eq_false (by simp only []; omega)]; rfl
            have HOO : Hid (opens (newDev n).size 0 l = false) := ho
            clear ho HO
            go_wp2_with (go_at_call 41; refine HH0.out.mono ?_; rintro e w' ⟨rfl, rfl⟩)
            go_quiet (fail)
            go_wp2_with fail
            go_ret2
            exact HNO.out _ HOO.out
    · have hke : k = l.length := by rw [← HN.out]; omega
      have V := INV.out
      have ho : opens (newDev n).size 0 l = true := by rw [← V.ok, hke, List.drop_length]; rfl
      have vb := V.body
      rw [show l.take k = l from List.take_of_length_le (by omega)] at vb
      have HR : Hid (OpenPost A w n l (.returned (.tuple #[.pointer (some ⟨b, 0, none⟩), .nilIface])) wr) := .inl ⟨ho, b, F, rfl, ⟨_, _, _, _, _, vb⟩, V.bel, HF.out⟩
      clear V vb ho INV hke
      go_wp2_with fail
      go_ret2
      exact HR.out

end Go.Proofs.YtnaedmmfiiebaaaGreatDoor.S.V

namespace Go.Proofs.YtnaedmmfiiebaaaGreatDoor.Q
open Go.RowKit

/-- Of the blocks that were there all but those of F are as they were. -/
structure Only (F : Nat → Prop) (w w' : World) : Prop where
  os : w'.os = w.os
  tape : w'.tape = w.tape
  output : w'.output = w.output
  size : w.heap.size ≤ w'.heap.size
  block : ∀ k, k < w.heap.size → ¬ F k → w'.heap[k]? = w.heap[k]?
theorem Only.refl (F : Nat → Prop) (w : World) : Only F w w := ⟨rfl, rfl, rfl, Nat.le_refl _, fun _ _ _ => rfl⟩
theorem Only.trans {F : Nat → Prop} {a b c : World} (h : Only F a b) (k : Only F b c) : Only F a c :=
  ⟨k.os.trans h.os, k.tape.trans h.tape, k.output.trans h.output, Nat.le_trans h.size k.size, fun i hi hn => (k.block i (Nat.lt_of_lt_of_le hi h.size) hn).trans (h.block i hi hn)⟩
theorem Only.of_below {F : Nat → Prop} {w w' : World} (h : Below w.heap.size w w') : Only F w w' := ⟨h.os, h.tape, h.output, h.size, fun k hk _ => h.block k hk⟩
theorem Only.set {F : Nat → Prop} {g : Nat} (hF : F g) (o : Nat) (w : World) (u : Value) : Only F w (w.setCell ⟨g, o, none⟩ u) :=
  ⟨rfl, rfl, rfl, by simp [World.setCell], fun k _ hn => Below.heap_setCell w ⟨g, o, none⟩ u k (fun e => hn (by rw [e]; exact hF))⟩
theorem Only.cell {F : Nat → Prop} {w w' : World} (h : Only F w w') {a : Addr} {v : Value} (hc : w.cell? a = some v) (hn : ¬ F a.block) : w'.cell? a = some v :=
  (World.cell?_of_block (a := a) (h.block a.block (World.block_lt_of_cell? w a hc) hn)).trans hc
theorem Only.imp {F G : Nat → Prop} {w w' : World} (h : Only F w w') (hf : ∀ k, k < w.heap.size → F k → G k) : Only G w w' := ⟨h.os, h.tape, h.output, h.size, fun k hk hn => h.block k hk (fun h' => hn (hf k hk h'))⟩
/-- Two steps; what is held at the second is held at the first, or was not there. -/
theorem Only.next {F G : Nat → Prop} {a b c : World} (h : Only F a b) (k : Only G b c) (hg : ∀ i, i < a.heap.size → G i → F i) : Only F a c :=
  ⟨k.os.trans h.os, k.tape.trans h.tape, k.output.trans h.output, Nat.le_trans h.size k.size, fun i hi hn => (k.block i (Nat.lt_of_lt_of_le hi h.size) (fun h' => hn (hg i hi h'))).trans (h.block i hi hn)⟩
theorem Only.below {F : Nat → Prop} {w w' : World} {base : Nat} (h : Only F w w') (hF : ∀ k, F k → base ≤ k) (hb : base ≤ w.heap.size) : Below base w w' :=
  ⟨h.os, h.tape, h.output, h.size, fun k hk => h.block k (Nat.lt_of_lt_of_le hk hb) (fun hf => by have := hF k hf; omega)⟩
theorem Only.drew {F : Nat → Prop} {w w' : World} (h : Only F w w') : Only F w w'.drew := ⟨h.os, h.tape, h.output, h.size, h.block⟩
theorem owns_blk {w : World} {base e size n : Nat} {v : Value} {xs : List Value} (h : w.ownsRow base e size v n xs) (k : Nat) (hk : v.ownBlock = some k) : base ≤ k ∧ k < w.heap.size ∧ ∃ cur, w.heap[k]? = some (.cells cur e (0, 0)) := by
  rcases h.2 with ⟨h', _⟩ | ⟨g, cap, cur, h', hb, hg, _⟩
  · rw [h'] at hk; simp [Value.ownBlock] at hk
  · rw [h'] at hk
    simp only [Value.ownBlock, Option.some.injEq] at hk
    subst hk
    exact ⟨hb, (Array.getElem?_eq_some_iff.1 hg).1, cur, hg⟩
theorem owns_block {w w' : World} {b e size n : Nat} {v : Value} {xs : List Value} (ho : w.ownsRow b e size v n xs) (hb : ∀ g, v.ownBlock = some g → w'.heap[g]? = w.heap[g]?) : w'.ownsRow b e size v n xs := by
  refine ⟨ho.1, ?_⟩
  rcases ho.2 with h' | ⟨g, cap, cur, h', h1, hg, hr⟩
  · exact .inl h'
  · exact .inr ⟨g, cap, cur, h', h1, (hb g (by rw [h']; rfl)).trans hg, hr⟩
theorem owns_only {F : Nat → Prop} {w w' : World} {b e size n : Nat} {v : Value} {xs : List Value} (ho : w.ownsRow b e size v n xs) (h : Only F w w') (hn : ∀ g, v.ownBlock = some g → ¬ F g) : w'.ownsRow b e size v n xs :=
  owns_block ho fun g hg => h.block g (owns_blk ho g hg).2.1 (hn g hg)
theorem owns_below {w w' : World} {b e size n : Nat} {v : Value} {xs : List Value} (ho : w.ownsRow b e size v n xs) (h : Below w.heap.size w w') : w'.ownsRow b e size v n xs :=
  owns_block ho fun g hg => h.block g (owns_blk ho g hg).2.1
theorem owns_form {w : World} {base e size n : Nat} {v : Value} {xs : List Value} (h : w.ownsRow base e size v n xs) : ∃ a c, v = .slice a n c ∧ (0 < n → ∃ g, a = some ⟨g, 0, none⟩) := by
  rcases h.2 with ⟨h', h0⟩ | ⟨g, cap, cur, h', _⟩
  · exact ⟨none, 0, by rw [h', h0], fun h => by omega⟩
  · exact ⟨_, cap, h', fun _ => ⟨g, rfl⟩⟩
theorem owns_weak {w : World} {base base' e size n : Nat} {v : Value} {xs : List Value} (h : w.ownsRow base e size v n xs) (hb : base' ≤ base) : w.ownsRow base' e size v n xs := by
  refine ⟨h.1, ?_⟩
  rcases h.2 with h' | ⟨g, cap, cur, h', h1, hr⟩
  · exact .inl h'
  · exact .inr ⟨g, cap, cur, h', by omega, hr⟩

end Go.Proofs.YtnaedmmfiiebaaaGreatDoor.Q

namespace Go.Proofs.YtnaedmmfiiebaaaGreatDoor.Q

/-- The number whose lowest n bits f says. -/
def wd : (Nat → Bool) → Nat → Nat
  | _, 0 => 0
  | f, n + 1 => (if f 0 then 1 else 0) + 2 * wd (fun j => f (j + 1)) n
theorem testBit_wd : ∀ (n : Nat) (f : Nat → Bool) (j : Nat), (wd f n).testBit j = (decide (j < n) && f j)
  | 0, f, j => by simp [wd]
  | n + 1, f, 0 => by
    rw [Nat.testBit_zero, wd]
    cases h : f 0 <;> simp <;> omega
  | n + 1, f, j + 1 => by
    have ih := testBit_wd n (fun j => f (j + 1)) j
    rw [Nat.testBit_succ, wd]
    have e : ((if f 0 = true then 1 else 0) + 2 * wd (fun j => f (j + 1)) n) / 2 = wd (fun j => f (j + 1)) n := by split <;> omega
    rw [e, ih]
    simp
theorem wd_lt : ∀ (n : Nat) (f : Nat → Bool), wd f n < 2 ^ n
  | 0, f => by simp [wd]
  | n + 1, f => by
    have ih := wd_lt n (fun j => f (j + 1))
    rw [wd, Nat.pow_succ]
    split <;> omega
/-- The word i of a map. -/
def word (T : Nat → Bool) (i : Nat) : Nat := wd (fun j => T (64 * i + j)) 64
theorem word_lt (T : Nat → Bool) (i : Nat) : word T i < 18446744073709551616 := wd_lt 64 _
theorem testBit_word (T : Nat → Bool) (i j : Nat) : (word T i).testBit j = (decide (j < 64) && T (64 * i + j)) := testBit_wd 64 _ j
def upd (T : Nat → Bool) (id : Nat) (b : Bool) : Nat → Bool := fun j => if j = id then b else T j
theorem upd_self (T : Nat → Bool) (id : Nat) (b : Bool) : upd T id b id = b := by simp [upd]
theorem upd_ne (T : Nat → Bool) (id j : Nat) (b : Bool) (h : j ≠ id) : upd T id b j = T j := by simp [upd, h]
theorem word_upd_ne (T : Nat → Bool) (id : Nat) (b : Bool) (i : Nat) (h : i ≠ id / 64) : word (upd T id b) i = word T i := by
  apply Nat.eq_of_testBit_eq
  intro j
  rw [testBit_word, testBit_word]
  by_cases hj : j < 64
  · rw [upd_ne _ _ _ _ (by omega)]
  · simp [hj]
theorem two_pow_lt (id : Nat) : 2 ^ (id % 64) < 18446744073709551616 := Nat.pow_lt_pow_right (by decide) (by omega : id % 64 < 64)
theorem word_set (T : Nat → Bool) (id : Nat) : word T (id / 64) ||| 2 ^ (id % 64) = word (upd T id true) (id / 64) := by
  apply Nat.eq_of_testBit_eq
  intro j
  rw [Nat.testBit_or, testBit_word, testBit_word, Nat.testBit_two_pow]
  by_cases hj : j < 64
  · by_cases he : 64 * (id / 64) + j = id
    · rw [he, upd_self]
      have : id % 64 = j := by omega
      simp [hj, this]
    · rw [upd_ne _ _ _ _ he]
      have : ¬ id % 64 = j := by omega
      simp [hj, this]
  · have : ¬ id % 64 = j := by omega
    simp [hj, this]
/-- How many of the first n are true. -/
def tr (f : Nat → Bool) : Nat → Nat
  | 0 => 0
  | n + 1 => tr f n + (if f n then 1 else 0)
/-- How many of the first n are false. -/
def fr (f : Nat → Bool) (n : Nat) : Nat := n - tr f n
end Go.Proofs.YtnaedmmfiiebaaaGreatDoor.Q

namespace Go.Proofs.YtnaedmmfiiebaaaGreatDoor.Q

def g1 (b : Nat) : Nat := ((b / 2) &&& 85) + (b &&& 85)
def g2 (b : Nat) : Nat := ((b / 4) &&& 51) + (b &&& 51)
def g3 (b : Nat) : Nat := b / 16 + b % 16
/-- Every byte of x is two numbers of at most 4. -/
def Nb : Nat → Nat → Prop
  | 0, x => x = 0
  | k + 1, x => x % 256 % 16 ≤ 4 ∧ x % 256 / 16 ≤ 4 ∧ Nb k (x / 256)
theorem Nb.low : ∀ {k x : Nat}, Nb k x → x % 16 ≤ 4
  | 0, x, h => by rw [show x = 0 from h]; decide
  | k + 1, x, h => by have := h.1; omega
theorem d1 : ∀ b : Fin 256, g1 b.val < 256 ∧ g2 (g1 b.val) < 256 ∧ g2 (g1 b.val) % 16 ≤ 4 ∧ g2 (g1 b.val) / 16 ≤ 4 ∧ g3 (g2 (g1 b.val)) = tr b.val.testBit 8 := by decide +kernel
end Go.Proofs.YtnaedmmfiiebaaaGreatDoor.Q

namespace Go.Proofs.YtnaedmmfiiebaaaGreatDoor.Q
open Go.RowKit

def nW (P : Nat) : Nat := (P + 63) / 64
def wcells (T : Nat → Bool) (n : Nat) : List Value := (List.range n).map fun i => .int .u64 (word T i : Int)
theorem wcells_length (T : Nat → Bool) (n : Nat) : (wcells T n).length = n := by simp [wcells]
theorem wcells_get (T : Nat → Bool) (n i : Nat) (h : i < n) : (wcells T n)[i]? = some (.int .u64 (word T i : Int)) := by simp [wcells, h]
theorem wcells_set (T : Nat → Bool) (n id : Nat) (x : Bool) : (wcells T n).set (id / 64) (.int .u64 (word (upd T id x) (id / 64) : Int)) = wcells (upd T id x) n := by
  apply List.ext_getElem?
  intro i
  by_cases hi : i < n
  · by_cases he : i = id / 64
    · subst he
      rw [List.getElem?_set_self (by rw [wcells_length]; exact hi), wcells_get _ _ _ hi]
    · rw [List.getElem?_set_ne (fun h => he h.symm), wcells_get _ _ _ hi, wcells_get _ _ _ hi, word_upd_ne _ _ _ _ he]
  · rw [List.getElem?_eq_none (by rw [List.length_set, wcells_length]; omega), List.getElem?_eq_none (by rw [wcells_length]; omega)]

/-- A map's two blocks: how many pages, the words. -/
structure MapR (w : World) (b g P : Nat) (T : Nat → Bool) : Prop where
  blk : w.heap[b]? = some (.cells #[.int .i64 P, .slice (some ⟨g, 0, none⟩) (nW P) (nW P)] 131 (0, 0))
  wds : w.ownsRow 0 40 1 (.slice (some ⟨g, 0, none⟩) (nW P) (nW P)) (nW P) (wcells T (nW P))
  hi : P ≤ 1048576
theorem lt_of_heap {w : World} {b : Nat} {o : Obj} (h : w.heap[b]? = some o) : b < w.heap.size := (Array.getElem?_eq_some_iff.1 h).1
theorem MapR.ltb {w : World} {b g P : Nat} {T : Nat → Bool} (h : MapR w b g P T) : b < w.heap.size := lt_of_heap h.blk
theorem MapR.ne {w : World} {b g P : Nat} {T : Nat → Bool} (h : MapR w b g P T) : b ≠ g := fun e => by
  obtain ⟨cur, hc⟩ := (owns_blk h.wds g rfl).2.2
  have := h.blk
  rw [e, hc] at this
  simp at this
theorem MapR.c0 {w : World} {b g P : Nat} {T : Nat → Bool} (h : MapR w b g P T) : w.cell? ⟨b, 0, none⟩ = some (.int .i64 P) := cell_of_row w b 0 _ _ _ h.blk
theorem MapR.c1 {w : World} {b g P : Nat} {T : Nat → Bool} (h : MapR w b g P T) : w.cell? ⟨b, 1, none⟩ = some (.slice (some ⟨g, 0, none⟩) (nW P) (nW P)) := cell_of_row w b 1 _ _ _ h.blk
theorem MapR.cw {w : World} {b g P : Nat} {T : Nat → Bool} (h : MapR w b g P T) (i : Nat) (hi : i < nW P) : w.cell? ⟨g, i, none⟩ = some (.int .u64 (word T i : Int)) := by
  rw [h.wds.cellAt i (by omega)]; exact wcells_get _ _ _ hi
theorem MapR.only {F : Nat → Prop} {w w' : World} {b g P : Nat} {T : Nat → Bool} (h : MapR w b g P T) (ho : Only F w w') (hb : ¬ F b) (hg : ¬ F g) : MapR w' b g P T :=
  ⟨(ho.block b h.ltb hb).trans h.blk, owns_only h.wds ho (fun k hk => by cases hk; exact hg), h.hi⟩
theorem MapR.below {w w' : World} {b g P : Nat} {T : Nat → Bool} (h : MapR w b g P T) (hb : Below w.heap.size w w') : MapR w' b g P T :=
  h.only (Only.of_below (F := fun _ => False) hb) id id
theorem MapR.stored {w : World} {b g P : Nat} {T : Nat → Bool} (h : MapR w b g P T) (id : Nat) (x : Bool) : MapR (w.setCell ⟨g, id / 64, none⟩ (.int .u64 (word (upd T id x) (id / 64) : Int))) b g P (upd T id x) :=
  ⟨(Below.heap_setCell w ⟨g, id / 64, none⟩ _ b h.ne).trans h.blk, by have := (h.wds.stored (id / 64) (.int .u64 (word (upd T id x) (id / 64) : Int))).1; rw [wcells_set] at this; exact this, h.hi⟩
theorem nW_le {P : Nat} (h : P ≤ 1048576) : nW P ≤ 16384 := by unfold nW; omega
theorem nW_lo (P : Nat) : P ≤ 64 * nW P := by unfold nW; omega

end Go.Proofs.YtnaedmmfiiebaaaGreatDoor.Q

namespace Go.Proofs.YtnaedmmfiiebaaaGreatDoor.Q
open Go.RowKit

theorem wrap_pow (id : Nat) : IntKind.u64.wrap (2 ^ (id % 64)) = ((2 ^ (id % 64) : Nat) : Int) := by
  have h := two_pow_lt id
  rw [IntKind.wrap_u64, show (2 : Int) ^ (id % 64) = ((2 ^ (id % 64) : Nat) : Int) by simp]
  generalize 2 ^ (id % 64) = p at *
  omega
set_option maxHeartbeats 1000000 in
theorem bitof_any (id : Nat) (hx : id < 1125899906842624) (w : World) :
    Calls Tryz.prog 148 #[.int .i64 id] w fun e w' => e = .returned (.tuple #[.int .i64 (id / 64 : Nat), .int .u64 (2 ^ (id % 64) : Nat)]) ∧ Below w.heap.size w w' := by
  have hp := wrap_pow id
  go_enter Tryz.func148, Tryz.ntmps148
  go_wp2_with fail
  go_quiet (fail)
  have hb : Below w.heap.size w (w.drewN nq) := ⟨rfl, rfl, rfl, Nat.le_refl _, fun _ _ => rfl⟩
  go_wp2_with fail
  go_ret2
  refine ⟨?_, hb⟩
  rw [hp]
  simp

def tabOk (w : World) : Prop := ∀ j, j < 64 → w.cell? ⟨13, j, none⟩ = some (.int .u8 (Lib.deBruijn64tab.getD j 0))
theorem tabOk.below {w w' : World} (h : tabOk w) (hb : Below w.heap.size w w') : tabOk w' := fun j hj => (hb.cell (p := ⟨13, j, none⟩) (World.block_lt_of_cell? w _ (h j hj))).trans (h j hj)

end Go.Proofs.YtnaedmmfiiebaaaGreatDoor.Q

namespace Go.Proofs.YtnaedmmfiiebaaaGreatDoor.Q
open Go.RowKit

/-- The refusals in their variables and the table of bits, all below base. -/
structure Env (base : Nat) (A : Nat → Addr) (w : World) : Prop where
  errs : ErrsG 13 gAll A w
  tab : tabOk w
  lo : ∀ i, i < 13 → gAll i < base ∧ (A i).block < base
  lt : 13 < base
  size : base ≤ w.heap.size
theorem Env.keep {base : Nat} {A : Nat → Addr} {w w' : World} (h : Env base A w) (hb : Below base w w') : Env base A w' := by
  refine ⟨⟨fun i hi => ?_, h.errs.2⟩, fun j hj => ?_, h.lo, h.lt, Nat.le_trans h.size hb.size⟩
  · obtain ⟨h1, c, t, h2⟩ := h.errs.1 i hi
    obtain ⟨l1, l2⟩ := h.lo i hi
    exact ⟨(World.cell?_of_block (a := ⟨gAll i, 0, none⟩) (hb.block _ l1)).trans h1, c, t, (hb.block _ l2).trans h2⟩
  · exact (World.cell?_of_block (a := ⟨13, j, none⟩) (hb.block _ h.lt)).trans (h.tab j hj)
theorem Env.only {base : Nat} {A : Nat → Addr} {w w' : World} {F : Nat → Prop} (h : Env base A w) (hs : Only F w w') (hF : ∀ k, F k → base ≤ k) : Env base A w' := h.keep (hs.below hF h.size)
theorem Env.up {base : Nat} {A : Nat → Addr} {w w' : World} (h : Env base A w) (hb : Below w.heap.size w w') : Env base A w' := h.keep (hb.mono h.size)
theorem Env.e {base : Nat} {A : Nat → Addr} {w : World} (h : Env base A w) (i : Nat) (hi : i < 13) : w.cell? ⟨gAll i, 0, none⟩ = some (.iface 360 (.pointer (some (A i)))) := (h.errs.1 i hi).1

end Go.Proofs.YtnaedmmfiiebaaaGreatDoor.Q

namespace Go.Proofs.YtnaedmmfiiebaaaGreatDoor.Q
open Go.RowKit

set_option maxRecDepth 100000 in
set_option maxHeartbeats 1000000 in
theorem set_any (b g P : Nat) (T : Nat → Bool) (id : Nat) (w : World) (h : MapR w b g P T) (hid : id < 64 * nW P) :
    Calls Tryz.prog 108 #[.pointer (some ⟨b, 0, none⟩), .int .i64 id] w fun e w' => e = .returned (.tuple #[]) ∧ MapR w' b g P (upd T id true) ∧ Only (fun k => k = g) w w' := by
  have hn := nW_le h.hi
  have HB := hide (bitof_any id (by omega) w)
  have H := hide h
  clear h
  go_enter Tryz.func108, Tryz.ntmps108
  go_wp2_with fail
  refine HB.out.mono ?_
  rintro e w1 ⟨rfl, hb⟩
  have h1 := H.out.below hb
  have c1 := h1.c1
  have hq : id / 64 < nW P := by omega
  have cw := h1.cw (id / 64) hq
  have cf := h1.wds.frozenAt (id / 64)
  have hor : bits .or .u64 ((word T (id / 64) : Nat) : Int) ((2 ^ (id % 64) : Nat) : Int) = ((word (upd T id true) (id / 64) : Nat) : Int) := by
    rw [bits_or_u64_nat _ _ (word_lt _ _) (two_pow_lt id), word_set]
  have hst : Hid (MapR (w1.setCell ⟨g, id / 64, none⟩ (.int .u64 (word (upd T id true) (id / 64) : Int))) b g P (upd T id true) ∧ Only (fun k => k = g) w (w1.setCell ⟨g, id / 64, none⟩ (.int .u64 (word (upd T id true) (id / 64) : Int)))) :=
    ⟨h1.stored id true, (Only.of_below hb).trans (Only.set (F := fun k => k = g) rfl _ _ _)⟩
  generalize word (upd T id true) (id / 64) = x' at *
  generalize word T (id / 64) = x at *
  generalize 2 ^ (id % 64) = p at *
  generalize id / 64 = q at *
  generalize nW P = n at *
  clear h1 hb H HB
  go_wp2
  go_end0
  exact ⟨rfl, hst.out⟩

/-- All from a to b are taken besides. -/
def updR (T : Nat → Bool) (a b : Nat) : Nat → Bool := fun j => T j || (decide (a ≤ j) && decide (j < b))
theorem updR_nil (T : Nat → Bool) (a : Nat) : updR T a a = T := by
  funext j
  have : ¬ (a ≤ j ∧ j < a) := by omega
  simp [updR]; intro h1; omega
theorem updR_succ (T : Nat → Bool) (a b : Nat) (h : a ≤ b) : upd (updR T a b) b true = updR T a (b + 1) := by
  funext j
  unfold upd updR
  by_cases hj : j = b
  · subst hj; simp [h]
  · by_cases h2 : j < b
    · simp [hj, h2, show j < b + 1 by omega]
    · simp [hj, h2, show ¬ j < b + 1 by omega]

set_option maxRecDepth 100000 in
set_option maxHeartbeats 1000000 in
theorem setall_any (b g P : Nat) (T : Nat → Bool) (lo hi : Nat) (w : World) (h : MapR w b g P T) (hle : lo ≤ hi) (hid : hi ≤ 64 * nW P) :
    Calls Tryz.prog 78 #[.pointer (some ⟨b, 0, none⟩), .int .i64 lo, .int .i64 hi] w fun e w' => e = .returned (.tuple #[]) ∧ MapR w' b g P (updR T lo hi) ∧ Only (fun k => k = g) w w' := by
  have hn := nW_le h.hi
  have H := hide h
  clear h
  go_enter Tryz.func78, Tryz.ntmps78
  go_wp2_with fail
  go_loopw [6] (fun i wr => ∃ k : Nat, lo ≤ k ∧ k ≤ hi ∧ i = .int .i64 k ∧ MapR wr b g P (updR T lo k) ∧ Only (fun k => k = g) w wr) (fun i _ => hi - (intOf i).toNat)
  case atStart => exact ⟨lo, Nat.le_refl _, hle, rfl, by rw [updR_nil]; exact H.out, Only.refl _ _⟩
  case round =>
    obtain ⟨k, hk1, hk2, rfl, hm, ho⟩ := hrel
    by_cases hlt : k < hi
    · have HS := hide (set_any b g P _ k wr hm (by omega))
      have HO := hide ho
      have hkb : k < 2000000 := by omega
      clear hm ho hid hle
      generalize nW P = nn at *
      go_wp2_with fail
      refine HS.out.mono ?_
      rintro e w1 ⟨rfl, h1, o1⟩
      rw [updR_succ _ _ _ hk1] at h1
      have H1 := hide h1
      have O1 := hide (HO.out.trans o1)
      clear h1 o1 HS HO
      go_wp2
      go_roundw
      case rel => exact ⟨k + 1, by omega, by omega, by go_num, H1.out, O1.out⟩
      case measure => simp [intOf]; omega
    · have he : k = hi := by omega
      have H1 := hide hm
      have O1 := hide ho
      clear hm ho
      go_wp2
      go_end0
      rw [← he]
      exact ⟨rfl, H1.out, O1.out⟩


end Go.Proofs.YtnaedmmfiiebaaaGreatDoor.Q

namespace Go.Proofs.YtnaedmmfiiebaaaGreatDoor.Q
open Go.RowKit

end Go.Proofs.YtnaedmmfiiebaaaGreatDoor.Q

namespace Go.Proofs.YtnaedmmfiiebaaaGreatDoor.Q
open Go.RowKit

end Go.Proofs.YtnaedmmfiiebaaaGreatDoor.Q

namespace Go.Proofs.YtnaedmmfiiebaaaGreatDoor.Q
open Go.RowKit

end Go.Proofs.YtnaedmmfiiebaaaGreatDoor.Q
