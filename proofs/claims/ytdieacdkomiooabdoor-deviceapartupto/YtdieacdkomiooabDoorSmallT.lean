import Derived.Test.YtdieacdkomiooabDoorSmall
import Derived.Test.YtdieacdkomiooabDoorAct5
import Derived.Test.YtdieacdkomiooabDoorLikeM
namespace Go.Proofs.YtdieacdkomiooabDoor
open Go.RowKit Go.Maps

/-- One step of the program's device, of whatever kind, with whatever arms. -/
theorem act_all (base : Nat) (A : Nat → Addr) (b : Nat) (F : Nat → Prop) (d : Dev) (w : World) (h : DevAt w b F d) (hE : ErrsB base A w) (hF : ∀ k, F k → base ≤ k) (s : Stp) (fv : Value) (hl : FatesIn w fv s.fates) (hs : StpOk d s) (hq : (d.arms.length + 1) * 32 ≤ 140737488355328) :
    Calls Tryd.prog 11 #[.pointer (some ⟨b, 0, none⟩), .agg #[.int .i64 s.kind, .int .i64 s.sector, .int .i64 s.n, .string s.data, fv]] w fun e w' => ∃ vb vs F', ActPost w b F (d.act s) e w' vb vs F' := by
  by_cases h5 : s.kind = 5
  · obtain ⟨K, S, n, D, l⟩ := s
    exact act_arm base A b F d w h hE hF K S n D l fv hl hs (opdone_any base A b d.arms) h5 hq
  · exact act_any base A b F d w h hE hF s fv hl hs (opdone_any base A b d.arms) h5
/-- Steps, one behind the other, arms too. -/
def playsA (d : Dev) (l : List Stp) : Dev := l.foldl (fun d s => (d.act s).1) d
theorem playsA_snoc (d : Dev) (l : List Stp) (s : Stp) : playsA d (l ++ [s]) = ((playsA d l).act s).1 := by simp [playsA, List.foldl_append]
theorem playsA_cons (d : Dev) (s : Stp) (l : List Stp) : playsA d (s :: l) = playsA (d.act s).1 l := rfl
theorem playsA_pend (m : Nat) : ∀ (l : List Stp) (d : Dev), (∀ s ∈ l, s.data.size ≤ m * 512) → (playsA d l).pend.length ≤ d.pend.length + l.length * m
  | [], _, _ => by simp [playsA]
  | s :: l, d, h => by
    have hs := h s (by simp)
    have ha := act_pend d s
    have h2 : s.data.size / 512 ≤ m := by omega
    rw [playsA_cons, List.length_cons, Nat.add_mul, Nat.one_mul]
    exact Nat.le_trans (playsA_pend m l _ fun x hx => h x (by simp [hx])) (by omega)
theorem playsA_arms : ∀ (l : List Stp) (d : Dev), (playsA d l).arms.length ≤ d.arms.length + l.length
  | [], _ => by simp [playsA]
  | s :: l, d => by
    have ha := act_armsN d s
    rw [playsA_cons, List.length_cons]
    exact Nat.le_trans (playsA_arms l _) (by omega)
theorem playsA_deadOk : ∀ (l : List Stp) (d : Dev), DeadOk d → DeadOk (playsA d l)
  | [], _, h => h
  | s :: l, d, h => by
    rw [playsA_cons]
    exact playsA_deadOk l _ (h.act s)
structure SmInvA (w wr : World) (b : Nat) (F : Nat → Prop) (d : Dev) (l : List Stp) (k : Nat) : Prop where
  dev : DevAt wr b F (playsA d (l.take k))
  bel : Below w.heap.size w wr
  far : ∀ k, F k → w.heap.size + 1 ≤ k

set_option maxRecDepth 100000 in
set_option maxHeartbeats 1600000 in
theorem smallT_any (base : Nat) (A : Nat → Addr) (X : Int) (fv sv : Value) (first : List Sec) (steps : List Stp) (w : World) (hE : ErrsB base A w) (hfv : SecsIn w fv first) (hfl : first.length ≤ 1048576) (hsv : StepsIn w sv steps) :
    Calls Tryd.prog 7 #[.agg #[.int .i64 X, fv, sv], .bool true] w fun e w' => ∃ b F, e = .returned (.pointer (some ⟨b, 0, none⟩)) ∧ DevAt w' b F (playsA (smallDev (pickI X) first) steps) ∧ Below w.heap.size w w' ∧ ∀ k, F k → w.heap.size ≤ k := by
  obtain ⟨i0, hi, hz0, hz1, hz2⟩ := info_parts Tryd.info68
  obtain ⟨r, hr⟩ : ∃ r, r = pickI X := ⟨_, rfl⟩
  have hr0 : 0 ≤ r := by rw [hr]; exact pickI_lo X
  have hr1 : r ≤ 64 := by rw [hr]; exact pickI_hi X
  have HPK : Hid (∀ w', Calls Tryd.prog 36 #[.int .i64 X, .int .i64 65] w' fun e w'' => e = .returned (.int .i64 r) ∧ w' = w'') := by rw [hr]; exact fun w' => pick_any X w'
  rw [← hr]
  clear hr
  have HSV : Hid (StepsIn w sv steps) := hsv
  obtain ⟨fa, fc, fg, foff, rfl, hfl', hfa, hfc⟩ := hfv
  obtain ⟨sa, sc, sg, soff, fvs, rfl, hsl, hsa, hsn, hsc⟩ := hsv
  obtain ⟨N, hN⟩ : ∃ N, N = first.length := ⟨_, rfl⟩
  obtain ⟨M, hM⟩ : ∃ M, M = steps.length := ⟨_, rfl⟩
  have HN : Hid (N = first.length) := hN
  have HM : Hid (M = steps.length) := hM
  have HE : Hid (ErrsB base A w) := hE
  rw [← hN] at hfl hfa ⊢
  rw [← hM] at hsl hsa HSV ⊢
  have HFC : Hid (∀ j u, (secCells first)[j]? = some u → w.cell? ⟨fg, foff + j, none⟩ = some u) := hfc
  have HSC : Hid (∀ i (h : i < steps.length) (h' : i < fvs.length), (w.cell? ⟨sg, soff + i * 5, none⟩ = some (.int .i64 steps[i].kind) ∧ w.cell? ⟨sg, soff + i * 5 + 1, none⟩ = some (.int .i64 steps[i].sector) ∧ w.cell? ⟨sg, soff + i * 5 + 2, none⟩ = some (.int .i64 steps[i].n) ∧ w.cell? ⟨sg, soff + i * 5 + 3, none⟩ = some (.string steps[i].data) ∧ w.cell? ⟨sg, soff + i * 5 + 4, none⟩ = some fvs[i]) ∧ FatesIn w fvs[i] steps[i].fates ∧ steps[i].n < 9223372036854775808 ∧ steps[i].data.size ≤ 1048576) := hsc
  have HFV : Hid (fvs.length = steps.length) := hsn
  obtain ⟨w1, hw1⟩ : ∃ w1, w1 = w.alloc (.cells #[.int .i64 X, .slice fa N fc, .slice sa M sc] 25) := ⟨_, rfl⟩
  have hb1 : Below w.heap.size w w1 := by rw [hw1]; exact below_new w _
  have hbx : Boxed w.heap.size [.int .i64 X, .slice fa N fc, .slice sa M sc] w1 := by rw [hw1]; exact boxed_new w #[.int .i64 X, .slice fa N fc, .slice sa M sc] 25
  have HB1 : Hid (Below w.heap.size w w1) := hb1
  have HBX : Hid (Boxed w.heap.size [.int .i64 X, .slice fa N fc, .slice sa M sc] w1) := hbx
  have hsz1 : w1.heap.size = w.heap.size + 1 := by rw [hw1]; simp
  have HSZ : Hid (w1.heap.size = w.heap.size + 1) := hsz1
  clear hfc hsc hN hM hE hb1 hbx hsn hfl' hsz1
  go_enter Tryd.func7, Tryd.ntmps7
  go_wp2_with (go_at_call 36; refine (HPK.out _).mono ?_; rintro e w' ⟨rfl, rfl⟩)
  rw [← hw1]
  clear hw1 HPK
  go_loopw [6, 7, 8] (fun v la i wr => ∃ k last acc, k ≤ N ∧ i = .int .i64 (k : Int) ∧ la = .int .i64 last ∧ FiInv w1 wr r first v last k acc) (fun _ _ i _ => N - (intOf i).toNat)
  case atStart => exact ⟨0, -1, [], Nat.zero_le _, rfl, rfl, by simp, World.ownsRow_nil _ _ _ _, Nat.zero_le _, Below.refl _ _⟩
  case round =>
    obtain ⟨k, last, acc, hk, rfl, rfl, inv⟩ := hrel
    have INV : Hid (FiInv w1 wr r first _ last k acc) := inv
    have hrow := inv.row
    obtain ⟨va, vc, hve, -⟩ := owns_form hrow
    subst hve
    have b1 : wr.cell? ⟨w.heap.size, 1, none⟩ = some (.slice fa N fc) := (HBX.out.below inv.bel).2 1 (by simp)
    have b2 : wr.cell? ⟨w.heap.size, 2, none⟩ = some (.slice sa M sc) := (HBX.out.below inv.bel).2 2 (by simp)
    clear inv
    by_cases hlt : k < N
    · obtain rfl := hfa (by omega)
      have hkl : k < first.length := by rw [← HN.out]; exact hlt
      obtain ⟨x0, x1⟩ := secCells_get first k hkl
      have bw := Below.next HB1.out INV.out.bel
      have x0 := cell_below bw (HFC.out _ _ x0)
      have x1 := cell_below bw (HFC.out _ _ x1)
      rw [← Nat.add_assoc] at x1
      obtain ⟨x, hx⟩ : ∃ x, x = first[k] := ⟨_, rfl⟩
      rw [← hx] at x0 x1
      have HX : Hid (x = first[k]) := hx
      have HEQ : Hid (acc ++ (if last < x.ix ∧ x.ix < r ∧ x.dat.size = 512 then x :: firsts r x.ix (first.drop (k + 1)) else firsts r last (first.drop (k + 1))) = firsts r (-1) first) := by
        have := INV.out.eq
        rw [List.drop_eq_getElem_cons hkl, ← hx] at this
        exact this
      clear hx bw
      obtain ⟨xi, xd⟩ := x
      simp only [] at x0 x1
      have hb2 := below_new wr (.cells #[.int .i64 xi, .string xd] 68)
      have HNO : Hid (¬ (last < xi ∧ xi < r ∧ xd.size = 512) → FiInv w1 (wr.alloc (.cells #[.int .i64 xi, .string xd] 68)) r first (.slice va acc.length vc) last (k + 1) acc) := fun h => ⟨by have := HEQ.out; simp only [] at this; rw [if_neg h] at this; exact this, owns_below hrow hb2, by have := INV.out.len; omega, Below.next INV.out.bel hb2⟩
      have hrow2 := owns_below hrow hb2
      have hbs := INV.out.bel.size
      by_cases h1 : last < xi
      · have t1 : decide (last < xi) = true := decide_eq_true h1
        by_cases h2 : xi < r
        · have t2 : decide (xi < r) = true := decide_eq_true h2
          by_cases h3 : xd.size = 512
          · have t3 : ((xd.size : Int) == 512) = true := by simp; omega
            have hlen := INV.out.len
            have HE2 : Hid (acc ++ [⟨xi, xd⟩] ++ firsts r xi (first.drop (k + 1)) = firsts r (-1) first) := by
              show _ = _
              have := HEQ.out
              simp only [] at this
              rw [if_pos ⟨h1, h2, h3⟩] at this
              rw [List.append_assoc]; exact this
            clear HNO HEQ h3
            go_wp2_with (first
              | (at_builtin; refine wpList_append_lies _ rfl _ _ 22 rfl w1.heap.size 68 i0 (.agg #[.int .i64 0, .string ⟨#[]⟩]) 2 24 Tryd.underlying22 hi hz0 hz1 hz2 rfl (by decide) _ _ _ rfl (hrow2.alloc _) ⟨wr.heap.size + 1, 0, none⟩ 1 1 [.int .i64 xi, .string xd] rfl rfl ?c1 ?c2 ?c3 ?c4 ?c5 ?c6 (wr.heap.size + 1 + 1) ?c7 ?_))
            case c2 => exact ⟨rfl, rfl⟩
            case c4 => unfold maxLen; omega
            case c5 => omega
            case c6 => omega
            intro g2 cap2 w3 hown3 hgrow3 hat3 hlg3
            have hB3 : Below w1.heap.size w1 ((wr.alloc (.cells #[.int .i64 xi, .string xd] 68)).alloc (.cells #[.int .i64 xi, .string xd] 68)) := (INV.out.bel.alloc (by omega) _).alloc (by simp; omega) _
            have z0 : w3.cell? ⟨wr.heap.size, 0, none⟩ = some (.int .i64 xi) := by
              have hz := cell_below (below_new (wr.alloc (.cells #[.int .i64 xi, .string xd] 68)) (.cells #[.int .i64 xi, .string xd] 68)) ((boxed_new wr #[.int .i64 xi, .string xd] 68).2 0 (by simp))
              exact (World.cell?_of_block (a := ⟨wr.heap.size, 0, none⟩) (hgrow3.block wr.heap.size (by simp; omega) (fun e => by have := (owns_blk hrow _ e.symm).2.1; omega))).trans hz
            have V : FiInv w1 w3 r first (.slice (some ⟨g2, 0, none⟩) (acc.length + 1) cap2) xi (k + 1) (acc ++ [⟨xi, xd⟩]) := by
              refine ⟨HE2.out, ?_, by simp; omega, hB3.grown hgrow3 (by simp; omega) (fun j hj => (owns_blk hrow j hj).1)⟩
              rw [secCells_app, List.length_append]
              exact hown3
            clear hown3 hgrow3 hat3 hlg3 hB3 hrow2 hrow INV HE2 x0 x1 b1 b2 hb2
            go_wp2_with fail
            go_roundw
            case rel => exact ⟨k + 1, xi, _, by omega, by go_num, by go_num, V⟩
            case measure => simp [intOf]; omega
          · have t3 : ((xd.size : Int) == 512) = false := by simp; omega
            clear hrow2
            go_wp2_with fail
            go_roundw
            case rel => exact ⟨k + 1, last, acc, by omega, by go_num, rfl, HNO.out (by omega)⟩
            case measure => simp [intOf]; omega
        · have t2 : decide (xi < r) = false := decide_eq_false h2
          clear hrow2
          go_wp2_with fail
          go_roundw
          case rel => exact ⟨k + 1, last, acc, by omega, by go_num, rfl, HNO.out (by omega)⟩
          case measure => simp [intOf]; omega
      · have t1 : decide (last < xi) = false := decide_eq_false h1
        clear hrow2
        go_wp2_with fail
        go_roundw
        case rel => exact ⟨k + 1, last, acc, by omega, by go_num, rfl, HNO.out (by omega)⟩
        case measure => simp [intOf]; omega
    · have hke : k = first.length := by rw [← HN.out]; omega
      have hacc : acc = firsts r (-1) first := by
        have := INV.out.eq
        rw [hke, List.drop_length] at this
        simpa [firsts] using this
      have hnd := smallDev_ok r hr0 hr1
      have bw := Below.next HB1.out INV.out.bel
      have hal : acc.length ≤ 1048576 := by have := INV.out.len; omega
      have O := open_any base A r acc (.slice va acc.length vc) wr (HE.out.up bw) ⟨hrow.1, hrow.2.imp id fun ⟨g, cap, cur, q1, _, q3⟩ => ⟨g, cap, cur, q1, Nat.zero_le _, q3⟩⟩ (by omega)
      have hop : opens (newDev r).size 0 acc = true := by rw [hacc, hnd]; exact firsts_opens r first (-1)
      have HO : Hid (Calls Tryd.prog 19 #[.int .i64 r, .slice va acc.length vc] wr (OpenPost A wr r acc)) := O
      have HOT : Hid (opens (newDev r).size 0 acc = true) := hop
      have HAC : Hid ({ newDev r with dur := openD acc } = smallDev r first) := by show _ = smallDev r first; unfold smallDev; rw [hnd, hacc]
      have HBW : Hid (Below w.heap.size w wr) := bw
      have HB1W : Hid (Below w1.heap.size w1 wr) := INV.out.bel
      clear O hop hacc hke hnd bw INV hrow hal b2 hi hz0 hz1 hz2
      go_wp2_with fail
      refine HO.out.mono ?_
      rintro e w5 (⟨-, b, F, rfl, hd5, hb5, hF5⟩ | ⟨hno, -, -⟩)
      rotate_left
      · rw [HOT.out] at hno; cases hno
      rw [HAC.out] at hd5
      have HI : Hid (SmInvA w w5 b F (smallDev r first) steps 0) := ⟨by simpa [playsA] using hd5, Below.next HBW.out hb5, fun k hk => by have := hF5 k hk; have := HB1W.out.size; have := HSZ.out; omega⟩
      have HX5 : Hid (Boxed w.heap.size [.int .i64 X, .slice fa N fc, .slice sa M sc] w5) := (HBX.out.below HB1W.out).below hb5
      clear HO HOT HAC hd5 hb5 hF5
      have hne := run_eql_pointer_nil (P := Tryd.prog) w5 29 (some ⟨b, 0, none⟩) Tryd.underlying29
      go_wp2_with fail
      go_loopw [12] (fun i wr => ∃ k F, k ≤ M ∧ i = .int .i64 (k : Int) ∧ SmInvA w wr b F (smallDev r first) steps k ∧ Boxed w.heap.size [.int .i64 X, .slice fa N fc, .slice sa M sc] wr) (fun i _ => M - (intOf i).toNat)
      case atStart => exact ⟨0, F, Nat.zero_le _, rfl, HI.out, HX5.out⟩
      case round =>
        obtain ⟨k2, F2, hk2, rfl, inv, hbx2⟩ := hrel
        have b2 : wr.cell? ⟨w.heap.size, 2, none⟩ = some (.slice sa M sc) := hbx2.2 2 (by simp)
        have INV : Hid (SmInvA w wr b F2 (smallDev r first) steps k2) := inv
        have HBX2 : Hid (Boxed w.heap.size [.int .i64 X, .slice fa N fc, .slice sa M sc] wr) := hbx2
        clear inv hbx2 HI HX5
        by_cases hlt : k2 < M
        · obtain rfl := hsa (by omega)
          have hkl : k2 < steps.length := by rw [← HM.out]; exact hlt
          have hkf : k2 < fvs.length := by rw [HFV.out]; exact hkl
          obtain ⟨⟨y0, y1, y2, y3, y4⟩, hf, hn, hdt⟩ := HSC.out k2 hkl hkf
          have bw := INV.out.bel
          have y0 := cell_below bw y0
          have y1 := cell_below bw y1
          have y2 := cell_below bw y2
          have y3 := cell_below bw y3
          have y4 := cell_below bw y4
          have hf2 := hf.keep bw
          have hpd : (playsA (smallDev r first) (steps.take k2)).pend.length ≤ k2 * 2048 := by
            refine Nat.le_trans (playsA_pend 2048 _ _ fun s hs => ?_) (by simp [smallDev, newDev, List.length_take]; omega)
            obtain ⟨i, hi, rfl⟩ := List.getElem_of_mem hs
            rw [List.length_take] at hi
            rw [List.getElem_take]
            have := (HSC.out i (by omega) (by rw [HFV.out]; omega)).2.2.2
            omega
          have hpa : (playsA (smallDev r first) (steps.take k2)).arms.length ≤ k2 := Nat.le_trans (playsA_arms _ _) (by simp [smallDev, newDev, List.length_take]; omega)
          have HNX : Hid (playsA (smallDev r first) (steps.take (k2 + 1)) = ((playsA (smallDev r first) (steps.take k2)).act steps[k2]).1) := by
            show _ = _
            rw [take_next' _ k2 hkl, playsA_snoc]
          have AC := act_all w.heap.size A b F2 _ wr INV.out.dev ⟨(HE.out.up bw).at', fun i hi => ⟨Nat.lt_of_lt_of_le (HE.out.lo i hi).1 HE.out.size, Nat.lt_of_lt_of_le (HE.out.lo i hi).2 HE.out.size⟩, bw.size⟩ (fun k hk => by have := INV.out.far k hk; omega) steps[k2] fvs[k2] hf2 ⟨hn, by omega, by omega⟩ (by omega)
          have hfv : ∃ a c, fvs[k2] = .slice a steps[k2].fates.length c := by obtain ⟨a, c, _, _, h, _⟩ := hf; exact ⟨a, c, h⟩
          have HA : Hid (Calls Tryd.prog 11 #[.pointer (some ⟨b, 0, none⟩), .agg #[.int .i64 steps[k2].kind, .int .i64 steps[k2].sector, .int .i64 steps[k2].n, .string steps[k2].data, fvs[k2]]] wr fun e w' => ∃ vb vs F', ActPost wr b F2 ((playsA (smallDev r first) (steps.take k2)).act steps[k2]) e w' vb vs F') := AC
          generalize (playsA (smallDev r first) (steps.take k2)).act steps[k2] = P at HA HNX
          obtain ⟨fa2, fc2, hfe⟩ := hfv
          rw [hfe] at HA y4
          generalize steps[k2].kind = K at HA y0
          generalize steps[k2].sector = S at HA y1
          generalize steps[k2].n = n at HA y2
          generalize steps[k2].data = D at HA y3
          generalize steps[k2].fates.length = L at HA y4
          clear AC hf hf2 hn hdt hfe hpd hpa
          go_wp2_with fail
          refine HA.out.mono ?_
          rintro e w6 ⟨vb, vs, F6, rfl, _, _, h6, s6, _, _⟩
          have V : SmInvA w w6 b F6 (smallDev r first) steps (k2 + 1) := ⟨by rw [HNX.out]; exact h6, INV.out.bel.trans (s6.below (fun k hk => by have := INV.out.far k hk; omega) INV.out.bel.size), s6.ge INV.out.far HBX2.out.1⟩
          have HBX3 : Hid (Boxed w.heap.size [.int .i64 X, .slice fa N fc, .slice (some ⟨sg, soff, none⟩) M sc] w6) := ⟨Nat.lt_of_lt_of_le HBX2.out.1 s6.size, fun j hj => s6.cell (HBX2.out.2 j hj) (fun hf => by have := INV.out.far _ hf; simp only [] at this; omega)⟩
          clear HA HNX h6 s6 y0 y1 y2 y3 y4 INV b2
          go_wp2_with fail
          go_roundw
          case rel => exact ⟨k2 + 1, F6, by omega, by go_num, V, HBX3.out⟩
          case measure => simp [intOf]; omega
        · have hke : k2 = steps.length := by rw [← HM.out]; omega
          have V := INV.out
          have vd := V.dev
          rw [show steps.take k2 = steps from List.take_of_length_le (by omega)] at vd
          have HR : Hid (DevAt wr b F2 (playsA (smallDev r first) steps) ∧ Below w.heap.size w wr ∧ ∀ k, F2 k → w.heap.size ≤ k) := ⟨vd, V.bel, fun k hk => by have := V.far k hk; omega⟩
          clear V vd INV hke
          go_wp2_with fail
          go_ret
          first | exact ⟨b, F2, rfl, HR.out⟩ | exact ⟨b, rfl, F2, HR.out⟩ | exact ⟨F2, rfl, HR.out⟩ | exact ⟨b, rfl, ⟨F2, HR.out⟩⟩

end Go.Proofs.YtdieacdkomiooabDoor
