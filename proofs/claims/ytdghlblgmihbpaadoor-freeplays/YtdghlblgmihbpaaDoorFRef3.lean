import Derived.Test.YtdghlblgmihbpaaDoorFPush
namespace Go.Proofs.YtdghlblgmihbpaaDoor
open Go.RowKit

def TakePost (w : World) (b : Nat) (v : Value) (P : Nat) (r : Option Nat × List Nat × (Nat → Bool)) (e : Ending) (w' : World) : Prop := ∃ u, e = .returned (.tuple #[u, .int .i64 (numE r.1 : Nat)]) ∧ w'.ownsRow w.heap.size 3 1 u r.2.1.length (nats r.2.1) ∧ RefPost w b v P r.2.2 w' ∧ ∀ v' k, w'.cell? ⟨b, 1, none⟩ = some v' → u.ownBlock = some k → v'.ownBlock ≠ some k
set_option maxRecDepth 100000 in
set_option maxHeartbeats 4000000 in
theorem rtake_ok (b : Nat) (v : Value) (P : Nat) (T : Nat → Bool) (N : Nat) (w : World) (h : RefR w b v P T) (hok : MapOk P T) (hN : N ≤ (frl T P).length) : Calls Tryd.prog 48 #[.pointer (some ⟨b, 0, none⟩), .int .i64 N] w fun e w' => TakePost w b v P (none, lowL T P N, updL T (lowL T P N)) e w' := by
  have hP := hok.hi
  have hP4 := hok.lo
  have H := hide h
  have HOK := hide hok
  have RF := hide (rfree_any b v P T w h hok)
  have hle := tkl_le T P
  have HNF := hide hN
  obtain ⟨n, hn⟩ : ∃ n, n = (tkl T P).length := ⟨_, rfl⟩
  have HN := hide hn
  obtain ⟨a, c, rfl, -⟩ := h.form
  rw [← hn] at hle
  have hgt : ¬ ((frl T P).length : Int) < (N : Int) := by omega
  have hgt2 : decide ((frl T P).length < N) = false := by simp; omega
  have hneg : ¬ (N : Int) < 0 := by omega
  have hflP := frl_le T P
  have HT := hide (tkl_len hok.t0 hok.t1)
  have HCX : Hid (∀ X, Below w.heap.size w X → X.cell? ⟨b, 0, none⟩ = some (.int .i64 P) ∧ X.cell? ⟨b, 1, none⟩ = some (.slice a n c)) := fun X hX => by
    have := H.out.below hX
    refine ⟨this.c0, ?_⟩
    have e := this.c1
    rw [← HN.out] at e; exact e
  have HCK : Hid (∀ X, Below w.heap.size w X → ∀ k (hk : k < (tkl T P).length), ∃ g, a = some ⟨g, 0, none⟩ ∧ X.cell? ⟨g, k, none⟩ = some (.int .i64 ((tkl T P)[k] : Int))) := fun X hX k hk => by
    obtain ⟨a', c', he, hc⟩ := (H.out.below hX).form
    simp only [Value.slice.injEq] at he
    obtain ⟨ha, -, -⟩ := he
    obtain ⟨g', hg', hcell⟩ := hc k hk
    exact ⟨g', by rw [ha]; exact hg', hcell⟩
  rw [← hn]
  obtain ⟨fl, hfle⟩ : ∃ fl, fl = (frl T P).length := ⟨_, rfl⟩
  rw [← hfle] at RF hgt hgt2 hflP
  clear h hok hn hN hfle
  go_enter Tryd.func48, Tryd.ntmps48
  go_wp2_with fail
  refine RF.out.mono ?_
  rintro e w1 ⟨rfl, hb1⟩
  have HB1 := hide hb1
  clear RF hb1
  go_wp2_with fail
  clear hgt hgt2
  go_loopw [6, 7, 8, 9] (fun u y nx i wr => ∃ e : Nat, 2 ≤ e ∧ e ≤ P ∧ i = .int .i64 e ∧ nx = .int .i64 ((tkl T e).length : Nat) ∧ Hid ((frl T e).length ≤ N) ∧ wr.ownsRow w.heap.size 3 1 u (frl T e).length (nats (frl T e)) ∧ wr.ownsRow w.heap.size 3 1 y (rng e).length (nats (rng e)) ∧ Hid (∀ k, u.ownBlock = some k → y.ownBlock ≠ some k) ∧ Below w.heap.size w wr) (fun _ _ _ i _ => P - (intOf i).toNat)
  case atStart => exact ⟨2, Nat.le_refl _, by omega, rfl, by rw [tkl_two]; rfl, by show _ ≤ _; rw [frl_two HOK.out.t0 HOK.out.t1]; exact Nat.zero_le _, by rw [frl_two HOK.out.t0 HOK.out.t1]; exact World.ownsRow_nil _ _ _ _, World.ownsRow_nil _ _ _ _, fun k h => by simp [Value.ownBlock] at h, HB1.out⟩
  case round =>
    obtain ⟨e, he2, heP, rfl, rfl, HLE, hu, hy, HDJ, hbw⟩ := hrel
    obtain ⟨ua, uc, rfl, -⟩ := owns_form hu
    obtain ⟨ya, yc, rfl, -⟩ := owns_form hy
    have c0 := (HCX.out wr hbw).1
    have c1 := (HCX.out wr hbw).2
    have htl := tkl_le T e
    have hfl := frl_le T e
    have hrl := rng_len e
    by_cases hgo : e < P ∧ (frl T e).length < N
    · obtain ⟨hlt, hll⟩ := hgo
      obtain ⟨HX1, HX2⟩ := tkl_next T he2 hlt
      have heI : (e : Int) < (P : Int) := by omega
      have hlI : ((frl T e).length : Int) < (N : Int) := by omega
      obtain ⟨nx, hnx⟩ : ∃ nx, nx = (tkl T e).length := ⟨_, rfl⟩
      obtain ⟨L1, hL1⟩ : ∃ L1, L1 = (frl T e).length := ⟨_, rfl⟩
      obtain ⟨L2, hL2⟩ : ∃ L2, L2 = (rng e).length := ⟨_, rfl⟩
      have HNX := hide hnx
      have HL1 := hide hL1
      have HL2 := hide hL2
      have HU := hide hu
      have HY := hide hy
      have HBW := hide hbw
      rw [← hL1] at hll hlI hfl HU
      rw [← hL2] at HY hrl
      rw [← hnx] at htl
      rw [← hL1, ← hL2, ← hnx]
      have hL2b : L2 ≤ 1048576 := by omega
      rw [← hL1, ← hL2] at HDJ
      clear hu hy hbw hL1 hL2 hrl
      cases hT : T e with
      | true =>
        obtain ⟨hkl, hxe⟩ := HX1 hT
        have HF1 : Hid (frl T (e + 1) = frl T e) := by show _ = _; rw [frl, hT]; simp
        have HT1 : Hid ((tkl T (e + 1)).length = nx + 1) := by show _ = _; rw [tkl_succ, hT, List.length_append, ← HNX.out]; simp [he2]
        obtain ⟨g, hg, ck⟩ := HCK.out wr HBW.out _ hkl
        rw [hxe, ← hnx] at ck
        rw [← hnx, ← HN.out] at hkl
        subst hg
        obtain ⟨g2, cp2, w2, hrun, ho2, hon2, hat2⟩ := push_i (e : Int) HY.out (by have := HBW.out.size; omega) (by omega)
        have HB2 : Hid (Below w.heap.size w w2) := below_only HBW.out hon2 (fun k hk => (owns_blk HY.out k hk).1) HBW.out.size
        have HU2 : Hid (w2.ownsRow w.heap.size 3 1 (.slice ua L1 uc) L1 (nats (frl T (e + 1)))) := by
          show World.ownsRow _ _ _ _ _ _ _
          rw [HF1.out]; exact owns_only HU.out hon2 (fun k hk => HDJ.out k hk)
        have HY2 : Hid (w2.ownsRow w.heap.size 3 1 (.slice (some ⟨g2, 0, none⟩) (L2 + 1) cp2) (L2 + 1) (nats (rng (e + 1)))) := by
          show World.ownsRow _ _ _ _ _ _ _
          rw [rng_succ he2, nats_append]; exact ho2
        have HR1 : Hid ((rng (e + 1)).length = L2 + 1) := by show _ = _; rw [rng_succ he2, List.length_append, ← HL2.out]; rfl
        have HDJ2 : Hid (∀ k, (Value.slice ua L1 uc).ownBlock = some k → (Value.slice (some ⟨g2, 0, none⟩) (L2 + 1) cp2).ownBlock ≠ some k) := fun k hk hk2 => by
          have : g2 = k := by simpa [Value.ownBlock] using hk2
          subst this
          rcases hat2 with h | h
          · exact HDJ.out g2 hk h
          · have := (owns_blk HU.out g2 hk).2.1; omega
        have hnI : (nx : Int) < (n : Int) := by omega
        have heq : ((e : Int) == (e : Int)) = true := by simp
        have HLE2 : Hid (L1 ≤ N) := by show _ ≤ _; omega
        clear hnx hT HX1 HX2 ho2 hon2 hat2 hxe HLE HDJ
        go_wp2_with (first | (at_builtin; refine wpList_append_run 28 rfl (.tmp 55) (.tmp 57) rfl rfl _ _ rfl rfl _ _ hrun ?_))
        go_roundw
        case rel => exact ⟨e + 1, by omega, by omega, by go_num, by rw [HT1.out]; go_num, by show _ ≤ _; rw [HF1.out, ← HL1.out]; exact HLE2.out, by have h := HU2.out; rw [HF1.out, ← HL1.out] at *; exact h, by rw [HR1.out]; exact HY2.out, HDJ2, HB2.out⟩
        case measure => simp [intOf]; omega
      | false =>
        have HX3 := HX2 hT
        have HF1 : Hid (frl T (e + 1) = frl T e ++ [e]) := by show _ = _; rw [frl, hT]; rfl
        have HT1 : Hid ((tkl T (e + 1)).length = nx) := by show _ = _; rw [tkl_succ, hT, List.length_append, ← HNX.out]; simp
        obtain ⟨g1, cp1, w1, hrun1, ho1, hon1, hat1⟩ := push_i (e : Int) HU.out (by have := HBW.out.size; omega) (by omega)
        have hb1 : Below w.heap.size w w1 := below_only HBW.out hon1 (fun k hk => (owns_blk HU.out k hk).1) HBW.out.size
        have hy1 := owns_only HY.out hon1 (fun k hk hk2 => HDJ.out k hk2 hk)
        obtain ⟨g2, cp2, w2, hrun2, ho2, hon2, hat2⟩ := push_i (e : Int) hy1 (by have := hb1.size; omega) (by omega)
        have HB2 : Hid (Below w.heap.size w w2) := below_only hb1 hon2 (fun k hk => (owns_blk hy1 k hk).1) hb1.size
        have hgne : ∀ k, (Value.slice ya L2 yc).ownBlock = some k → k ≠ g1 := fun k hk e2 => by
          subst e2
          rcases hat1 with h | h
          · exact HDJ.out _ h hk
          · have := (owns_blk HY.out _ hk).2.1; omega
        have HU2 : Hid (w2.ownsRow w.heap.size 3 1 (.slice (some ⟨g1, 0, none⟩) (L1 + 1) cp1) (L1 + 1) (nats (frl T (e + 1)))) := by
          show World.ownsRow _ _ _ _ _ _ _
          rw [HF1.out, nats_append]
          exact owns_only ho1 hon2 (fun k hk hk2 => hgne k hk2 (by simpa [Value.ownBlock] using hk.symm))
        have HY2 : Hid (w2.ownsRow w.heap.size 3 1 (.slice (some ⟨g2, 0, none⟩) (L2 + 1) cp2) (L2 + 1) (nats (rng (e + 1)))) := by
          show World.ownsRow _ _ _ _ _ _ _
          rw [rng_succ he2, nats_append]; exact ho2
        have HR1 : Hid ((rng (e + 1)).length = L2 + 1) := by show _ = _; rw [rng_succ he2, List.length_append, ← HL2.out]; rfl
        have HFL : Hid ((frl T (e + 1)).length = L1 + 1) := by show _ = _; rw [HF1.out, List.length_append, ← HL1.out]; rfl
        have HDJ2 : Hid (∀ k, (Value.slice (some ⟨g1, 0, none⟩) (L1 + 1) cp1).ownBlock = some k → (Value.slice (some ⟨g2, 0, none⟩) (L2 + 1) cp2).ownBlock ≠ some k) := fun k hk hk2 => by
          have e1 : g1 = k := by simpa [Value.ownBlock] using hk
          have e2 : g2 = k := by simpa [Value.ownBlock] using hk2
          rcases hat2 with h | h
          · exact hgne g2 h (by omega)
          · have := (owns_blk ho1 g1 rfl).2.1; omega
        have hllN : L1 + 1 ≤ N := by omega
        have d0 := (HCX.out w1 hb1).1
        by_cases hnn : nx < n
        · have hkl : (tkl T e).length < (tkl T P).length := by rw [← HNX.out, ← HN.out]; exact hnn
          obtain ⟨g, hg, ck⟩ := HCK.out wr HBW.out _ hkl
          have hxne := HX3 hkl
          generalize (tkl T P)[(tkl T e).length] = x at ck hxne
          rw [← hnx] at ck
          have heq : ((x : Int) == (e : Int)) = false := by simp; omega
          subst hg
          have hnI : (nx : Int) < (n : Int) := by omega
          clear hnx hT HX1 HX2 HX3 ho1 ho2 hon1 hon2 hat1 hat2 hxne HLE HDJ hkl hb1 hy1 hgne
          go_wp2_with (first | (at_builtin; refine wpList_append_run 28 rfl (.tmp 51) (.tmp 53) rfl rfl _ _ rfl rfl _ _ hrun1 ?_) | (at_builtin; refine wpList_append_run 28 rfl (.tmp 55) (.tmp 57) rfl rfl _ _ rfl rfl _ _ hrun2 ?_))
          go_roundw
          case rel => exact ⟨e + 1, by omega, by omega, by go_num, by rw [HT1.out], by show _ ≤ _; rw [HFL.out]; exact hllN, by rw [HFL.out]; exact HU2.out, by rw [HR1.out]; exact HY2.out, HDJ2, HB2.out⟩
          case measure => simp [intOf]; omega
        · have hnI : ¬ (nx : Int) < (n : Int) := by omega
          clear hnx hT HX1 HX2 HX3 ho1 ho2 hon1 hon2 hat1 hat2 HLE HDJ hb1 hy1 hgne
          go_wp2_with (first | (at_builtin; refine wpList_append_run 28 rfl (.tmp 51) (.tmp 53) rfl rfl _ _ rfl rfl _ _ hrun1 ?_) | (at_builtin; refine wpList_append_run 28 rfl (.tmp 55) (.tmp 57) rfl rfl _ _ rfl rfl _ _ hrun2 ?_))
          go_roundw
          case rel => exact ⟨e + 1, by omega, by omega, by go_num, by rw [HT1.out], by show _ ≤ _; rw [HFL.out]; exact hllN, by rw [HFL.out]; exact HU2.out, by rw [HR1.out]; exact HY2.out, HDJ2, HB2.out⟩
          case measure => simp [intOf]; omega
    · have HLOW : Hid (frl T e = lowL T P N) := by
        show _ = _
        obtain ⟨r, hr⟩ := frl_pre T heP
        have hl := HLE.out
        have hnf := HNF.out
        unfold lowL
        by_cases heq : (frl T e).length = N
        · rw [hr, ← heq, List.take_left]
        · have : e = P := by omega
          subst this
          rw [List.take_of_length_le (by omega)]
      have HTK : Hid (tkl (updL T (lowL T P N)) P = rng e ++ (tkl T P).drop (tkl T e).length) := by
        show _ = _
        rw [← HLOW.out]; exact tkl_taken heP
      have htn : (tkl T e).length ≤ n := by
        obtain ⟨R, e1, _, _⟩ := tkl_cut T e P heP
        rw [HN.out, e1]; simp
      have hlo := HLE.out
      have hstop : ¬ (e : Int) < (P : Int) ∨ ((e : Int) < (P : Int) ∧ ¬ ((frl T e).length : Int) < (N : Int)) := by omega
      obtain ⟨nx, hnx⟩ : ∃ nx, nx = (tkl T e).length := ⟨_, rfl⟩
      obtain ⟨L1, hL1⟩ : ∃ L1, L1 = (frl T e).length := ⟨_, rfl⟩
      obtain ⟨L2, hL2⟩ : ∃ L2, L2 = (rng e).length := ⟨_, rfl⟩
      rw [HLOW.out] at hu hL1
      have HL1 := hide hL1
      have HL2 := hide hL2
      have HU := hide hu
      have HY := hide hy
      have HBW := hide hbw
      rw [HLOW.out] at hstop hlo hfl HDJ
      rw [← hL1] at hstop HU hlo hfl HDJ
      rw [← hL2] at HY HDJ
      rw [← hnx] at HTK htn
      have hg0 : Hid (∀ (h : (frl T e).length = L1), True) := fun _ => trivial
      rw [HLOW.out]
      rw [← hL1, ← hL2, ← hnx]
      have hL2b : L2 ≤ 1048576 := by omega
      clear hu hy hbw hL1 hL2 hrl hgo hnx htl HLE HLOW hg0
      generalize wr = w1 at *
      rcases hstop with hs1 | ⟨hs1, hs2⟩
      · skip
        go_wp2_with fail
        go_loopw [7, 10] (fun y i wr => ∃ q : Nat, nx ≤ q ∧ q ≤ n ∧ i = .int .i64 q ∧ wr.ownsRow w.heap.size 3 1 y (L2 + (q - nx)) (nats (rng e ++ ((tkl T P).drop nx).take (q - nx))) ∧ wr.ownsRow w.heap.size 3 1 (.slice ua L1 uc) L1 (nats (lowL T P N)) ∧ Hid (∀ k, (Value.slice ua L1 uc).ownBlock = some k → y.ownBlock ≠ some k) ∧ Below w.heap.size w wr) (fun _ i _ => n - (intOf i).toNat)
        case atStart => exact ⟨nx, Nat.le_refl _, htn, rfl, by rw [Nat.sub_self, List.take_zero, List.append_nil, Nat.add_zero]; exact HY.out, HU.out, HDJ, HBW.out⟩
        case round =>
          clear HY HU HDJ HBW c0 c1
          obtain ⟨q, hq1, hq2, rfl, hy, hu, HDJ, hbw⟩ := hrel
          have c1 := (HCX.out wr hbw).2
          obtain ⟨ya, yc, rfl, -⟩ := owns_form hy
          by_cases hlt : q < n
          · have hkl : q < (tkl T P).length := by rw [← HN.out]; exact hlt
            obtain ⟨g, hg, ck⟩ := HCK.out wr hbw q hkl
            subst hg
            have HSN : Hid (((tkl T P).drop nx).take (q + 1 - nx) = ((tkl T P).drop nx).take (q - nx) ++ [(tkl T P)[q]]) := by
              show _ = _
              rw [show q + 1 - nx = (q - nx) + 1 by omega, List.take_succ_eq_append_getElem (by simp; omega), List.getElem_drop]
              congr 2
              simp [show nx + (q - nx) = q by omega]
            generalize (tkl T P)[q] = x at *
            obtain ⟨g2, cp2, w2, hrun, ho2, hon2, hat2⟩ := push_i (x : Int) hy (by have := hbw.size; omega) (by omega)
            have HB2 : Hid (Below w.heap.size w w2) := below_only hbw hon2 (fun k hk => (owns_blk hy k hk).1) hbw.size
            have HU2 := hide (owns_only hu hon2 (fun k hk => HDJ.out k hk))
            have HY2 : Hid (w2.ownsRow w.heap.size 3 1 (.slice (some ⟨g2, 0, none⟩) (L2 + (q - nx) + 1) cp2) (L2 + (q - nx) + 1) (nats (rng e ++ ((tkl T P).drop nx).take (q + 1 - nx)))) := by
              show World.ownsRow _ _ _ _ _ _ _
              rw [HSN.out, ← List.append_assoc, nats_append (rng e ++ _)]; exact ho2
            have HDJ2 : Hid (∀ k, (Value.slice ua L1 uc).ownBlock = some k → (Value.slice (some ⟨g2, 0, none⟩) (L2 + (q - nx) + 1) cp2).ownBlock ≠ some k) := fun k hk hk2 => by
              have : g2 = k := by simpa [Value.ownBlock] using hk2
              subst this
              rcases hat2 with h | h
              · exact HDJ.out g2 hk h
              · have := (owns_blk hu g2 hk).2.1; omega
            have hqI : (q : Int) < (n : Int) := by omega
            clear hy hu HDJ hbw ho2 hon2 hat2 hkl
            go_wp2_with (first | (at_builtin; refine wpList_append_run 28 rfl (.tmp 69) (.tmp 77) rfl rfl _ _ rfl rfl _ _ hrun ?_))
            go_roundw
            case rel => exact ⟨q + 1, by omega, by omega, by go_num, by rw [show L2 + (q + 1 - nx) = L2 + (q - nx) + 1 by omega]; exact HY2.out, HU2.out, HDJ2, HB2.out⟩
            case measure => simp [intOf]; omega
          · have hqe : q = n := by omega
            have hqI : ¬ (q : Int) < (n : Int) := by omega
            obtain ⟨L3, hL3⟩ : ∃ L3, L3 = L2 + (q - nx) := ⟨_, rfl⟩
            rw [← hL3] at hy HDJ ⊢
            have hyy : wr.ownsRow w.heap.size 3 1 (.slice ya L3 yc) L3 (nats (tkl (updL T (lowL T P N)) P)) := by
              have h := hy
              rw [hqe, List.take_of_length_le (by rw [List.length_drop, ← HN.out]; omega), ← HTK.out] at h
              exact h
            have HS := hide (ref_store H.out hbw hyy)
            rw [← HN.out] at HS
            have HR := H.out.below hbw
            have cz := HR.frozen 1
            have HLB := hide H.out.ltb
            have HC1 : Hid ((wr.setCell ⟨b, 1, none⟩ (.slice ya L3 yc)).cell? ⟨b, 1, none⟩ = some (.slice ya L3 yc)) := by
              show _ = _
              rw [cell_of_row _ b 1 _ _ _ (set_blk HR.blk 1 _)]; simp
            have HUU : Hid ((wr.setCell ⟨b, 1, none⟩ (.slice ya L3 yc)).ownsRow w.heap.size 3 1 (.slice ua L1 uc) L1 (nats (lowL T P N))) :=
              owns_only hu (Only.set (F := fun k => k = b) rfl _ _ _) (fun k hk e => by have := (owns_blk hu k hk).1; have := HLB.out; have : k = b := e; omega)
            clear hy hu hbw HR hL3 hyy H hqe
            go_wp2
            go_ret2
            refine ⟨_, rfl, ?_, HS.out, fun v' k hv' hk => ?_⟩
            · show World.ownsRow _ _ _ _ _ (lowL T P N).length _
              rw [← HL1.out]; exact HUU.out
            · have hvv := hv'
              rw [HC1.out] at hvv
              cases hvv
              exact HDJ.out k hk
      · skip
        go_wp2_with fail
        go_loopw [7, 10] (fun y i wr => ∃ q : Nat, nx ≤ q ∧ q ≤ n ∧ i = .int .i64 q ∧ wr.ownsRow w.heap.size 3 1 y (L2 + (q - nx)) (nats (rng e ++ ((tkl T P).drop nx).take (q - nx))) ∧ wr.ownsRow w.heap.size 3 1 (.slice ua L1 uc) L1 (nats (lowL T P N)) ∧ Hid (∀ k, (Value.slice ua L1 uc).ownBlock = some k → y.ownBlock ≠ some k) ∧ Below w.heap.size w wr) (fun _ i _ => n - (intOf i).toNat)
        case atStart => exact ⟨nx, Nat.le_refl _, htn, rfl, by rw [Nat.sub_self, List.take_zero, List.append_nil, Nat.add_zero]; exact HY.out, HU.out, HDJ, HBW.out⟩
        case round =>
          clear HY HU HDJ HBW c0 c1
          obtain ⟨q, hq1, hq2, rfl, hy, hu, HDJ, hbw⟩ := hrel
          have c1 := (HCX.out wr hbw).2
          obtain ⟨ya, yc, rfl, -⟩ := owns_form hy
          by_cases hlt : q < n
          · have hkl : q < (tkl T P).length := by rw [← HN.out]; exact hlt
            obtain ⟨g, hg, ck⟩ := HCK.out wr hbw q hkl
            subst hg
            have HSN : Hid (((tkl T P).drop nx).take (q + 1 - nx) = ((tkl T P).drop nx).take (q - nx) ++ [(tkl T P)[q]]) := by
              show _ = _
              rw [show q + 1 - nx = (q - nx) + 1 by omega, List.take_succ_eq_append_getElem (by simp; omega), List.getElem_drop]
              congr 2
              simp [show nx + (q - nx) = q by omega]
            generalize (tkl T P)[q] = x at *
            obtain ⟨g2, cp2, w2, hrun, ho2, hon2, hat2⟩ := push_i (x : Int) hy (by have := hbw.size; omega) (by omega)
            have HB2 : Hid (Below w.heap.size w w2) := below_only hbw hon2 (fun k hk => (owns_blk hy k hk).1) hbw.size
            have HU2 := hide (owns_only hu hon2 (fun k hk => HDJ.out k hk))
            have HY2 : Hid (w2.ownsRow w.heap.size 3 1 (.slice (some ⟨g2, 0, none⟩) (L2 + (q - nx) + 1) cp2) (L2 + (q - nx) + 1) (nats (rng e ++ ((tkl T P).drop nx).take (q + 1 - nx)))) := by
              show World.ownsRow _ _ _ _ _ _ _
              rw [HSN.out, ← List.append_assoc, nats_append (rng e ++ _)]; exact ho2
            have HDJ2 : Hid (∀ k, (Value.slice ua L1 uc).ownBlock = some k → (Value.slice (some ⟨g2, 0, none⟩) (L2 + (q - nx) + 1) cp2).ownBlock ≠ some k) := fun k hk hk2 => by
              have : g2 = k := by simpa [Value.ownBlock] using hk2
              subst this
              rcases hat2 with h | h
              · exact HDJ.out g2 hk h
              · have := (owns_blk hu g2 hk).2.1; omega
            have hqI : (q : Int) < (n : Int) := by omega
            clear hy hu HDJ hbw ho2 hon2 hat2 hkl
            go_wp2_with (first | (at_builtin; refine wpList_append_run 28 rfl (.tmp 69) (.tmp 77) rfl rfl _ _ rfl rfl _ _ hrun ?_))
            go_roundw
            case rel => exact ⟨q + 1, by omega, by omega, by go_num, by rw [show L2 + (q + 1 - nx) = L2 + (q - nx) + 1 by omega]; exact HY2.out, HU2.out, HDJ2, HB2.out⟩
            case measure => simp [intOf]; omega
          · have hqe : q = n := by omega
            have hqI : ¬ (q : Int) < (n : Int) := by omega
            obtain ⟨L3, hL3⟩ : ∃ L3, L3 = L2 + (q - nx) := ⟨_, rfl⟩
            rw [← hL3] at hy HDJ ⊢
            have hyy : wr.ownsRow w.heap.size 3 1 (.slice ya L3 yc) L3 (nats (tkl (updL T (lowL T P N)) P)) := by
              have h := hy
              rw [hqe, List.take_of_length_le (by rw [List.length_drop, ← HN.out]; omega), ← HTK.out] at h
              exact h
            have HS := hide (ref_store H.out hbw hyy)
            rw [← HN.out] at HS
            have HR := H.out.below hbw
            have cz := HR.frozen 1
            have HLB := hide H.out.ltb
            have HC1 : Hid ((wr.setCell ⟨b, 1, none⟩ (.slice ya L3 yc)).cell? ⟨b, 1, none⟩ = some (.slice ya L3 yc)) := by
              show _ = _
              rw [cell_of_row _ b 1 _ _ _ (set_blk HR.blk 1 _)]; simp
            have HUU : Hid ((wr.setCell ⟨b, 1, none⟩ (.slice ya L3 yc)).ownsRow w.heap.size 3 1 (.slice ua L1 uc) L1 (nats (lowL T P N))) :=
              owns_only hu (Only.set (F := fun k => k = b) rfl _ _ _) (fun k hk e => by have := (owns_blk hu k hk).1; have := HLB.out; have : k = b := e; omega)
            clear hy hu hbw HR hL3 hyy H hqe
            go_wp2
            go_ret2
            refine ⟨_, rfl, ?_, HS.out, fun v' k hv' hk => ?_⟩
            · show World.ownsRow _ _ _ _ _ (lowL T P N).length _
              rw [← HL1.out]; exact HUU.out
            · have hvv := hv'
              rw [HC1.out] at hvv
              cases hvv
              exact HDJ.out k hk

end Go.Proofs.YtdghlblgmihbpaaDoor
