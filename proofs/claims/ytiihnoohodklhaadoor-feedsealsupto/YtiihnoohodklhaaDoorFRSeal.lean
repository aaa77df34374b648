import Derived.Test.YtiihnoohodklhaaDoorFRsum2
import Derived.Test.YtiihnoohodklhaaDoorFRef
import Derived.Test.YtiihnoohodklhaaDoorFSeal
import Derived.Test.YtiihnoohodklhaaDoorAP
namespace Go.Proofs.YtiihnoohodklhaaDoor
open Go.RowKit
attribute [local go_sem ↓] Go.wp_at_zero Go.wp_at_succ

/-- A push within a region that draws its order. -/
theorem step_push {ops : Array Oper} {o : Oper} {a : Act} {K : Act → World → Prop} {Q : Exit → Act → World → Prop} {E : Prop} (base : Nat) (x : Option Addr) (k c : Nat) (l : List Ch) (y : Ch) (V : World) (hgd : o.guard = none) (d xs : Operand)
    (ho : o.op = .call { callee := .builtin .append, args := #[d, xs], argTypes := #[23, 23] }) (hty : o.type = 23) (hd : a.eval d = .slice x k c) (hx : a.eval xs = .slice (some ⟨V.heap.size, 0, none⟩) 1 1)
    (hk : l.length = k) (hch : ChO V base (.slice x k c) l) (hn : (k + 1) * 56 ≤ 140737488355328) (hb : base ≤ V.heap.size)
    (h : ∀ a' c' w', ChO w' base (.slice a' (k + 1) c') (l ++ [y]) → Below base V w' → K (a.put o.dst (.slice a' (k + 1) c')) w') :
    if Region.wanted o (yielded ops a.tmps) = true then Oper.wp Tryd.prog o a (V.alloc (.cells #[.string y.1, .bool y.2.had, .bool y.2.has, .string y.2.old, .string y.2.new] 39)) K Q else E := by
  obtain ⟨a2, c2, w2, hrun, ho2, hgr⟩ := push_chs base (.slice x k c) l y 39 V k hk hch hn hb
  exact step_app 23 hgd d xs ho hty _ _ hd hx _ _ hrun (h _ _ _ ho2 ((((Below.refl base V).alloc hb _).grown hgr (Nat.le_trans hb (below_new V _).size) (fun q hq => (World.ownsRow.lt hch q hq).1))))
/-- How the document's Seal ends. -/
def RSealPost (w : World) (fr tt : Nat) (l : List Ch) (e : Ending) (w' : World) : Prop :=
  ∃ x c, e = .returned (.tuple #[.agg #[.int .u64 (sN (sOk fr tt l) fr), .int .u64 (sN (sOk fr tt l) tt), .slice x (sL fr tt l).length c, .int .u32 (sN (sOk fr tt l) (crcV (batB fr tt l)))], .int .i64 (nF (fK fr tt l))]) ∧ ChO w' w.heap.size (.slice x (sL fr tt l).length c) (sL fr tt l) ∧ Below w.heap.size w w'
/-- A refusal: the result's box lies as it was. -/
theorem rseal_no1 {w W : World} {x : Value} (tmps : Array Value) (hr : RowAt W w.heap.size #[.int .u64 0, .int .u64 0, .slice none 0 0, .int .u32 0] 29)
    (h6 : tmps.getD 6 undef = .pointer (some ⟨w.heap.size, 0, none⟩)) (h7 : tmps.getD 7 undef = x) :
    (results Tryd.f6 tmps).run Tryd.prog W = .ok (.tuple #[.agg #[.int .u64 0, .int .u64 0, .slice none 0 0, .int .u32 0], x]) W := by
  have := results_row_tmp (P := Tryd.prog) (fn := Tryd.f6) (p := 6) (u := 7) (ty := 29) rfl tmps _ w.heap.size 29 _ (0, 0) _ h6 hr Tryd.underlying29 rfl (by kernel_rfl)
  rw [this, h7]
theorem rseal_no2 {w W : World} {fr tt : Nat} {l : List Ch} {k : Nat} {x : Int} (hk : fK fr tt l = k) (hk0 : k ≠ 0) (hx : nF k = x) (hb : Below w.heap.size w W) :
    RSealPost w fr tt l (.returned (.tuple #[.agg #[.int .u64 0, .int .u64 0, .slice none 0 0, .int .u32 0], .int .i64 x])) W := by
  have h1 : sOk fr tt l = false := by simp [sOk, hk, hk0]
  have h2 : sL fr tt l = [] := by simp [sL, h1]
  exact ⟨none, 0, by rw [h1, h2, hk, hx]; rfl, by rw [h2]; exact ChO.nil _ _, hb⟩
theorem below4 {w W : World} (hb : Below w.heap.size w W) (x0 x1 x2 x3 : Value) : Below w.heap.size w ((((W.setCell ⟨w.heap.size, 0, none⟩ x0).setCell ⟨w.heap.size, 1, none⟩ x1).setCell ⟨w.heap.size, 2, none⟩ x2).setCell ⟨w.heap.size, 3, none⟩ x3) :=
  ((((hb.setCell (p := ⟨w.heap.size, 0, none⟩) (Nat.le_refl _) _).setCell (p := ⟨w.heap.size, 1, none⟩) (Nat.le_refl _) _).setCell (p := ⟨w.heap.size, 2, none⟩) (Nat.le_refl _) _).setCell (p := ⟨w.heap.size, 3, none⟩) (Nat.le_refl _) _)
set_option maxHeartbeats 32000000 in
theorem rseal_any (fr tt : Nat) (v : Value) (l : List Ch) (w : World) (hfr : fr < 18446744073709551616) (htt : tt < 18446744073709551616) (hm : l.length ≤ 1048576) (hs : ∀ c ∈ l, c.1.size ≤ 1048576 ∧ c.2.old.size ≤ 1048576 ∧ c.2.new.size ≤ 1048576) (hr : ChR w v l) :
    Calls Tryd.prog 6 #[.int .u64 (fr : Int), .int .u64 (tt : Int), v] w (RSealPost w fr tt l) := by
  obtain ⟨W1, hW1⟩ : ∃ W1, w.alloc (.cells #[.int .u64 0, .int .u64 0, .slice none 0 0, .int .u32 0] 29) = W1 := ⟨_, rfl⟩
  have x1 : RowAt W1 w.heap.size #[.int .u64 0, .int .u64 0, .slice none 0 0, .int .u32 0] 29 := by rw [← hW1]; exact RowAt.new w _ _
  have hb1 : Below w.heap.size w W1 := by rw [← hW1]; exact below_new w _
  have HSU := hide (fun W (hb : Below w.heap.size w W) => rsum_any fr tt v l W hfr htt hm hs (hr.below hb))
  have hkr : KeyR 5 w v (l.map Prod.fst) := hr.keys
  obtain ⟨a, cap, rfl⟩ := hr.form
  obtain ⟨n, hn⟩ : ∃ n, n = l.length := ⟨_, rfl⟩
  rw [← hn] at hr hm HSU hkr ⊢
  have HK := hide hkr
  have HR := hide hr
  have HN := hide hn
  have HB1 := hide hb1
  have HX1 := hide x1
  have HW1 := hide hW1
  have HFK : Hid (fK fr tt l = if tt ≤ fr ∨ l.any notC = true then 1 else if riseB l = false then 2 else if l.any isO = true then 3 else 0) := rfl
  have HI := hide (riseB_idx l)
  clear hn hr hs hfr htt hb1 x1 hW1 hkr
  by_cases htf : tt ≤ fr
  · have htI : (tt : Int) ≤ (fr : Int) := by omega
    have HF1 : Hid (fK fr tt l = 1) := by show _ = _; rw [HFK.out, if_pos (Or.inl htf)]
    have d0 := HX1.out.cell 0 (by simp)
    have d1 := HX1.out.cell 1 (by simp)
    have d2 := HX1.out.cell 2 (by simp)
    have d3 := HX1.out.cell 3 (by simp)
    have f0 := HX1.out.free 0
    have f1 := HX1.out.free 1
    have f2 := HX1.out.free 2
    have f3 := HX1.out.free 3
    clear HSU HK HFK HI
    go_enter Tryd.func6, Tryd.ntmps6
    go_wp2_with fail
    rw [HW1.out]
    go_wp2
    refine bodyPost_ret (rseal_no1 _ HX1.out rfl rfl) rfl ?_
    exact rseal_no2 HF1.out (by decide) rfl HB1.out
  · have htI : ¬ (tt : Int) ≤ (fr : Int) := by omega
    have HTF := hide htf
    clear htf
    obtain ⟨Q, hQ⟩ : ∃ Q : Ending → World → Prop, Q = RSealPost w fr tt l := ⟨_, rfl⟩
    rw [← hQ]
    have HQ := hide hQ
    clear hQ
    go_enter Tryd.func6, Tryd.ntmps6
    go_wp2_with fail
    rw [HW1.out]
    go_wp2
    go_loopw [8] (fun i wr => ∃ k : Nat, k ≤ n ∧ i = .int .i64 k ∧ (∀ j (h : j < l.length), j < k → notC l[j] = false) ∧ RowAt wr w.heap.size #[.int .u64 0, .int .u64 0, .slice none 0 0, .int .u32 0] 29 ∧ Below w.heap.size w wr) (fun i _ => n - (intOf i).toNat)
    case atStart => exact ⟨0, Nat.zero_le _, rfl, fun j _ h => absurd h (Nat.not_lt_zero _), HX1.out, HB1.out⟩
    case round =>
      clear HX1 HB1 HW1
      obtain ⟨k, hk, rfl, hpre, hx, hbw⟩ := hrel
      have HX := hide hx
      have HP := hide hpre
      have HB := hide hbw
      by_cases hlt : k < n
      · have hkl : k < l.length := by have := HN.out; omega
        obtain ⟨a9, cap9, he, _, _, hc⟩ := HR.out.below hbw
        obtain ⟨g, o, ha, c0, c1, c2, c3, c4⟩ := hc k (by have := HN.out; omega)
        obtain ⟨rfl, -, rfl⟩ : a = a9 ∧ n = l.length ∧ cap = cap9 := by simpa using he
        subst ha
        have HF := hide (fun W => rmay_any l[k] W)
        have HNX : Hid (notC l[k] = false → ∀ j (h : j < l.length), j < k + 1 → notC l[j] = false) := fun hl j h hj => by
          by_cases he : j = k
          · subst he; exact hl
          · exact HP.out j h (by omega)
        have HAT : Hid (notC l[k] = true → fK fr tt l = 1) := fun hl => by rw [HFK.out, if_pos (Or.inr (List.any_eq_true.2 ⟨l[k], List.getElem_mem _, hl⟩))]
        obtain ⟨p, hp⟩ : ∃ p, p = l[k] := ⟨_, rfl⟩
        rw [← hp] at c0 c1 c2 c3 c4 HF HNX HAT
        have hltI : (k : Int) < (n : Int) := by omega
        have j0 : (0 : Int) ≤ (k : Int) := by omega
        simp only [chA] at HF
        clear hp hbw hc he hx hpre HP
        cases hb : mayCh p with
        | true =>
          rw [hb] at HF
          have HNX2 := hide (HNX.out (by simp [notC, hb]))
          clear HNX HAT hb
          go_wp2_with fail
          refine (HF.out _).mono ?_
          rintro e w1 ⟨rfl, hb1⟩
          have HB1 := hide (Below.next HB.out hb1)
          have HX1 := hide (HX.out.below hb1)
          clear hb1 HB HX HF c0 c1 c2 c3 c4
          go_wp2
          go_roundw
          case rel => exact ⟨k + 1, by omega, by go_num, HNX2.out, HX1.out, HB1.out⟩
          case measure => simp [intOf]; omega
        | false =>
          rw [hb] at HF
          have HF1 := hide (HAT.out (by simp [notC, hb]))
          clear HNX HAT hb
          go_wp2_with fail
          refine (HF.out _).mono ?_
          rintro e w1 ⟨rfl, hb1⟩
          have HB1 := hide (Below.next HB.out hb1)
          have x1 := HX.out.below hb1
          have HX1 := hide x1
          have d0 := x1.cell 0 (by simp)
          have d1 := x1.cell 1 (by simp)
          have d2 := x1.cell 2 (by simp)
          have d3 := x1.cell 3 (by simp)
          have f0 := x1.free 0
          have f1 := x1.free 1
          have f2 := x1.free 2
          have f3 := x1.free 3
          clear hb1 HB HX HF c0 c1 c2 c3 c4 x1
          go_wp2
          rw [HQ.out]
          refine bodyPost_ret (rseal_no1 (w := w) _ (HX1.out.all4 _ _ _ _) rfl rfl) rfl ?_
          exact rseal_no2 HF1.out (by decide) rfl (below4 HB1.out _ _ _ _)
      · have hltI : ¬ (k : Int) < (n : Int) := by omega
        have HNO : Hid (l.any notC = false) := by
          show _ = _
          cases hq : l.any notC with
          | false => rfl
          | true =>
            obtain ⟨q, hq1, hq2⟩ := List.any_eq_true.1 hq
            obtain ⟨j, hj, rfl⟩ := List.getElem_of_mem hq1
            rw [HP.out j hj (by have := HN.out; omega)] at hq2
            cases hq2
        have HF2 : Hid (fK fr tt l = if riseB l = false then 2 else if l.any isO = true then 3 else 0) := by show _ = _; rw [HFK.out, if_neg (by rw [HNO.out]; have := HTF.out; simp; omega)]
        clear hpre HP hx hbw hlt HFK HNO HTF
        go_wp2_with fail
        go_loopw [10] (fun i wr => ∃ q : Nat, 1 ≤ q ∧ q ≤ n + 1 ∧ i = .int .i64 (q : Int) ∧ (∀ j (h : j + 1 < l.length), j + 1 < q → ltK l[j].1 l[j + 1].1 = true) ∧ RowAt wr w.heap.size #[.int .u64 0, .int .u64 0, .slice none 0 0, .int .u32 0] 29 ∧ Below w.heap.size w wr) (fun i _ => n + 1 - (intOf i).toNat)
        case atStart => exact ⟨1, Nat.le_refl _, by omega, rfl, fun j _ hj => by omega, HX.out, HB.out⟩
        case round =>
          clear HX HB
          obtain ⟨q, hq1, hq, rfl, hall, hx, hbw⟩ := hrel
          have HALL := hide hall
          have HX := hide hx
          have HB := hide hbw
          clear hall
          by_cases hlt : q < n
          · have j1 : (q : Int) < (n : Int) := by omega
            have j0 : (0 : Int) ≤ (q : Int) := by omega
            obtain ⟨m, hmq⟩ : ∃ m : Nat, m + 1 = q := ⟨q - 1, by omega⟩
            have hwm : IntKind.i64.wrap ((q : Int) - 1) = (m : Int) := by rw [IntKind.wrap_i64]; omega
            have i1 : (m : Int) < (n : Int) := by omega
            have i0 : (0 : Int) ≤ (m : Int) := by omega
            have hql : q < l.length := by have := HN.out; omega
            obtain ⟨a9, cap9, he, hle, hn9, hc⟩ := HK.out.below hbw
            obtain ⟨rfl, -, rfl⟩ : a = a9 ∧ n = l.length ∧ cap = cap9 := by simpa using he
            obtain ⟨g, o, rfl, d1⟩ := hc q (by simpa using hql)
            obtain ⟨g', o', he', d0⟩ := hc m (by simp; omega)
            cases he'
            obtain ⟨k1, hk1⟩ : ∃ k, k = l[q].1 := ⟨_, rfl⟩
            obtain ⟨k0, hk0⟩ : ∃ k, k = (l[m]'(by omega)).1 := ⟨_, rfl⟩
            simp only [List.getElem_map] at d0 d1
            rw [← hk1] at d1
            rw [← hk0] at d0
            have HLT := hide hlt
            have HSTEP : Hid (ltK k0 k1 = true → ∀ j (h : j + 1 < l.length), j + 1 < q + 1 → ltK l[j].1 l[j + 1].1 = true) := fun h j hj hjq => by
              by_cases hjq' : j + 1 < q
              · exact HALL.out j hj hjq'
              · obtain rfl : j = m := by omega
                subst hmq
                rw [← hk0, ← hk1]; exact h
            have HNO : Hid (ltK k0 k1 = false → fK fr tt l = 2) := fun h => by
              rw [HF2.out, if_pos]
              cases hr : riseB l with
              | false => rfl
              | true =>
                have := (HI.out.1 hr) m (by omega)
                subst hmq
                rw [← hk0, ← hk1, h] at this
                cases this
            clear hc hn9 he hle hk1 hk0 hmq HALL hx hbw
            cases hl : ltK k0 k1 with
            | true =>
              have h1 : Op.bytesLess k0.toList k1.toList = true := hl
              have HS := hide (HSTEP.out hl)
              clear HSTEP HNO
              go_wp2_with fail
              go_quiet (fail)
              go_wp2
              go_roundw
              case rel => exact ⟨q + 1, by omega, by have := HLT.out; omega, by go_num, HS.out, HX.out.below (below_drewN2 (Below.refl _ _) _), Below.next HB.out (below_drewN2 (Below.refl _ _) _)⟩
              case measure => have := HLT.out; simp [intOf]; omega
            | false =>
              have HF1 := hide (HNO.out hl)
              have h3 : Op.bytesLess k0.toList k1.toList = false := hl
              clear HSTEP HNO
              go_wp2_with fail
              go_quiet (fail)
              have hbd : Below wr.heap.size wr (wr.drewN nq) := below_drewN2 (Below.refl _ wr) nq
              have HB1 := hide (Below.next HB.out hbd)
              have x1 := HX.out.below hbd
              generalize wr.drewN nq = W5 at *
              have HX1 := hide x1
              have d0 := x1.cell 0 (by simp)
              have d1 := x1.cell 1 (by simp)
              have d2 := x1.cell 2 (by simp)
              have d3 := x1.cell 3 (by simp)
              have f0 := x1.free 0
              have f1 := x1.free 1
              have f2 := x1.free 2
              have f3 := x1.free 3
              clear hbd x1 HB HX
              go_wp2
              rw [HQ.out]
              refine bodyPost_ret (rseal_no1 (w := w) _ (HX1.out.all4 _ _ _ _) rfl rfl) rfl ?_
              exact rseal_no2 HF1.out (by decide) rfl (below4 HB1.out _ _ _ _)
          · have j1 : ¬ (q : Int) < (n : Int) := by omega
            have HF3 : Hid (fK fr tt l = if l.any isO = true then 3 else 0) := by
              have hy : riseB l = true := HI.out.2 (fun j hj => HALL.out j hj (by have := HN.out; omega))
              show _ = _
              rw [HF2.out, hy]; rfl
            clear hx hbw HALL hlt HF2 HI HK
            go_wp2_with fail
            go_loopw [11] (fun i wr => ∃ k : Nat, k ≤ n ∧ i = .int .i64 k ∧ (∀ j (h : j < l.length), j < k → isO l[j] = false) ∧ RowAt wr w.heap.size #[.int .u64 0, .int .u64 0, .slice none 0 0, .int .u32 0] 29 ∧ Below w.heap.size w wr) (fun i _ => n - (intOf i).toNat)
            case atStart => exact ⟨0, Nat.zero_le _, rfl, fun j _ h => absurd h (Nat.not_lt_zero _), HX.out, HB.out⟩
            case round =>
              clear HX HB
              obtain ⟨k, hk, rfl, hpre, hx, hbw⟩ := hrel
              have HX := hide hx
              have HP := hide hpre
              have HB := hide hbw
              by_cases hlt : k < n
              · have hkl : k < l.length := by have := HN.out; omega
                obtain ⟨a9, cap9, he, _, _, hc⟩ := HR.out.below hbw
                obtain ⟨g, o, ha, c0, _⟩ := hc k (by have := HN.out; omega)
                obtain ⟨rfl, -, rfl⟩ : a = a9 ∧ n = l.length ∧ cap = cap9 := by simpa using he
                subst ha
                have HNX : Hid (isO l[k] = false → ∀ j (h : j < l.length), j < k + 1 → isO l[j] = false) := fun hl j h hj => by
                  by_cases he : j = k
                  · subst he; exact hl
                  · exact HP.out j h (by omega)
                have HAT : Hid (isO l[k] = true → fK fr tt l = 3) := fun hl => by rw [HF3.out, if_pos (List.any_eq_true.2 ⟨l[k], List.getElem_mem _, hl⟩)]
                obtain ⟨p, hp⟩ : ∃ p, p = l[k] := ⟨_, rfl⟩
                rw [← hp] at c0 HNX HAT
                obtain ⟨key, xv⟩ := p
                simp only at c0
                have hod := own_dec key
                have hltI : (k : Int) < (n : Int) := by omega
                have j0 : (0 : Int) ≤ (k : Int) := by omega
                clear hp hbw hc he hx hpre HP
                by_cases hb : key = ownB
                · have e1 : key.toList = [255, 102, 101, 101, 100] := by rw [hb]; decide +kernel
                  have HF1 := hide (HAT.out (by simp [isO, hb]))
                  have x1 := HX.out
                  have HX1 := hide x1
                  have d0 := x1.cell 0 (by simp)
                  have d1 := x1.cell 1 (by simp)
                  have d2 := x1.cell 2 (by simp)
                  have d3 := x1.cell 3 (by simp)
                  have f0 := x1.free 0
                  have f1 := x1.free 1
                  have f2 := x1.free 2
                  have f3 := x1.free 3
                  clear HNX HAT hb hod x1
                  go_wp2
                  rw [HQ.out]
                  refine bodyPost_ret (rseal_no1 (w := w) _ (HX1.out.all4 _ _ _ _) rfl rfl) rfl ?_
                  exact rseal_no2 HF1.out (by decide) rfl (below4 HB.out _ _ _ _)
                · have e0 : (key.toList == [255, 102, 101, 101, 100]) = false := by rw [hod]; exact decide_eq_false hb
                  have e1 : ¬ key.toList = [255, 102, 101, 101, 100] := fun h => by rw [h] at e0; cases e0
                  have HNX2 := hide (HNX.out (by simp [isO, hb]))
                  clear HNX HAT hb hod
                  go_wp2
                  go_roundw
                  case rel => exact ⟨k + 1, by omega, by go_num, HNX2.out, HX.out, HB.out⟩
                  case measure => simp [intOf]; omega
              · have hltI : ¬ (k : Int) < (n : Int) := by omega
                have HF0 : Hid (fK fr tt l = 0) := by
                  have hno : l.any isO = false := by
                    cases hq : l.any isO with
                    | false => rfl
                    | true =>
                      obtain ⟨q, hq1, hq2⟩ := List.any_eq_true.1 hq
                      obtain ⟨j, hj, rfl⟩ := List.getElem_of_mem hq1
                      rw [HP.out j hj (by have := HN.out; omega)] at hq2
                      cases hq2
                  show _ = _
                  rw [HF3.out, hno]; rfl
                clear hpre HP hx hbw hlt HF3
                go_wp2_with fail
                refine (HSU.out _ HB.out).mono ?_
                rintro e W5 ⟨rfl, hb5⟩
                have HB5 := hide (Below.next HB.out hb5)
                have HX5 := hide (HX.out.below hb5)
                clear hb5 HSU HB HX
                go_wp2_with fail
                obtain ⟨S, hS⟩ : ∃ S : Int, S = ((crcV (batB fr tt l) : Nat) : Int) := ⟨_, rfl⟩
                rw [← hS]
                have HSS := hide hS
                obtain ⟨W6, hW6⟩ : ∃ W6, W5.alloc (.cells #[.int .u64 (fr : Int), .int .u64 (tt : Int), .slice none 0 0, .int .u32 S] 29) = W6 := ⟨_, rfl⟩
                rw [hW6]
                have HW0 : Hid (w.heap.size < W5.heap.size) := HX5.out.lt
                have HY6 : Hid (RowAt W6 W5.heap.size #[.int .u64 (fr : Int), .int .u64 (tt : Int), .slice none 0 0, .int .u32 S] 29) := by show RowAt _ _ _ _; rw [← hW6]; exact RowAt.new _ _ _
                have HX6 : Hid (RowAt W6 w.heap.size #[.int .u64 0, .int .u64 0, .slice none 0 0, .int .u32 0] 29) := by show RowAt _ _ _ _; rw [← hW6]; exact HX5.out.below (below_new _ _)
                have HB6 : Hid (Below w.heap.size w W6) := by show Below _ _ _; rw [← hW6]; exact HB5.out.alloc HB5.out.size _
                have HG6 : Hid (W5.heap.size + 1 ≤ W6.heap.size) := by show _ ≤ _; rw [← hW6]; simp
                generalize hg2 : W5.heap.size = g2 at *
                clear hS hW6 HB5 HX5 hg2
                go_loopw [13] (fun i wr => ∃ (k : Nat) (x : Option Addr) (d : Nat), k ≤ n ∧ i = .int .i64 k ∧ RowAt wr g2 #[.int .u64 (fr : Int), .int .u64 (tt : Int), .slice x k d, .int .u32 S] 29 ∧ RowAt wr w.heap.size #[.int .u64 0, .int .u64 0, .slice none 0 0, .int .u32 0] 29 ∧ ChO wr (g2 + 1) (.slice x k d) (l.take k) ∧ g2 + 1 ≤ wr.heap.size ∧ Below w.heap.size w wr) (fun i _ => n - (intOf i).toNat)
                case atStart => exact ⟨0, none, 0, Nat.zero_le _, rfl, HY6.out, HX6.out, ChO.nil _ _, HG6.out, HB6.out⟩
                case round =>
                  clear HY6 HX6 HB6 HG6
                  obtain ⟨k, x, d, hk, rfl, hy, hx, ho, hgw, hbw⟩ := hrel
                  have HY := hide hy
                  have HX := hide hx
                  have HO := hide ho
                  have HGW := hide hgw
                  have HB := hide hbw
                  by_cases hlt : k < n
                  · have hkl : k < l.length := by have := HN.out; omega
                    obtain ⟨a9, cap9, he, _, _, hc⟩ := HR.out.below hbw
                    obtain ⟨g, o, ha, c0, c1, c2, c3, c4⟩ := hc k (by have := HN.out; omega)
                    obtain ⟨rfl, -, rfl⟩ : a = a9 ∧ n = l.length ∧ cap = cap9 := by simpa using he
                    subst ha
                    have HTK : Hid (l.take (k + 1) = l.take k ++ [l[k]]) := by show _ = _; rw [List.take_add_one, List.getElem?_eq_getElem hkl]; rfl
                    have HLK : Hid ((l.take k).length = k) := by show _ = _; rw [List.length_take]; omega
                    obtain ⟨p, hp⟩ : ∃ p, p = l[k] := ⟨_, rfl⟩
                    rw [← hp] at c0 c1 c2 c3 c4 HTK
                    have hltI : (k : Int) < (n : Int) := by omega
                    have j0 : (0 : Int) ≤ (k : Int) := by omega
                    have y2 := hy.cell 2 (by simp)
                    have y2f := hy.free 2
                    clear hp hbw hc he hx hy ho hgw
                    have y2a := cell_bel (below_new wr (.cells #[.string p.1, .bool p.2.had, .bool p.2.has, .string p.2.old, .string p.2.new] 39)) y2
                    go_wp2_with fail
                    go_region_law (refine step_push (g2 + 1) x k d (l.take k) p _ (by rfl) (.tmp 78) (.tmp 83) (by rfl) (by rfl) (by rfl) (by rfl) HLK.out (HO.out.below (below_drewN2 (Below.refl _ _) 1)) (by omega) HGW.out ?_; intro a2 d2 w8 ho8 hb8; have hy8 : RowAt w8 g2 #[.int .u64 (fr : Int), .int .u64 (tt : Int), .slice x k d, .int .u32 S] 29 := (by unfold RowAt; rw [hb8.block g2 (Nat.lt_succ_self _)]; exact HY.out); have HY8 := hide hy8; have HO8 := hide ho8; have HB8 := hide hb8; have y2 := hy8.cell 2 (by simp); have y2f := hy8.free 2; clear hy8 ho8 hb8)
                    all_goals
                      have HLG := HW0.out
                      have hbw8 : Below w.heap.size wr w8 := ⟨HB8.out.os, HB8.out.tape, HB8.out.output, HB8.out.size, fun j hj => HB8.out.block j (by omega)⟩
                      have hx8 : RowAt w8 w.heap.size #[.int .u64 0, .int .u64 0, .slice none 0 0, .int .u32 0] 29 := by unfold RowAt; rw [HB8.out.block w.heap.size (by omega)]; exact HX.out
                      have HX9 := hide (hx8.other (g := g2) (j := 2) (by omega) (.slice a2 (k + 1) d2))
                      have HY9 : Hid (RowAt (w8.setCell ⟨g2, 2, none⟩ (.slice a2 (k + 1) d2)) g2 #[.int .u64 (fr : Int), .int .u64 (tt : Int), .slice a2 (k + 1) d2, .int .u32 S] 29) := Go.heap_setCell_same w8 g2 2 _ 29 _ HY8.out
                      have HO9 := hide (HO8.out.keep (w' := w8.setCell ⟨g2, 2, none⟩ (.slice a2 (k + 1) d2)) (fun b cs hg hh => by rw [Below.heap_setCell _ _ _ _ (fun e => by have : b = g2 := e; omega)]; exact hh))
                      have HB9 := hide ((HB.out.trans hbw8).setCell (p := ⟨g2, 2, none⟩) (Nat.le_of_lt HLG) (.slice a2 (k + 1) d2))
                      have HG9 : Hid (g2 + 1 ≤ (w8.setCell ⟨g2, 2, none⟩ (.slice a2 (k + 1) d2)).heap.size) := by show _ ≤ _; have h1 : wr.heap.size ≤ w8.heap.size := hbw8.size; have h2 : g2 + 1 ≤ wr.heap.size := HGW.out; rw [show (w8.setCell ⟨g2, 2, none⟩ (.slice a2 (k + 1) d2)).heap.size = w8.heap.size by simp]; omega
                      clear HLG hbw8 hx8 y2 y2f HB8 HX HY HO HY8 HO8 HB HGW
                      go_wp2
                      go_roundw
                      case rel => exact ⟨k + 1, a2, d2, by omega, by go_num, HY9.out, HX9.out, by rw [HTK.out]; exact HO9.out, HG9.out, HB9.out⟩
                      case measure => simp [intOf]; omega
                  · have hltI : ¬ (k : Int) < (n : Int) := by omega
                    have hkn : k = n := by omega
                    subst hkn
                    have HO2 : Hid (ChO wr (g2 + 1) (.slice x k d) l) := by
                      show ChO _ _ _ _
                      have := HO.out
                      rwa [show l.take k = l by rw [HN.out]; exact List.take_length] at this
                    have y0 := hy.cell 0 (by simp)
                    have y1 := hy.cell 1 (by simp)
                    have y2 := hy.cell 2 (by simp)
                    have y3 := hy.cell 3 (by simp)
                    have x1 := HX.out
                    have d0 := x1.cell 0 (by simp)
                    have d1 := x1.cell 1 (by simp)
                    have d2 := x1.cell 2 (by simp)
                    have d3 := x1.cell 3 (by simp)
                    have f0 := x1.free 0
                    have f1 := x1.free 1
                    have f2 := x1.free 2
                    have f3 := x1.free 3
                    have hne : ¬ w.heap.size = g2 := by have := HW0.out; omega
                    clear hx hy ho hgw hbw x1 HO HY hlt
                    go_wp2
                    rw [HQ.out]
                    have h1 : sOk fr tt l = true := by simp [sOk, HF0.out]
                    have h2 : sL fr tt l = l := by simp [sL, h1]
                    have hput : ∀ (u : Value) (j : Nat) (V : World), ChO V (g2 + 1) (.slice x k d) l → ChO (V.setCell ⟨w.heap.size, j, none⟩ u) (g2 + 1) (.slice x k d) l := fun u j V h => h.keep (fun g cs hg hh => by rw [Below.heap_setCell _ _ _ _ (fun e => by have : g = w.heap.size := e; have := HW0.out; omega)]; exact hh)
                    refine bodyPost_ret (results_row_tmp rfl _ _ w.heap.size 29 _ (0, 0) _ rfl (HX.out.all4 _ _ _ _) Tryd.underlying29 rfl (by kernel_rfl)) rfl ?_
                    exact ⟨x, d, by rw [h1, h2, HF0.out, ← HN.out, HSS.out]; rfl, by rw [h2, ← HN.out]; exact (hput _ _ _ (hput _ _ _ (hput _ _ _ (hput _ _ _ HO2.out)))).mono (by have := HW0.out; omega), below4 HB.out _ _ _ _⟩
end Go.Proofs.YtiihnoohodklhaaDoor
