import Derived.Test.YtddhjnfcbpookaaDoorQKit
namespace Go.Proofs.YtddhjnfcbpookaaDoor
open Go.RowKit

set_option maxRecDepth 100000 in
set_option maxHeartbeats 2000000 in
theorem small_any (q : Qd) (cv : Value) (id : Int) (its : List It) (iv : Value) (w : World) (hc : CsAt w anyB cv q.cs) (hi : ItsAt w anyB iv its) :
    Calls Tryd.prog 6 #[.agg (qV q cv), .agg #[.int .i64 id, iv]] w fun e w' => ∃ b : Bool, e = .returned (.bool b) ∧ (b = true → cntL its + cntC q.cs ≤ 16777216) ∧ Below w.heap.size w w' := by
  obtain ⟨t, l, o, f, m⟩ := q
  simp only [qV] at hc ⊢
  obtain ⟨ca, cc, hcv⟩ := hc.form
  obtain ⟨ia, ic, hiv⟩ := hi.form
  subst hcv hiv
  have hlen := hc.len
  have q1 := below_new w (.cells #[.string t, .slice ca l.length cc, .string o, .bool f, .int .i64 m] 31)
  have x1 := RowAt.new w #[.string t, .slice ca l.length cc, .string o, .bool f, .int .i64 m] 31
  have hs1 : (w.alloc (.cells #[.string t, .slice ca l.length cc, .string o, .bool f, .int .i64 m] 31)).heap.size = w.heap.size + 1 := by simp
  generalize hW1 : w.alloc (.cells #[.string t, .slice ca l.length cc, .string o, .bool f, .int .i64 m] 31) = W1 at q1 x1 hs1
  have q2 := below_new W1 (.cells #[.int .i64 id, .slice ia its.length ic] 28)
  have x2 := RowAt.new W1 #[.int .i64 id, .slice ia its.length ic] 28
  rw [hs1] at x2
  generalize hW2 : W1.alloc (.cells #[.int .i64 id, .slice ia its.length ic] 28) = W2 at q2 x2
  have HW : Hid ((w.alloc (.cells #[.string t, .slice ca l.length cc, .string o, .bool f, .int .i64 m] 31)).alloc (.cells #[.int .i64 id, .slice ia its.length ic] 28) = W2) := by rw [hW1]; exact hW2
  have hb2 := Below.next q1 q2
  have HX := hide (x1.below q2)
  have HC := hide (hc.keep hb2)
  have HL := hide (left_any _ its 16777216 (.slice ia its.length ic) W2 (Nat.le_refl _) (hi.keep hb2) (by omega) (by omega))
  have HB := hide hb2
  have r1 := x2.cell 1 (by simp)
  simp only [List.getElem_toArray, List.getElem_cons_zero, List.getElem_cons_succ] at r1
  rw [← hW2, ← hW1] at r1
  obtain ⟨Q0, hQ0⟩ : ∃ Q0 : Ending → World → Prop, Q0 = fun e w' => ∃ b : Bool, e = .returned (.bool b) ∧ (b = true → cntL its + cntC l ≤ 16777216) ∧ Below w.heap.size w w' := ⟨_, rfl⟩
  rw [← hQ0]
  have HQ := hide hQ0
  clear hc hi q1 x1 hs1 q2 x2 hb2 hW1 hW2 hQ0
  go_enter Tryd.func6, Tryd.ntmps6
  go_wp2_with fail
  rw [HW.out]
  refine HL.out.mono ?_
  rintro e w3 ⟨m0, rfl, -, hm0, hm1, hm2, hb3⟩
  have HX3 := hide (HX.out.below hb3)
  have HC3 := hide (HC.out.keep hb3)
  have HB3 := hide (Below.next HB.out hb3)
  have HM0 : Hid (0 ≤ m0 → m0 = 16777216 - cntL its) := hm0
  have HM1 : Hid (-150000000000000 ≤ m0 ∧ m0 ≤ 16777216) := ⟨hm1, hm2⟩
  clear hb3 hm0 hm1 hm2 r1 HL HX HC HB HW
  go_wp2
  go_loopw [5, 6] (fun nv iv wr => ∃ (j : Nat) (n : Int), nv = .int .i64 n ∧ iv = .int .i64 (j : Int) ∧ j ≤ l.length ∧ (-150000000000000 ≤ n ∧ n ≤ 16777216) ∧ (0 ≤ n → n = 16777216 - cntL its - cntC (l.take j)) ∧ Below w3.heap.size w3 wr) (fun _ iv _ => l.length - (intOf iv).toNat)
  case atStart => exact ⟨0, m0, rfl, rfl, Nat.zero_le _, HM1.out, (fun h => by have := HM0.out h; simp [cntC]; omega), Below.refl _ _⟩
  case round =>
    obtain ⟨j, n, rfl, rfl, hj, hn, hcn, hbl⟩ := hrel
    have c1 := (HX3.out.below hbl).q5.2.1
    have HBL := hide hbl
    have HCN := hide hcn
    by_cases hlt : j < l.length ∧ 0 ≤ n
    · obtain ⟨hl1, hl2⟩ := hlt
      obtain ⟨g, off, u, hca, -, hok, s0, s1, s2, s3, s4, s5, hin⟩ := (HC3.out.keep hbl).get j hl1
      have hts := cntC_take_succ l j hl1
      have HOK := hide hok
      have hfs : l[j].field.size ≤ 140737488351232 := hok.f
      obtain ⟨x, hx⟩ : ∃ x, x = l[j] := ⟨_, rfl⟩
      rw [← hx] at s0 s1 s2 s3 s4 hin hts HOK hfs
      subst hca
      have hd1 : (j : Int) < (l.length : Int) := by omega
      have e0 : (0 : Int) ≤ (j : Int) := by omega
      have hwq : IntKind.i64.wrap (n - (x.field.size : Int)) = n - (x.field.size : Int) := wrap_i64 _ (by omega) (by omega)
      obtain ⟨W0, hW0⟩ : ∃ W0, wr.alloc (.cells #[.int .i64 x.item.kind, .int .i64 x.item.num, .string x.item.text, u] 59) = W0 := ⟨_, rfl⟩
      have qn := below_new wr (.cells #[.int .i64 x.item.kind, .int .i64 x.item.num, .string x.item.text, u] 59)
      have xn := RowAt.new wr #[.int .i64 x.item.kind, .int .i64 x.item.num, .string x.item.text, u] 59
      rw [hW0] at qn xn
      have HLF : Hid (∀ W, Below W0.heap.size W0 W → Calls Tryd.prog 16 #[.slice (some ⟨wr.heap.size, 0, none⟩) 1 1, .int .i64 (n - (x.field.size : Int))] W fun e w' => ∃ m : Int, e = .returned (.int .i64 m) ∧ ((-150000000000000 ≤ m ∧ m ≤ 16777216) ∧ (0 ≤ m → m = n - (x.field.size : Int) - cntL [x.item]) ∧ Below wr.heap.size wr w')) := fun W hW =>
        (left_any _ [x.item] _ _ W (Nat.le_refl _) (its_one (xn.below hW) trivial HOK.out.it ((hin.keep qn).keep hW)) (by omega) (by omega)).mono fun e w' ⟨m, e1, _, e2, e3, e4, e5⟩ => ⟨m, e1, ⟨e3, e4⟩, e2, Below.next (Below.next qn hW) e5⟩
      have HTS := hide hts
      have HJ : Hid (j + 1 ≤ l.length) := by show _ ≤ _; omega
      have hxs : x.item.list.length ≤ 2513169434843 := hin.len_le
      obtain ⟨ua, uc, hu⟩ := hin.form
      subst hu
      have HW0 := hide hW0
      clear hin hts hok hfs hx qn xn hcn hbl hW0 hxs
      go_wp2_with fail
      go_region_held3 (fun w' => w'.cell? ⟨w.heap.size, 1, none⟩ = some (.slice (some ⟨g, off, none⟩) l.length cc) ∧ w'.cell? ⟨g, off + j * 6, none⟩ = some (.string x.field) ∧ w'.cell? ⟨g, off + j * 6 + 2, none⟩ = some (.int .i64 x.item.kind) ∧ w'.cell? ⟨g, off + j * 6 + 3, none⟩ = some (.int .i64 x.item.num) ∧ w'.cell? ⟨g, off + j * 6 + 4, none⟩ = some (.string x.item.text) ∧ w'.cell? ⟨g, off + j * 6 + 5, none⟩ = some (.slice ua x.item.list.length uc)) (go_keep)
        (first | (go_at_call 16; refine (HLF.out _ ?_).mono ?_; (rw [← HW0.out]; first | exact Below.refl _ _ | exact (Below.refl _ _).drew | exact below_drewN' (Below.refl _ _) _); rintro e w4 ⟨m4, rfl, hg⟩; have HG := hide hg; have k1 := cell_below hg.2.2 c1; have k2 := cell_below hg.2.2 s0; have k3 := cell_below hg.2.2 s2; have k4 := cell_below hg.2.2 s3; have k5 := cell_below hg.2.2 s4; have k6 := cell_below hg.2.2 s5; clear hg))
      all_goals
        clear c1 s0 s1 s2 s3 s4 s5 k1 k2 k3 k4 k5 k6 HLF
        go_wp2
        go_roundw
        case rel =>
          refine ⟨j + 1, m4, rfl, ?_, HJ.out, HG.out.1, fun h => ?_, Below.next HBL.out HG.out.2.2⟩
          · go_num
          · have h1 := HG.out.2.1 h
            have h2 := HTS.out
            have h3 := HCN.out hl2
            rw [cnt_one] at h1
            rw [h2]
            omega
        case measure => simp [intOf]; omega
    · have hcs : (¬ (j : Int) < (l.length : Int)) ∨ ((j : Int) < (l.length : Int) ∧ ¬ (0 : Int) ≤ n) := by omega
      have HE : Hid (Below w.heap.size w wr) := Below.next HB3.out hbl
      clear hlt hbl
      rcases hcs with h1 | ⟨h1, h2⟩
      · have he : j = l.length := by omega
        have HF : Hid (decide (0 ≤ n) = true → cntL its + cntC l ≤ 16777216) := fun h => by
          have h2 := hcn (of_decide_eq_true h)
          rw [he, List.take_length] at h2
          have h3 := of_decide_eq_true h
          omega
        clear hcn he hn
        go_wp2
        rw [HQ.out]
        exact ⟨_, rfl, HF.out, HE.out⟩
      · have h3 : decide (0 ≤ n) = false := decide_eq_false h2
        clear hcn
        go_wp2
        rw [HQ.out]
        exact ⟨false, rfl, (fun h => by cases h), HE.out⟩
end Go.Proofs.YtddhjnfcbpookaaDoor
