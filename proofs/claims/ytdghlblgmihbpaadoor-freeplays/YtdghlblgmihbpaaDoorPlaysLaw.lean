import Derived.Test.YtdghlblgmihbpaaDoorFPlay2
namespace Go.Proofs.YtdghlblgmihbpaaDoor
open Go.RowKit

set_option maxRecDepth 100000 in
set_option maxHeartbeats 64000000 in
theorem plays_any (A : Nat → Addr) (l : List Stp) (v : Value) (pg og : Int) (W : World) (hE : Env W.heap.size A W) (hr : StpR W v l) (hl : l.length ≤ 5864062014634) :
    Calls Tryd.prog 7 #[.agg #[.int .i64 pg, .int .i64 og, v]] W fun e w' => e = .returned (.bool true) ∧ Below W.heap.size W w' := by
  obtain ⟨sa, sc, rfl, hc⟩ := id hr
  clear hc
  obtain ⟨w0, hw0⟩ : ∃ w0, w0 = W.alloc (.cells #[.int .i64 pg, .int .i64 og, .slice sa l.length sc] 24) := ⟨_, rfl⟩
  have hb0 : Below W.heap.size W w0 := by rw [hw0]; exact below_new _ _
  have hx0 : Boxed W.heap.size [.int .i64 pg, .int .i64 og, .slice sa l.length sc] w0 := by rw [hw0]; exact boxed_new W #[.int .i64 pg, .int .i64 og, .slice sa l.length sc] 24
  have HSZ : Hid (w0.heap.size = W.heap.size + 1) := by show _ = _; rw [hw0]; simp
  have HB0 := hide hb0
  have HX0 := hide hx0
  have HE := hide hE
  have HR := hide hr
  have HEN : Hid (∀ X, Below w0.heap.size w0 X → Env W.heap.size A X) := fun X hX => (HE.out.up hb0).keep (hX.mono (by rw [HSZ.out]; omega))
  obtain ⟨n0, hn⟩ : ∃ n0, n0 = l.length := ⟨_, rfl⟩
  rw [← hn] at hw0 hl HX0 HR
  rw [← hn]
  have HN := hide hn
  have HXC : Hid (∀ X, Below w0.heap.size w0 X → X.cell? ⟨W.heap.size, 0, none⟩ = some (.int .i64 pg) ∧ X.cell? ⟨W.heap.size, 1, none⟩ = some (.int .i64 og) ∧ X.cell? ⟨W.heap.size, 2, none⟩ = some (.slice sa n0 sc)) := fun X hX => ⟨(HX0.out.below hX).2 0 (by simp), (HX0.out.below hX).2 1 (by simp), (HX0.out.below hX).2 2 (by simp)⟩
  have k0 := (HXC.out w0 (Below.refl _ _)).1
  clear hb0 hx0 hE hr hn
  have HPG : Hid ((pg < 4 ∨ 1048576 < pg) ∨ ∃ P : Nat, pg = P ∧ 4 ≤ P ∧ P ≤ 1048576) := by
    show _ ∨ _
    by_cases h : pg < 4 ∨ 1048576 < pg
    · exact .inl h
    · exact .inr ⟨pg.toNat, by omega, by omega, by omega⟩
  have HOG : Hid ((og < 4 ∨ 1048576 < og) ∨ ∃ P : Nat, og = P ∧ 4 ≤ P ∧ P ≤ 1048576) := by
    show _ ∨ _
    by_cases h : og < 4 ∨ 1048576 < og
    · exact .inl h
    · exact .inr ⟨og.toNat, by omega, by omega, by omega⟩
  rcases HPG.out with hp | hp
  · rcases HOG.out with ho | ho
    · clear HPG HOG
      have NA := hide (new_bad A W.heap.size pg w0 (HEN.out _ (Below.refl _ _)) hp)
      go_enter Tryd.func7, Tryd.ntmps7
      go_wp2_with fail
      rw [← hw0]
      clear hw0
      refine NA.out.mono ?_
      rintro e w1 ⟨rfl, hb1⟩
      have RN := hide (rnew_bad pg w1 hp)
      have HB1 := hide hb1
      have k0 := (HXC.out w1 hb1).1
      clear hb1 NA
      unfold errV
      go_wp2_with fail
      refine RN.out.mono ?_
      rintro e w2 ⟨rfl, rfl⟩
      have HB2 := HB1
      obtain ⟨w2, hw2⟩ : ∃ w2, w2 = w1 := ⟨_, rfl⟩
      rw [← hw2] at HB2 ⊢
      clear hw2 HB1
      have k1 := (HXC.out w2 HB2.out).2.1
      have NC := hide (new_bad A W.heap.size og w2 (HEN.out _ HB2.out) ho)
      clear k0 RN
      go_wp2_with fail
      refine NC.out.mono ?_
      rintro e w3 ⟨rfl, hb3⟩
      have RD := hide (rnew_bad og w3 ho)
      have HB3 := hide (Below.next HB2.out hb3)
      have k1 := (HXC.out w3 HB3.out).2.1
      clear hb3 NC
      unfold errV
      go_wp2_with fail
      refine RD.out.mono ?_
      rintro e w4 ⟨rfl, rfl⟩
      have HB4 := HB3
      obtain ⟨w4, hw4⟩ : ∃ w4, w4 = w3 := ⟨_, rfl⟩
      rw [← hw4] at HB4 ⊢
      clear hw4
      have N1 := hide (num_e A (some 0) w4 (HEN.out _ HB4.out).errs (by simp [IsE]))
      have N2 := hide (num_e A (some 0) w4 (HEN.out _ HB4.out).errs (by simp [IsE]))
      clear RD k1
      unfold errV at N1 N2
      go_wp2_with fail
      refine N1.out.mono ?_
      rintro e w5 ⟨rfl, rfl⟩
      go_wp2_with fail
      refine N2.out.mono ?_
      rintro e w5 ⟨rfl, rfl⟩
      clear N1 N2
      unfold numE
      go_wp2
      go_ret
      exact ⟨rfl, HB0.out.trans (HB4.out.mono (by rw [HSZ.out]; omega))⟩
    · clear HPG HOG
      have NA := hide (new_bad A W.heap.size pg w0 (HEN.out _ (Below.refl _ _)) hp)
      go_enter Tryd.func7, Tryd.ntmps7
      go_wp2_with fail
      rw [← hw0]
      clear hw0
      refine NA.out.mono ?_
      rintro e w1 ⟨rfl, hb1⟩
      have RN := hide (rnew_bad pg w1 hp)
      have HB1 := hide hb1
      have k0 := (HXC.out w1 hb1).1
      clear hb1 NA
      unfold errV
      go_wp2_with fail
      refine RN.out.mono ?_
      rintro e w2 ⟨rfl, rfl⟩
      have HB2 := HB1
      obtain ⟨w2, hw2⟩ : ∃ w2, w2 = w1 := ⟨_, rfl⟩
      rw [← hw2] at HB2 ⊢
      clear hw2 HB1
      have k1 := (HXC.out w2 HB2.out).2.1
      obtain ⟨Pc, rfl, hPc1, hPc2⟩ := ho
      have NC := hide (new_any Pc w2 hPc1 hPc2)
      clear k0 RN
      go_wp2_with fail
      refine NC.out.mono ?_
      rintro e w3 ⟨bc, gc, rfl, q1, q2, hmc, hb3⟩
      have HMC := hide hmc
      have HQC : Hid (w2.heap.size ≤ bc ∧ w2.heap.size ≤ gc) := ⟨q1, q2⟩
      have RD := hide (rnew_any Pc w3 hPc1 hPc2)
      have HB3 := hide (Below.next HB2.out hb3)
      have k1 := (HXC.out w3 HB3.out).2.1
      clear hb3 NC q1 q2 hmc
      go_wp2_with fail
      refine RD.out.mono ?_
      rintro e w4 ⟨rfl, hrd, hb4⟩
      have HRD := hide hrd
      have HMC4 := hide (HMC.out.below hb4)
      have HB4 := hide (Below.next HB3.out hb4)
      clear hrd hb4
      have N1 := hide (num_e A (some 0) w4 (HEN.out _ HB4.out).errs (by simp [IsE]))
      have N2 := hide (num_e A none w4 (HEN.out _ HB4.out).errs (by simp [IsE]))
      clear RD k1
      unfold errV at N1 N2
      go_wp2_with fail
      refine N1.out.mono ?_
      rintro e w5 ⟨rfl, rfl⟩
      go_wp2_with fail
      refine N2.out.mono ?_
      rintro e w5 ⟨rfl, rfl⟩
      clear N1 N2
      unfold numE
      go_wp2
      go_ret
      exact ⟨rfl, HB0.out.trans (HB4.out.mono (by rw [HSZ.out]; omega))⟩
  · rcases HOG.out with ho | ho
    · clear HPG HOG
      obtain ⟨Pa, rfl, hPa1, hPa2⟩ := hp
      have NA := hide (new_any Pa w0 hPa1 hPa2)
      go_enter Tryd.func7, Tryd.ntmps7
      go_wp2_with fail
      rw [← hw0]
      clear hw0
      refine NA.out.mono ?_
      rintro e w1 ⟨ba, ga, rfl, q1, q2, hma, hb1⟩
      have HMA := hide hma
      have HQA : Hid (w0.heap.size ≤ ba ∧ w0.heap.size ≤ ga) := ⟨q1, q2⟩
      have RN := hide (rnew_any Pa w1 hPa1 hPa2)
      have HB1 := hide hb1
      have k0 := (HXC.out w1 hb1).1
      clear hb1 NA q1 q2 hma
      go_wp2_with fail
      refine RN.out.mono ?_
      rintro e w2 ⟨rfl, hrb, hb2⟩
      have HRB := hide hrb
      have HMA2 := hide (HMA.out.below hb2)
      have HB2 := hide (Below.next HB1.out hb2)
      clear hrb hb2
      have k1 := (HXC.out w2 HB2.out).2.1
      have NC := hide (new_bad A W.heap.size og w2 (HEN.out _ HB2.out) ho)
      clear k0 RN
      go_wp2_with fail
      refine NC.out.mono ?_
      rintro e w3 ⟨rfl, hb3⟩
      have RD := hide (rnew_bad og w3 ho)
      have HB3 := hide (Below.next HB2.out hb3)
      have HMA3 := hide (HMA2.out.below hb3)
      have HRB3 := hide (HRB.out.below hb3)
      have k1 := (HXC.out w3 HB3.out).2.1
      clear hb3 NC
      unfold errV
      go_wp2_with fail
      refine RD.out.mono ?_
      rintro e w4 ⟨rfl, rfl⟩
      have HB4 := HB3
      have HMA4 := HMA3
      have HRB4 := HRB3
      obtain ⟨w4, hw4⟩ : ∃ w4, w4 = w3 := ⟨_, rfl⟩
      rw [← hw4] at HB4 ⊢
      clear hw4
      have N1 := hide (num_e A none w4 (HEN.out _ HB4.out).errs (by simp [IsE]))
      have N2 := hide (num_e A (some 0) w4 (HEN.out _ HB4.out).errs (by simp [IsE]))
      clear RD k1
      unfold errV at N1 N2
      go_wp2_with fail
      refine N1.out.mono ?_
      rintro e w5 ⟨rfl, rfl⟩
      go_wp2_with fail
      refine N2.out.mono ?_
      rintro e w5 ⟨rfl, rfl⟩
      clear N1 N2
      unfold numE
      go_wp2
      go_ret
      exact ⟨rfl, HB0.out.trans (HB4.out.mono (by rw [HSZ.out]; omega))⟩
    · clear HPG HOG
      obtain ⟨Pa, rfl, hPa1, hPa2⟩ := hp
      have NA := hide (new_any Pa w0 hPa1 hPa2)
      go_enter Tryd.func7, Tryd.ntmps7
      go_wp2_with fail
      rw [← hw0]
      clear hw0
      refine NA.out.mono ?_
      rintro e w1 ⟨ba, ga, rfl, q1, q2, hma, hb1⟩
      have HMA := hide hma
      have HQA : Hid (w0.heap.size ≤ ba ∧ w0.heap.size ≤ ga) := ⟨q1, q2⟩
      have RN := hide (rnew_any Pa w1 hPa1 hPa2)
      have HB1 := hide hb1
      have k0 := (HXC.out w1 hb1).1
      clear hb1 NA q1 q2 hma
      go_wp2_with fail
      refine RN.out.mono ?_
      rintro e w2 ⟨rfl, hrb, hb2⟩
      have HRB := hide hrb
      have HMA2 := hide (HMA.out.below hb2)
      have HB2 := hide (Below.next HB1.out hb2)
      clear hrb hb2
      have k1 := (HXC.out w2 HB2.out).2.1
      obtain ⟨Pc, rfl, hPc1, hPc2⟩ := ho
      have NC := hide (new_any Pc w2 hPc1 hPc2)
      clear k0 RN
      go_wp2_with fail
      refine NC.out.mono ?_
      rintro e w3 ⟨bc, gc, rfl, q1, q2, hmc, hb3⟩
      have HMC := hide hmc
      have HQC : Hid (w2.heap.size ≤ bc ∧ w2.heap.size ≤ gc) := ⟨q1, q2⟩
      have RD := hide (rnew_any Pc w3 hPc1 hPc2)
      have HB3 := hide (Below.next HB2.out hb3)
      have HMA3 := hide (HMA2.out.below hb3)
      have HRB3 := hide (HRB.out.below hb3)
      have k1 := (HXC.out w3 HB3.out).2.1
      clear hb3 NC q1 q2 hmc
      go_wp2_with fail
      refine RD.out.mono ?_
      rintro e w4 ⟨rfl, hrd, hb4⟩
      have HRD := hide hrd
      have HMC4 := hide (HMC.out.below hb4)
      have HB4 := hide (Below.next HB3.out hb4)
      have HMA4 := hide (HMA3.out.below hb4)
      have HRB4 := hide (HRB3.out.below hb4)
      clear hrd hb4
      have N1 := hide (num_e A none w4 (HEN.out _ HB4.out).errs (by simp [IsE]))
      have N2 := hide (num_e A none w4 (HEN.out _ HB4.out).errs (by simp [IsE]))
      clear RD k1
      unfold errV at N1 N2
      go_wp2_with fail
      refine N1.out.mono ?_
      rintro e w5 ⟨rfl, rfl⟩
      go_wp2_with fail
      refine N2.out.mono ?_
      rintro e w5 ⟨rfl, rfl⟩
      clear N1 N2
      unfold numE
      obtain ⟨rb, hrb⟩ : ∃ rb, rb = w1.heap.size := ⟨_, rfl⟩
      obtain ⟨rd, hrd⟩ : ∃ rd, rd = w3.heap.size := ⟨_, rfl⟩
      have HPL0 : Hid (Play W.heap.size w4 ba ga rb (.slice none 0 0) Pa (T0 Pa) bc gc rd (.slice none 0 0) Pc (T0 Pc) (.slice none 0 0) 0 (fun _ => none) (fun _ => 0) (fun _ => 0) (fun _ => [])) := by
        have s1 := HSZ.out
        have s2 := HQA.out
        have s3 := HQC.out
        have s4 := HMA2.out.ltg
        have s5 := HMC.out.ltg
        have s6 := HRB.out.ltb
        have s7 := HB1.out.size
        have s8 := HB2.out.size
        refine ⟨⟨HMA4.out, t0_ok hPa1 hPa2, by rw [hrb]; exact HRB4.out, by omega, by omega, by omega, fun k hk => by simp [Value.ownBlock] at hk⟩, ⟨HMC4.out, t0_ok hPc1 hPc2, by rw [hrd]; exact HRD.out, by omega, by omega, by omega, fun k hk => by simp [Value.ownBlock] at hk⟩, ⟨World.ownsRow_nil _ _ _ _, fun k hk => by simp [Value.ownBlock] at hk, fun i hi => by omega, fun i j g hi => by omega, fun i hi => by omega, fun i g hi => by omega⟩, by omega, by omega, fun g hg => ?_⟩
        obtain ⟨i, hi, _⟩ := hg
        omega
      rw [← hrb, ← hrd]
      clear hrb hrd HRB HMA HMA2 HMA3 HMA4 HRB3 HRB4 HMC HMC4 HRD HQA HQC HB1 HB2 HB3 hPa1 hPa2 hPc1 hPc2
      go_wp2_with fail
      go_loopw [3, 5, 7, 9, 11, 12] (fun s3 s5 s7 s9 s11 s12 wr => ∃ (ba ga rb : Nat) (vb : Value) (Pa : Nat) (Ta : Nat → Bool) (bc gc rd : Nat) (vd : Value) (Pc : Nat) (Tc : Nat → Bool) (ka : Option Addr) (kc N : Nat) (a : Nat → Option Addr) (n c : Nat → Nat) (U : Nat → List Value) (k : Nat), k ≤ n0 ∧ 2 * N ≤ k ∧ s3 = .pointer (some ⟨ba, 0, none⟩) ∧ s5 = .pointer (some ⟨rb, 0, none⟩) ∧ s7 = .pointer (some ⟨bc, 0, none⟩) ∧ s9 = .pointer (some ⟨rd, 0, none⟩) ∧ s11 = .slice ka N kc ∧ s12 = .int .i64 k ∧ Play W.heap.size wr ba ga rb vb Pa Ta bc gc rd vd Pc Tc (.slice ka N kc) N a n c U ∧ Below w0.heap.size w0 wr) (fun _ _ _ _ _ s12 _ => n0 - (intOf s12).toNat)
      case atStart => exact ⟨ba, ga, rb, _, Pa, _, bc, gc, rd, _, Pc, _, none, 0, 0, _, _, _, _, 0, Nat.zero_le _, by omega, rfl, rfl, rfl, rfl, rfl, rfl, HPL0.out, HB4.out⟩
      case round =>
        clear HPL0 HB4
        obtain ⟨ba, ga, rb, vb, Pa, Ta, bc, gc, rd, vd, Pc, Tc, ka, kc, N, a, n, c, U, k, hk, hNk, rfl, rfl, rfl, rfl, rfl, rfl, hpl, hbw⟩ := hrel
        have k2 := (HXC.out wr hbw).2.2
        have HPL := hide hpl
        have HBW := hide hbw
        have HBS : Hid (W.heap.size < wr.heap.size) := by show _ < _; have := hbw.size; have := HSZ.out; omega
        by_cases hlt : k < n0
        · have hkl : k < l.length := by rw [← HN.out]; omega
          have hbW : Below W.heap.size W wr := HB0.out.trans (hbw.mono (by rw [HSZ.out]; omega))
          obtain ⟨a', c', he, hcs⟩ := HR.out.below hbW
          simp only [Value.slice.injEq] at he
          obtain ⟨rfl, -, rfl⟩ := he
          obtain ⟨g0, o0, rfl, s0, s1, s2⟩ := hcs k hkl
          generalize l[k].1 = z0 at *
          generalize l[k].2.1 = z1 at *
          generalize l[k].2.2 = z2 at *
          have hkI : (k : Int) < (n0 : Int) := by omega
          have k0I : (0 : Int) ≤ (k : Int) := by omega
          have hst := step_new wr z0 z1 z2
          obtain ⟨w1, hw1⟩ : ∃ w1, w1 = wr.alloc (.cells #[.int .i64 z0, .int .i64 z1, .int .i64 z2] 33) := ⟨_, rfl⟩
          rw [← hw1] at hst
          have hb1 : Below wr.heap.size wr w1 := by rw [hw1]; exact below_new _ _
          have hx1 : Boxed wr.heap.size [.int .i64 z0, .int .i64 z1, .int .i64 z2] w1 := by rw [hw1]; exact boxed_new wr #[.int .i64 z0, .int .i64 z1, .int .i64 z2] 33
          have HX1 := hide hx1
          have HBR := hide hb1
          have t0 := hx1.2 0 (by simp)
          have t1 := hx1.2 1 (by simp)
          have t2 := hx1.2 2 (by simp)
          simp only [List.getElem_cons_zero, List.getElem_cons_succ] at t0 t1 t2
          have HPL1 := hide (hpl.below hb1)
          have HBW1 := hide (Below.next hbw hb1)
          have HS1 : Hid (w1.heap.size = wr.heap.size + 1) := by show _ = _; rw [hw1]; simp
          clear hpl hbw hbW hcs hkl hw1 hb1 hx1
          obtain ⟨par, hpar⟩ : ∃ par, par = Int.tmod z1 2 := ⟨_, rfl⟩
          have hpr : Int.tmod z1 2 = par := hpar.symm
          clear hpar
          by_cases hodd : par = 0
          · have hpz : (par != 0) = false := by simp [hodd]
            clear hodd
            have AC := hide (act_any W.heap.size A ba ga Pa Ta w1 HPL1.out.A.map HPL1.out.A.ok (HEN.out _ HBW1.out) (Nat.le_of_lt HPL1.out.A.lo.2.1) z0 z1 z2)
            have HOKT := hide (act_ok HPL1.out.A.ok z0 z2)
            have HLE := hide (act_len2 HPL1.out.A.ok z0 z2)
            have HRM := hide HPL1.out.A.ref
            generalize hrr : actD Pa Ta z0 z2 = r at *
            have HRR := hide hrr
            clear hrr
            go_wp2_with (refine wpList_store_eq rfl 33 _ _ rfl _ _ rfl rfl hst ?_)
            refine AC.out.mono ?_
            rintro e w2 ⟨lv, hp⟩
            obtain ⟨rfl, hrl, hm2, o2⟩ := hp
            obtain ⟨la, lc, rfl, -⟩ := owns_form hrl
            have hst2 := said_new w2 r.2 (.slice la r.2.list.length lc) rfl
            obtain ⟨w3, hw3⟩ : ∃ w3, w3 = w2.alloc (.cells (saidC r.2 (.slice la r.2.list.length lc)) 30) := ⟨_, rfl⟩
            have hb3 : Below w2.heap.size w2 w3 := by rw [hw3]; exact below_new _ _
            have hx3 : Boxed w2.heap.size (saidC r.2 (.slice la r.2.list.length lc)).toList w3 := by rw [hw3]; exact boxed_new w2 _ 30
            have hs3 : w3.heap.size = w2.heap.size + 1 := by rw [hw3]; simp
            rw [← hw3] at hst2
            unfold zSaid at hst2
            clear hw3
            have o13 : Only (fun k => k = ga) w1 w3 := o2.trans (Only.of_below hb3)
            have hsbl : wr.heap.size < w1.heap.size := by rw [HS1.out]; omega
            have hgml : ga < wr.heap.size := by have := HPL.out.A.map.ltg; omega
            have hrml : rb < wr.heap.size := by have := HPL.out.A.ref.ltb; omega
            have hX3 : Boxed wr.heap.size [.int .i64 z0, .int .i64 z1, .int .i64 z2] w3 := HX1.out.only o13 (fun e => by have : wr.heap.size = ga := e; omega)
            have HX3 := hide hX3
            have HY3 := hide hx3
            have HM3 := hide (hm2.below hb3)
            have HR3 : Hid (RefR w3 rb vb Pa Ta) := HRM.out.only o13 (HPL1.out.A.gne HPL1.out.A.ref.blk (by decide)) (fun k hk => by obtain ⟨c3, b3⟩ := HPL1.out.A.vblk k hk; exact HPL1.out.A.gne b3 (by decide))
            have HLR := hide (owns_below hrl hb3)
            have HO13 := hide o13
            have HBW3 : Hid (Below w0.heap.size w0 w3) := HBW1.out.trans (o13.below (fun k hk => by rw [show k = ga from hk]; have := HPL1.out.A.lo.2.1; have := HSZ.out; omega) HBW1.out.size)
            have HLB : Hid (∀ k, (Value.slice la r.2.list.length lc).ownBlock = some k → wr.heap.size < k ∧ k < w2.heap.size) := fun k hk => ⟨by have := (owns_blk hrl k hk).1; omega, (owns_blk hrl k hk).2.1⟩
            have HS3 : Hid (w3.heap.size = w2.heap.size + 1 ∧ wr.heap.size < w2.heap.size) := ⟨hs3, by have := o2.size; omega⟩
            have HNG : Hid (rb < wr.heap.size ∧ ga < wr.heap.size) := ⟨hrml, hgml⟩
            have D1 := hide (told_any rb vb Pa Ta w3.drew (HR3.out.below (Below.refl _ _).drew) HPL1.out.A.ok z0 z1 z2)
            rw [HRR.out] at D1
            obtain ⟨L, hL⟩ : ∃ L, L = r.2.list.length := ⟨_, rfl⟩
            have HL := hide hL
            rw [← hL] at hst2 HY3 HLB ⊢
            have HLR2 : Hid (w3.ownsRow w1.heap.size 3 1 (.slice la L lc) L (nats r.2.list)) := by
              show World.ownsRow _ _ _ _ _ _ _
              have h := HLR.out
              rw [← hL] at h; exact h
            have HLL : Hid (L ≤ 1048576) := by show _ ≤ _; rw [hL]; exact HLE.out
            have f0 := HX3.out.2 0 (by simp)
            have f1 := HX3.out.2 1 (by simp)
            have f2 := HX3.out.2 2 (by simp)
            have g0' := HY3.out.2 0 (by simp [saidC])
            have g1' := HY3.out.2 1 (by simp [saidC])
            have g2' := HY3.out.2 2 (by simp [saidC])
            have g3' := HY3.out.2 3 (by simp [saidC])
            have g4' := HY3.out.2 4 (by simp [saidC])
            simp only [saidC, List.getElem_cons_zero, List.getElem_cons_succ] at f0 f1 f2 g0' g1' g2' g3' g4'
            clear hrl hm2 o2 hb3 hx3 o13 hX3 AC hst HX1 t0 t1 t2 hL HLE HLR hsbl hgml hrml hs3
            by_cases hev : k % 2 = 0
            · have hkm : (k : Int) % 2 = 0 := by omega
              have hkt : Int.tmod (k : Int) 2 = 0 := by rw [Int.tmod_eq_emod_of_nonneg k0I]; exact hkm
              clear hev
              go_upto_region 18 with (refine wpList_store_eq rfl 30 _ _ rfl _ _ rfl rfl hst2 ?_)

              simp only [Act.put]
              go_cut [115] (fun u wx => u = .bool false ∧ Mid true w3 wx rb vb Pa r.1 (.slice la L lc))
              case first =>
                first | (go_region_held (fun w' => w'.cell? ⟨wr.heap.size, 0, none⟩ = some (.int .i64 z0) ∧ w'.cell? ⟨wr.heap.size, 1, none⟩ = some (.int .i64 z1) ∧ w'.cell? ⟨wr.heap.size, 2, none⟩ = some (.int .i64 z2) ∧ w'.cell? ⟨w2.heap.size, 0, none⟩ = some (.int .i64 (r.2.err : Int)) ∧ w'.cell? ⟨w2.heap.size, 1, none⟩ = some (.int .i64 (r.2.a : Int)) ∧ w'.cell? ⟨w2.heap.size, 2, none⟩ = some (.int .i64 (r.2.b : Int)) ∧ w'.cell? ⟨w2.heap.size, 3, none⟩ = some (.bool r.2.ok) ∧ w'.cell? ⟨w2.heap.size, 4, none⟩ = some (.slice la L lc)) (go_keep)
                  (first
                    | (go_at_call 28; refine D1.out.mono ?_; rintro e W1 ⟨u, hp1⟩; obtain ⟨rfl, ru, hrf⟩ := hp1
                       obtain ⟨v', hr', ho', hv'⟩ := hrf
                       have ho3 : Only (fun k => k = rb) w3 W1 := ⟨ho'.os, ho'.tape, ho'.output, ho'.size, ho'.block⟩
                       have hbx := (HX3.out.only ho3 (fun e => by have := HNG.out; have : wr.heap.size = rb := e; omega))
                       have hby := (HY3.out.only ho3 (fun e => by have := HNG.out; have := HS3.out; have : w2.heap.size = rb := e; omega))
                       have f0 := hbx.2 0 (by simp)
                       have f1 := hbx.2 1 (by simp)
                       have f2 := hbx.2 2 (by simp)
                       have g0' := hby.2 0 (by simp [saidC])
                       have g1' := hby.2 1 (by simp [saidC])
                       have g2' := hby.2 2 (by simp [saidC])
                       have g3' := hby.2 3 (by simp [saidC])
                       have g4' := hby.2 4 (by simp [saidC])
                       simp only [saidC, List.getElem_cons_zero, List.getElem_cons_succ] at f0 f1 f2 g0' g1' g2' g3' g4'
                       have HBX := hide hbx
                       have HBY := hide hby
                       clear hbx hby
                       have hrow := owns_only HLR2.out ho3 (fun k hk e => by have := (HLB.out k hk).1; have := HNG.out; have : k = rb := e; omega)
                       have HV1 := hide (natR_of_owns hrow)
                       have HV2 := hide (natR_of_owns ru)
                       have HROW := hide hrow
                       have HRF := hide hr'
                       have HVF : Hid (∀ k, v'.ownBlock = some k → vb.ownBlock = some k ∨ w3.heap.size ≤ k) := hv'
                       have HOF : Hid (Only (MidF true rb (.slice la L lc)) w3 W1) := ho3.imp (fun k _ h => Or.inl h)
                       clear hrow ru hr' ho' hv' ho3)
                    | (go_at_call 14; refine (same_any r.2 (.slice la L lc) _ _ (by have := HLL.out; have := HL.out; omega) HV1.out HV2.out).mono ?_; rintro e W2 ⟨rfl, hb2⟩
                       have hbx := (HBX.out.below hb2)
                       have hby := (HBY.out.below hb2)
                       have f0 := hbx.2 0 (by simp)
                       have f1 := hbx.2 1 (by simp)
                       have f2 := hbx.2 2 (by simp)
                       have g0' := hby.2 0 (by simp [saidC])
                       have g1' := hby.2 1 (by simp [saidC])
                       have g2' := hby.2 2 (by simp [saidC])
                       have g3' := hby.2 3 (by simp [saidC])
                       have g4' := hby.2 4 (by simp [saidC])
                       simp only [saidC, List.getElem_cons_zero, List.getElem_cons_succ] at f0 f1 f2 g0' g1' g2' g3' g4'
                       have HBX := hide hbx
                       have HBY := hide hby
                       clear hbx hby
                       have HROW := hide (owns_below HROW.out hb2)
                       have HRF := hide (HRF.out.below hb2)
                       have HOF := hide (HOF.out.trans (Only.of_below hb2))
                       clear hb2)
                    | (go_at_call 29; refine (spoil_any (.slice la L lc) L _ _ _ HROW.out HLL.out).mono ?_; rintro e W3 ⟨rfl, hs3⟩
                       have hbx := (HBX.out.only hs3 (fun e => by have := (HLB.out _ e).1; omega))
                       have hby := (HBY.out.only hs3 (fun e => by have := (HLB.out _ e).2; omega))
                       have f0 := hbx.2 0 (by simp)
                       have f1 := hbx.2 1 (by simp)
                       have f2 := hbx.2 2 (by simp)
                       have g0' := hby.2 0 (by simp [saidC])
                       have g1' := hby.2 1 (by simp [saidC])
                       have g2' := hby.2 2 (by simp [saidC])
                       have g3' := hby.2 3 (by simp [saidC])
                       have g4' := hby.2 4 (by simp [saidC])
                       simp only [saidC, List.getElem_cons_zero, List.getElem_cons_succ] at f0 f1 f2 g0' g1' g2' g3' g4'
                       have HBX := hide hbx
                       have HBY := hide hby
                       clear hbx hby
                       have HRF := hide (HRF.out.only hs3 (fun e => by have := (HLB.out _ e).1; have := HNG.out; omega) (fun k hk e => by
                         have h1 := HLB.out k e
                         rcases HVF.out k hk with h | h
                         · have := HPL.out.A.ltv k h; omega
                         · have := HS3.out; omega))
                       have HOF := hide (HOF.out.trans (hs3.imp (fun k _ h => Or.inr ⟨rfl, h⟩)))
                       clear hs3))) | fail
                all_goals
                  go_wp2_with fail
                  go_meet
                all_goals exact ⟨rfl, _, HRF.out, HVF.out, HOF.out⟩
              case rest =>
                obtain ⟨rfl, hmid⟩ := hcut
                obtain ⟨v', hrf, hvf, hof⟩ := hmid
                have hof2 : ∀ k, MidF true rb (.slice la L lc) k → k = rb ∨ (wr.heap.size < k ∧ k < w2.heap.size) := fun k h => h.imp id (fun h => HLB.out k h.2)
                have hofw : Only (fun k => k = ga ∨ k = rb) wr wc := ((Only.of_below HBR.out).trans (HO13.out.imp (fun k _ h => Or.inl h))).next hof (fun i hi h => (hof2 i h).elim Or.inr (fun h => by omega))
                have hmap : MapR wc ba ga Pa r.1 := HM3.out.only hof (fun h => (hof2 _ h).elim (fun e => type_ne HM3.out.blk HR3.out.blk (by decide) e) (fun h => by have := HPL.out.A.map.ltb; omega)) (fun h => (hof2 _ h).elim (fun e => by obtain ⟨cg, eg⟩ := (owns_blk HM3.out.wds ga rfl).2.2; exact type_ne eg HR3.out.blk (by decide) e) (fun h => by have := HNG.out; omega))
                have hs13 : wr.heap.size ≤ w3.heap.size := by have := HS3.out; omega
                have hvw : ∀ k, v'.ownBlock = some k → vb.ownBlock = some k ∨ wr.heap.size ≤ k := fun k hk => (hvf k hk).imp id (fun h => by omega)
                have HPL8 := hide (HPL.out.step HBS.out hofw hmap HOKT.out hrf hvw)
                have HBX8 := hide (HX3.out.only hof (fun h => (hof2 _ h).elim (fun e => by have := HNG.out; omega) (fun h => by omega)))
                have HBY8 := hide (HY3.out.only hof (fun h => (hof2 _ h).elim (fun e => by have := HNG.out; have := HS3.out; omega) (fun h => by omega)))
                have HBL8 : Hid (Below w0.heap.size w0 wc) := HBW3.out.trans (hof.below (fun k h => by have := HSZ.out; have := HBS.out; have := HPL.out.A.lo.2.2.1; rcases hof2 k h with h | h <;> omega) HBW3.out.size)
                clear hof2 hofw hmap hs13 hvw hof hrf hvf HPL HBW HBR HX3 HY3 HM3 HR3 HO13 HBW3 HBW1 HPL1 HLR2 D1 hst2 f0 f1 f2 g0' g1' g2' g3' g4' k2 s0 s1 s2
                have f0 := HBX8.out.2 0 (by simp)
                have f1 := HBX8.out.2 1 (by simp)
                simp only [List.getElem_cons_zero, List.getElem_cons_succ] at f0 f1
                by_cases hK6 : z0 = 6
                · have hz6 : (z0 == 6) = true := by simp [hK6]
                  clear hK6
                  have CP := hide (copy_any ba ga Pa r.1 wc HPL8.out.A.map)
                  have hokm := hide HPL8.out.A.ok
                  go_wp2_with fail
                  refine CP.out.mono ?_
                  rintro e y1 ⟨bo, go, rfl, q1, q2, hmo, hb9⟩
                  have RC := hide (rcopy_any rb v' Pa r.1 y1 (HPL8.out.A.ref.below hb9) hokm.out)
                  have HMO := hide hmo
                  have HB9 := hide hb9
                  have HQ9 : Hid (wc.heap.size ≤ bo ∧ wc.heap.size ≤ go) := ⟨q1, q2⟩
                  clear CP q1 q2 hmo hb9
                  go_wp2_with fail
                  refine RC.out.mono ?_
                  rintro e y2 ⟨vo, rfl, hro, hb10, hvo⟩
                  obtain ⟨ro, hroe⟩ : ∃ ro, ro = y1.heap.size := ⟨_, rfl⟩
                  have hb8 := Below.next HB9.out hb10
                  have HPC := hide (HPL8.out.copy (by have := HBL8.out.size; have := HSZ.out; omega) hb8 (HMO.out.below hb10) hro HQ9.out.1 HQ9.out.2 HB9.out.size (fun k hk => by have := hvo k hk; have := HB9.out.size; omega))
                  have HBC := hide (Below.next HBL8.out hb8)
                  have f1 := (HBX8.out.below hb8).2 1 (by simp)
                  simp only [List.getElem_cons_zero, List.getElem_cons_succ] at f1
                  rw [← hroe] at HPC ⊢
                  clear RC hro hb10 hvo hb8 HMO HB9 HQ9 HPL8 HBL8 hroe
                  have F1 := hide (free_any ba ga Pa r.1 y2 HPC.out.A.map HPC.out.A.ok)
                  have F2 := hide (rfree_any rb v' Pa r.1 y2 HPC.out.A.ref HPC.out.A.ok)
                  have hff1 : (((frl r.1 Pa).length : Int) != ((frl r.1 Pa).length : Int)) = false := by simp
                  have hff2 : (((frl r.1 Pa).length : Int) != ((frl r.1 Pa).length : Int)) = false := by simp
                  go_wp2_with fail
                  refine F1.out.mono ?_
                  rintro e x1 ⟨rfl, rfl⟩
                  go_wp2_with fail
                  refine F2.out.mono ?_
                  rintro e x2 ⟨rfl, hbx⟩
                  have HPX := hide (HPC.out.below hbx)
                  have HBZ := hide (Below.next HBC.out hbx)
                  have F3 := hide (free_any bo go Pa r.1 x2 HPX.out.C.map HPX.out.C.ok)
                  have F4 := hide (rfree_any ro vo Pa r.1 x2 HPX.out.C.ref HPX.out.C.ok)
                  clear hbx F1 F2 HPC HBC
                  go_wp2_with fail
                  refine F3.out.mono ?_
                  rintro e x3 ⟨rfl, rfl⟩
                  go_wp2_with fail
                  refine F4.out.mono ?_
                  rintro e x4 ⟨rfl, hby⟩
                  have HPY := hide (HPX.out.below hby)
                  have HBY2 := hide (Below.next HBZ.out hby)
                  clear hby F3 F4 HPX HBZ
                  go_wp2
                  go_roundw
                  case rel => exact ⟨ba, ga, rb, v', Pa, r.1, bo, go, ro, vo, Pa, r.1, _, _, N, _, _, _, _, k + 1, by omega, by first | omega | (have := HKO.out; omega), rfl, rfl, rfl, rfl, rfl, by go_num, HPY.out, HBY2.out⟩
                  case measure => simp [intOf]; omega
                · have hz6 : (z0 == 6) = false := by simp [hK6]
                  clear hK6
                  have F1 := hide (free_any ba ga Pa r.1 wc HPL8.out.A.map HPL8.out.A.ok)
                  have F2 := hide (rfree_any rb v' Pa r.1 wc HPL8.out.A.ref HPL8.out.A.ok)
                  have hff1 : (((frl r.1 Pa).length : Int) != ((frl r.1 Pa).length : Int)) = false := by simp
                  have hff2 : (((frl Tc Pc).length : Int) != ((frl Tc Pc).length : Int)) = false := by simp
                  go_wp2_with fail
                  refine F1.out.mono ?_
                  rintro e x1 ⟨rfl, rfl⟩
                  go_wp2_with fail
                  refine F2.out.mono ?_
                  rintro e x2 ⟨rfl, hbx⟩
                  have HPX := hide (HPL8.out.below hbx)
                  have HBZ := hide (Below.next HBL8.out hbx)
                  have F3 := hide (free_any bc gc Pc Tc x2 HPX.out.C.map HPX.out.C.ok)
                  have F4 := hide (rfree_any rd vd Pc Tc x2 HPX.out.C.ref HPX.out.C.ok)
                  clear hbx F1 F2 HPL8 HBL8
                  go_wp2_with fail
                  refine F3.out.mono ?_
                  rintro e x3 ⟨rfl, rfl⟩
                  go_wp2_with fail
                  refine F4.out.mono ?_
                  rintro e x4 ⟨rfl, hby⟩
                  have HPY := hide (HPX.out.below hby)
                  have HBY2 := hide (Below.next HBZ.out hby)
                  clear hby F3 F4 HPX HBZ
                  go_wp2
                  go_roundw
                  case rel => exact ⟨ba, ga, rb, v', Pa, r.1, bc, gc, rd, vd, Pc, Tc, _, _, N, _, _, _, _, k + 1, by omega, by first | omega | (have := HKO.out; omega), rfl, rfl, rfl, rfl, rfl, by go_num, HPY.out, HBY2.out⟩
                  case measure => simp [intOf]; omega
            · have hkm : (k : Int) % 2 = 1 := by omega
              have HKO : Hid (2 * N + 1 ≤ k) := by show _ ≤ _; omega
              have hkt : Int.tmod (k : Int) 2 = 1 := by rw [Int.tmod_eq_emod_of_nonneg k0I]; exact hkm
              clear hev
              go_upto_region 18 with (refine wpList_store_eq rfl 30 _ _ rfl _ _ rfl rfl hst2 ?_)

              simp only [Act.put]
              go_cut [115] (fun u wx => u = .bool false ∧ Mid false w3 wx rb vb Pa r.1 (.slice la L lc))
              case first =>
                refine wp_region_held_drew (S := (fun w' => w'.cell? ⟨wr.heap.size, 0, none⟩ = some (.int .i64 z0) ∧ w'.cell? ⟨wr.heap.size, 1, none⟩ = some (.int .i64 z1) ∧ w'.cell? ⟨wr.heap.size, 2, none⟩ = some (.int .i64 z2) ∧ w'.cell? ⟨w2.heap.size, 0, none⟩ = some (.int .i64 (r.2.err : Int)) ∧ w'.cell? ⟨w2.heap.size, 1, none⟩ = some (.int .i64 (r.2.a : Int)) ∧ w'.cell? ⟨w2.heap.size, 2, none⟩ = some (.int .i64 (r.2.b : Int)) ∧ w'.cell? ⟨w2.heap.size, 3, none⟩ = some (.bool r.2.ok) ∧ w'.cell? ⟨w2.heap.size, 4, none⟩ = some (.slice la L lc))) (by kernel_rfl) ⟨f0, f1, f2, g0', g1', g2', g3', g4'⟩ (fun hHeld => ?_)
                refine wpAnyH_take (i := 0) (oi := { dst := some 99, op := Op.load 30 (Operand.tmp 16), type := 30, pos := "law.go:142", after := #[], guard := none }) (v := ?_) rfl (by kernel_rfl) (by kernel_rfl) (by kernel_rfl) (fun _ _ _ h => h) (Or.inl ⟨by rfl, ?_⟩) (by assumption) ?_
                rotate_left
                · (intro w' hSw; (try dsimp only at hSw); go_simp; try with_reducible rfl)
                simp only [Act.put, List.setIfInBounds_toArray, List.set_cons_zero, List.set_cons_succ]
                refine wpAnyH_take (i := 1) (oi := { dst := some 100, op := Op.move (Operand.tmp 15), type := 56, pos := "law.go:142", after := #[], guard := none }) (v := ?_) rfl (by kernel_rfl) (by kernel_rfl) (by kernel_rfl) (fun _ _ _ h => h) (Or.inl ⟨by rfl, ?_⟩) (by assumption) ?_
                rotate_left
                · (intro w' hSw; (try dsimp only at hSw); go_simp; try with_reducible rfl)
                simp only [Act.put, List.setIfInBounds_toArray, List.set_cons_zero, List.set_cons_succ]
                refine wpAnyH_take (i := 2) (oi := { dst := some 101, op := Op.load 33 (Operand.tmp 13), type := 33, pos := "law.go:142", after := #[], guard := none }) (v := ?_) rfl (by kernel_rfl) (by kernel_rfl) (by kernel_rfl) (fun _ _ _ h => h) (Or.inl ⟨by rfl, ?_⟩) (by assumption) ?_
                rotate_left
                · (intro w' hSw; (try dsimp only at hSw); go_simp; try with_reducible rfl)
                simp only [Act.put, List.setIfInBounds_toArray, List.set_cons_zero, List.set_cons_succ]
                refine wpAnyH_ready (rs := [3]) (by kernel_rfl) (by simp) ?_
                refine AllReadyH.cons (o := { dst := some 102, op := Op.call { callee := Callee.value (Operand.func 28), args := #[Operand.tmp 100, Operand.tmp 101], argTypes := #[56, 33] }, type := 30, pos := "law.go:142", after := #[{ on := 1, ground := Ground.data }, { on := 2, ground := Ground.data }], guard := none }) rfl (fun K hK => ?_) AllReadyH.nil
                clear hHeld
                go_simp
                refine D1.out.mono ?_
                rintro e W1 ⟨u, hp1⟩
                obtain ⟨rfl, ru, hrf⟩ := hp1
                obtain ⟨v', hr', ho', hv'⟩ := hrf
                have ho3 : Only (fun k => k = rb) w3 W1 := ⟨ho'.os, ho'.tape, ho'.output, ho'.size, ho'.block⟩
                have hbx := (HX3.out.only ho3 (fun e => by have := HNG.out; have : wr.heap.size = rb := e; omega))
                have hby := (HY3.out.only ho3 (fun e => by have := HNG.out; have := HS3.out; have : w2.heap.size = rb := e; omega))
                have f0 := hbx.2 0 (by simp)
                have f1 := hbx.2 1 (by simp)
                have f2 := hbx.2 2 (by simp)
                have g0' := hby.2 0 (by simp [saidC])
                have g1' := hby.2 1 (by simp [saidC])
                have g2' := hby.2 2 (by simp [saidC])
                have g3' := hby.2 3 (by simp [saidC])
                have g4' := hby.2 4 (by simp [saidC])
                simp only [saidC, List.getElem_cons_zero, List.getElem_cons_succ] at f0 f1 f2 g0' g1' g2' g3' g4'
                have HBX := hide hbx
                have HBY := hide hby
                clear hbx hby
                have hrow := owns_only HLR2.out ho3 (fun k hk e => by have := (HLB.out k hk).1; have := HNG.out; have : k = rb := e; omega)
                have HV1 := hide (natR_of_owns hrow)
                have HV2 := hide (natR_of_owns ru)
                have HROW := hide hrow
                have HRF := hide hr'
                have HVF : Hid (∀ k, v'.ownBlock = some k → vb.ownBlock = some k ∨ w3.heap.size ≤ k) := hv'
                have HOF : Hid (Only (MidF false rb (.slice la L lc)) w3 W1) := ho3.imp (fun k _ h => Or.inl h)
                clear hrow ru hr' ho' hv' ho3
                refine hK.out _ _ ⟨f0, f1, f2, g0', g1', g2', g3', g4'⟩ (fun hHeld => ?_)
                clear hK K
                refine wpAnyH_ready (rs := [4]) (by kernel_rfl) (by simp) ?_
                refine AllReadyH.cons (o := { dst := some 103, op := Op.call { callee := Callee.value (Operand.func 14), args := #[Operand.tmp 99, Operand.tmp 102], argTypes := #[30, 30] }, type := 4, pos := "law.go:142", after := #[{ on := 0, ground := Ground.data }, { on := 3, ground := Ground.data }, { on := 3, ground := Ground.chain }], guard := none }) rfl (fun K hK => ?_) AllReadyH.nil
                clear hHeld
                go_simp
                refine (same_any r.2 (.slice la L lc) _ _ (by have := HLL.out; have := HL.out; omega) HV1.out HV2.out).mono ?_
                rintro e W2 ⟨rfl, hb2⟩
                have hbx := (HBX.out.below hb2)
                have hby := (HBY.out.below hb2)
                have f0 := hbx.2 0 (by simp)
                have f1 := hbx.2 1 (by simp)
                have f2 := hbx.2 2 (by simp)
                have g0' := hby.2 0 (by simp [saidC])
                have g1' := hby.2 1 (by simp [saidC])
                have g2' := hby.2 2 (by simp [saidC])
                have g3' := hby.2 3 (by simp [saidC])
                have g4' := hby.2 4 (by simp [saidC])
                simp only [saidC, List.getElem_cons_zero, List.getElem_cons_succ] at f0 f1 f2 g0' g1' g2' g3' g4'
                have HBX := hide hbx
                have HBY := hide hby
                clear hbx hby
                have HRF := hide (HRF.out.below hb2)
                have HOF := hide (HOF.out.trans (Only.of_below hb2))
                clear hb2 HROW
                refine hK.out _ _ ⟨f0, f1, f2, g0', g1', g2', g3', g4'⟩ (fun hHeld => ?_)
                clear hK K
                refine wpAnyH_take (i := 5) (oi := { dst := some 104, op := Op.unOp UnOp.not 4 (Operand.tmp 103), type := 4, pos := "law.go:142", after := #[{ on := 4, ground := Ground.data }], guard := none }) (v := ?_) rfl (by kernel_rfl) (by kernel_rfl) (by kernel_rfl) (fun _ _ _ h => h) (Or.inl ⟨by rfl, ?_⟩) (by assumption) ?_
                rotate_left
                · (intro w' hSw; (try dsimp only at hSw); go_simp; try with_reducible rfl)
                simp only [Act.put, List.setIfInBounds_toArray, List.set_cons_zero, List.set_cons_succ]
                refine wpAnyH_take (i := 6) (oi := { dst := some 105, op := Op.move (Operand.tmp 104), type := 4, pos := "law.go:142", after := #[{ on := 5, ground := Ground.data }, { on := 4, ground := Ground.chain }], guard := none }) (v := ?_) rfl (by kernel_rfl) (by kernel_rfl) (by kernel_rfl) (fun _ _ _ h => h) (Or.inl ⟨by rfl, ?_⟩) (by assumption) ?_
                rotate_left
                · (intro w' hSw; (try dsimp only at hSw); go_simp; try with_reducible rfl)
                simp only [Act.put, List.setIfInBounds_toArray, List.set_cons_zero, List.set_cons_succ]
                refine wpAnyH_take (i := 7) (oi := { dst := some 106, op := Op.move (Operand.tmp 12), type := 3, pos := "law.go:142", after := #[{ on := 6, ground := Ground.guard }], guard := some (6, false) }) (v := ?_) rfl (by kernel_rfl) (by kernel_rfl) (by kernel_rfl) (fun _ _ _ h => h) (Or.inl ⟨by rfl, ?_⟩) (by assumption) ?_
                rotate_left
                · (intro w' hSw; (try dsimp only at hSw); go_simp; try with_reducible rfl)
                simp only [Act.put, List.setIfInBounds_toArray, List.set_cons_zero, List.set_cons_succ]
                refine wpAnyH_take (i := 8) (oi := { dst := some 107, op := Op.binOp BinOp.rem 3 (Operand.tmp 106) (Operand.const (Value.int IntKind.i64 2)) 3, type := 3, pos := "law.go:142", after := #[{ on := 7, ground := Ground.data }, { on := 6, ground := Ground.guard }], guard := some (6, false) }) (v := ?_) rfl (by kernel_rfl) (by kernel_rfl) (by kernel_rfl) (fun _ _ _ h => h) (Or.inl ⟨by rfl, ?_⟩) (by assumption) ?_
                rotate_left
                · (intro w' hSw; (try dsimp only at hSw); go_simp; try with_reducible rfl)
                simp only [Act.put, List.setIfInBounds_toArray, List.set_cons_zero, List.set_cons_succ]
                refine wpAnyH_take (i := 9) (oi := { dst := some 108, op := Op.binOp BinOp.eql 3 (Operand.tmp 107) (Operand.const (Value.int IntKind.i64 0)) 3, type := 4, pos := "law.go:142", after := #[{ on := 8, ground := Ground.data }, { on := 6, ground := Ground.guard }], guard := some (6, false) }) (v := ?_) rfl (by kernel_rfl) (by kernel_rfl) (by kernel_rfl) (fun _ _ _ h => h) (Or.inl ⟨by rfl, ?_⟩) (by assumption) ?_
                rotate_left
                · (intro w' hSw; (try dsimp only at hSw); go_simp; try with_reducible rfl)
                simp only [Act.put, List.setIfInBounds_toArray, List.set_cons_zero, List.set_cons_succ]
                refine wpAnyH_take (i := 10) (oi := { dst := some 109, op := Op.move (Operand.tmp 108), type := 4, pos := "law.go:142", after := #[{ on := 9, ground := Ground.data }, { on := 6, ground := Ground.chain }, { on := 6, ground := Ground.guard }], guard := some (6, false) }) (v := ?_) rfl (by kernel_rfl) (by kernel_rfl) (by kernel_rfl) (fun _ _ _ h => h) (Or.inl ⟨by rfl, ?_⟩) (by assumption) ?_
                rotate_left
                · (intro w' hSw; (try dsimp only at hSw); go_simp; try with_reducible rfl)
                simp only [Act.put, List.setIfInBounds_toArray, List.set_cons_zero, List.set_cons_succ]
                refine wpAnyH_take (i := 11) (oi := { dst := some 110, op := Op.fieldAddr 30 (Operand.tmp 16) 4, type := 0, pos := "law.go:142", after := #[{ on := 10, ground := Ground.guard }], guard := some (10, true) }) (v := undef) rfl (by kernel_rfl) (by kernel_rfl) (by kernel_rfl) (fun _ _ _ h => h) (Or.inr ⟨by rfl, rfl⟩) (by assumption) ?_
                simp only [Act.put, List.setIfInBounds_toArray, List.set_cons_zero, List.set_cons_succ]
                refine wpAnyH_take (i := 12) (oi := { dst := some 111, op := Op.load 28 (Operand.tmp 110), type := 28, pos := "law.go:142", after := #[{ on := 11, ground := Ground.data }, { on := 10, ground := Ground.guard }], guard := some (10, true) }) (v := undef) rfl (by kernel_rfl) (by kernel_rfl) (by kernel_rfl) (fun _ _ _ h => h) (Or.inr ⟨by rfl, rfl⟩) (by assumption) ?_
                simp only [Act.put, List.setIfInBounds_toArray, List.set_cons_zero, List.set_cons_succ]
                refine wpAnyH_take (i := 13) (oi := { dst := some 112, op := Op.call { callee := Callee.value (Operand.func 29), args := #[Operand.tmp 111], argTypes := #[28] }, type := 4, pos := "law.go:142", after := #[{ on := 12, ground := Ground.data }, { on := 10, ground := Ground.chain }, { on := 10, ground := Ground.guard }], guard := some (10, true) }) (v := undef) rfl (by kernel_rfl) (by kernel_rfl) (by kernel_rfl) (fun _ _ _ h => h) (Or.inr ⟨by rfl, rfl⟩) (by assumption) ?_
                simp only [Act.put, List.setIfInBounds_toArray, List.set_cons_zero, List.set_cons_succ]
                refine wpAnyH_take (i := 14) (oi := { dst := some 113, op := Op.unOp UnOp.not 4 (Operand.tmp 112), type := 4, pos := "law.go:142", after := #[{ on := 13, ground := Ground.data }, { on := 10, ground := Ground.guard }], guard := some (10, true) }) (v := undef) rfl (by kernel_rfl) (by kernel_rfl) (by kernel_rfl) (fun _ _ _ h => h) (Or.inr ⟨by rfl, rfl⟩) (by assumption) ?_
                simp only [Act.put, List.setIfInBounds_toArray, List.set_cons_zero, List.set_cons_succ]
                refine wpAnyH_take (i := 15) (oi := { dst := some 114, op := Op.pick (Operand.tmp 109) (Operand.tmp 113) (Operand.const (Value.bool false)), type := 4, pos := "law.go:142", after := #[{ on := 10, ground := Ground.data }, { on := 14, ground := Ground.data }, { on := 6, ground := Ground.guard }], guard := some (6, false) }) (v := ?_) rfl (by kernel_rfl) (by kernel_rfl) (by kernel_rfl) (fun _ _ _ h => h) (Or.inl ⟨by rfl, ?_⟩) (by assumption) ?_
                rotate_left
                · (intro w' hSw; (try dsimp only at hSw); go_simp; try with_reducible rfl)
                simp only [Act.put, List.setIfInBounds_toArray, List.set_cons_zero, List.set_cons_succ]
                refine wpAnyH_take (i := 16) (oi := { dst := some 115, op := Op.pick (Operand.tmp 105) (Operand.const (Value.bool true)) (Operand.tmp 114), type := 4, pos := "law.go:142", after := #[{ on := 6, ground := Ground.data }, { on := 15, ground := Ground.data }], guard := none }) (v := ?_) rfl (by kernel_rfl) (by kernel_rfl) (by kernel_rfl) (fun _ _ _ h => h) (Or.inl ⟨by rfl, ?_⟩) (by assumption) ?_
                rotate_left
                · (intro w' hSw; (try dsimp only at hSw); go_simp; try with_reducible rfl)
                simp only [Act.put, List.setIfInBounds_toArray, List.set_cons_zero, List.set_cons_succ]
                refine wpAnyH_done (by kernel_rfl) ?_ _
                clear hHeld
                go_wp2_with fail
                go_meet
                exact ⟨rfl, _, HRF.out, HVF.out, HOF.out⟩
              case rest =>
                obtain ⟨rfl, hmid⟩ := hcut
                obtain ⟨v', hrf, hvf, hof⟩ := hmid
                have hof2 : ∀ k, MidF false rb (.slice la L lc) k → k = rb ∨ (wr.heap.size < k ∧ k < w2.heap.size) := fun k h => h.imp id (fun h => HLB.out k h.2)
                have hofw : Only (fun k => k = ga ∨ k = rb) wr wc := ((Only.of_below HBR.out).trans (HO13.out.imp (fun k _ h => Or.inl h))).next hof (fun i hi h => (hof2 i h).elim Or.inr (fun h => by omega))
                have hmap : MapR wc ba ga Pa r.1 := HM3.out.only hof (fun h => (hof2 _ h).elim (fun e => type_ne HM3.out.blk HR3.out.blk (by decide) e) (fun h => by have := HPL.out.A.map.ltb; omega)) (fun h => (hof2 _ h).elim (fun e => by obtain ⟨cg, eg⟩ := (owns_blk HM3.out.wds ga rfl).2.2; exact type_ne eg HR3.out.blk (by decide) e) (fun h => by have := HNG.out; omega))
                have hs13 : wr.heap.size ≤ w3.heap.size := by have := HS3.out; omega
                have hvw : ∀ k, v'.ownBlock = some k → vb.ownBlock = some k ∨ wr.heap.size ≤ k := fun k hk => (hvf k hk).imp id (fun h => by omega)
                have HPL8 := hide (HPL.out.step HBS.out hofw hmap HOKT.out hrf hvw)
                have HBX8 := hide (HX3.out.only hof (fun h => (hof2 _ h).elim (fun e => by have := HNG.out; omega) (fun h => by omega)))
                have HBY8 := hide (HY3.out.only hof (fun h => (hof2 _ h).elim (fun e => by have := HNG.out; have := HS3.out; omega) (fun h => by omega)))
                have HBL8 : Hid (Below w0.heap.size w0 wc) := HBW3.out.trans (hof.below (fun k h => by have := HSZ.out; have := HBS.out; have := HPL.out.A.lo.2.2.1; rcases hof2 k h with h | h <;> omega) HBW3.out.size)
                have hrowc := owns_only HLR2.out hof (fun k hk h => by have h2 := HLB.out k hk; have := HNG.out; rcases h with h | h <;> first | omega | cases h.1)
                have HROWC := hide hrowc
                have HVB : Hid (∀ g, la = some ⟨g, 0, none⟩ → wr.heap.size < g ∧ g < w2.heap.size) := fun g e => HLB.out g (by rw [e]; rfl)
                have HVV := hide hvf
                clear hrowc
                have HKL : Hid (∀ g, InN N a g → g < wr.heap.size) := fun g h => HPL.out.K.llt h
                have HKB : Hid (∀ k, (Value.slice ka N kc).ownBlock = some k → k < wr.heap.size ∧ W.heap.size < k) := fun k h => ⟨(owns_blk HPL.out.K.row k h).2.1, HPL.out.K.lo k h⟩
                have HKV : Hid (∀ g, wr.heap.size < g ∧ g < w2.heap.size → v'.ownBlock ≠ some g ∧ vd.ownBlock ≠ some g) := fun g hg => ⟨(fun h => (hvf g h).elim (fun h => by have := HPL.out.A.ltv g h; omega) (fun h => by have := HS3.out; omega)), (fun h => by have := HPL.out.C.ltv g h; omega)⟩
                clear hof2 hofw hmap hs13 hvw hof hrf hvf HPL HBW HBR HX3 HY3 HM3 HR3 HO13 HBW3 HBW1 HPL1 HLR2 D1 hst2 f0 f1 f2 g0' g1' g2' g3' g4' k2 s0 s1 s2
                obtain ⟨kg, kcap, w9, hrun, hpl9, hon9⟩ := HPL8.out.keep (by have := HBL8.out.size; have := HSZ.out; omega) (by omega) la L lc _ (owns_weak HROWC.out (Nat.zero_le _)) HLL.out (fun g e => by have := (HVB.out g e).1; have := HBS.out; omega) (fun g e h => by have h1 := HKL.out g h; have := (HVB.out g e).1; omega) (fun g e => HKV.out g (HVB.out g e))
                have HPL9 := hide hpl9
                have HBX9 := hide (HBX8.out.only hon9 (fun h => by have := (HKB.out _ h).1; omega))
                have HBL9 : Hid (Below w0.heap.size w0 w9) := HBL8.out.trans (hon9.below (fun k h => by have := (HKB.out k h).2; have := HSZ.out; omega) HBL8.out.size)
                have g4' := HBY8.out.2 4 (by simp [saidC])
                simp only [saidC, List.getElem_cons_zero, List.getElem_cons_succ] at g4'
                clear hpl9 hon9 HPL8 HBL8 HBX8 HBY8 HROWC HVB HVV HKL HKB HKV
                go_upto_region 22 with (first | (at_builtin; refine wpList_append_run 60 rfl (.tmp 119) (.tmp 122) rfl rfl _ _ rfl rfl _ _ hrun ?_))
                clear hrun g4'
                have f0 := HBX9.out.2 0 (by simp)
                have f1 := HBX9.out.2 1 (by simp)
                simp only [List.getElem_cons_zero, List.getElem_cons_succ] at f0 f1
                by_cases hK6 : z0 = 6
                · have hz6 : (z0 == 6) = true := by simp [hK6]
                  clear hK6
                  have CP := hide (copy_any ba ga Pa r.1 w9 HPL9.out.A.map)
                  have hokm := hide HPL9.out.A.ok
                  go_wp2_with fail
                  refine CP.out.mono ?_
                  rintro e y1 ⟨bo, go, rfl, q1, q2, hmo, hb9⟩
                  have RC := hide (rcopy_any rb v' Pa r.1 y1 (HPL9.out.A.ref.below hb9) hokm.out)
                  have HMO := hide hmo
                  have HB9 := hide hb9
                  have HQ9 : Hid (w9.heap.size ≤ bo ∧ w9.heap.size ≤ go) := ⟨q1, q2⟩
                  clear CP q1 q2 hmo hb9
                  go_wp2_with fail
                  refine RC.out.mono ?_
                  rintro e y2 ⟨vo, rfl, hro, hb10, hvo⟩
                  obtain ⟨ro, hroe⟩ : ∃ ro, ro = y1.heap.size := ⟨_, rfl⟩
                  have hb8 := Below.next HB9.out hb10
                  have HPC := hide (HPL9.out.copy (by have := HBL9.out.size; have := HSZ.out; omega) hb8 (HMO.out.below hb10) hro HQ9.out.1 HQ9.out.2 HB9.out.size (fun k hk => by have := hvo k hk; have := HB9.out.size; omega))
                  have HBC := hide (Below.next HBL9.out hb8)
                  have f1 := (HBX9.out.below hb8).2 1 (by simp)
                  simp only [List.getElem_cons_zero, List.getElem_cons_succ] at f1
                  rw [← hroe] at HPC ⊢
                  clear RC hro hb10 hvo hb8 HMO HB9 HQ9 HPL9 HBL9 hroe
                  have F1 := hide (free_any ba ga Pa r.1 y2 HPC.out.A.map HPC.out.A.ok)
                  have F2 := hide (rfree_any rb v' Pa r.1 y2 HPC.out.A.ref HPC.out.A.ok)
                  have hff1 : (((frl r.1 Pa).length : Int) != ((frl r.1 Pa).length : Int)) = false := by simp
                  have hff2 : (((frl r.1 Pa).length : Int) != ((frl r.1 Pa).length : Int)) = false := by simp
                  go_wp2_with fail
                  refine F1.out.mono ?_
                  rintro e x1 ⟨rfl, rfl⟩
                  go_wp2_with fail
                  refine F2.out.mono ?_
                  rintro e x2 ⟨rfl, hbx⟩
                  have HPX := hide (HPC.out.below hbx)
                  have HBZ := hide (Below.next HBC.out hbx)
                  have F3 := hide (free_any bo go Pa r.1 x2 HPX.out.C.map HPX.out.C.ok)
                  have F4 := hide (rfree_any ro vo Pa r.1 x2 HPX.out.C.ref HPX.out.C.ok)
                  clear hbx F1 F2 HPC HBC
                  go_wp2_with fail
                  refine F3.out.mono ?_
                  rintro e x3 ⟨rfl, rfl⟩
                  go_wp2_with fail
                  refine F4.out.mono ?_
                  rintro e x4 ⟨rfl, hby⟩
                  have HPY := hide (HPX.out.below hby)
                  have HBY2 := hide (Below.next HBZ.out hby)
                  clear hby F3 F4 HPX HBZ
                  go_wp2
                  go_roundw
                  case rel => exact ⟨ba, ga, rb, v', Pa, r.1, bo, go, ro, vo, Pa, r.1, _, _, (N + 1), _, _, _, _, k + 1, by omega, by first | omega | (have := HKO.out; omega), rfl, rfl, rfl, rfl, rfl, by go_num, HPY.out, HBY2.out⟩
                  case measure => simp [intOf]; omega
                · have hz6 : (z0 == 6) = false := by simp [hK6]
                  clear hK6
                  have F1 := hide (free_any ba ga Pa r.1 w9 HPL9.out.A.map HPL9.out.A.ok)
                  have F2 := hide (rfree_any rb v' Pa r.1 w9 HPL9.out.A.ref HPL9.out.A.ok)
                  have hff1 : (((frl r.1 Pa).length : Int) != ((frl r.1 Pa).length : Int)) = false := by simp
                  have hff2 : (((frl Tc Pc).length : Int) != ((frl Tc Pc).length : Int)) = false := by simp
                  go_wp2_with fail
                  refine F1.out.mono ?_
                  rintro e x1 ⟨rfl, rfl⟩
                  go_wp2_with fail
                  refine F2.out.mono ?_
                  rintro e x2 ⟨rfl, hbx⟩
                  have HPX := hide (HPL9.out.below hbx)
                  have HBZ := hide (Below.next HBL9.out hbx)
                  have F3 := hide (free_any bc gc Pc Tc x2 HPX.out.C.map HPX.out.C.ok)
                  have F4 := hide (rfree_any rd vd Pc Tc x2 HPX.out.C.ref HPX.out.C.ok)
                  clear hbx F1 F2 HPL9 HBL9
                  go_wp2_with fail
                  refine F3.out.mono ?_
                  rintro e x3 ⟨rfl, rfl⟩
                  go_wp2_with fail
                  refine F4.out.mono ?_
                  rintro e x4 ⟨rfl, hby⟩
                  have HPY := hide (HPX.out.below hby)
                  have HBY2 := hide (Below.next HBZ.out hby)
                  clear hby F3 F4 HPX HBZ
                  go_wp2
                  go_roundw
                  case rel => exact ⟨ba, ga, rb, v', Pa, r.1, bc, gc, rd, vd, Pc, Tc, _, _, (N + 1), _, _, _, _, k + 1, by omega, by first | omega | (have := HKO.out; omega), rfl, rfl, rfl, rfl, rfl, by go_num, HPY.out, HBY2.out⟩
                  case measure => simp [intOf]; omega
          · have hpz : (par != 0) = true := by simp [hodd]
            clear hodd
            have AC := hide (act_any W.heap.size A bc gc Pc Tc w1 HPL1.out.C.map HPL1.out.C.ok (HEN.out _ HBW1.out) (Nat.le_of_lt HPL1.out.C.lo.2.1) z0 z1 z2)
            have HOKT := hide (act_ok HPL1.out.C.ok z0 z2)
            have HLE := hide (act_len2 HPL1.out.C.ok z0 z2)
            have HRM := hide HPL1.out.C.ref
            generalize hrr : actD Pc Tc z0 z2 = r at *
            have HRR := hide hrr
            clear hrr
            go_wp2_with (refine wpList_store_eq rfl 33 _ _ rfl _ _ rfl rfl hst ?_)
            refine AC.out.mono ?_
            rintro e w2 ⟨lv, hp⟩
            obtain ⟨rfl, hrl, hm2, o2⟩ := hp
            obtain ⟨la, lc, rfl, -⟩ := owns_form hrl
            have hst2 := said_new w2 r.2 (.slice la r.2.list.length lc) rfl
            obtain ⟨w3, hw3⟩ : ∃ w3, w3 = w2.alloc (.cells (saidC r.2 (.slice la r.2.list.length lc)) 30) := ⟨_, rfl⟩
            have hb3 : Below w2.heap.size w2 w3 := by rw [hw3]; exact below_new _ _
            have hx3 : Boxed w2.heap.size (saidC r.2 (.slice la r.2.list.length lc)).toList w3 := by rw [hw3]; exact boxed_new w2 _ 30
            have hs3 : w3.heap.size = w2.heap.size + 1 := by rw [hw3]; simp
            rw [← hw3] at hst2
            unfold zSaid at hst2
            clear hw3
            have o13 : Only (fun k => k = gc) w1 w3 := o2.trans (Only.of_below hb3)
            have hsbl : wr.heap.size < w1.heap.size := by rw [HS1.out]; omega
            have hgml : gc < wr.heap.size := by have := HPL.out.C.map.ltg; omega
            have hrml : rd < wr.heap.size := by have := HPL.out.C.ref.ltb; omega
            have hX3 : Boxed wr.heap.size [.int .i64 z0, .int .i64 z1, .int .i64 z2] w3 := HX1.out.only o13 (fun e => by have : wr.heap.size = gc := e; omega)
            have HX3 := hide hX3
            have HY3 := hide hx3
            have HM3 := hide (hm2.below hb3)
            have HR3 : Hid (RefR w3 rd vd Pc Tc) := HRM.out.only o13 (HPL1.out.C.gne HPL1.out.C.ref.blk (by decide)) (fun k hk => by obtain ⟨c3, b3⟩ := HPL1.out.C.vblk k hk; exact HPL1.out.C.gne b3 (by decide))
            have HLR := hide (owns_below hrl hb3)
            have HO13 := hide o13
            have HBW3 : Hid (Below w0.heap.size w0 w3) := HBW1.out.trans (o13.below (fun k hk => by rw [show k = gc from hk]; have := HPL1.out.C.lo.2.1; have := HSZ.out; omega) HBW1.out.size)
            have HLB : Hid (∀ k, (Value.slice la r.2.list.length lc).ownBlock = some k → wr.heap.size < k ∧ k < w2.heap.size) := fun k hk => ⟨by have := (owns_blk hrl k hk).1; omega, (owns_blk hrl k hk).2.1⟩
            have HS3 : Hid (w3.heap.size = w2.heap.size + 1 ∧ wr.heap.size < w2.heap.size) := ⟨hs3, by have := o2.size; omega⟩
            have HNG : Hid (rd < wr.heap.size ∧ gc < wr.heap.size) := ⟨hrml, hgml⟩
            have D1 := hide (told_any rd vd Pc Tc w3.drew (HR3.out.below (Below.refl _ _).drew) HPL1.out.C.ok z0 z1 z2)
            rw [HRR.out] at D1
            obtain ⟨L, hL⟩ : ∃ L, L = r.2.list.length := ⟨_, rfl⟩
            have HL := hide hL
            rw [← hL] at hst2 HY3 HLB ⊢
            have HLR2 : Hid (w3.ownsRow w1.heap.size 3 1 (.slice la L lc) L (nats r.2.list)) := by
              show World.ownsRow _ _ _ _ _ _ _
              have h := HLR.out
              rw [← hL] at h; exact h
            have HLL : Hid (L ≤ 1048576) := by show _ ≤ _; rw [hL]; exact HLE.out
            have f0 := HX3.out.2 0 (by simp)
            have f1 := HX3.out.2 1 (by simp)
            have f2 := HX3.out.2 2 (by simp)
            have g0' := HY3.out.2 0 (by simp [saidC])
            have g1' := HY3.out.2 1 (by simp [saidC])
            have g2' := HY3.out.2 2 (by simp [saidC])
            have g3' := HY3.out.2 3 (by simp [saidC])
            have g4' := HY3.out.2 4 (by simp [saidC])
            simp only [saidC, List.getElem_cons_zero, List.getElem_cons_succ] at f0 f1 f2 g0' g1' g2' g3' g4'
            clear hrl hm2 o2 hb3 hx3 o13 hX3 AC hst HX1 t0 t1 t2 hL HLE HLR hsbl hgml hrml hs3
            by_cases hev : k % 2 = 0
            · have hkm : (k : Int) % 2 = 0 := by omega
              have hkt : Int.tmod (k : Int) 2 = 0 := by rw [Int.tmod_eq_emod_of_nonneg k0I]; exact hkm
              clear hev
              go_upto_region 18 with (refine wpList_store_eq rfl 30 _ _ rfl _ _ rfl rfl hst2 ?_)

              simp only [Act.put]
              go_cut [115] (fun u wx => u = .bool false ∧ Mid true w3 wx rd vd Pc r.1 (.slice la L lc))
              case first =>
                first | (go_region_held (fun w' => w'.cell? ⟨wr.heap.size, 0, none⟩ = some (.int .i64 z0) ∧ w'.cell? ⟨wr.heap.size, 1, none⟩ = some (.int .i64 z1) ∧ w'.cell? ⟨wr.heap.size, 2, none⟩ = some (.int .i64 z2) ∧ w'.cell? ⟨w2.heap.size, 0, none⟩ = some (.int .i64 (r.2.err : Int)) ∧ w'.cell? ⟨w2.heap.size, 1, none⟩ = some (.int .i64 (r.2.a : Int)) ∧ w'.cell? ⟨w2.heap.size, 2, none⟩ = some (.int .i64 (r.2.b : Int)) ∧ w'.cell? ⟨w2.heap.size, 3, none⟩ = some (.bool r.2.ok) ∧ w'.cell? ⟨w2.heap.size, 4, none⟩ = some (.slice la L lc)) (go_keep)
                  (first
                    | (go_at_call 28; refine D1.out.mono ?_; rintro e W1 ⟨u, hp1⟩; obtain ⟨rfl, ru, hrf⟩ := hp1
                       obtain ⟨v', hr', ho', hv'⟩ := hrf
                       have ho3 : Only (fun k => k = rd) w3 W1 := ⟨ho'.os, ho'.tape, ho'.output, ho'.size, ho'.block⟩
                       have hbx := (HX3.out.only ho3 (fun e => by have := HNG.out; have : wr.heap.size = rd := e; omega))
                       have hby := (HY3.out.only ho3 (fun e => by have := HNG.out; have := HS3.out; have : w2.heap.size = rd := e; omega))
                       have f0 := hbx.2 0 (by simp)
                       have f1 := hbx.2 1 (by simp)
                       have f2 := hbx.2 2 (by simp)
                       have g0' := hby.2 0 (by simp [saidC])
                       have g1' := hby.2 1 (by simp [saidC])
                       have g2' := hby.2 2 (by simp [saidC])
                       have g3' := hby.2 3 (by simp [saidC])
                       have g4' := hby.2 4 (by simp [saidC])
                       simp only [saidC, List.getElem_cons_zero, List.getElem_cons_succ] at f0 f1 f2 g0' g1' g2' g3' g4'
                       have HBX := hide hbx
                       have HBY := hide hby
                       clear hbx hby
                       have hrow := owns_only HLR2.out ho3 (fun k hk e => by have := (HLB.out k hk).1; have := HNG.out; have : k = rd := e; omega)
                       have HV1 := hide (natR_of_owns hrow)
                       have HV2 := hide (natR_of_owns ru)
                       have HROW := hide hrow
                       have HRF := hide hr'
                       have HVF : Hid (∀ k, v'.ownBlock = some k → vd.ownBlock = some k ∨ w3.heap.size ≤ k) := hv'
                       have HOF : Hid (Only (MidF true rd (.slice la L lc)) w3 W1) := ho3.imp (fun k _ h => Or.inl h)
                       clear hrow ru hr' ho' hv' ho3)
                    | (go_at_call 14; refine (same_any r.2 (.slice la L lc) _ _ (by have := HLL.out; have := HL.out; omega) HV1.out HV2.out).mono ?_; rintro e W2 ⟨rfl, hb2⟩
                       have hbx := (HBX.out.below hb2)
                       have hby := (HBY.out.below hb2)
                       have f0 := hbx.2 0 (by simp)
                       have f1 := hbx.2 1 (by simp)
                       have f2 := hbx.2 2 (by simp)
                       have g0' := hby.2 0 (by simp [saidC])
                       have g1' := hby.2 1 (by simp [saidC])
                       have g2' := hby.2 2 (by simp [saidC])
                       have g3' := hby.2 3 (by simp [saidC])
                       have g4' := hby.2 4 (by simp [saidC])
                       simp only [saidC, List.getElem_cons_zero, List.getElem_cons_succ] at f0 f1 f2 g0' g1' g2' g3' g4'
                       have HBX := hide hbx
                       have HBY := hide hby
                       clear hbx hby
                       have HROW := hide (owns_below HROW.out hb2)
                       have HRF := hide (HRF.out.below hb2)
                       have HOF := hide (HOF.out.trans (Only.of_below hb2))
                       clear hb2)
                    | (go_at_call 29; refine (spoil_any (.slice la L lc) L _ _ _ HROW.out HLL.out).mono ?_; rintro e W3 ⟨rfl, hs3⟩
                       have hbx := (HBX.out.only hs3 (fun e => by have := (HLB.out _ e).1; omega))
                       have hby := (HBY.out.only hs3 (fun e => by have := (HLB.out _ e).2; omega))
                       have f0 := hbx.2 0 (by simp)
                       have f1 := hbx.2 1 (by simp)
                       have f2 := hbx.2 2 (by simp)
                       have g0' := hby.2 0 (by simp [saidC])
                       have g1' := hby.2 1 (by simp [saidC])
                       have g2' := hby.2 2 (by simp [saidC])
                       have g3' := hby.2 3 (by simp [saidC])
                       have g4' := hby.2 4 (by simp [saidC])
                       simp only [saidC, List.getElem_cons_zero, List.getElem_cons_succ] at f0 f1 f2 g0' g1' g2' g3' g4'
                       have HBX := hide hbx
                       have HBY := hide hby
                       clear hbx hby
                       have HRF := hide (HRF.out.only hs3 (fun e => by have := (HLB.out _ e).1; have := HNG.out; omega) (fun k hk e => by
                         have h1 := HLB.out k e
                         rcases HVF.out k hk with h | h
                         · have := HPL.out.C.ltv k h; omega
                         · have := HS3.out; omega))
                       have HOF := hide (HOF.out.trans (hs3.imp (fun k _ h => Or.inr ⟨rfl, h⟩)))
                       clear hs3))) | fail
                all_goals
                  go_wp2_with fail
                  go_meet
                all_goals exact ⟨rfl, _, HRF.out, HVF.out, HOF.out⟩
              case rest =>
                obtain ⟨rfl, hmid⟩ := hcut
                obtain ⟨v', hrf, hvf, hof⟩ := hmid
                have hof2 : ∀ k, MidF true rd (.slice la L lc) k → k = rd ∨ (wr.heap.size < k ∧ k < w2.heap.size) := fun k h => h.imp id (fun h => HLB.out k h.2)
                have hofw : Only (fun k => k = gc ∨ k = rd) wr wc := ((Only.of_below HBR.out).trans (HO13.out.imp (fun k _ h => Or.inl h))).next hof (fun i hi h => (hof2 i h).elim Or.inr (fun h => by omega))
                have hmap : MapR wc bc gc Pc r.1 := HM3.out.only hof (fun h => (hof2 _ h).elim (fun e => type_ne HM3.out.blk HR3.out.blk (by decide) e) (fun h => by have := HPL.out.C.map.ltb; omega)) (fun h => (hof2 _ h).elim (fun e => by obtain ⟨cg, eg⟩ := (owns_blk HM3.out.wds gc rfl).2.2; exact type_ne eg HR3.out.blk (by decide) e) (fun h => by have := HNG.out; omega))
                have hs13 : wr.heap.size ≤ w3.heap.size := by have := HS3.out; omega
                have hvw : ∀ k, v'.ownBlock = some k → vd.ownBlock = some k ∨ wr.heap.size ≤ k := fun k hk => (hvf k hk).imp id (fun h => by omega)
                have HPL8 := hide ((HPL.out.swap.step HBS.out hofw hmap HOKT.out hrf hvw).swap)
                have HBX8 := hide (HX3.out.only hof (fun h => (hof2 _ h).elim (fun e => by have := HNG.out; omega) (fun h => by omega)))
                have HBY8 := hide (HY3.out.only hof (fun h => (hof2 _ h).elim (fun e => by have := HNG.out; have := HS3.out; omega) (fun h => by omega)))
                have HBL8 : Hid (Below w0.heap.size w0 wc) := HBW3.out.trans (hof.below (fun k h => by have := HSZ.out; have := HBS.out; have := HPL.out.C.lo.2.2.1; rcases hof2 k h with h | h <;> omega) HBW3.out.size)
                clear hof2 hofw hmap hs13 hvw hof hrf hvf HPL HBW HBR HX3 HY3 HM3 HR3 HO13 HBW3 HBW1 HPL1 HLR2 D1 hst2 f0 f1 f2 g0' g1' g2' g3' g4' k2 s0 s1 s2
                have f0 := HBX8.out.2 0 (by simp)
                have f1 := HBX8.out.2 1 (by simp)
                simp only [List.getElem_cons_zero, List.getElem_cons_succ] at f0 f1
                by_cases hK6 : z0 = 6
                · have hz6 : (z0 == 6) = true := by simp [hK6]
                  clear hK6
                  have CP := hide (copy_any bc gc Pc r.1 wc HPL8.out.C.map)
                  have hokm := hide HPL8.out.C.ok
                  go_wp2_with fail
                  refine CP.out.mono ?_
                  rintro e y1 ⟨bo, go, rfl, q1, q2, hmo, hb9⟩
                  have RC := hide (rcopy_any rd v' Pc r.1 y1 (HPL8.out.C.ref.below hb9) hokm.out)
                  have HMO := hide hmo
                  have HB9 := hide hb9
                  have HQ9 : Hid (wc.heap.size ≤ bo ∧ wc.heap.size ≤ go) := ⟨q1, q2⟩
                  clear CP q1 q2 hmo hb9
                  go_wp2_with fail
                  refine RC.out.mono ?_
                  rintro e y2 ⟨vo, rfl, hro, hb10, hvo⟩
                  obtain ⟨ro, hroe⟩ : ∃ ro, ro = y1.heap.size := ⟨_, rfl⟩
                  have hb8 := Below.next HB9.out hb10
                  have HPC := hide ((HPL8.out.swap.copy (by have := HBL8.out.size; have := HSZ.out; omega) hb8 (HMO.out.below hb10) hro HQ9.out.1 HQ9.out.2 HB9.out.size (fun k hk => by have := hvo k hk; have := HB9.out.size; omega)).swap)
                  have HBC := hide (Below.next HBL8.out hb8)
                  have f1 := (HBX8.out.below hb8).2 1 (by simp)
                  simp only [List.getElem_cons_zero, List.getElem_cons_succ] at f1
                  rw [← hroe] at HPC ⊢
                  clear RC hro hb10 hvo hb8 HMO HB9 HQ9 HPL8 HBL8 hroe
                  have F1 := hide (free_any bo go Pc r.1 y2 HPC.out.A.map HPC.out.A.ok)
                  have F2 := hide (rfree_any ro vo Pc r.1 y2 HPC.out.A.ref HPC.out.A.ok)
                  have hff1 : (((frl r.1 Pc).length : Int) != ((frl r.1 Pc).length : Int)) = false := by simp
                  have hff2 : (((frl r.1 Pc).length : Int) != ((frl r.1 Pc).length : Int)) = false := by simp
                  go_wp2_with fail
                  refine F1.out.mono ?_
                  rintro e x1 ⟨rfl, rfl⟩
                  go_wp2_with fail
                  refine F2.out.mono ?_
                  rintro e x2 ⟨rfl, hbx⟩
                  have HPX := hide (HPC.out.below hbx)
                  have HBZ := hide (Below.next HBC.out hbx)
                  have F3 := hide (free_any bc gc Pc r.1 x2 HPX.out.C.map HPX.out.C.ok)
                  have F4 := hide (rfree_any rd v' Pc r.1 x2 HPX.out.C.ref HPX.out.C.ok)
                  clear hbx F1 F2 HPC HBC
                  go_wp2_with fail
                  refine F3.out.mono ?_
                  rintro e x3 ⟨rfl, rfl⟩
                  go_wp2_with fail
                  refine F4.out.mono ?_
                  rintro e x4 ⟨rfl, hby⟩
                  have HPY := hide (HPX.out.below hby)
                  have HBY2 := hide (Below.next HBZ.out hby)
                  clear hby F3 F4 HPX HBZ
                  go_wp2
                  go_roundw
                  case rel => exact ⟨bo, go, ro, vo, Pc, r.1, bc, gc, rd, v', Pc, r.1, _, _, N, _, _, _, _, k + 1, by omega, by first | omega | (have := HKO.out; omega), rfl, rfl, rfl, rfl, rfl, by go_num, HPY.out, HBY2.out⟩
                  case measure => simp [intOf]; omega
                · have hz6 : (z0 == 6) = false := by simp [hK6]
                  clear hK6
                  have F1 := hide (free_any ba ga Pa Ta wc HPL8.out.A.map HPL8.out.A.ok)
                  have F2 := hide (rfree_any rb vb Pa Ta wc HPL8.out.A.ref HPL8.out.A.ok)
                  have hff1 : (((frl Ta Pa).length : Int) != ((frl Ta Pa).length : Int)) = false := by simp
                  have hff2 : (((frl r.1 Pc).length : Int) != ((frl r.1 Pc).length : Int)) = false := by simp
                  go_wp2_with fail
                  refine F1.out.mono ?_
                  rintro e x1 ⟨rfl, rfl⟩
                  go_wp2_with fail
                  refine F2.out.mono ?_
                  rintro e x2 ⟨rfl, hbx⟩
                  have HPX := hide (HPL8.out.below hbx)
                  have HBZ := hide (Below.next HBL8.out hbx)
                  have F3 := hide (free_any bc gc Pc r.1 x2 HPX.out.C.map HPX.out.C.ok)
                  have F4 := hide (rfree_any rd v' Pc r.1 x2 HPX.out.C.ref HPX.out.C.ok)
                  clear hbx F1 F2 HPL8 HBL8
                  go_wp2_with fail
                  refine F3.out.mono ?_
                  rintro e x3 ⟨rfl, rfl⟩
                  go_wp2_with fail
                  refine F4.out.mono ?_
                  rintro e x4 ⟨rfl, hby⟩
                  have HPY := hide (HPX.out.below hby)
                  have HBY2 := hide (Below.next HBZ.out hby)
                  clear hby F3 F4 HPX HBZ
                  go_wp2
                  go_roundw
                  case rel => exact ⟨ba, ga, rb, vb, Pa, Ta, bc, gc, rd, v', Pc, r.1, _, _, N, _, _, _, _, k + 1, by omega, by first | omega | (have := HKO.out; omega), rfl, rfl, rfl, rfl, rfl, by go_num, HPY.out, HBY2.out⟩
                  case measure => simp [intOf]; omega
            · have hkm : (k : Int) % 2 = 1 := by omega
              have HKO : Hid (2 * N + 1 ≤ k) := by show _ ≤ _; omega
              have hkt : Int.tmod (k : Int) 2 = 1 := by rw [Int.tmod_eq_emod_of_nonneg k0I]; exact hkm
              clear hev
              go_upto_region 18 with (refine wpList_store_eq rfl 30 _ _ rfl _ _ rfl rfl hst2 ?_)

              simp only [Act.put]
              go_cut [115] (fun u wx => u = .bool false ∧ Mid false w3 wx rd vd Pc r.1 (.slice la L lc))
              case first =>
                refine wp_region_held_drew (S := (fun w' => w'.cell? ⟨wr.heap.size, 0, none⟩ = some (.int .i64 z0) ∧ w'.cell? ⟨wr.heap.size, 1, none⟩ = some (.int .i64 z1) ∧ w'.cell? ⟨wr.heap.size, 2, none⟩ = some (.int .i64 z2) ∧ w'.cell? ⟨w2.heap.size, 0, none⟩ = some (.int .i64 (r.2.err : Int)) ∧ w'.cell? ⟨w2.heap.size, 1, none⟩ = some (.int .i64 (r.2.a : Int)) ∧ w'.cell? ⟨w2.heap.size, 2, none⟩ = some (.int .i64 (r.2.b : Int)) ∧ w'.cell? ⟨w2.heap.size, 3, none⟩ = some (.bool r.2.ok) ∧ w'.cell? ⟨w2.heap.size, 4, none⟩ = some (.slice la L lc))) (by kernel_rfl) ⟨f0, f1, f2, g0', g1', g2', g3', g4'⟩ (fun hHeld => ?_)
                refine wpAnyH_take (i := 0) (oi := { dst := some 99, op := Op.load 30 (Operand.tmp 16), type := 30, pos := "law.go:142", after := #[], guard := none }) (v := ?_) rfl (by kernel_rfl) (by kernel_rfl) (by kernel_rfl) (fun _ _ _ h => h) (Or.inl ⟨by rfl, ?_⟩) (by assumption) ?_
                rotate_left
                · (intro w' hSw; (try dsimp only at hSw); go_simp; try with_reducible rfl)
                simp only [Act.put, List.setIfInBounds_toArray, List.set_cons_zero, List.set_cons_succ]
                refine wpAnyH_take (i := 1) (oi := { dst := some 100, op := Op.move (Operand.tmp 15), type := 56, pos := "law.go:142", after := #[], guard := none }) (v := ?_) rfl (by kernel_rfl) (by kernel_rfl) (by kernel_rfl) (fun _ _ _ h => h) (Or.inl ⟨by rfl, ?_⟩) (by assumption) ?_
                rotate_left
                · (intro w' hSw; (try dsimp only at hSw); go_simp; try with_reducible rfl)
                simp only [Act.put, List.setIfInBounds_toArray, List.set_cons_zero, List.set_cons_succ]
                refine wpAnyH_take (i := 2) (oi := { dst := some 101, op := Op.load 33 (Operand.tmp 13), type := 33, pos := "law.go:142", after := #[], guard := none }) (v := ?_) rfl (by kernel_rfl) (by kernel_rfl) (by kernel_rfl) (fun _ _ _ h => h) (Or.inl ⟨by rfl, ?_⟩) (by assumption) ?_
                rotate_left
                · (intro w' hSw; (try dsimp only at hSw); go_simp; try with_reducible rfl)
                simp only [Act.put, List.setIfInBounds_toArray, List.set_cons_zero, List.set_cons_succ]
                refine wpAnyH_ready (rs := [3]) (by kernel_rfl) (by simp) ?_
                refine AllReadyH.cons (o := { dst := some 102, op := Op.call { callee := Callee.value (Operand.func 28), args := #[Operand.tmp 100, Operand.tmp 101], argTypes := #[56, 33] }, type := 30, pos := "law.go:142", after := #[{ on := 1, ground := Ground.data }, { on := 2, ground := Ground.data }], guard := none }) rfl (fun K hK => ?_) AllReadyH.nil
                clear hHeld
                go_simp
                refine D1.out.mono ?_
                rintro e W1 ⟨u, hp1⟩
                obtain ⟨rfl, ru, hrf⟩ := hp1
                obtain ⟨v', hr', ho', hv'⟩ := hrf
                have ho3 : Only (fun k => k = rd) w3 W1 := ⟨ho'.os, ho'.tape, ho'.output, ho'.size, ho'.block⟩
                have hbx := (HX3.out.only ho3 (fun e => by have := HNG.out; have : wr.heap.size = rd := e; omega))
                have hby := (HY3.out.only ho3 (fun e => by have := HNG.out; have := HS3.out; have : w2.heap.size = rd := e; omega))
                have f0 := hbx.2 0 (by simp)
                have f1 := hbx.2 1 (by simp)
                have f2 := hbx.2 2 (by simp)
                have g0' := hby.2 0 (by simp [saidC])
                have g1' := hby.2 1 (by simp [saidC])
                have g2' := hby.2 2 (by simp [saidC])
                have g3' := hby.2 3 (by simp [saidC])
                have g4' := hby.2 4 (by simp [saidC])
                simp only [saidC, List.getElem_cons_zero, List.getElem_cons_succ] at f0 f1 f2 g0' g1' g2' g3' g4'
                have HBX := hide hbx
                have HBY := hide hby
                clear hbx hby
                have hrow := owns_only HLR2.out ho3 (fun k hk e => by have := (HLB.out k hk).1; have := HNG.out; have : k = rd := e; omega)
                have HV1 := hide (natR_of_owns hrow)
                have HV2 := hide (natR_of_owns ru)
                have HROW := hide hrow
                have HRF := hide hr'
                have HVF : Hid (∀ k, v'.ownBlock = some k → vd.ownBlock = some k ∨ w3.heap.size ≤ k) := hv'
                have HOF : Hid (Only (MidF false rd (.slice la L lc)) w3 W1) := ho3.imp (fun k _ h => Or.inl h)
                clear hrow ru hr' ho' hv' ho3
                refine hK.out _ _ ⟨f0, f1, f2, g0', g1', g2', g3', g4'⟩ (fun hHeld => ?_)
                clear hK K
                refine wpAnyH_ready (rs := [4]) (by kernel_rfl) (by simp) ?_
                refine AllReadyH.cons (o := { dst := some 103, op := Op.call { callee := Callee.value (Operand.func 14), args := #[Operand.tmp 99, Operand.tmp 102], argTypes := #[30, 30] }, type := 4, pos := "law.go:142", after := #[{ on := 0, ground := Ground.data }, { on := 3, ground := Ground.data }, { on := 3, ground := Ground.chain }], guard := none }) rfl (fun K hK => ?_) AllReadyH.nil
                clear hHeld
                go_simp
                refine (same_any r.2 (.slice la L lc) _ _ (by have := HLL.out; have := HL.out; omega) HV1.out HV2.out).mono ?_
                rintro e W2 ⟨rfl, hb2⟩
                have hbx := (HBX.out.below hb2)
                have hby := (HBY.out.below hb2)
                have f0 := hbx.2 0 (by simp)
                have f1 := hbx.2 1 (by simp)
                have f2 := hbx.2 2 (by simp)
                have g0' := hby.2 0 (by simp [saidC])
                have g1' := hby.2 1 (by simp [saidC])
                have g2' := hby.2 2 (by simp [saidC])
                have g3' := hby.2 3 (by simp [saidC])
                have g4' := hby.2 4 (by simp [saidC])
                simp only [saidC, List.getElem_cons_zero, List.getElem_cons_succ] at f0 f1 f2 g0' g1' g2' g3' g4'
                have HBX := hide hbx
                have HBY := hide hby
                clear hbx hby
                have HRF := hide (HRF.out.below hb2)
                have HOF := hide (HOF.out.trans (Only.of_below hb2))
                clear hb2 HROW
                refine hK.out _ _ ⟨f0, f1, f2, g0', g1', g2', g3', g4'⟩ (fun hHeld => ?_)
                clear hK K
                refine wpAnyH_take (i := 5) (oi := { dst := some 104, op := Op.unOp UnOp.not 4 (Operand.tmp 103), type := 4, pos := "law.go:142", after := #[{ on := 4, ground := Ground.data }], guard := none }) (v := ?_) rfl (by kernel_rfl) (by kernel_rfl) (by kernel_rfl) (fun _ _ _ h => h) (Or.inl ⟨by rfl, ?_⟩) (by assumption) ?_
                rotate_left
                · (intro w' hSw; (try dsimp only at hSw); go_simp; try with_reducible rfl)
                simp only [Act.put, List.setIfInBounds_toArray, List.set_cons_zero, List.set_cons_succ]
                refine wpAnyH_take (i := 6) (oi := { dst := some 105, op := Op.move (Operand.tmp 104), type := 4, pos := "law.go:142", after := #[{ on := 5, ground := Ground.data }, { on := 4, ground := Ground.chain }], guard := none }) (v := ?_) rfl (by kernel_rfl) (by kernel_rfl) (by kernel_rfl) (fun _ _ _ h => h) (Or.inl ⟨by rfl, ?_⟩) (by assumption) ?_
                rotate_left
                · (intro w' hSw; (try dsimp only at hSw); go_simp; try with_reducible rfl)
                simp only [Act.put, List.setIfInBounds_toArray, List.set_cons_zero, List.set_cons_succ]
                refine wpAnyH_take (i := 7) (oi := { dst := some 106, op := Op.move (Operand.tmp 12), type := 3, pos := "law.go:142", after := #[{ on := 6, ground := Ground.guard }], guard := some (6, false) }) (v := ?_) rfl (by kernel_rfl) (by kernel_rfl) (by kernel_rfl) (fun _ _ _ h => h) (Or.inl ⟨by rfl, ?_⟩) (by assumption) ?_
                rotate_left
                · (intro w' hSw; (try dsimp only at hSw); go_simp; try with_reducible rfl)
                simp only [Act.put, List.setIfInBounds_toArray, List.set_cons_zero, List.set_cons_succ]
                refine wpAnyH_take (i := 8) (oi := { dst := some 107, op := Op.binOp BinOp.rem 3 (Operand.tmp 106) (Operand.const (Value.int IntKind.i64 2)) 3, type := 3, pos := "law.go:142", after := #[{ on := 7, ground := Ground.data }, { on := 6, ground := Ground.guard }], guard := some (6, false) }) (v := ?_) rfl (by kernel_rfl) (by kernel_rfl) (by kernel_rfl) (fun _ _ _ h => h) (Or.inl ⟨by rfl, ?_⟩) (by assumption) ?_
                rotate_left
                · (intro w' hSw; (try dsimp only at hSw); go_simp; try with_reducible rfl)
                simp only [Act.put, List.setIfInBounds_toArray, List.set_cons_zero, List.set_cons_succ]
                refine wpAnyH_take (i := 9) (oi := { dst := some 108, op := Op.binOp BinOp.eql 3 (Operand.tmp 107) (Operand.const (Value.int IntKind.i64 0)) 3, type := 4, pos := "law.go:142", after := #[{ on := 8, ground := Ground.data }, { on := 6, ground := Ground.guard }], guard := some (6, false) }) (v := ?_) rfl (by kernel_rfl) (by kernel_rfl) (by kernel_rfl) (fun _ _ _ h => h) (Or.inl ⟨by rfl, ?_⟩) (by assumption) ?_
                rotate_left
                · (intro w' hSw; (try dsimp only at hSw); go_simp; try with_reducible rfl)
                simp only [Act.put, List.setIfInBounds_toArray, List.set_cons_zero, List.set_cons_succ]
                refine wpAnyH_take (i := 10) (oi := { dst := some 109, op := Op.move (Operand.tmp 108), type := 4, pos := "law.go:142", after := #[{ on := 9, ground := Ground.data }, { on := 6, ground := Ground.chain }, { on := 6, ground := Ground.guard }], guard := some (6, false) }) (v := ?_) rfl (by kernel_rfl) (by kernel_rfl) (by kernel_rfl) (fun _ _ _ h => h) (Or.inl ⟨by rfl, ?_⟩) (by assumption) ?_
                rotate_left
                · (intro w' hSw; (try dsimp only at hSw); go_simp; try with_reducible rfl)
                simp only [Act.put, List.setIfInBounds_toArray, List.set_cons_zero, List.set_cons_succ]
                refine wpAnyH_take (i := 11) (oi := { dst := some 110, op := Op.fieldAddr 30 (Operand.tmp 16) 4, type := 0, pos := "law.go:142", after := #[{ on := 10, ground := Ground.guard }], guard := some (10, true) }) (v := undef) rfl (by kernel_rfl) (by kernel_rfl) (by kernel_rfl) (fun _ _ _ h => h) (Or.inr ⟨by rfl, rfl⟩) (by assumption) ?_
                simp only [Act.put, List.setIfInBounds_toArray, List.set_cons_zero, List.set_cons_succ]
                refine wpAnyH_take (i := 12) (oi := { dst := some 111, op := Op.load 28 (Operand.tmp 110), type := 28, pos := "law.go:142", after := #[{ on := 11, ground := Ground.data }, { on := 10, ground := Ground.guard }], guard := some (10, true) }) (v := undef) rfl (by kernel_rfl) (by kernel_rfl) (by kernel_rfl) (fun _ _ _ h => h) (Or.inr ⟨by rfl, rfl⟩) (by assumption) ?_
                simp only [Act.put, List.setIfInBounds_toArray, List.set_cons_zero, List.set_cons_succ]
                refine wpAnyH_take (i := 13) (oi := { dst := some 112, op := Op.call { callee := Callee.value (Operand.func 29), args := #[Operand.tmp 111], argTypes := #[28] }, type := 4, pos := "law.go:142", after := #[{ on := 12, ground := Ground.data }, { on := 10, ground := Ground.chain }, { on := 10, ground := Ground.guard }], guard := some (10, true) }) (v := undef) rfl (by kernel_rfl) (by kernel_rfl) (by kernel_rfl) (fun _ _ _ h => h) (Or.inr ⟨by rfl, rfl⟩) (by assumption) ?_
                simp only [Act.put, List.setIfInBounds_toArray, List.set_cons_zero, List.set_cons_succ]
                refine wpAnyH_take (i := 14) (oi := { dst := some 113, op := Op.unOp UnOp.not 4 (Operand.tmp 112), type := 4, pos := "law.go:142", after := #[{ on := 13, ground := Ground.data }, { on := 10, ground := Ground.guard }], guard := some (10, true) }) (v := undef) rfl (by kernel_rfl) (by kernel_rfl) (by kernel_rfl) (fun _ _ _ h => h) (Or.inr ⟨by rfl, rfl⟩) (by assumption) ?_
                simp only [Act.put, List.setIfInBounds_toArray, List.set_cons_zero, List.set_cons_succ]
                refine wpAnyH_take (i := 15) (oi := { dst := some 114, op := Op.pick (Operand.tmp 109) (Operand.tmp 113) (Operand.const (Value.bool false)), type := 4, pos := "law.go:142", after := #[{ on := 10, ground := Ground.data }, { on := 14, ground := Ground.data }, { on := 6, ground := Ground.guard }], guard := some (6, false) }) (v := ?_) rfl (by kernel_rfl) (by kernel_rfl) (by kernel_rfl) (fun _ _ _ h => h) (Or.inl ⟨by rfl, ?_⟩) (by assumption) ?_
                rotate_left
                · (intro w' hSw; (try dsimp only at hSw); go_simp; try with_reducible rfl)
                simp only [Act.put, List.setIfInBounds_toArray, List.set_cons_zero, List.set_cons_succ]
                refine wpAnyH_take (i := 16) (oi := { dst := some 115, op := Op.pick (Operand.tmp 105) (Operand.const (Value.bool true)) (Operand.tmp 114), type := 4, pos := "law.go:142", after := #[{ on := 6, ground := Ground.data }, { on := 15, ground := Ground.data }], guard := none }) (v := ?_) rfl (by kernel_rfl) (by kernel_rfl) (by kernel_rfl) (fun _ _ _ h => h) (Or.inl ⟨by rfl, ?_⟩) (by assumption) ?_
                rotate_left
                · (intro w' hSw; (try dsimp only at hSw); go_simp; try with_reducible rfl)
                simp only [Act.put, List.setIfInBounds_toArray, List.set_cons_zero, List.set_cons_succ]
                refine wpAnyH_done (by kernel_rfl) ?_ _
                clear hHeld
                go_wp2_with fail
                go_meet
                exact ⟨rfl, _, HRF.out, HVF.out, HOF.out⟩
              case rest =>
                obtain ⟨rfl, hmid⟩ := hcut
                obtain ⟨v', hrf, hvf, hof⟩ := hmid
                have hof2 : ∀ k, MidF false rd (.slice la L lc) k → k = rd ∨ (wr.heap.size < k ∧ k < w2.heap.size) := fun k h => h.imp id (fun h => HLB.out k h.2)
                have hofw : Only (fun k => k = gc ∨ k = rd) wr wc := ((Only.of_below HBR.out).trans (HO13.out.imp (fun k _ h => Or.inl h))).next hof (fun i hi h => (hof2 i h).elim Or.inr (fun h => by omega))
                have hmap : MapR wc bc gc Pc r.1 := HM3.out.only hof (fun h => (hof2 _ h).elim (fun e => type_ne HM3.out.blk HR3.out.blk (by decide) e) (fun h => by have := HPL.out.C.map.ltb; omega)) (fun h => (hof2 _ h).elim (fun e => by obtain ⟨cg, eg⟩ := (owns_blk HM3.out.wds gc rfl).2.2; exact type_ne eg HR3.out.blk (by decide) e) (fun h => by have := HNG.out; omega))
                have hs13 : wr.heap.size ≤ w3.heap.size := by have := HS3.out; omega
                have hvw : ∀ k, v'.ownBlock = some k → vd.ownBlock = some k ∨ wr.heap.size ≤ k := fun k hk => (hvf k hk).imp id (fun h => by omega)
                have HPL8 := hide ((HPL.out.swap.step HBS.out hofw hmap HOKT.out hrf hvw).swap)
                have HBX8 := hide (HX3.out.only hof (fun h => (hof2 _ h).elim (fun e => by have := HNG.out; omega) (fun h => by omega)))
                have HBY8 := hide (HY3.out.only hof (fun h => (hof2 _ h).elim (fun e => by have := HNG.out; have := HS3.out; omega) (fun h => by omega)))
                have HBL8 : Hid (Below w0.heap.size w0 wc) := HBW3.out.trans (hof.below (fun k h => by have := HSZ.out; have := HBS.out; have := HPL.out.C.lo.2.2.1; rcases hof2 k h with h | h <;> omega) HBW3.out.size)
                have hrowc := owns_only HLR2.out hof (fun k hk h => by have h2 := HLB.out k hk; have := HNG.out; rcases h with h | h <;> first | omega | cases h.1)
                have HROWC := hide hrowc
                have HVB : Hid (∀ g, la = some ⟨g, 0, none⟩ → wr.heap.size < g ∧ g < w2.heap.size) := fun g e => HLB.out g (by rw [e]; rfl)
                have HVV := hide hvf
                clear hrowc
                have HKL : Hid (∀ g, InN N a g → g < wr.heap.size) := fun g h => HPL.out.K.llt h
                have HKB : Hid (∀ k, (Value.slice ka N kc).ownBlock = some k → k < wr.heap.size ∧ W.heap.size < k) := fun k h => ⟨(owns_blk HPL.out.K.row k h).2.1, HPL.out.K.lo k h⟩
                have HKV : Hid (∀ g, wr.heap.size < g ∧ g < w2.heap.size → vb.ownBlock ≠ some g ∧ v'.ownBlock ≠ some g) := fun g hg => ⟨(fun h => by have := HPL.out.A.ltv g h; omega), (fun h => (hvf g h).elim (fun h => by have := HPL.out.C.ltv g h; omega) (fun h => by have := HS3.out; omega))⟩
                clear hof2 hofw hmap hs13 hvw hof hrf hvf HPL HBW HBR HX3 HY3 HM3 HR3 HO13 HBW3 HBW1 HPL1 HLR2 D1 hst2 f0 f1 f2 g0' g1' g2' g3' g4' k2 s0 s1 s2
                obtain ⟨kg, kcap, w9, hrun, hpl9, hon9⟩ := HPL8.out.keep (by have := HBL8.out.size; have := HSZ.out; omega) (by omega) la L lc _ (owns_weak HROWC.out (Nat.zero_le _)) HLL.out (fun g e => by have := (HVB.out g e).1; have := HBS.out; omega) (fun g e h => by have h1 := HKL.out g h; have := (HVB.out g e).1; omega) (fun g e => HKV.out g (HVB.out g e))
                have HPL9 := hide hpl9
                have HBX9 := hide (HBX8.out.only hon9 (fun h => by have := (HKB.out _ h).1; omega))
                have HBL9 : Hid (Below w0.heap.size w0 w9) := HBL8.out.trans (hon9.below (fun k h => by have := (HKB.out k h).2; have := HSZ.out; omega) HBL8.out.size)
                have g4' := HBY8.out.2 4 (by simp [saidC])
                simp only [saidC, List.getElem_cons_zero, List.getElem_cons_succ] at g4'
                clear hpl9 hon9 HPL8 HBL8 HBX8 HBY8 HROWC HVB HVV HKL HKB HKV
                go_upto_region 22 with (first | (at_builtin; refine wpList_append_run 60 rfl (.tmp 119) (.tmp 122) rfl rfl _ _ rfl rfl _ _ hrun ?_))
                clear hrun g4'
                have f0 := HBX9.out.2 0 (by simp)
                have f1 := HBX9.out.2 1 (by simp)
                simp only [List.getElem_cons_zero, List.getElem_cons_succ] at f0 f1
                by_cases hK6 : z0 = 6
                · have hz6 : (z0 == 6) = true := by simp [hK6]
                  clear hK6
                  have CP := hide (copy_any bc gc Pc r.1 w9 HPL9.out.C.map)
                  have hokm := hide HPL9.out.C.ok
                  go_wp2_with fail
                  refine CP.out.mono ?_
                  rintro e y1 ⟨bo, go, rfl, q1, q2, hmo, hb9⟩
                  have RC := hide (rcopy_any rd v' Pc r.1 y1 (HPL9.out.C.ref.below hb9) hokm.out)
                  have HMO := hide hmo
                  have HB9 := hide hb9
                  have HQ9 : Hid (w9.heap.size ≤ bo ∧ w9.heap.size ≤ go) := ⟨q1, q2⟩
                  clear CP q1 q2 hmo hb9
                  go_wp2_with fail
                  refine RC.out.mono ?_
                  rintro e y2 ⟨vo, rfl, hro, hb10, hvo⟩
                  obtain ⟨ro, hroe⟩ : ∃ ro, ro = y1.heap.size := ⟨_, rfl⟩
                  have hb8 := Below.next HB9.out hb10
                  have HPC := hide ((HPL9.out.swap.copy (by have := HBL9.out.size; have := HSZ.out; omega) hb8 (HMO.out.below hb10) hro HQ9.out.1 HQ9.out.2 HB9.out.size (fun k hk => by have := hvo k hk; have := HB9.out.size; omega)).swap)
                  have HBC := hide (Below.next HBL9.out hb8)
                  have f1 := (HBX9.out.below hb8).2 1 (by simp)
                  simp only [List.getElem_cons_zero, List.getElem_cons_succ] at f1
                  rw [← hroe] at HPC ⊢
                  clear RC hro hb10 hvo hb8 HMO HB9 HQ9 HPL9 HBL9 hroe
                  have F1 := hide (free_any bo go Pc r.1 y2 HPC.out.A.map HPC.out.A.ok)
                  have F2 := hide (rfree_any ro vo Pc r.1 y2 HPC.out.A.ref HPC.out.A.ok)
                  have hff1 : (((frl r.1 Pc).length : Int) != ((frl r.1 Pc).length : Int)) = false := by simp
                  have hff2 : (((frl r.1 Pc).length : Int) != ((frl r.1 Pc).length : Int)) = false := by simp
                  go_wp2_with fail
                  refine F1.out.mono ?_
                  rintro e x1 ⟨rfl, rfl⟩
                  go_wp2_with fail
                  refine F2.out.mono ?_
                  rintro e x2 ⟨rfl, hbx⟩
                  have HPX := hide (HPC.out.below hbx)
                  have HBZ := hide (Below.next HBC.out hbx)
                  have F3 := hide (free_any bc gc Pc r.1 x2 HPX.out.C.map HPX.out.C.ok)
                  have F4 := hide (rfree_any rd v' Pc r.1 x2 HPX.out.C.ref HPX.out.C.ok)
                  clear hbx F1 F2 HPC HBC
                  go_wp2_with fail
                  refine F3.out.mono ?_
                  rintro e x3 ⟨rfl, rfl⟩
                  go_wp2_with fail
                  refine F4.out.mono ?_
                  rintro e x4 ⟨rfl, hby⟩
                  have HPY := hide (HPX.out.below hby)
                  have HBY2 := hide (Below.next HBZ.out hby)
                  clear hby F3 F4 HPX HBZ
                  go_wp2
                  go_roundw
                  case rel => exact ⟨bo, go, ro, vo, Pc, r.1, bc, gc, rd, v', Pc, r.1, _, _, (N + 1), _, _, _, _, k + 1, by omega, by first | omega | (have := HKO.out; omega), rfl, rfl, rfl, rfl, rfl, by go_num, HPY.out, HBY2.out⟩
                  case measure => simp [intOf]; omega
                · have hz6 : (z0 == 6) = false := by simp [hK6]
                  clear hK6
                  have F1 := hide (free_any ba ga Pa Ta w9 HPL9.out.A.map HPL9.out.A.ok)
                  have F2 := hide (rfree_any rb vb Pa Ta w9 HPL9.out.A.ref HPL9.out.A.ok)
                  have hff1 : (((frl Ta Pa).length : Int) != ((frl Ta Pa).length : Int)) = false := by simp
                  have hff2 : (((frl r.1 Pc).length : Int) != ((frl r.1 Pc).length : Int)) = false := by simp
                  go_wp2_with fail
                  refine F1.out.mono ?_
                  rintro e x1 ⟨rfl, rfl⟩
                  go_wp2_with fail
                  refine F2.out.mono ?_
                  rintro e x2 ⟨rfl, hbx⟩
                  have HPX := hide (HPL9.out.below hbx)
                  have HBZ := hide (Below.next HBL9.out hbx)
                  have F3 := hide (free_any bc gc Pc r.1 x2 HPX.out.C.map HPX.out.C.ok)
                  have F4 := hide (rfree_any rd v' Pc r.1 x2 HPX.out.C.ref HPX.out.C.ok)
                  clear hbx F1 F2 HPL9 HBL9
                  go_wp2_with fail
                  refine F3.out.mono ?_
                  rintro e x3 ⟨rfl, rfl⟩
                  go_wp2_with fail
                  refine F4.out.mono ?_
                  rintro e x4 ⟨rfl, hby⟩
                  have HPY := hide (HPX.out.below hby)
                  have HBY2 := hide (Below.next HBZ.out hby)
                  clear hby F3 F4 HPX HBZ
                  go_wp2
                  go_roundw
                  case rel => exact ⟨ba, ga, rb, vb, Pa, Ta, bc, gc, rd, v', Pc, r.1, _, _, (N + 1), _, _, _, _, k + 1, by omega, by first | omega | (have := HKO.out; omega), rfl, rfl, rfl, rfl, rfl, by go_num, HPY.out, HBY2.out⟩
                  case measure => simp [intOf]; omega
        · have hkI : ¬ (k : Int) < (n0 : Int) := by omega
          have HNB : Hid (2 * N ≤ n0) := by show _ ≤ _; omega
          clear hpl hbw hNk
          go_wp2_with fail
          go_loopw [11, 19] (fun s11 s19 wr => ∃ (vb : Value) (Ta : Nat → Bool) (ka : Option Addr) (kc M j : Nat) (a : Nat → Option Addr) (n c : Nat → Nat) (U : Nat → List Value), j ≤ 3 ∧ M = N + j ∧ s11 = .slice ka M kc ∧ s19 = .int .i64 j ∧ Play W.heap.size wr ba ga rb vb Pa Ta bc gc rd vd Pc Tc (.slice ka M kc) M a n c U ∧ Below w0.heap.size w0 wr) (fun _ s19 _ => 3 - (intOf s19).toNat)
          case atStart => exact ⟨_, _, _, _, N, 0, _, _, _, _, by omega, rfl, rfl, rfl, HPL.out, HBW.out⟩
          case round =>
            clear HPL HBW HBS k2 hkI
            obtain ⟨vb, Ta, ka, kc, M, j, a, n, c, U, hj, hM, rfl, rfl, hpl, hbw⟩ := hrel
            have HM := hide hM
            have hMb : M ≤ 2932031007320 + j := by have := HNB.out; omega
            clear hM
            have HPL := hide hpl
            have HBW := hide hbw
            have HBS : Hid (W.heap.size < wr.heap.size) := by show _ < _; have := hbw.size; have := HSZ.out; omega
            by_cases hlt : j < 3
            · have hjI : (j : Int) < 3 := by omega
              have j0I : (0 : Int) ≤ (j : Int) := by omega
              obtain ⟨m, hm⟩ : ∃ m, m = Int.tmod (j : Int) 2 := ⟨_, rfl⟩
              have hmt : Int.tmod (j : Int) 2 = m := hm.symm
              have hmm : (j : Int) % 2 = m := by rw [hm, Int.tmod_eq_emod_of_nonneg j0I]
              have hm0 : 0 ≤ m := by omega
              have hm1 : m ≤ 1 := by omega
              have hwr : IntKind.i64.wrap (1 + m) = 1 + m := by rw [IntKind.wrap_i64]; omega
              have hst := step_new wr 5 0 (1 + m)
              obtain ⟨w1, hw1⟩ : ∃ w1, w1 = wr.alloc (.cells #[.int .i64 5, .int .i64 0, .int .i64 (1 + m)] 33) := ⟨_, rfl⟩
              rw [← hw1] at hst
              have hb1 : Below wr.heap.size wr w1 := by rw [hw1]; exact below_new _ _
              have hx1 : Boxed wr.heap.size [.int .i64 5, .int .i64 0, .int .i64 (1 + m)] w1 := by rw [hw1]; exact boxed_new wr #[.int .i64 5, .int .i64 0, .int .i64 (1 + m)] 33
              have HX1 := hide hx1
              have HBR := hide hb1
              have t0 := hx1.2 0 (by simp)
              have t1 := hx1.2 1 (by simp)
              have t2 := hx1.2 2 (by simp)
              simp only [List.getElem_cons_zero, List.getElem_cons_succ] at t0 t1 t2
              have HPL1 := hide (hpl.below hb1)
              have HBW1 := hide (Below.next hbw hb1)
              have HS1 : Hid (w1.heap.size = wr.heap.size + 1) := by show _ = _; rw [hw1]; simp
              clear hpl hbw hw1 hb1 hx1 hm
              have AC := hide (act_any W.heap.size A ba ga Pa Ta w1 HPL1.out.A.map HPL1.out.A.ok (HEN.out _ HBW1.out) (Nat.le_of_lt HPL1.out.A.lo.2.1) 5 0 (1 + m))
              have HOKT := hide (act_ok HPL1.out.A.ok 5 (1 + m))
              have HLE := hide (act_len2 HPL1.out.A.ok 5 (1 + m))
              have HRM := hide HPL1.out.A.ref
              generalize hrr : actD Pa Ta 5 (1 + m) = r at *
              have HRR := hide hrr
              clear hrr
              go_wp2_with (refine wpList_store_eq rfl 33 _ _ rfl _ _ rfl rfl hst ?_)
              refine AC.out.mono ?_
              rintro e w2 ⟨lv, hp⟩
              obtain ⟨rfl, hrl, hm2, o2⟩ := hp
              obtain ⟨la, lc, rfl, -⟩ := owns_form hrl
              have hst2 := said_new w2 r.2 (.slice la r.2.list.length lc) rfl
              obtain ⟨w3, hw3⟩ : ∃ w3, w3 = w2.alloc (.cells (saidC r.2 (.slice la r.2.list.length lc)) 30) := ⟨_, rfl⟩
              have hb3 : Below w2.heap.size w2 w3 := by rw [hw3]; exact below_new _ _
              have hx3 : Boxed w2.heap.size (saidC r.2 (.slice la r.2.list.length lc)).toList w3 := by rw [hw3]; exact boxed_new w2 _ 30
              have hs3 : w3.heap.size = w2.heap.size + 1 := by rw [hw3]; simp
              rw [← hw3] at hst2
              unfold zSaid at hst2
              clear hw3
              have o13 : Only (fun k => k = ga) w1 w3 := o2.trans (Only.of_below hb3)
              have hsbl : wr.heap.size < w1.heap.size := by rw [HS1.out]; omega
              have hgml : ga < wr.heap.size := by have := HPL.out.A.map.ltg; omega
              have hrml : rb < wr.heap.size := by have := HPL.out.A.ref.ltb; omega
              have hX3 : Boxed wr.heap.size [.int .i64 5, .int .i64 0, .int .i64 (1 + m)] w3 := HX1.out.only o13 (fun e => by have : wr.heap.size = ga := e; omega)
              have HX3 := hide hX3
              have HY3 := hide hx3
              have HM3 := hide (hm2.below hb3)
              have HR3 : Hid (RefR w3 rb vb Pa Ta) := HRM.out.only o13 (HPL1.out.A.gne HPL1.out.A.ref.blk (by decide)) (fun k hk => by obtain ⟨c3, b3⟩ := HPL1.out.A.vblk k hk; exact HPL1.out.A.gne b3 (by decide))
              have HLR := hide (owns_below hrl hb3)
              have HO13 := hide o13
              have HBW3 : Hid (Below w0.heap.size w0 w3) := HBW1.out.trans (o13.below (fun k hk => by rw [show k = ga from hk]; have := HPL1.out.A.lo.2.1; have := HSZ.out; omega) HBW1.out.size)
              have HLB : Hid (∀ k, (Value.slice la r.2.list.length lc).ownBlock = some k → wr.heap.size < k ∧ k < w2.heap.size) := fun k hk => ⟨by have := (owns_blk hrl k hk).1; omega, (owns_blk hrl k hk).2.1⟩
              have HS3 : Hid (w3.heap.size = w2.heap.size + 1 ∧ wr.heap.size < w2.heap.size) := ⟨hs3, by have := o2.size; omega⟩
              have HNG : Hid (rb < wr.heap.size ∧ ga < wr.heap.size) := ⟨hrml, hgml⟩
              have D1 := hide (told_any rb vb Pa Ta w3.drew (HR3.out.below (Below.refl _ _).drew) HPL1.out.A.ok 5 0 (1 + m))
              rw [HRR.out] at D1
              obtain ⟨L, hL⟩ : ∃ L, L = r.2.list.length := ⟨_, rfl⟩
              have HL := hide hL
              rw [← hL] at hst2 HY3 HLB ⊢
              have HLR2 : Hid (w3.ownsRow w1.heap.size 3 1 (.slice la L lc) L (nats r.2.list)) := by
                show World.ownsRow _ _ _ _ _ _ _
                have h := HLR.out
                rw [← hL] at h; exact h
              have HLL : Hid (L ≤ 1048576) := by show _ ≤ _; rw [hL]; exact HLE.out
              have f0 := HX3.out.2 0 (by simp)
              have f1 := HX3.out.2 1 (by simp)
              have f2 := HX3.out.2 2 (by simp)
              have g0' := HY3.out.2 0 (by simp [saidC])
              have g1' := HY3.out.2 1 (by simp [saidC])
              have g2' := HY3.out.2 2 (by simp [saidC])
              have g3' := HY3.out.2 3 (by simp [saidC])
              have g4' := HY3.out.2 4 (by simp [saidC])
              simp only [saidC, List.getElem_cons_zero, List.getElem_cons_succ] at f0 f1 f2 g0' g1' g2' g3' g4'
              clear hrl hm2 o2 hb3 hx3 o13 hX3 AC hst HX1 t0 t1 t2 hL HLE HLR hsbl hgml hrml hs3
              go_upto_region 37 with (refine wpList_store_eq rfl 30 _ _ rfl _ _ rfl rfl hst2 ?_)

              simp only [Act.put]
              go_cut [169] (fun u wx => u = .bool false ∧ Mid false w3 wx rb vb Pa r.1 (.slice la L lc))
              case first =>
                first | (go_region_held (fun w' => w'.cell? ⟨wr.heap.size, 0, none⟩ = some (.int .i64 5) ∧ w'.cell? ⟨wr.heap.size, 1, none⟩ = some (.int .i64 0) ∧ w'.cell? ⟨wr.heap.size, 2, none⟩ = some (.int .i64 (1 + m)) ∧ w'.cell? ⟨w2.heap.size, 0, none⟩ = some (.int .i64 (r.2.err : Int)) ∧ w'.cell? ⟨w2.heap.size, 1, none⟩ = some (.int .i64 (r.2.a : Int)) ∧ w'.cell? ⟨w2.heap.size, 2, none⟩ = some (.int .i64 (r.2.b : Int)) ∧ w'.cell? ⟨w2.heap.size, 3, none⟩ = some (.bool r.2.ok) ∧ w'.cell? ⟨w2.heap.size, 4, none⟩ = some (.slice la L lc)) (go_keep)
                  (first
                    | (go_at_call 28; refine D1.out.mono ?_; rintro e W1 ⟨u, hp1⟩; obtain ⟨rfl, ru, hrf⟩ := hp1
                       obtain ⟨v', hr', ho', hv'⟩ := hrf
                       have ho3 : Only (fun k => k = rb) w3 W1 := ⟨ho'.os, ho'.tape, ho'.output, ho'.size, ho'.block⟩
                       have hbx := (HX3.out.only ho3 (fun e => by have := HNG.out; have : wr.heap.size = rb := e; omega))
                       have hby := (HY3.out.only ho3 (fun e => by have := HNG.out; have := HS3.out; have : w2.heap.size = rb := e; omega))
                       have f0 := hbx.2 0 (by simp)
                       have f1 := hbx.2 1 (by simp)
                       have f2 := hbx.2 2 (by simp)
                       have g0' := hby.2 0 (by simp [saidC])
                       have g1' := hby.2 1 (by simp [saidC])
                       have g2' := hby.2 2 (by simp [saidC])
                       have g3' := hby.2 3 (by simp [saidC])
                       have g4' := hby.2 4 (by simp [saidC])
                       simp only [saidC, List.getElem_cons_zero, List.getElem_cons_succ] at f0 f1 f2 g0' g1' g2' g3' g4'
                       have HBX := hide hbx
                       have HBY := hide hby
                       clear hbx hby
                       have hrow := owns_only HLR2.out ho3 (fun k hk e => by have := (HLB.out k hk).1; have := HNG.out; have : k = rb := e; omega)
                       have HV1 := hide (natR_of_owns hrow)
                       have HV2 := hide (natR_of_owns ru)
                       have HROW := hide hrow
                       have HRF := hide hr'
                       have HVF : Hid (∀ k, v'.ownBlock = some k → vb.ownBlock = some k ∨ w3.heap.size ≤ k) := hv'
                       have HOF : Hid (Only (MidF false rb (.slice la L lc)) w3 W1) := ho3.imp (fun k _ h => Or.inl h)
                       clear hrow ru hr' ho' hv' ho3)
                    | (go_at_call 14; refine (same_any r.2 (.slice la L lc) _ _ (by have := HLL.out; have := HL.out; omega) HV1.out HV2.out).mono ?_; rintro e W2 ⟨rfl, hb2⟩
                       have hbx := (HBX.out.below hb2)
                       have hby := (HBY.out.below hb2)
                       have f0 := hbx.2 0 (by simp)
                       have f1 := hbx.2 1 (by simp)
                       have f2 := hbx.2 2 (by simp)
                       have g0' := hby.2 0 (by simp [saidC])
                       have g1' := hby.2 1 (by simp [saidC])
                       have g2' := hby.2 2 (by simp [saidC])
                       have g3' := hby.2 3 (by simp [saidC])
                       have g4' := hby.2 4 (by simp [saidC])
                       simp only [saidC, List.getElem_cons_zero, List.getElem_cons_succ] at f0 f1 f2 g0' g1' g2' g3' g4'
                       have HBX := hide hbx
                       have HBY := hide hby
                       clear hbx hby
                       have HROW := hide (owns_below HROW.out hb2)
                       have HRF := hide (HRF.out.below hb2)
                       have HOF := hide (HOF.out.trans (Only.of_below hb2))
                       clear hb2))) | fail
                all_goals
                  go_wp2_with fail
                  go_meet
                all_goals exact ⟨rfl, _, HRF.out, HVF.out, HOF.out⟩
              case rest =>
                obtain ⟨rfl, hmid⟩ := hcut
                obtain ⟨v', hrf, hvf, hof⟩ := hmid
                have hof2 : ∀ k, MidF false rb (.slice la L lc) k → k = rb ∨ (wr.heap.size < k ∧ k < w2.heap.size) := fun k h => h.imp id (fun h => HLB.out k h.2)
                have hofw : Only (fun k => k = ga ∨ k = rb) wr wc := ((Only.of_below HBR.out).trans (HO13.out.imp (fun k _ h => Or.inl h))).next hof (fun i hi h => (hof2 i h).elim Or.inr (fun h => by omega))
                have hmap : MapR wc ba ga Pa r.1 := HM3.out.only hof (fun h => (hof2 _ h).elim (fun e => type_ne HM3.out.blk HR3.out.blk (by decide) e) (fun h => by have := HPL.out.A.map.ltb; omega)) (fun h => (hof2 _ h).elim (fun e => by obtain ⟨cg, eg⟩ := (owns_blk HM3.out.wds ga rfl).2.2; exact type_ne eg HR3.out.blk (by decide) e) (fun h => by have := HNG.out; omega))
                have hs13 : wr.heap.size ≤ w3.heap.size := by have := HS3.out; omega
                have hvw : ∀ k, v'.ownBlock = some k → vb.ownBlock = some k ∨ wr.heap.size ≤ k := fun k hk => (hvf k hk).imp id (fun h => by omega)
                have HPL8 := hide (HPL.out.step HBS.out hofw hmap HOKT.out hrf hvw)
                have HBX8 := hide (HX3.out.only hof (fun h => (hof2 _ h).elim (fun e => by have := HNG.out; omega) (fun h => by omega)))
                have HBY8 := hide (HY3.out.only hof (fun h => (hof2 _ h).elim (fun e => by have := HNG.out; have := HS3.out; omega) (fun h => by omega)))
                have HBL8 : Hid (Below w0.heap.size w0 wc) := HBW3.out.trans (hof.below (fun k h => by have := HSZ.out; have := HBS.out; have := HPL.out.A.lo.2.2.1; rcases hof2 k h with h | h <;> omega) HBW3.out.size)
                have hrowc := owns_only HLR2.out hof (fun k hk h => by have h2 := HLB.out k hk; have := HNG.out; rcases h with h | h <;> first | omega | cases h.1)
                have HROWC := hide hrowc
                have HVB : Hid (∀ g, la = some ⟨g, 0, none⟩ → wr.heap.size < g ∧ g < w2.heap.size) := fun g e => HLB.out g (by rw [e]; rfl)
                have HVV := hide hvf
                clear hrowc
                have HKL : Hid (∀ g, InN M a g → g < wr.heap.size) := fun g h => HPL.out.K.llt h
                have HKB : Hid (∀ k, (Value.slice ka M kc).ownBlock = some k → k < wr.heap.size ∧ W.heap.size < k) := fun k h => ⟨(owns_blk HPL.out.K.row k h).2.1, HPL.out.K.lo k h⟩
                have HKV : Hid (∀ g, wr.heap.size < g ∧ g < w2.heap.size → v'.ownBlock ≠ some g ∧ vd.ownBlock ≠ some g) := fun g hg => ⟨(fun h => (hvf g h).elim (fun h => by have := HPL.out.A.ltv g h; omega) (fun h => by have := HS3.out; omega)), (fun h => by have := HPL.out.C.ltv g h; omega)⟩
                clear hof2 hofw hmap hs13 hvw hof hrf hvf HPL HBW HBR HX3 HY3 HM3 HR3 HO13 HBW3 HBW1 HPL1 HLR2 D1 hst2 f0 f1 f2 g0' g1' g2' g3' g4'
                obtain ⟨kg, kcap, w9, hrun, hpl9, hon9⟩ := HPL8.out.keep (by have := HBL8.out.size; have := HSZ.out; omega) (by omega) la L lc _ (owns_weak HROWC.out (Nat.zero_le _)) HLL.out (fun g e => by have := (HVB.out g e).1; have := HBS.out; omega) (fun g e h => by have h1 := HKL.out g h; have := (HVB.out g e).1; omega) (fun g e => HKV.out g (HVB.out g e))
                have HPL9 := hide hpl9
                have HBX9 := hide (HBX8.out.only hon9 (fun h => by have := (HKB.out _ h).1; omega))
                have HBL9 : Hid (Below w0.heap.size w0 w9) := HBL8.out.trans (hon9.below (fun k h => by have := (HKB.out k h).2; have := HSZ.out; omega) HBL8.out.size)
                have g4' := HBY8.out.2 4 (by simp [saidC])
                simp only [saidC, List.getElem_cons_zero, List.getElem_cons_succ] at g4'
                clear hpl9 hon9 HPL8 HBL8 HBX8 HBY8 HROWC HVB HVV HKL HKB HKV
                go_upto_region 34 with (first | (at_builtin; refine wpList_append_run 60 rfl (.tmp 170) (.tmp 173) rfl rfl _ _ rfl rfl _ _ hrun ?_))
                clear hrun g4'
                clear HBX9
                go_wp2
                go_roundw
                case rel => exact ⟨_, _, _, _, M + 1, j + 1, _, _, _, _, by omega, by have := HM.out; omega, rfl, by go_num, HPL9.out, HBL9.out⟩
                case measure => simp [intOf]; omega
            · have hjI : ¬ (j : Int) < 3 := by omega
              have hMp : 0 < M := by have := HM.out; omega
              obtain ⟨bl, kc2, he, -, hbl⟩ := hpl.K.row.form hMp
              simp only [Value.slice.injEq] at he
              obtain ⟨rfl, -, rfl⟩ := he
              have hty : ∀ {k : Nat} {cc : Array Value} {t : TypeId} {f : Nat × Nat}, wr.heap[k]? = some (.cells cc t f) → t ≠ 3 → ¬ InN M a k := fun hk ht hg => by
                obtain ⟨cur, e⟩ := hpl.K.lblk hg
                exact type_ne hk e ht rfl
              obtain ⟨ck, ek⟩ := hpl.K.kblk bl rfl
              have AP := hide (apart_any bl M kc a n c U wr (by omega) hpl.K.small hpl.K.rows hpl.K.dj (hty ek (by decide)) (fun i hi => by rw [hpl.K.row.cellAt i (by omega)]; simp [hi]))
              have HTW : Hid (∀ w1, Only (InN M a) wr w1 → Two2 W.heap.size w1 ba ga rb vb Pa Ta ∧ Below w0.heap.size w0 w1) := fun w1 ho => by
                obtain ⟨cg, eg⟩ := hpl.A.gblk
                refine ⟨hpl.A.only ho (hty hpl.A.map.blk (by decide)) (hty eg (by decide)) (hty hpl.A.ref.blk (by decide)) (fun k hk hg => (hpl.kb k hg).1 hk), hbw.trans (ho.below (fun k hk => ?_) hbw.size)⟩
                obtain ⟨i, hi, ha⟩ := hk
                have := hpl.K.big i k hi ha
                have := HSZ.out
                omega
              clear hpl hbw HPL HBW HBS hty ek hbl hMb HM
              go_wp2_with fail
              refine AP.out.mono ?_
              rintro e w1 ⟨rfl, ho⟩
              obtain ⟨h2, hb1⟩ := HTW.out w1 ho
              have AC := hide (act_any W.heap.size A ba ga Pa Ta w1 h2.map h2.ok (HEN.out _ hb1) (Nat.le_of_lt h2.lo.2.1) 5 0 1)
              have HOKT := hide (act_ok h2.ok 5 1)
              have HLE := hide (act_len2 h2.ok 5 1)
              have HOK := hide h2.ok
              have H2 := hide h2
              have HB1 := hide hb1
              generalize hrr : actD Pa Ta 5 1 = r at *
              have HRR := hide hrr
              clear hrr AP HTW ho h2 hb1
              go_wp2_with fail
              refine AC.out.mono ?_
              rintro e w2 ⟨lv, hp⟩
              obtain ⟨rfl, hrl, hm2, o2⟩ := hp
              have D1 := hide (told_any rb vb Pa Ta w2 (H2.out.ref.only o2 (H2.out.gne H2.out.ref.blk (by decide)) (fun k hk => by obtain ⟨c3, b3⟩ := H2.out.vblk k hk; exact H2.out.gne b3 (by decide))) HOK.out 5 0 1)
              rw [HRR.out] at D1
              have HB2 : Hid (Below w0.heap.size w0 w2) := HB1.out.trans (o2.below (fun k hk => by rw [show k = ga from hk]; have := H2.out.lo.2.1; have := HSZ.out; omega) HB1.out.size)
              have HRL := hide hrl
              have HM2 := hide hm2
              have HNR : Hid (ba ≠ rb ∧ ga ≠ rb ∧ (∀ k, lv.ownBlock = some k → k ≠ rb)) := by
                obtain ⟨cg, eg⟩ := H2.out.gblk
                exact ⟨type_ne H2.out.map.blk H2.out.ref.blk (by decide), type_ne eg H2.out.ref.blk (by decide), fun k hk => by have := (owns_blk hrl k hk).1; have := H2.out.ref.ltb; omega⟩
              clear hrl hm2 o2 AC
              go_wp2_with fail
              refine D1.out.mono ?_
              rintro e w3 ⟨u, hp1⟩
              obtain ⟨rfl, ru, hrf⟩ := hp1
              obtain ⟨v', hr', ho', hv'⟩ := hrf
              have SM := hide (same_any r.2 lv u w3 (by have := HLE.out; omega) (natR_of_owns (owns_only HRL.out ho' HNR.out.2.2)) (natR_of_owns ru))
              have HM3 := hide (HM2.out.only ho' HNR.out.1 HNR.out.2.1)
              have HR3 := hide hr'
              have HB3 : Hid (Below w0.heap.size w0 w3) := HB2.out.trans (ho'.below (fun k hk => by rw [show k = rb from hk]; have := H2.out.lo.2.2.1; have := HSZ.out; omega) HB2.out.size)
              clear ru hr' ho' hv' D1 HRL HM2 HNR HB2
              go_wp2_with fail
              refine SM.out.mono ?_
              rintro e w4 ⟨rfl, hb4⟩
              have F1 := hide (free_any ba ga Pa r.1 w4 (HM3.out.below hb4) HOKT.out)
              have F2 := hide (rfree_any rb v' Pa r.1 w4 (HR3.out.below hb4) HOKT.out)
              have HB4 := hide (Below.next HB3.out hb4)
              have hff : (((frl r.1 Pa).length : Int) == ((frl r.1 Pa).length : Int)) = true := by simp
              clear hb4 SM HM3 HR3 HB3
              go_wp2_with fail
              refine F1.out.mono ?_
              rintro e x1 ⟨rfl, rfl⟩
              go_wp2_with fail
              refine F2.out.mono ?_
              rintro e x2 ⟨rfl, hbx⟩
              have HB5 := hide (Below.next HB4.out hbx)
              clear hbx F1 F2 HB4
              go_wp2
              go_ret
              exact ⟨rfl, HB0.out.trans (HB5.out.mono (by rw [HSZ.out]; omega))⟩

end Go.Proofs.YtdghlblgmihbpaaDoor
