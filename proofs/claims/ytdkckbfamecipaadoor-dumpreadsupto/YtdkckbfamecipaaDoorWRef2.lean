import Derived.Test.YtdkckbfamecipaaDoorWRef
namespace Go.Proofs.YtdkckbfamecipaaDoor
open Go.RowKit

def escP (t : List UInt8) : Option (List UInt8 × List UInt8) := (escD t).map fun x => ([x.1], x.2)
theorem hex2_v (h l : UInt8) : hex2 h l = if hexV (hexN h) < 0 ∨ hexV (hexN l) < 0 then none else some (UInt8.ofNat (hexV (hexN h) * 16 + hexV (hexN l)).toNat) := by
  unfold hex2
  cases h1 : hexN h with
  | none => rw [if_pos (.inl (by decide))]
  | some a =>
    cases h2 : hexN l with
    | none => rw [if_pos (.inr (by decide))]
    | some b =>
      have e1 : hexV (some a) = (a : Int) := rfl
      have e2 : hexV (some b) = (b : Int) := rfl
      rw [e1, e2, if_neg (by omega)]
      simp only
      congr 2
      omega
theorem hexV_hi (o : UInt8) : -1 ≤ hexV (hexN o) ∧ hexV (hexN o) < 16 := by
  cases h : hexN o with
  | none => exact ⟨by decide, by decide⟩
  | some n =>
    have := hexN_lt h
    exact ⟨by show (-1 : Int) ≤ (n : Int); omega, by show (n : Int) < 16; omega⟩
theorem ba_one (s : ByteArray) (k : Nat) (h : k < s.size) : s.extract k (k + 1) = ba [s[k]] := by
  refine ba_ext ?_
  rw [ext_toList, ba_list, drop_cons s k h, show k + 1 - k = 1 by omega]; rfl
set_option maxHeartbeats 4000000 in
set_option maxRecDepth 100000 in
theorem resc_any (s : ByteArray) (at' : Nat) (w : World) (hat : at' < s.size) (hs : s.size ≤ 70368744177664) :
    Calls Tryd.prog 27 #[.string s, .int .i64 (at' : Int)] w fun e w' => ReV s.data.toList (escP (s.data.toList.drop (at' + 1))) e ∧ Below w.heap.size w w' := by
  obtain ⟨Q, hQ⟩ : ∃ Q : Ending → Prop, Q = ReV s.data.toList (escP (s.data.toList.drop (at' + 1))) := ⟨_, rfl⟩
  rw [← hQ]
  obtain ⟨p1, hp1⟩ : ∃ p, p = at' + 1 := ⟨_, rfl⟩
  obtain ⟨p2, hp2⟩ : ∃ p, p = at' + 2 := ⟨_, rfl⟩
  obtain ⟨p3, hp3⟩ : ∃ p, p = at' + 3 := ⟨_, rfl⟩
  obtain ⟨p4, hp4⟩ : ∃ p, p = at' + 4 := ⟨_, rfl⟩
  have w1 : IntKind.i64.wrap ((at' : Int) + 1) = (p1 : Int) := by rw [IntKind.wrap_i64]; omega
  have w2 : IntKind.i64.wrap ((at' : Int) + 2) = (p2 : Int) := by rw [IntKind.wrap_i64]; omega
  have w3 : IntKind.i64.wrap ((at' : Int) + 3) = (p3 : Int) := by rw [IntKind.wrap_i64]; omega
  have w4 : IntKind.i64.wrap ((at' : Int) + 4) = (p4 : Int) := by rw [IntKind.wrap_i64]; omega
  have n1 : (0 : Int) ≤ (p1 : Int) := by omega
  have n2 : (0 : Int) ≤ (p2 : Int) := by omega
  have n3 : (0 : Int) ≤ (p3 : Int) := by omega
  have m12 : (p1 : Int) ≤ (p2 : Int) := by omega
  rw [← hp1] at hQ
  have HF : Hid (escP (s.data.toList.drop p1) = none → Q (.returned (.tuple #[.string ⟨#[]⟩, .int .i64 (-1)]))) := fun h => by rw [hQ]; exact .inr ⟨h, rfl⟩
  have HT : Hid (∀ (b : UInt8) (j : Nat), j ≤ s.size → escD (s.data.toList.drop p1) = some (b, s.data.toList.drop j) → Q (.returned (.tuple #[.string (ba [b]), .int .i64 (j : Int)]))) := fun b j hj h => by
    rw [hQ]
    exact .inl ⟨[b], j, by rw [bsize]; exact hj, by unfold escP; rw [h]; rfl, rfl⟩
  have HP : Hid (p1 = at' + 1 ∧ p2 = at' + 2 ∧ p3 = at' + 3 ∧ p4 = at' + 4) := ⟨hp1, hp2, hp3, hp4⟩
  clear hQ hp1 hp2 hp3 hp4
  by_cases hl1 : p1 < s.size
  · have l1 : (p1 : Int) < (s.size : Int) := by omega
    have l1' : ¬ (s.size : Int) ≤ (p1 : Int) := by omega
    have l2' : (p2 : Int) ≤ (s.size : Int) := by have := HP.out; omega
    have l2n : p2 ≤ s.size := by omega
    have hd1 := drop_cons s p1 hl1
    rw [show p1 + 1 = p2 by have := HP.out; omega] at hd1
    by_cases hc : s[p1] = 34 ∨ s[p1] = 92
    · have HR : Hid (Q (.returned (.tuple #[.string (s.extract p1 p2), .int .i64 (p2 : Int)]))) := by
        have h := HT.out s[p1] p2 l2n (by rw [hd1, escD_cons, if_pos hc])
        rw [← ba_one s p1 hl1, show p1 + 1 = p2 by have := HP.out; omega] at h
        exact h
      have hcs : ((s[p1].toNat : Int) == 34) = true ∨ (((s[p1].toNat : Int) == 34) = false ∧ ((s[p1].toNat : Int) == 92) = true) := by
        rcases hc with h | h
        · exact .inl (by rw [h]; rfl)
        · exact .inr ⟨by rw [h]; rfl, by rw [h]; rfl⟩
      clear hc hd1
      rcases hcs with c1 | ⟨c1, c2⟩
      all_goals
        go_enter Tryd.func27, Tryd.ntmps27
        go_wp2
        go_ret2
        exact ⟨HR.out, Below.refl _ _⟩
    · have c1 : ((s[p1].toNat : Int) == 34) = false := u8_ne (k := 34) (by decide) (fun h => hc (.inl h))
      have c2 : ((s[p1].toNat : Int) == 92) = false := u8_ne (k := 92) (by decide) (fun h => hc (.inr h))
      by_cases hx : s[p1] = 120
      · have c3 : ((s[p1].toNat : Int) != 120) = false := by rw [hx]; rfl
        by_cases hl3 : p3 < s.size
        · have l3 : (p3 : Int) < (s.size : Int) := by omega
          have l3' : ¬ (s.size : Int) ≤ (p3 : Int) := by omega
          have hl2 : p2 < s.size := by have := HP.out; omega
          have l2 : (p2 : Int) < (s.size : Int) := by omega
          have hd2 := drop_cons s p2 hl2
          have hd3 := drop_cons s p3 hl3
          rw [show p2 + 1 = p3 by have := HP.out; omega] at hd2
          rw [show p3 + 1 = p4 by have := HP.out; omega] at hd3
          have hes : escD (s.data.toList.drop p1) = match hex2 s[p2] s[p3] with | some b => some (b, s.data.toList.drop p4) | none => none := by
            rw [hd1, escD_cons, if_neg hc, if_pos hx, hd2, hd3]
            rfl
          rw [hex2_v] at hes
          have HX2 := hide (rhex_any s[p2])
          have HX3 := hide (rhex_any s[p3])
          have b2 := hexV_hi s[p2]
          have b3 := hexV_hi s[p3]
          generalize hexV (hexN s[p2]) = x2 at *
          generalize hexV (hexN s[p3]) = x3 at *
          by_cases hneg : x2 < 0 ∨ x3 < 0
          · rw [if_pos hneg] at hes
            have HR := hide (HF.out (by unfold escP; rw [hes]; rfl))
            have hcs : x2 < 0 ∨ (¬ x2 < 0 ∧ x3 < 0) := by omega
            clear hes hc hx hd1 hd2 hd3 hneg
            rcases hcs with d1 | ⟨d1, d2⟩
            all_goals
              go_enter Tryd.func27, Tryd.ntmps27
              go_wp2_with fail
              refine (HX2.out _).mono ?_
              rintro e wq ⟨rfl, rfl⟩
              go_wp2_with fail
              refine (HX3.out _).mono ?_
              rintro e wq ⟨rfl, rfl⟩
              go_wp2
              go_ret2
              exact ⟨HR.out, Below.refl _ _⟩
          · rw [if_neg hneg] at hes
            obtain ⟨b, hb⟩ : ∃ b, b = UInt8.ofNat (x2 * 16 + x3).toNat := ⟨_, rfl⟩
            rw [← hb] at hes
            have HR := hide (HT.out b p4 (by have := HP.out; omega) hes)
            have hbv : IntKind.u8.wrap (x2 * 16 + x3) = (b.toNat : Int) := by
              rw [hb, UInt8.toNat_ofNat', IntKind.wrap_u8]; omega
            have hmul : IntKind.i64.wrap (x2 * 16) = x2 * 16 := by rw [IntKind.wrap_i64]; omega
            have hadd : IntKind.i64.wrap (x2 * 16 + x3) = x2 * 16 + x3 := by rw [IntKind.wrap_i64]; omega
            have d1 : ¬ x2 < 0 := by omega
            have d2 : ¬ x3 < 0 := by omega
            have q0 := below_new w (.cells #[.int .u8 (b.toNat : Int)] 5)
            have hrow : RowR (w.alloc (.cells #[.int .u8 (b.toNat : Int)] 5)) (.slice (some ⟨w.heap.size, 0, none⟩) 1 1) (u8s [b]) := by
              refine ⟨some ⟨w.heap.size, 0, none⟩, 1, rfl, Nat.le_refl _, (fun h => (by cases h)), fun j u hj => ⟨w.heap.size, 0, rfl, ?_⟩⟩
              match j, hj with
              | 0, hj =>
                simp [u8s] at hj; subst hj; simp
            have hconv := run_strG hrow
            have HB0 := hide q0
            clear hes hc hx hd1 hd2 hd3 hneg hb q0 hrow b2 b3
            go_enter Tryd.func27, Tryd.ntmps27
            go_wp2_with fail
            refine (HX2.out _).mono ?_
            rintro e wq ⟨rfl, rfl⟩
            go_wp2_with fail
            refine (HX3.out _).mono ?_
            rintro e wq ⟨rfl, rfl⟩
            go_wp2
            go_ret2
            exact ⟨HR.out, HB0.out⟩
        · have l3' : (s.size : Int) ≤ (p3 : Int) := by omega
          have HR := hide (HF.out (by
            unfold escP
            rw [hd1, escD_cons, if_neg hc, if_pos hx]
            have hl : (s.data.toList.drop p2).length ≤ 1 := by rw [List.length_drop, bsize]; have := HP.out; omega
            match s.data.toList.drop p2, hl with
            | [], _ => rfl
            | [_], _ => rfl))
          clear hc hx hd1
          go_enter Tryd.func27, Tryd.ntmps27
          go_wp2
          go_ret2
          exact ⟨HR.out, Below.refl _ _⟩
      · have c3 : ((s[p1].toNat : Int) != 120) = true := by
          rw [bne_iff_ne]
          intro e
          exact hx (UInt8.toNat_inj.1 (show _ = 120 by omega))
        have HR := hide (HF.out (by
          unfold escP
          rw [hd1, escD_cons, if_neg hc, if_neg hx]; rfl))
        clear hc hx hd1
        go_enter Tryd.func27, Tryd.ntmps27
        go_wp2
        go_ret2
        exact ⟨HR.out, Below.refl _ _⟩
  · have l1' : (s.size : Int) ≤ (p1 : Int) := by omega
    have HR := hide (HF.out (by rw [List.drop_eq_nil_of_le (by rw [bsize]; omega)]; rfl))
    go_enter Tryd.func27, Tryd.ntmps27
    go_wp2
    go_ret2
    exact ⟨HR.out, Below.refl _ _⟩
end Go.Proofs.YtdkckbfamecipaaDoor
