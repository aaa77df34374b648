import Derived.Test.YtgljkgkophaefaaDoorRComp2
import Derived.Test.YtgljkgkophaefaaDoorLeft
namespace Go.Proofs.YtgljkgkophaefaaDoor
open Go.RowKit

/-- What lent answers, with its head. -/
theorem lent_parts {w : World} {base : Nat} {v : Value} {l : List It} (h : ItsOwn w base v (l ++ List.replicate 4 mark)) : ∃ g cap, v = .slice (some ⟨g, 0, none⟩) (l.length + 4) cap ∧ l.length + 4 ≤ cap := by
  have hL : (l ++ List.replicate 4 mark).length = l.length + 4 := by simp
  obtain ⟨us, hus, how, hok, hin⟩ := h
  rw [hL] at how
  rcases how.2 with ⟨h', h0⟩ | ⟨g, cap, cur, h', _, _, hn, _⟩
  · omega
  · exact ⟨g, cap, h', hn⟩
theorem compF_kinds (a b : List It) : compF a b = 0 ∨ compF a b = 1 ∨ compF a b = 3 := by
  unfold compF
  split
  · exact packF_kinds b
  · exact packF_kinds a

set_option maxHeartbeats 1000000 in
theorem compares_any (A : Nat → Addr) (la lb : List It) (va vb : Value) (w : World) (ha : ItsAt w anyB va la) (hb : ItsAt w anyB vb lb) (he : ErrsAt 13 gAll A w) :
    Calls Tryd.prog 4 #[.agg #[va, vb]] w fun e w' => e = .returned (.bool true) ∧ Below w.heap.size w w' := by
  have hla := ha.len_le
  have hlb := hb.len_le
  obtain ⟨aa, ac, rfl⟩ := ha.form
  obtain ⟨ba, bc, rfl⟩ := hb.form
  go_enter Tryd.func4, Tryd.ntmps4
  go_wp2_with fail
  have b0 := below_new w (.cells #[.slice aa la.length ac, .slice ba lb.length bc] 33)
  have x0 := boxed_new w #[.slice aa la.length ac, .slice ba lb.length bc] 33
  have ha0 := ha.keep b0
  have hb0 := hb.keep b0
  have he0 := he.keep b0
  generalize w.alloc (.cells #[.slice aa la.length ac, .slice ba lb.length bc] 33) = W0 at *
  clear ha hb he
  refine (left_any _ la 16777216 _ W0 (Nat.le_refl _) ha0 (by omega) (by omega)).mono ?_
  rintro e w1 ⟨m1, rfl, -, hm1, -, -, hb1⟩
  have x1 := x0.keep hb1
  have ha1 := ha0.keep hb1
  have hbb1 := hb0.keep hb1
  have he1 := he0.keep hb1
  have B1 := Below.next b0 hb1
  have c1 : w1.cell? ⟨w.heap.size, 1, none⟩ = some (.slice ba lb.length bc) := x1.2 1 (by simp)
  clear x0 ha0 hb0 he0 b0 hb1
  by_cases n1 : m1 < 0
  · clear hm1
    have hd : decide (m1 < 0) = true := decide_eq_true n1
    go_wp2_with fail
    go_ret
    exact ⟨rfl, B1⟩
  · have ea : (encL la).length ≤ 100000000000000 := by have := enc_le _ la (Nat.le_refl _); have := hm1 (by omega); omega
    have EA : Hid ((encL la).length ≤ 100000000000000) := ea
    have hd : decide (m1 < 0) = false := decide_eq_false n1
    clear hm1 ea
    go_wp2_with fail
    refine (left_any _ lb 16777216 _ w1 (Nat.le_refl _) hbb1 (by omega) (by omega)).mono ?_
    rintro e w2 ⟨m2, rfl, -, hm2, -, -, hb2⟩
    have x2 := x1.keep hb2
    have ha2 := ha1.keep hb2
    have hbb2 := hbb1.keep hb2
    have he2 := he1.keep hb2
    have B2 := Below.next B1 hb2
    clear x1 ha1 hbb1 he1 B1 hb2 c1
    by_cases n2 : m2 < 0
    · have hd2 : decide (m2 < 0) = true := decide_eq_true n2
      clear hm2
      go_wp2_with fail
      go_ret
      exact ⟨rfl, B2⟩
    · have eb : (encL lb).length ≤ 100000000000000 := by have := enc_le _ lb (Nat.le_refl _); have := hm2 (by omega); omega
      have EB : Hid ((encL lb).length ≤ 100000000000000) := eb
      have hd2 : decide (m2 < 0) = false := decide_eq_false n2
      have c0 : w2.cell? ⟨w.heap.size, 0, none⟩ = some (.slice aa la.length ac) := x2.2 0 (by simp)
      clear hm2 eb
      go_wp2_with fail
      refine (lent_any la _ w2 ha2).mono ?_
      rintro e w3 ⟨va, rfl, hown3, hb3⟩
      obtain ⟨ga, capa, rfl, hcapa⟩ := lent_parts hown3
      have x3 := x2.keep hb3
      have ha3 := ha2.keep hb3
      have hbb3 := hbb2.keep hb3
      have he3 := he2.keep hb3
      have B3 := Below.next B2 hb3
      have OA3 : Hid (ItsOwn w3 w2.heap.size (.slice (some ⟨ga, 0, none⟩) (la.length + 4) capa) (la ++ List.replicate 4 mark)) := hown3
      have c1 : w3.cell? ⟨w.heap.size, 1, none⟩ = some (.slice ba lb.length bc) := x3.2 1 (by simp)
      clear x2 ha2 hbb2 he2 B2 hb3 c0 hown3
      go_wp2_with fail
      refine (lent_any lb _ w3 hbb3).mono ?_
      rintro e w4 ⟨vb, rfl, hown4, hb4⟩
      obtain ⟨gb, capb, rfl, hcapb⟩ := lent_parts hown4
      have x4 := x3.keep hb4
      have ha4 := ha3.keep hb4
      have hbb4 := hbb3.keep hb4
      have he4 := he3.keep hb4
      have B4 := Below.next B3 hb4
      have OA4 : Hid (ItsOwn w4 w2.heap.size (.slice (some ⟨ga, 0, none⟩) (la.length + 4) capa) (la ++ List.replicate 4 mark)) := OA3.out.keep hb4
      have OB4 : Hid (ItsOwn w4 w3.heap.size (.slice (some ⟨gb, 0, none⟩) (lb.length + 4) capb) (lb ++ List.replicate 4 mark)) := hown4
      have c0 : w4.cell? ⟨w.heap.size, 0, none⟩ = some (.slice aa la.length ac) := x4.2 0 (by simp)
      have c1 : w4.cell? ⟨w.heap.size, 1, none⟩ = some (.slice ba lb.length bc) := x4.2 1 (by simp)
      clear x3 ha3 hbb3 he3 B3 hb4 hown4 OA3
      have i1 : (0 : Int) ≤ (la.length : Int) := by omega
      have i2 : (la.length : Int) ≤ (capa : Int) := by omega
      have i3 : (0 : Int) ≤ (lb.length : Int) := by omega
      have i4 : (lb.length : Int) ≤ (capb : Int) := by omega
      have CMP : Hid (∀ w', ItsAt w' anyB (.slice (some ⟨ga, 0, none⟩) la.length capa) la → ItsAt w' anyB (.slice (some ⟨gb, 0, none⟩) lb.length capb) lb → Errs2 (A 0) (A 2) w' → Calls Tryd.prog 13 #[.slice (some ⟨ga, 0, none⟩) la.length capa, .slice (some ⟨gb, 0, none⟩) lb.length capb] w' fun e w'' => e = .returned (.tuple #[.int .i64 (compV la lb), errOf (A 0) (A 2) (compF la lb)]) ∧ Below w'.heap.size w' w'') := fun w' p q r => compare_any (A 0) (A 2) la lb _ _ w' p q r (fun _ => EA.out) (fun _ => EB.out)
      have RCM : Hid (∀ w', ItsAt w' anyB (.slice aa la.length ac) la → ItsAt w' anyB (.slice ba lb.length bc) lb → Calls Tryd.prog 14 #[.slice aa la.length ac, .slice ba lb.length bc] w' fun e w'' => e = .returned (.tuple #[.int .i64 (compV la lb), .int .i64 (compF la lb : Nat)]) ∧ Below w'.heap.size w' w'') := fun w' p q => rcompare_any la lb _ _ w' p q EA.out EB.out
      have HK := compF_kinds la lb
      generalize compV la lb = V at *
      generalize compF la lb = F at *
      have hHA : ItsAt w4 anyB (.slice (some ⟨ga, 0, none⟩) la.length capa) la := (OA4.out.head (cap' := capa) hla).any
      have hHB : ItsAt w4 anyB (.slice (some ⟨gb, 0, none⟩) lb.length capb) lb := (OB4.out.head (cap' := capb) hlb).any
      have hE2 : Errs2 (A 0) (A 2) w4 := he4.two
      have HX : Hid (Boxed w.heap.size #[.slice aa la.length ac, .slice ba lb.length bc].toList w4) := x4
      clear x4
      go_wp2_with fail
      go_region_held3 (fun w' => w'.cell? ⟨w.heap.size, 0, none⟩ = some (.slice aa la.length ac) ∧ w'.cell? ⟨w.heap.size, 1, none⟩ = some (.slice ba lb.length bc)) (go_keep)
        (first
          | (go_at_call 13; refine (CMP.out _ ?_ ?_ ?_).mono ?_; (exact hHA.drew); (exact hHB.drew); (exact hE2.keep ((Below.refl _ _).drew)); rintro e w5 ⟨rfl, hbd⟩; have hb5 := undrew hbd; clear hbd; have k0 := cell_below hb5 c0; have k1 := cell_below hb5 c1))
      have ha5 := ha4.keep hb5
      have hbb5 := hbb4.keep hb5
      have he5 := he4.keep hb5
      have B5 := Below.next B4 hb5
      have OA5 : Hid (ItsOwn w5 w2.heap.size (.slice (some ⟨ga, 0, none⟩) (la.length + 4) capa) (la ++ List.replicate 4 mark)) := OA4.out.keep hb5
      have OB5 : Hid (ItsOwn w5 w3.heap.size (.slice (some ⟨gb, 0, none⟩) (lb.length + 4) capb) (lb ++ List.replicate 4 mark)) := OB4.out.keep hb5
      have NF : Hid (∀ w', ErrsAt 13 gAll A w' → Calls Tryd.prog 10 #[errOf (A 0) (A 2) F] w' fun e w'' => e = .returned (.int .i64 (F : Int)) ∧ w' = w'') := fun w' h => num_fault A w' h F HK
      clear CMP hHA hHB hE2 ha4 hbb4 he4 B4 OA4 OB4 HX hb5 c0 c1 HK
      generalize errOf (A 0) (A 2) F = ev at *
      go_wp2_with fail
      first
      | (refine (RCM.out _ ha5 hbb5).mono ?_
         rintro e w6 ⟨rfl, hb6⟩
         have h0 := cell_below hb6 k0
         have h1 := cell_below hb6 k1)
      | go_region_held3 (fun w' => w'.cell? ⟨w.heap.size, 0, none⟩ = some (.slice aa la.length ac) ∧ w'.cell? ⟨w.heap.size, 1, none⟩ = some (.slice ba lb.length bc)) (go_keep)
          (first
            | (go_at_call 14; refine (RCM.out _ ?_ ?_).mono ?_; (exact ha5.drew); (exact hbb5.drew); rintro e w6 ⟨rfl, hbd⟩; have hb6 := undrew hbd; clear hbd; have h0 := cell_below hb6 k0; have h1 := cell_below hb6 k1))
      have ha6 := ha5.keep hb6
      have hbb6 := hbb5.keep hb6
      have he6 := he5.keep hb6
      have B6 := Below.next B5 hb6
      have OA6 : Hid (ItsOwn w6 w2.heap.size (.slice (some ⟨ga, 0, none⟩) (la.length + 4) capa) (la ++ List.replicate 4 mark)) := OA5.out.keep hb6
      have OB6 : Hid (ItsOwn w6 w3.heap.size (.slice (some ⟨gb, 0, none⟩) (lb.length + 4) capb) (lb ++ List.replicate 4 mark)) := OB5.out.keep hb6
      clear RCM ha5 hbb5 he5 B5 OA5 OB5 hb6 k0 k1
      go_wp2_with fail
      refine (NF.out _ he6).mono ?_
      rintro e w7 ⟨rfl, rfl⟩
      have RTA : Hid (Calls Tryd.prog 15 #[.slice (some ⟨ga, 0, none⟩) (la.length + 4) capa, .slice aa la.length ac] w6 fun e w' => e = .returned (.bool true) ∧ Below w6.heap.size w6 w') := returned_any la ga capa w2.heap.size _ w6 OA6.out ha6
      have RTB : Hid (∀ w', ItsOwn w' w3.heap.size (.slice (some ⟨gb, 0, none⟩) (lb.length + 4) capb) (lb ++ List.replicate 4 mark) → ItsAt w' anyB (.slice ba lb.length bc) lb → Calls Tryd.prog 15 #[.slice (some ⟨gb, 0, none⟩) (lb.length + 4) capb, .slice ba lb.length bc] w' fun e w'' => e = .returned (.bool true) ∧ Below w'.heap.size w' w'') := fun w' p q => returned_any lb gb capb w3.heap.size _ w' p q
      clear NF OA6 ha6 he6
      go_wp2_with fail
      refine RTA.out.mono ?_
      rintro e w8 ⟨rfl, hb8⟩
      have g1 := cell_below hb8 h1
      have hbb8 := hbb6.keep hb8
      have OB8 : Hid (ItsOwn w8 w3.heap.size (.slice (some ⟨gb, 0, none⟩) (lb.length + 4) capb) (lb ++ List.replicate 4 mark)) := OB6.out.keep hb8
      have B8 := Below.next B6 hb8
      clear RTA hbb6 OB6 hb8 B6 h0 h1
      go_wp2_with fail
      refine (RTB.out _ OB8.out hbb8).mono ?_
      rintro e w9 ⟨rfl, hb9⟩
      go_wp2_with fail
      go_ret
      exact ⟨rfl, Below.next B8 hb9⟩

end Go.Proofs.YtgljkgkophaefaaDoor
