import Derived.Test.YtgljkgkophaefabDoorOrderFn
import Derived.Test.YtgljkgkophaefabDoorSame
namespace Go.Proofs.YtgljkgkophaefabDoor
open Go.RowKit

theorem tidy_one (n : Int) (h1 : -9223372036854775808 ≤ n) (h2 : n ≤ 9223372036854775807) : TidyT 4 [.mk 3 n ⟨#[]⟩ []] := by
  refine ⟨by simp, fun x hx => ?_⟩
  rw [List.mem_singleton.1 hx]
  exact ⟨fits_num n, ok_mk _ (by decide) (by decide) h1 h2 (by decide), (by decide : (⟨#[]⟩ : ByteArray).size ≤ 12), fun h => by cases h⟩
theorem TidyT.packF {l : List It} (h : TidyT 4 l) : Go.Proofs.YtgljkgkophaefabDoor.packF l = 0 := by
  have h1 := TidyT.fault 4 l h
  have h2 := TidyT.len 4 l h
  rw [lim4] at h2
  unfold Go.Proofs.YtgljkgkophaefabDoor.packF
  rw [if_pos h1, if_neg (by omega)]
theorem TidyT.enc_le {l : List It} (h : TidyT 4 l) : (encL l).length ≤ 28328 := by
  have h2 := TidyT.len 4 l h
  rwa [lim4] at h2
theorem its_lit {w : World} {g : Nat} {n : Int} (h1 : -9223372036854775808 ≤ n) (h2 : n ≤ 9223372036854775807) (F : Nat → Prop) (hF : F g) (c0 : w.cell? ⟨g, 0, none⟩ = some (.int .i64 3)) (c1 : w.cell? ⟨g, 1, none⟩ = some (.int .i64 n)) (c2 : w.cell? ⟨g, 2, none⟩ = some (.string ⟨#[]⟩)) (c3 : w.cell? ⟨g, 3, none⟩ = some (.slice none 0 0)) :
    ItsAt w F (.slice (some ⟨g, 0, none⟩) 1 1) [.mk 3 n ⟨#[]⟩ []] := by
  have z : ∀ i, i < ([It.mk 3 n ⟨#[]⟩ []] : List It).length → i = 0 := fun i h => by simp at h; exact h
  exact .mk (some ⟨g, 0, none⟩) g 0 1 [.mk 3 n ⟨#[]⟩ []] (fun _ => .slice none 0 0) (by simp) (fun _ => ⟨rfl, hF⟩)
    (fun i h => by obtain rfl := z i h; exact ok_mk _ (by decide) (by decide) h1 h2 (by decide)) (fun i h => by obtain rfl := z i h; exact c0) (fun i h => by obtain rfl := z i h; exact c1) (fun i h => by obtain rfl := z i h; exact c2) (fun i h => by obtain rfl := z i h; exact c3)
    (fun i h => by obtain rfl := z i h; exact its_nil _ _ _ _)
theorem cmpB_vals : ∀ (x y : List UInt8), cmpB x y = -1 ∨ cmpB x y = 0 ∨ cmpB x y = 1
  | [], [] => .inr (.inl rfl)
  | [], _ :: _ => .inl rfl
  | _ :: _, [] => .inr (.inr rfl)
  | a :: x, b :: y => by
    rw [cmpB_cons]
    split
    · exact .inl rfl
    · split
      · exact .inr (.inr rfl)
      · exact cmpB_vals x y
theorem lit_cmp : compV [.mk 3 (-1) ⟨#[]⟩ []] [.mk 3 1 ⟨#[]⟩ []] = -1 ∧ compF [.mk 3 (-1) ⟨#[]⟩ []] [.mk 3 1 ⟨#[]⟩ []] = 0 := by
  have t1 := tidy_one (-1) (by decide) (by decide)
  have t2 := tidy_one 1 (by decide) (by decide)
  refine ⟨?_, by unfold compF; rw [if_pos t1.packF, t2.packF]⟩
  unfold compV
  rw [if_pos ⟨t1.packF, t2.packF⟩, order_texts _ _ (TidyT.fault 4 _ t1) (TidyT.fault 4 _ t2) (TidyT.okR 4 _ t1) (TidyT.okR 4 _ t2)]
  simp [cmpR, cmpFirst, cmpOne, It.kind, It.num, sgn]

set_option maxHeartbeats 1000000 in
theorem orderlaw_any (aA aM : Addr) (la lb : List It) (va vb : Value) (w : World) (ha : ItsAt w anyB va la) (hb : ItsAt w anyB vb lb) (he : Errs2 aA aM w) :
    Calls Tryd.prog 5 #[.agg #[va, vb]] w fun e w' => e = .returned (.bool true) ∧ Below w.heap.size w w' := by
  obtain ⟨aa, ac, rfl⟩ := ha.form
  obtain ⟨ba, bc, rfl⟩ := hb.form
  go_enter Tryd.func5, Tryd.ntmps5
  go_wp2_with fail
  have b0 := below_new w (.cells #[.slice aa la.length ac, .slice ba lb.length bc] 39)
  have x0 := boxed_new w #[.slice aa la.length ac, .slice ba lb.length bc] 39
  have s0 : (w.alloc (.cells #[.slice aa la.length ac, .slice ba lb.length bc] 39)).heap.size = w.heap.size + 1 := by simp
  generalize w.alloc (.cells #[.slice aa la.length ac, .slice ba lb.length bc] 39) = W0 at *
  have b1 := below_new W0 (.cells #[.int .i64 3, .int .i64 (-1), .string ⟨#[]⟩, .slice none 0 0] 43)
  have y1 := boxed_new W0 #[.int .i64 3, .int .i64 (-1), .string ⟨#[]⟩, .slice none 0 0] 43
  have s1 : (W0.alloc (.cells #[.int .i64 3, .int .i64 (-1), .string ⟨#[]⟩, .slice none 0 0] 43)).heap.size = W0.heap.size + 1 := by simp
  generalize W0.alloc (.cells #[.int .i64 3, .int .i64 (-1), .string ⟨#[]⟩, .slice none 0 0] 43) = W1 at *
  have b2 := below_new W1 (.cells #[.int .i64 3, .int .i64 1, .string ⟨#[]⟩, .slice none 0 0] 43)
  have z2 := boxed_new W1 #[.int .i64 3, .int .i64 1, .string ⟨#[]⟩, .slice none 0 0] 43
  generalize W1.alloc (.cells #[.int .i64 3, .int .i64 1, .string ⟨#[]⟩, .slice none 0 0] 43) = W2 at *
  rw [s0] at y1
  rw [s1, s0] at z2
  have y2 := y1.keep b2
  have B2 := Below.next (Below.next b0 b1) b2
  have x2 := x0.keep (Below.next b1 b2)
  have ha2 := ha.keep B2
  have hb2 := hb.keep B2
  have he2 := he.keep B2
  have l1 := its_lit (w := W2) (n := -1) (by decide) (by decide) anyB trivial (y2.2 0 (by simp)) (y2.2 1 (by simp)) (y2.2 2 (by simp)) (y2.2 3 (by simp))
  have l2 := its_lit (w := W2) (n := 1) (by decide) (by decide) anyB trivial (z2.2 0 (by simp)) (z2.2 1 (by simp)) (z2.2 2 (by simp)) (z2.2 3 (by simp))
  clear b0 b1 b2 x0 y1 y2 z2 s0 s1 ha hb he
  have CL := compare_any aA aM _ _ _ _ W2 l1 l2 he2 (fun _ => by have := (tidy_one (-1) (by decide) (by decide)).enc_le; omega) (fun _ => by have := (tidy_one 1 (by decide) (by decide)).enc_le; omega)
  rw [lit_cmp.1, lit_cmp.2] at CL
  have CLH : Hid (Calls Tryd.prog 17 #[.slice (some ⟨w.heap.size + 1, 0, none⟩) 1 1, .slice (some ⟨w.heap.size + 1 + 1, 0, none⟩) 1 1] W2 fun e w' => e = .returned (.tuple #[.int .i64 (-1), .nilIface]) ∧ Below W2.heap.size W2 w') := CL
  clear CL l1 l2
  refine CLH.out.mono ?_
  rintro e w3 ⟨rfl, hb3⟩
  have x3 := x2.keep hb3
  have ha3 := ha2.keep hb3
  have hbb3 := hb2.keep hb3
  have he3 := he2.keep hb3
  have B3 := Below.next B2 hb3
  have c0 : w3.cell? ⟨w.heap.size, 0, none⟩ = some (.slice aa la.length ac) := x3.2 0 (by simp)
  clear CLH x2 ha2 hb2 he2 B2 hb3
  go_wp2_with fail
  refine (tidy_any 4 la _ _ w3 (by omega) (by rfl) ha3).mono ?_
  rintro e w4 ⟨v4, qa, rfl, oa4, ta, la4, hb4⟩
  have x4 := x3.keep hb4
  have hbb4 := hbb3.keep hb4
  have he4 := he3.keep hb4
  have B4 := Below.next B3 hb4
  have c1 : w4.cell? ⟨w.heap.size, 1, none⟩ = some (.slice ba lb.length bc) := x4.2 1 (by simp)
  clear x3 ha3 hbb3 he3 B3 hb4 c0
  go_wp2_with fail
  refine (tidy_any 4 lb _ _ w4 (by omega) (by rfl) hbb4).mono ?_
  rintro e w5 ⟨v5, qb, rfl, ob5, tb, lb5, hb5⟩
  have ia5 : ItsAt w5 anyB v4 qa := ((oa4.at' (by omega)).keep hb5).any
  have ib5 : ItsAt w5 anyB v5 qb := (ob5.at' (by omega)).any
  have he5 := he4.keep hb5
  have B5 := Below.next B4 hb5
  clear x4 hbb4 he4 B4 hb5 c1 oa4 ob5
  have FA := ta.packF
  have FB := tb.packF
  have TA : packT qa = ⟨(encL qa).toArray⟩ := by unfold packT; rw [if_pos FA]
  have TB : packT qb = ⟨(encL qb).toArray⟩ := by unfold packT; rw [if_pos FB]
  have ea := ta.enc_le
  have eb := tb.enc_le
  have cv : compV qa qb = cmpB (encL qa) (encL qb) := by unfold compV; rw [if_pos ⟨FA, FB⟩]
  have cv' : compV qb qa = -cmpB (encL qa) (encL qb) := by unfold compV; rw [if_pos ⟨FB, FA⟩]; exact cmpB_neg _ _
  have cf : compF qa qb = 0 := by unfold compF; rw [if_pos FA, FB]
  have cf' : compF qb qa = 0 := by unfold compF; rw [if_pos FB, FA]
  have PA : Hid (∀ w', ItsAt w' anyB v4 qa → Errs2 aA aM w' → Calls Tryd.prog 8 #[v4] w' fun e w'' => e = .returned (.tuple #[.string ⟨(encL qa).toArray⟩, .nilIface]) ∧ Below w'.heap.size w' w'') := fun w' p q => by
    have h := pack_any aA aM qa v4 w' p q (fun _ => by omega)
    rw [FA, TA] at h; exact h
  have PB : Hid (∀ w', ItsAt w' anyB v5 qb → Errs2 aA aM w' → Calls Tryd.prog 8 #[v5] w' fun e w'' => e = .returned (.tuple #[.string ⟨(encL qb).toArray⟩, .nilIface]) ∧ Below w'.heap.size w' w'') := fun w' p q => by
    have h := pack_any aA aM qb v5 w' p q (fun _ => by omega)
    rw [FB, TB] at h; exact h
  have CA : Hid (∀ w', ItsAt w' anyB v4 qa → ItsAt w' anyB v5 qb → Errs2 aA aM w' → Calls Tryd.prog 17 #[v4, v5] w' fun e w'' => e = .returned (.tuple #[.int .i64 (cmpB (encL qa) (encL qb)), .nilIface]) ∧ Below w'.heap.size w' w'') := fun w' p q r => by
    have h := compare_any aA aM qa qb v4 v5 w' p q r (fun _ => by omega) (fun _ => by omega)
    rw [cv, cf] at h; exact h
  have CB : Hid (∀ w', ItsAt w' anyB v4 qa → ItsAt w' anyB v5 qb → Errs2 aA aM w' → Calls Tryd.prog 17 #[v5, v4] w' fun e w'' => e = .returned (.tuple #[.int .i64 (-cmpB (encL qa) (encL qb)), .nilIface]) ∧ Below w'.heap.size w' w'') := fun w' p q r => by
    have h := compare_any aA aM qb qa v5 v4 w' q p r (fun _ => by omega) (fun _ => by omega)
    rw [cv', cf'] at h; exact h
  have SM : Hid (∀ w', ItsAt w' anyB v4 qa → ItsAt w' anyB v5 qb → Calls Tryd.prog 10 #[v4, v5] w' fun e w'' => ∃ b : Bool, e = .returned (.bool b) ∧ (b = true ↔ cmpB (encL qa) (encL qb) = 0) ∧ Below w'.heap.size w' w'') := fun w' p q => by
    have h := sameItems_any _ qa qb v4 v5 w' (Nat.le_refl _) p q
    rw [← enc_inj qa qb (TidyT.fault 4 _ ta) (TidyT.fault 4 _ tb) (TidyT.okR 4 _ ta) (TidyT.okR 4 _ tb)] at h
    exact h
  have OD : Hid (∀ w', Calls Tryd.prog 18 #[.string ⟨(encL qa).toArray⟩, .string ⟨(encL qb).toArray⟩] w' fun e w'' => e = .returned (.int .i64 (cmpB (encL qa) (encL qb))) ∧ Below w'.heap.size w' w'') := fun w' => order_any ⟨(encL qa).toArray⟩ ⟨(encL qb).toArray⟩ w' (by show (encL qa).toArray.size ≤ _; simp; omega) (by show (encL qb).toArray.size ≤ _; simp; omega)
  have hval : cmpB (encL qa) (encL qb) = -1 ∨ cmpB (encL qa) (encL qb) = 0 ∨ cmpB (encL qa) (encL qb) = 1 := cmpB_vals _ _
  clear ta tb FA FB TA TB ea eb cv cv' cf cf' la4 lb5
  generalize cmpB (encL qa) (encL qb) = C at *
  generalize (⟨(encL qa).toArray⟩ : ByteArray) = TA at *
  generalize (⟨(encL qb).toArray⟩ : ByteArray) = TB at *
  go_wp2_with fail
  refine (PA.out _ ia5 he5).mono ?_
  rintro e w6 ⟨rfl, hb6⟩
  have ia6 := ia5.keep hb6
  have ib6 := ib5.keep hb6
  have he6 := he5.keep hb6
  have B6 := Below.next B5 hb6
  clear ia5 ib5 he5 B5 hb6 PA
  go_wp2_with fail
  refine (PB.out _ ib6 he6).mono ?_
  rintro e w7 ⟨rfl, hb7⟩
  have ia7 := ia6.keep hb7
  have ib7 := ib6.keep hb7
  have he7 := he6.keep hb7
  have B7 := Below.next B6 hb7
  clear ia6 ib6 he6 B6 hb7 PB
  go_wp2_with fail
  refine (CA.out _ ia7 ib7 he7).mono ?_
  rintro e w8 ⟨rfl, hb8⟩
  have ia8 := ia7.keep hb8
  have ib8 := ib7.keep hb8
  have he8 := he7.keep hb8
  have B8 := Below.next B7 hb8
  clear ia7 ib7 he7 B7 hb8 CA
  go_wp2_with fail
  refine (CB.out _ ia8 ib8 he8).mono ?_
  rintro e w9 ⟨rfl, hb9⟩
  have ia9 := ia8.keep hb9
  have ib9 := ib8.keep hb9
  have B9 := Below.next B8 hb9
  clear ia8 ib8 he8 B8 hb9 CB
  go_wp2_with fail
  refine (SM.out _ ia9 ib9).mono ?_
  rintro e w10 ⟨bs, rfl, hbs, hb10⟩
  have B10 := Below.next B9 hb10
  clear ia9 ib9 B9 hb10 SM
  rcases hval with rfl | rfl | rfl
  · have hb' : bs = false := by cases bs; rfl; exact absurd (hbs.1 rfl) (by decide)
    subst hb'
    clear hbs
    go_wp2_with fail
    refine (OD.out _).mono ?_
    rintro e w11 ⟨rfl, hb11⟩
    go_wp2_with fail
    go_ret
    exact ⟨rfl, Below.next B10 hb11⟩
  · have hb' : bs = true := hbs.2 rfl
    subst hb'
    clear hbs
    go_wp2_with fail
    refine (OD.out _).mono ?_
    rintro e w11 ⟨rfl, hb11⟩
    go_wp2_with fail
    go_ret
    exact ⟨rfl, Below.next B10 hb11⟩
  · have hb' : bs = false := by cases bs; rfl; exact absurd (hbs.1 rfl) (by decide)
    subst hb'
    clear hbs
    go_wp2_with fail
    refine (OD.out _).mono ?_
    rintro e w11 ⟨rfl, hb11⟩
    go_wp2_with fail
    go_ret
    exact ⟨rfl, Below.next B10 hb11⟩

end Go.Proofs.YtgljkgkophaefabDoor
