import Derived.Test.YtgljkgkophaefaaDoorPreMath
import Derived.Test.YtgljkgkophaefaaDoorJoin
import Derived.Test.YtgljkgkophaefaaDoorSame
import Derived.Test.YtgljkgkophaefaaDoorAboveFn
namespace Go.Proofs.YtgljkgkophaefaaDoor
open Go.RowKit

theorem join_at {w6 w7 : World} {base b5 : Nat} {v6 : Value} {qa qb : List It} {usa usb : List Value} {g cap : Nat} (ha : usa.length = qa.length) (hb : usb.length = qb.length) (ka : ∀ i (h : i < qa.length), qa[i].Ok) (kb : ∀ i (h : i < qb.length), qb[i].Ok)
    (ia : ∀ i (h : i < qa.length) (h' : i < usa.length), ItsAt w6 (fun g => base ≤ g ∧ some g ≠ v6.ownBlock ∧ g < w6.heap.size) usa[i] qa[i].list)
    (ib : ∀ i (h : i < qb.length) (h' : i < usb.length), ItsAt w6 (fun g => g < b5) usb[i] qb[i].list) (hbk : ∀ k, v6.ownBlock = some k → b5 ≤ k)
    (hown : w7.ownsRow base 43 4 (.slice (some ⟨g, 0, none⟩) (qa.length + qb.length) cap) (qa.length + qb.length) (cellsOf' qa usa ++ cellsOf' qb usb)) (hgrow : w6.grownBy w7 v6.ownBlock) (hl : qa.length + qb.length ≤ 100) :
    ItsAt w7 anyB (.slice (some ⟨g, 0, none⟩) (qa.length + qb.length) cap) (qa ++ qb) := by
  have hbut : But w6 w7 v6.ownBlock := ⟨hgrow.size, hgrow.block⟩
  have hL : (qa ++ qb).length = qa.length + qb.length := List.length_append
  refine row_at (us := usa ++ usb) (by simp [ha, hb]) (base := base) ?_ (fun i h => ?_) (fun i h h' => ?_) (by omega)
  · rw [cellsOf'_append qa usa qb usb ha, hL]; exact hown
  · rcases Nat.lt_or_ge i qa.length with h1 | h1
    · rw [List.getElem_append_left h1]; exact ka i h1
    · rw [List.getElem_append_right h1]; exact kb _ (by omega)
  · rcases Nat.lt_or_ge i qa.length with h1 | h1
    · rw [List.getElem_append_left h1, List.getElem_append_left (by omega)]
      exact ((ia i h1 (by omega)).but hbut (fun g hg => hg.2.1)).any
    · rw [List.getElem_append_right h1, List.getElem_append_right (by omega)]
      have := ib (i - qa.length) (by omega) (by omega)
      have e := (this.but hbut (fun g hg e => by have := hbk g e.symm; omega)).any
      simp only [ha]
      exact e

set_option maxHeartbeats 40000000 in
theorem prefixlaw_any (aA aM : Addr) (la lb : List It) (va vb : Value) (w : World) (ha : ItsAt w anyB va la) (hb : ItsAt w anyB vb lb) (he : Errs2 aA aM w) :
    Calls Tryd.prog 6 #[.agg #[va, vb]] w fun e w' => e = .returned (.bool true) ∧ Below w.heap.size w w' := by
  obtain ⟨aa, ac, rfl⟩ := ha.form
  obtain ⟨ba, bc, rfl⟩ := hb.form
  obtain ⟨i0, hi, hz0, hz1, hz2⟩ := info_parts Tryd.info43
  go_enter Tryd.func6, Tryd.ntmps6
  go_wp2_with fail
  have b0 := below_new w (.cells #[.slice aa la.length ac, .slice ba lb.length bc] 33)
  have x3 := boxed_new w #[.slice aa la.length ac, .slice ba lb.length bc] 33
  have ha3 := ha.keep b0
  have hbb3 := hb.keep b0
  have he3 := he.keep b0
  generalize w.alloc (.cells #[.slice aa la.length ac, .slice ba lb.length bc] 33) = w3 at *
  have B3 := b0
  clear ha hb he b0
  refine (tidy_any 4 la _ _ w3 (by omega) (by rfl) ha3).mono ?_
  rintro e w4 ⟨v4, qa, rfl, oa4, ta, la4, -, hb4⟩
  have x4 := x3.keep hb4
  have hbb4 := hbb3.keep hb4
  have he4 := he3.keep hb4
  have B4 := Below.next B3 hb4
  have c1 : w4.cell? ⟨w.heap.size, 1, none⟩ = some (.slice ba lb.length bc) := x4.2 1 (by simp)
  clear x3 ha3 hbb3 he3 B3 hb4
  go_wp2_with fail
  refine (tidy_any 4 lb _ _ w4 (by omega) (by rfl) hbb4).mono ?_
  rintro e w5 ⟨v5, qb, rfl, ob5, tb, lb5, nb5, hb5⟩
  have ia5 : ItsAt w5 anyB v4 qa := ((oa4.at' (by omega)).keep hb5).any
  have he5 := he4.keep hb5
  have B5 := Below.next B4 hb5
  clear x4 hbb4 he4 B4 hb5 c1 oa4
  go_wp2_with fail
  refine (twins_any _ qa v4 w5 (Nat.le_refl _) ia5).mono ?_
  rintro e w6 ⟨v6, rfl, o6, hb6⟩
  have ia6 := ia5.keep hb6
  have ob6 := ob5.keep hb6
  have he6 := he5.keep hb6
  have B6 := Below.next B5 hb6
  have s56 := hb6.size
  have ia5' : ItsAt w5 (fun g => g < w5.heap.size) v4 qa := ia5.lt.imp fun g hg => hg.2
  have ib5' : ItsAt w5 (fun g => g < w5.heap.size) v5 qb := (ob5.at' (by omega)).lt.imp fun g hg => hg.2
  have ia6' := ia5'.keep hb6
  have ib6' := ib5'.keep hb6
  have s05 := B5.size
  have e5a := World.block_lt_of_cell? w5 _ he5.arg
  have e5m := World.block_lt_of_cell? w5 _ he5.many
  have HE5 : Hid (1 < w5.heap.size ∧ 2 < w5.heap.size) := ⟨e5a, e5m⟩
  clear ia5 he5 B5 ia5' ib5' ia6 e5a e5m
  obtain ⟨a4, c4, rfl⟩ := ia6'.form
  by_cases hqb : qb = []
  · obtain rfl := nb5 hqb
    subst hqb
    obtain ⟨a6, c6, rfl⟩ := o6.form
    rcases a6 with _ | a6
    · have hc6 := o6.cap
      have iu7 : ItsAt w6 anyB (.slice none qa.length c6) (qa ++ []) := by rw [List.append_nil]; exact (o6.at' (by omega)).any
      have ia7 : ItsAt w6 anyB (.slice a4 qa.length c4) qa := ia6'.any
      have ib7 : ItsAt w6 anyB (.slice none 0 0) [] := ib6'.any
      have he7 := he6
      have B7 := B6
      clear o6 ob5 ob6 ia6' ib6' hb6 he6 B6 nb5 s56 s05 HE5
      have FA := tidy_packF ta
      have FB := tidy_packF tb
      have FU := tidy_both ta tb
      have ea := tidy_enc ta
      have eb := tidy_enc tb
      have PA : Hid (∀ w', ItsAt w' anyB ((.slice a4 qa.length c4)) qa → Errs2 aA aM w' → Calls Tryd.prog 17 #[((.slice a4 qa.length c4))] w' fun e w'' => e = .returned (.tuple #[.string ⟨(encL qa).toArray⟩, .nilIface]) ∧ Below w'.heap.size w' w'') := fun w' p q => by
        have h := pack_any aA aM qa ((.slice a4 qa.length c4)) w' p q (fun _ => by omega)
        rw [FA, show packT qa = ⟨(encL qa).toArray⟩ by unfold packT; rw [if_pos FA]] at h; exact h
      have PB : Hid (∀ w', ItsAt w' anyB (.slice none 0 0) ([] : List It) → Errs2 aA aM w' → Calls Tryd.prog 17 #[(.slice none 0 0)] w' fun e w'' => e = .returned (.tuple #[.string ⟨(encL ([] : List It)).toArray⟩, .nilIface]) ∧ Below w'.heap.size w' w'') := fun w' p q => by
        have h := pack_any aA aM ([] : List It) (.slice none 0 0) w' p q (fun _ => by omega)
        rw [FB, show packT ([] : List It) = ⟨(encL ([] : List It)).toArray⟩ by unfold packT; rw [if_pos FB]] at h; exact h
      have PU : Hid (∀ w', ItsAt w' anyB (.slice none qa.length c6) (qa ++ ([] : List It)) → Errs2 aA aM w' → Calls Tryd.prog 17 #[(.slice none qa.length c6)] w' fun e w'' => e = .returned (.tuple #[.string (⟨(encL qa).toArray⟩ ++ ⟨(encL ([] : List It)).toArray⟩), .nilIface]) ∧ Below w'.heap.size w' w'') := fun w' p q => by
        have h := pack_any aA aM (qa ++ ([] : List It)) (.slice none qa.length c6) w' p q (fun _ => by rw [encL_append, List.length_append]; omega)
        rw [FU, show packT (qa ++ ([] : List It)) = ⟨(encL qa).toArray⟩ ++ ⟨(encL ([] : List It)).toArray⟩ by unfold packT; rw [if_pos FU, encL_append, ByteArray.mk_append_mk]] at h; exact h
      have SV : Hid (∀ w', Errs2 aA aM w' → Calls Tryd.prog 16 #[] w' fun e w'' => e = .returned (.bool true) ∧ Below w'.heap.size w' w'') := fun w' h => seven_any aA aM w' h
      have PRE : Hid (beg (encL qa) (encL ([] : List It)) = true ↔ (qa.length ≤ ([] : List It).length ∧ qa = ([] : List It).take qa.length)) := prefix_iff qa ([] : List It) ta tb
      have hnoup : cutN ⟨(encL qa).toArray⟩ = 0 → encL qa = [] := no_up (fun x hx => (oneF_zero (tidy_each ta x hx).1).1)
      have NOUP : Hid (cutN ⟨(encL qa).toArray⟩ = 0 → encL qa = []) := hnoup
      have za : (⟨(encL qa).toArray⟩ : ByteArray).size ≤ 140737488351232 := by show (encL qa).toArray.size ≤ _; simp; omega
      have zb : (⟨(encL ([] : List It)).toArray⟩ : ByteArray).size ≤ 140737488351232 := by show (encL ([] : List It)).toArray.size ≤ _; simp; omega
      have BG : Hid (∀ w', Calls Tryd.prog 20 #[.string ⟨(encL ([] : List It)).toArray⟩, .string ⟨(encL qa).toArray⟩] w' fun e w'' => e = .returned (.bool (beg (encL qa) (encL ([] : List It)))) ∧ w' = w'') := fun w' => begins_any ⟨(encL ([] : List It)).toArray⟩ ⟨(encL qa).toArray⟩ w' zb za
      have AB : Hid (∀ w', Calls Tryd.prog 21 #[.string ⟨(encL qa).toArray⟩] w' fun e w'' => e = .returned (.tuple #[.string (aboveB ⟨(encL qa).toArray⟩), .bool (hasUp ⟨(encL qa).toArray⟩)]) ∧ Below w'.heap.size w' w'') := fun w' => above_any _ w' za
      have za' : (⟨(encL qa).toArray⟩ : ByteArray).size ≤ 28328 := by show (encL qa).toArray.size ≤ _; simp; exact ea
      have zb' : (⟨(encL ([] : List It)).toArray⟩ : ByteArray).size ≤ 28328 := by show (encL ([] : List It)).toArray.size ≤ _; simp; exact eb
      have UPS : Hid (cutN ⟨(encL qa).toArray⟩ ≠ 0 → ∀ t : List UInt8, beg (encL qa) t = (!Op.bytesLess t (encL qa) && Op.bytesLess t (aboveB ⟨(encL qa).toArray⟩).data.toList)) := fun h t => beg_above ⟨(encL qa).toArray⟩ h t
      have DA : Hid ((⟨(encL qa).toArray⟩ : ByteArray).toList = encL qa ∧ (⟨(encL ([] : List It)).toArray⟩ : ByteArray).toList = encL ([] : List It)) := ⟨by rw [ByteArray.toList_eq], by rw [ByteArray.toList_eq]⟩
      clear FA FB FU ea eb ta tb hnoup za zb
      generalize hTA : (⟨(encL qa).toArray⟩ : ByteArray) = TA at *
      generalize hTB : (⟨(encL ([] : List It)).toArray⟩ : ByteArray) = TB at *
      clear hTA hTB
      generalize encL qa = EA at *
      generalize encL ([] : List It) = EB at *
      go_wp2_with fail
      refine (PA.out _ ia7 he7).mono ?_
      rintro e w8 ⟨rfl, hb8⟩
      have ia8 := ia7.keep hb8
      have ib8 := ib7.keep hb8
      have iu8 := iu7.keep hb8
      have he8 := he7.keep hb8
      have B8 := Below.next B7 hb8
      clear ia7 ib7 iu7 he7 B7 hb8 PA
      go_wp2_with fail
      refine (PB.out _ ib8 he8).mono ?_
      rintro e w9 ⟨rfl, hb9⟩
      have ia9 := ia8.keep hb9
      have ib9 := ib8.keep hb9
      have iu9 := iu8.keep hb9
      have he9 := he8.keep hb9
      have B9 := Below.next B8 hb9
      clear ia8 ib8 iu8 he8 B8 hb9 PB
      go_wp2_with fail
      refine (PU.out _ iu9 he9).mono ?_
      rintro e w10 ⟨rfl, hb10⟩
      have ia10 := ia9.keep hb10
      have ib10 := ib9.keep hb10
      have he10 := he9.keep hb10
      have B10 := Below.next B9 hb10
      clear ia9 ib9 iu9 he9 B9 hb10 PU
      go_wp2_with fail
      refine (SV.out _ he10).mono ?_
      rintro e w11 ⟨rfl, hb11⟩
      have ia11 := ia10.keep hb11
      have ib11 := ib10.keep hb11
      have B11 := Below.next B10 hb11
      clear ia10 ib10 he10 B10 hb11 SV
      have hbeg : ∀ b : Bool, beg EA EB = b → (b = true ↔ (qa.length ≤ ([] : List It).length ∧ qa = ([] : List It).take qa.length)) := fun b h => by rw [← h]; exact PRE.out
      have HBEG : Hid (∀ b : Bool, beg EA EB = b → (b = true ↔ (qa.length ≤ ([] : List It).length ∧ qa = ([] : List It).take qa.length))) := hbeg
      clear hbeg PRE
      by_cases hle : qa.length ≤ ([] : List It).length
      · have hqa : qa = [] := List.length_eq_zero_iff.1 (Nat.le_zero.1 hle)
        subst hqa
        have SM : Hid (∀ w', Calls Tryd.prog 9 #[.slice a4 0 c4, .slice none 0 0] w' fun e w'' => ∃ b : Bool, e = .returned (.bool b) ∧ b = beg EA EB ∧ Below w'.heap.size w' w'') := fun w' => by
          refine (sameItems_any _ [] [] (.slice a4 0 c4) (.slice none 0 0) w' (Nat.le_refl _) (its_nil _ _ _ _) (its_nil _ _ _ _)).mono ?_
          rintro e w'' ⟨b, rfl, hb, hbb⟩
          refine ⟨b, rfl, ?_, hbb⟩
          have h2 := HBEG.out _ rfl
          rw [hb.2 rfl]
          exact (h2.2 ⟨hle, rfl⟩).symm
        have hmin : ∀ (ts : Array TypeId) (t : TypeId) (w : World), (Builtin.min_ ts t #[.int .i64 0, .int .i64 0]).run Tryd.prog w = .ok (.int .i64 0) w := by
          intro ts t w
          rw [run_min_int2]
          simp
        clear HBEG
        go_wp2_with fail
        refine (SM.out _).mono ?_
        rintro e w12 ⟨b, rfl, hbb, hb12⟩
        have B12 := Below.next B11 hb12
        have HBB : Hid (b = beg EA EB) := hbb
        clear SM ia11 ib11 B11 hb12 hmin hbb hle
        cases b
        · have BG2 : Hid (∀ w', Calls Tryd.prog 20 #[.string TB, .string TA] w' fun e w'' => e = .returned (.bool false) ∧ w' = w'') := fun w' => by rw [HBB.out]; exact BG.out w'
          go_wp2_with fail
          refine (BG2.out _).mono ?_
          rintro e w13 ⟨rfl, rfl⟩
          go_wp2_with fail
          refine (AB.out _).mono ?_
          rintro e w14 ⟨rfl, hb14⟩
          have B14 := Below.next B12 hb14
          clear B12 hb14 AB
          by_cases hcut : cutN TA = 0
          · have hup : hasUp TA = false := by simp [hasUp, hcut]
            have hnil : TA.toList = [] := by rw [DA.out.1]; exact NOUP.out hcut
            have hz : (⟨#[]⟩ : ByteArray).toList = [] := by rw [ByteArray.toList_eq]
            rw [hup]
            clear hup hcut
            go_wp2_with fail
            go_ret
            exact ⟨rfl, B14⟩
          · have hup : hasUp TA = true := by simp [hasUp, hcut]
            have h1 := UPS.out hcut EB
            have h2 := UPS.out hcut (EA ++ EB)
            rw [beg_app] at h2
            have h2' : Op.bytesLess (EA ++ EB) (aboveB TA).data.toList = true := by
              cases hh : Op.bytesLess (EA ++ EB) (aboveB TA).data.toList
              · rw [hh] at h2; simp at h2
              · rfl
            obtain ⟨u1, u2⟩ := less_not h2'
            rw [← HBB.out] at h1
            have hTU : (TA ++ TB).toList = EA ++ EB := by
              rw [ByteArray.toList_eq]
              have e1 := DA.out.1
              have e2 := DA.out.2
              rw [ByteArray.toList_eq] at e1 e2
              simp [e1, e2]
            have hUU : (aboveB TA).toList = (aboveB TA).data.toList := ByteArray.toList_eq _
            have hg1 : Op.bytesLess (aboveB TA).toList (TA ++ TB).toList = false := by rw [hTU, hUU]; exact u1
            have hg2 : ((aboveB TA).toList == (TA ++ TB).toList) = false := by rw [hTU, hUU]; exact u2
            have hE1 := DA.out.1
            have hE2 := DA.out.2
            have hl1 : Op.bytesLess TB.toList TA.toList = Op.bytesLess EB EA := by rw [hE1, hE2]
            have hl2 : Op.bytesLess TB.toList (aboveB TA).toList = Op.bytesLess EB (aboveB TA).data.toList := by rw [hE2, hUU]
            rw [hup]
            clear hup hcut h2 h2' u1 u2 hTU hUU hE1 hE2 UPS NOUP
            generalize aboveB TA = UP at *
            cases hx : Op.bytesLess EB EA <;> cases hy : Op.bytesLess EB UP.data.toList
            all_goals
              rw [hx] at hl1
              rw [hy] at hl2
              rw [hx, hy] at h1
              first
              | (exact absurd h1 (by decide))
              | (clear h1 hx hy
                 go_wp2_with (go_at_call 20; refine (BG2.out _).mono ?_; rintro e w15 ⟨rfl, rfl⟩)
                 go_ret
                 exact ⟨rfl, B14⟩)
        · have BG2 : Hid (∀ w', Calls Tryd.prog 20 #[.string TB, .string TA] w' fun e w'' => e = .returned (.bool true) ∧ w' = w'') := fun w' => by rw [HBB.out]; exact BG.out w'
          go_wp2_with fail
          refine (BG2.out _).mono ?_
          rintro e w13 ⟨rfl, rfl⟩
          go_wp2_with fail
          refine (AB.out _).mono ?_
          rintro e w14 ⟨rfl, hb14⟩
          have B14 := Below.next B12 hb14
          clear B12 hb14 AB
          by_cases hcut : cutN TA = 0
          · have hup : hasUp TA = false := by simp [hasUp, hcut]
            have hnil : TA.toList = [] := by rw [DA.out.1]; exact NOUP.out hcut
            have hz : (⟨#[]⟩ : ByteArray).toList = [] := by rw [ByteArray.toList_eq]
            rw [hup]
            clear hup hcut
            go_wp2_with fail
            go_ret
            exact ⟨rfl, B14⟩
          · have hup : hasUp TA = true := by simp [hasUp, hcut]
            have h1 := UPS.out hcut EB
            have h2 := UPS.out hcut (EA ++ EB)
            rw [beg_app] at h2
            have h2' : Op.bytesLess (EA ++ EB) (aboveB TA).data.toList = true := by
              cases hh : Op.bytesLess (EA ++ EB) (aboveB TA).data.toList
              · rw [hh] at h2; simp at h2
              · rfl
            obtain ⟨u1, u2⟩ := less_not h2'
            rw [← HBB.out] at h1
            have hTU : (TA ++ TB).toList = EA ++ EB := by
              rw [ByteArray.toList_eq]
              have e1 := DA.out.1
              have e2 := DA.out.2
              rw [ByteArray.toList_eq] at e1 e2
              simp [e1, e2]
            have hUU : (aboveB TA).toList = (aboveB TA).data.toList := ByteArray.toList_eq _
            have hg1 : Op.bytesLess (aboveB TA).toList (TA ++ TB).toList = false := by rw [hTU, hUU]; exact u1
            have hg2 : ((aboveB TA).toList == (TA ++ TB).toList) = false := by rw [hTU, hUU]; exact u2
            have hE1 := DA.out.1
            have hE2 := DA.out.2
            have hl1 : Op.bytesLess TB.toList TA.toList = Op.bytesLess EB EA := by rw [hE1, hE2]
            have hl2 : Op.bytesLess TB.toList (aboveB TA).toList = Op.bytesLess EB (aboveB TA).data.toList := by rw [hE2, hUU]
            rw [hup]
            clear hup hcut h2 h2' u1 u2 hTU hUU hE1 hE2 UPS NOUP
            generalize aboveB TA = UP at *
            cases hx : Op.bytesLess EB EA <;> cases hy : Op.bytesLess EB UP.data.toList
            all_goals
              rw [hx] at hl1
              rw [hy] at hl2
              rw [hx, hy] at h1
              first
              | (exact absurd h1 (by decide))
              | (clear h1 hx hy
                 go_wp2_with (go_at_call 20; refine (BG2.out _).mono ?_; rintro e w15 ⟨rfl, rfl⟩)
                 go_ret
                 exact ⟨rfl, B14⟩)
      · have hle0 : ¬ qa.length ≤ 0 := hle
        have hqa : ¬ qa = [] := fun e => hle0 (by rw [e]; exact Nat.le_refl _)
        have hbf : beg EA EB = false := by
          cases hh : beg EA EB
          · rfl
          · exact absurd ((HBEG.out _ hh).1 rfl).1 hle
        have HBB : Hid (false = beg EA EB) := hbf.symm
        have B12 := B11
        have hd : decide ((qa.length : Int) ≤ (0 : Int)) = false := decide_eq_false (by omega)
        clear ia11 ib11 B11 HBEG hbf
        have BG2 : Hid (∀ w', Calls Tryd.prog 20 #[.string TB, .string TA] w' fun e w'' => e = .returned (.bool false) ∧ w' = w'') := fun w' => by rw [HBB.out]; exact BG.out w'
        go_wp2_with fail
        refine (BG2.out _).mono ?_
        rintro e w13 ⟨rfl, rfl⟩
        go_wp2_with fail
        refine (AB.out _).mono ?_
        rintro e w14 ⟨rfl, hb14⟩
        have B14 := Below.next B12 hb14
        clear B12 hb14 AB
        by_cases hcut : cutN TA = 0
        · have hup : hasUp TA = false := by simp [hasUp, hcut]
          have hnil : TA.toList = [] := by rw [DA.out.1]; exact NOUP.out hcut
          have hz : (⟨#[]⟩ : ByteArray).toList = [] := by rw [ByteArray.toList_eq]
          rw [hup]
          clear hup hcut
          go_wp2_with fail
          go_ret
          exact ⟨rfl, B14⟩
        · have hup : hasUp TA = true := by simp [hasUp, hcut]
          have h1 := UPS.out hcut EB
          have h2 := UPS.out hcut (EA ++ EB)
          rw [beg_app] at h2
          have h2' : Op.bytesLess (EA ++ EB) (aboveB TA).data.toList = true := by
            cases hh : Op.bytesLess (EA ++ EB) (aboveB TA).data.toList
            · rw [hh] at h2; simp at h2
            · rfl
          obtain ⟨u1, u2⟩ := less_not h2'
          rw [← HBB.out] at h1
          have hTU : (TA ++ TB).toList = EA ++ EB := by
            rw [ByteArray.toList_eq]
            have e1 := DA.out.1
            have e2 := DA.out.2
            rw [ByteArray.toList_eq] at e1 e2
            simp [e1, e2]
          have hUU : (aboveB TA).toList = (aboveB TA).data.toList := ByteArray.toList_eq _
          have hg1 : Op.bytesLess (aboveB TA).toList (TA ++ TB).toList = false := by rw [hTU, hUU]; exact u1
          have hg2 : ((aboveB TA).toList == (TA ++ TB).toList) = false := by rw [hTU, hUU]; exact u2
          have hE1 := DA.out.1
          have hE2 := DA.out.2
          have hl1 : Op.bytesLess TB.toList TA.toList = Op.bytesLess EB EA := by rw [hE1, hE2]
          have hl2 : Op.bytesLess TB.toList (aboveB TA).toList = Op.bytesLess EB (aboveB TA).data.toList := by rw [hE2, hUU]
          rw [hup]
          clear hup hcut h2 h2' u1 u2 hTU hUU hE1 hE2 UPS NOUP
          generalize aboveB TA = UP at *
          cases hx : Op.bytesLess EB EA <;> cases hy : Op.bytesLess EB UP.data.toList
          all_goals
            rw [hx] at hl1
            rw [hy] at hl2
            rw [hx, hy] at h1
            first
            | (exact absurd h1 (by decide))
            | (clear h1 hx hy
               go_wp2_with (go_at_call 20; refine (BG2.out _).mono ?_; rintro e w15 ⟨rfl, rfl⟩)
               go_ret
               exact ⟨rfl, B14⟩)
    · have hc6 := o6.cap
      have iu7 : ItsAt w6 anyB (.slice (some a6) qa.length c6) (qa ++ []) := by rw [List.append_nil]; exact (o6.at' (by omega)).any
      have ia7 : ItsAt w6 anyB (.slice a4 qa.length c4) qa := ia6'.any
      have ib7 : ItsAt w6 anyB (.slice none 0 0) [] := ib6'.any
      have he7 := he6
      have B7 := B6
      clear o6 ob5 ob6 ia6' ib6' hb6 he6 B6 nb5 s56 s05 HE5
      have FA := tidy_packF ta
      have FB := tidy_packF tb
      have FU := tidy_both ta tb
      have ea := tidy_enc ta
      have eb := tidy_enc tb
      have PA : Hid (∀ w', ItsAt w' anyB ((.slice a4 qa.length c4)) qa → Errs2 aA aM w' → Calls Tryd.prog 17 #[((.slice a4 qa.length c4))] w' fun e w'' => e = .returned (.tuple #[.string ⟨(encL qa).toArray⟩, .nilIface]) ∧ Below w'.heap.size w' w'') := fun w' p q => by
        have h := pack_any aA aM qa ((.slice a4 qa.length c4)) w' p q (fun _ => by omega)
        rw [FA, show packT qa = ⟨(encL qa).toArray⟩ by unfold packT; rw [if_pos FA]] at h; exact h
      have PB : Hid (∀ w', ItsAt w' anyB (.slice none 0 0) ([] : List It) → Errs2 aA aM w' → Calls Tryd.prog 17 #[(.slice none 0 0)] w' fun e w'' => e = .returned (.tuple #[.string ⟨(encL ([] : List It)).toArray⟩, .nilIface]) ∧ Below w'.heap.size w' w'') := fun w' p q => by
        have h := pack_any aA aM ([] : List It) (.slice none 0 0) w' p q (fun _ => by omega)
        rw [FB, show packT ([] : List It) = ⟨(encL ([] : List It)).toArray⟩ by unfold packT; rw [if_pos FB]] at h; exact h
      have PU : Hid (∀ w', ItsAt w' anyB (.slice (some a6) qa.length c6) (qa ++ ([] : List It)) → Errs2 aA aM w' → Calls Tryd.prog 17 #[(.slice (some a6) qa.length c6)] w' fun e w'' => e = .returned (.tuple #[.string (⟨(encL qa).toArray⟩ ++ ⟨(encL ([] : List It)).toArray⟩), .nilIface]) ∧ Below w'.heap.size w' w'') := fun w' p q => by
        have h := pack_any aA aM (qa ++ ([] : List It)) (.slice (some a6) qa.length c6) w' p q (fun _ => by rw [encL_append, List.length_append]; omega)
        rw [FU, show packT (qa ++ ([] : List It)) = ⟨(encL qa).toArray⟩ ++ ⟨(encL ([] : List It)).toArray⟩ by unfold packT; rw [if_pos FU, encL_append, ByteArray.mk_append_mk]] at h; exact h
      have SV : Hid (∀ w', Errs2 aA aM w' → Calls Tryd.prog 16 #[] w' fun e w'' => e = .returned (.bool true) ∧ Below w'.heap.size w' w'') := fun w' h => seven_any aA aM w' h
      have PRE : Hid (beg (encL qa) (encL ([] : List It)) = true ↔ (qa.length ≤ ([] : List It).length ∧ qa = ([] : List It).take qa.length)) := prefix_iff qa ([] : List It) ta tb
      have hnoup : cutN ⟨(encL qa).toArray⟩ = 0 → encL qa = [] := no_up (fun x hx => (oneF_zero (tidy_each ta x hx).1).1)
      have NOUP : Hid (cutN ⟨(encL qa).toArray⟩ = 0 → encL qa = []) := hnoup
      have za : (⟨(encL qa).toArray⟩ : ByteArray).size ≤ 140737488351232 := by show (encL qa).toArray.size ≤ _; simp; omega
      have zb : (⟨(encL ([] : List It)).toArray⟩ : ByteArray).size ≤ 140737488351232 := by show (encL ([] : List It)).toArray.size ≤ _; simp; omega
      have BG : Hid (∀ w', Calls Tryd.prog 20 #[.string ⟨(encL ([] : List It)).toArray⟩, .string ⟨(encL qa).toArray⟩] w' fun e w'' => e = .returned (.bool (beg (encL qa) (encL ([] : List It)))) ∧ w' = w'') := fun w' => begins_any ⟨(encL ([] : List It)).toArray⟩ ⟨(encL qa).toArray⟩ w' zb za
      have AB : Hid (∀ w', Calls Tryd.prog 21 #[.string ⟨(encL qa).toArray⟩] w' fun e w'' => e = .returned (.tuple #[.string (aboveB ⟨(encL qa).toArray⟩), .bool (hasUp ⟨(encL qa).toArray⟩)]) ∧ Below w'.heap.size w' w'') := fun w' => above_any _ w' za
      have za' : (⟨(encL qa).toArray⟩ : ByteArray).size ≤ 28328 := by show (encL qa).toArray.size ≤ _; simp; exact ea
      have zb' : (⟨(encL ([] : List It)).toArray⟩ : ByteArray).size ≤ 28328 := by show (encL ([] : List It)).toArray.size ≤ _; simp; exact eb
      have UPS : Hid (cutN ⟨(encL qa).toArray⟩ ≠ 0 → ∀ t : List UInt8, beg (encL qa) t = (!Op.bytesLess t (encL qa) && Op.bytesLess t (aboveB ⟨(encL qa).toArray⟩).data.toList)) := fun h t => beg_above ⟨(encL qa).toArray⟩ h t
      have DA : Hid ((⟨(encL qa).toArray⟩ : ByteArray).toList = encL qa ∧ (⟨(encL ([] : List It)).toArray⟩ : ByteArray).toList = encL ([] : List It)) := ⟨by rw [ByteArray.toList_eq], by rw [ByteArray.toList_eq]⟩
      clear FA FB FU ea eb ta tb hnoup za zb
      generalize hTA : (⟨(encL qa).toArray⟩ : ByteArray) = TA at *
      generalize hTB : (⟨(encL ([] : List It)).toArray⟩ : ByteArray) = TB at *
      clear hTA hTB
      generalize encL qa = EA at *
      generalize encL ([] : List It) = EB at *
      go_wp2_with fail
      refine (PA.out _ ia7 he7).mono ?_
      rintro e w8 ⟨rfl, hb8⟩
      have ia8 := ia7.keep hb8
      have ib8 := ib7.keep hb8
      have iu8 := iu7.keep hb8
      have he8 := he7.keep hb8
      have B8 := Below.next B7 hb8
      clear ia7 ib7 iu7 he7 B7 hb8 PA
      go_wp2_with fail
      refine (PB.out _ ib8 he8).mono ?_
      rintro e w9 ⟨rfl, hb9⟩
      have ia9 := ia8.keep hb9
      have ib9 := ib8.keep hb9
      have iu9 := iu8.keep hb9
      have he9 := he8.keep hb9
      have B9 := Below.next B8 hb9
      clear ia8 ib8 iu8 he8 B8 hb9 PB
      go_wp2_with fail
      refine (PU.out _ iu9 he9).mono ?_
      rintro e w10 ⟨rfl, hb10⟩
      have ia10 := ia9.keep hb10
      have ib10 := ib9.keep hb10
      have he10 := he9.keep hb10
      have B10 := Below.next B9 hb10
      clear ia9 ib9 iu9 he9 B9 hb10 PU
      go_wp2_with fail
      refine (SV.out _ he10).mono ?_
      rintro e w11 ⟨rfl, hb11⟩
      have ia11 := ia10.keep hb11
      have ib11 := ib10.keep hb11
      have B11 := Below.next B10 hb11
      clear ia10 ib10 he10 B10 hb11 SV
      have hbeg : ∀ b : Bool, beg EA EB = b → (b = true ↔ (qa.length ≤ ([] : List It).length ∧ qa = ([] : List It).take qa.length)) := fun b h => by rw [← h]; exact PRE.out
      have HBEG : Hid (∀ b : Bool, beg EA EB = b → (b = true ↔ (qa.length ≤ ([] : List It).length ∧ qa = ([] : List It).take qa.length))) := hbeg
      clear hbeg PRE
      by_cases hle : qa.length ≤ ([] : List It).length
      · have hqa : qa = [] := List.length_eq_zero_iff.1 (Nat.le_zero.1 hle)
        subst hqa
        have SM : Hid (∀ w', Calls Tryd.prog 9 #[.slice a4 0 c4, .slice none 0 0] w' fun e w'' => ∃ b : Bool, e = .returned (.bool b) ∧ b = beg EA EB ∧ Below w'.heap.size w' w'') := fun w' => by
          refine (sameItems_any _ [] [] (.slice a4 0 c4) (.slice none 0 0) w' (Nat.le_refl _) (its_nil _ _ _ _) (its_nil _ _ _ _)).mono ?_
          rintro e w'' ⟨b, rfl, hb, hbb⟩
          refine ⟨b, rfl, ?_, hbb⟩
          have h2 := HBEG.out _ rfl
          rw [hb.2 rfl]
          exact (h2.2 ⟨hle, rfl⟩).symm
        have hmin : ∀ (ts : Array TypeId) (t : TypeId) (w : World), (Builtin.min_ ts t #[.int .i64 0, .int .i64 0]).run Tryd.prog w = .ok (.int .i64 0) w := by
          intro ts t w
          rw [run_min_int2]
          simp
        clear HBEG
        go_wp2_with fail
        refine (SM.out _).mono ?_
        rintro e w12 ⟨b, rfl, hbb, hb12⟩
        have B12 := Below.next B11 hb12
        have HBB : Hid (b = beg EA EB) := hbb
        clear SM ia11 ib11 B11 hb12 hmin hbb hle
        cases b
        · have BG2 : Hid (∀ w', Calls Tryd.prog 20 #[.string TB, .string TA] w' fun e w'' => e = .returned (.bool false) ∧ w' = w'') := fun w' => by rw [HBB.out]; exact BG.out w'
          go_wp2_with fail
          refine (BG2.out _).mono ?_
          rintro e w13 ⟨rfl, rfl⟩
          go_wp2_with fail
          refine (AB.out _).mono ?_
          rintro e w14 ⟨rfl, hb14⟩
          have B14 := Below.next B12 hb14
          clear B12 hb14 AB
          by_cases hcut : cutN TA = 0
          · have hup : hasUp TA = false := by simp [hasUp, hcut]
            have hnil : TA.toList = [] := by rw [DA.out.1]; exact NOUP.out hcut
            have hz : (⟨#[]⟩ : ByteArray).toList = [] := by rw [ByteArray.toList_eq]
            rw [hup]
            clear hup hcut
            go_wp2_with fail
            go_ret
            exact ⟨rfl, B14⟩
          · have hup : hasUp TA = true := by simp [hasUp, hcut]
            have h1 := UPS.out hcut EB
            have h2 := UPS.out hcut (EA ++ EB)
            rw [beg_app] at h2
            have h2' : Op.bytesLess (EA ++ EB) (aboveB TA).data.toList = true := by
              cases hh : Op.bytesLess (EA ++ EB) (aboveB TA).data.toList
              · rw [hh] at h2; simp at h2
              · rfl
            obtain ⟨u1, u2⟩ := less_not h2'
            rw [← HBB.out] at h1
            have hTU : (TA ++ TB).toList = EA ++ EB := by
              rw [ByteArray.toList_eq]
              have e1 := DA.out.1
              have e2 := DA.out.2
              rw [ByteArray.toList_eq] at e1 e2
              simp [e1, e2]
            have hUU : (aboveB TA).toList = (aboveB TA).data.toList := ByteArray.toList_eq _
            have hg1 : Op.bytesLess (aboveB TA).toList (TA ++ TB).toList = false := by rw [hTU, hUU]; exact u1
            have hg2 : ((aboveB TA).toList == (TA ++ TB).toList) = false := by rw [hTU, hUU]; exact u2
            have hE1 := DA.out.1
            have hE2 := DA.out.2
            have hl1 : Op.bytesLess TB.toList TA.toList = Op.bytesLess EB EA := by rw [hE1, hE2]
            have hl2 : Op.bytesLess TB.toList (aboveB TA).toList = Op.bytesLess EB (aboveB TA).data.toList := by rw [hE2, hUU]
            rw [hup]
            clear hup hcut h2 h2' u1 u2 hTU hUU hE1 hE2 UPS NOUP
            generalize aboveB TA = UP at *
            cases hx : Op.bytesLess EB EA <;> cases hy : Op.bytesLess EB UP.data.toList
            all_goals
              rw [hx] at hl1
              rw [hy] at hl2
              rw [hx, hy] at h1
              first
              | (exact absurd h1 (by decide))
              | (clear h1 hx hy
                 go_wp2_with (go_at_call 20; refine (BG2.out _).mono ?_; rintro e w15 ⟨rfl, rfl⟩)
                 go_ret
                 exact ⟨rfl, B14⟩)
        · have BG2 : Hid (∀ w', Calls Tryd.prog 20 #[.string TB, .string TA] w' fun e w'' => e = .returned (.bool true) ∧ w' = w'') := fun w' => by rw [HBB.out]; exact BG.out w'
          go_wp2_with fail
          refine (BG2.out _).mono ?_
          rintro e w13 ⟨rfl, rfl⟩
          go_wp2_with fail
          refine (AB.out _).mono ?_
          rintro e w14 ⟨rfl, hb14⟩
          have B14 := Below.next B12 hb14
          clear B12 hb14 AB
          by_cases hcut : cutN TA = 0
          · have hup : hasUp TA = false := by simp [hasUp, hcut]
            have hnil : TA.toList = [] := by rw [DA.out.1]; exact NOUP.out hcut
            have hz : (⟨#[]⟩ : ByteArray).toList = [] := by rw [ByteArray.toList_eq]
            rw [hup]
            clear hup hcut
            go_wp2_with fail
            go_ret
            exact ⟨rfl, B14⟩
          · have hup : hasUp TA = true := by simp [hasUp, hcut]
            have h1 := UPS.out hcut EB
            have h2 := UPS.out hcut (EA ++ EB)
            rw [beg_app] at h2
            have h2' : Op.bytesLess (EA ++ EB) (aboveB TA).data.toList = true := by
              cases hh : Op.bytesLess (EA ++ EB) (aboveB TA).data.toList
              · rw [hh] at h2; simp at h2
              · rfl
            obtain ⟨u1, u2⟩ := less_not h2'
            rw [← HBB.out] at h1
            have hTU : (TA ++ TB).toList = EA ++ EB := by
              rw [ByteArray.toList_eq]
              have e1 := DA.out.1
              have e2 := DA.out.2
              rw [ByteArray.toList_eq] at e1 e2
              simp [e1, e2]
            have hUU : (aboveB TA).toList = (aboveB TA).data.toList := ByteArray.toList_eq _
            have hg1 : Op.bytesLess (aboveB TA).toList (TA ++ TB).toList = false := by rw [hTU, hUU]; exact u1
            have hg2 : ((aboveB TA).toList == (TA ++ TB).toList) = false := by rw [hTU, hUU]; exact u2
            have hE1 := DA.out.1
            have hE2 := DA.out.2
            have hl1 : Op.bytesLess TB.toList TA.toList = Op.bytesLess EB EA := by rw [hE1, hE2]
            have hl2 : Op.bytesLess TB.toList (aboveB TA).toList = Op.bytesLess EB (aboveB TA).data.toList := by rw [hE2, hUU]
            rw [hup]
            clear hup hcut h2 h2' u1 u2 hTU hUU hE1 hE2 UPS NOUP
            generalize aboveB TA = UP at *
            cases hx : Op.bytesLess EB EA <;> cases hy : Op.bytesLess EB UP.data.toList
            all_goals
              rw [hx] at hl1
              rw [hy] at hl2
              rw [hx, hy] at h1
              first
              | (exact absurd h1 (by decide))
              | (clear h1 hx hy
                 go_wp2_with (go_at_call 20; refine (BG2.out _).mono ?_; rintro e w15 ⟨rfl, rfl⟩)
                 go_ret
                 exact ⟨rfl, B14⟩)
      · have hle0 : ¬ qa.length ≤ 0 := hle
        have hqa : ¬ qa = [] := fun e => hle0 (by rw [e]; exact Nat.le_refl _)
        have hbf : beg EA EB = false := by
          cases hh : beg EA EB
          · rfl
          · exact absurd ((HBEG.out _ hh).1 rfl).1 hle
        have HBB : Hid (false = beg EA EB) := hbf.symm
        have B12 := B11
        have hd : decide ((qa.length : Int) ≤ (0 : Int)) = false := decide_eq_false (by omega)
        clear ia11 ib11 B11 HBEG hbf
        have BG2 : Hid (∀ w', Calls Tryd.prog 20 #[.string TB, .string TA] w' fun e w'' => e = .returned (.bool false) ∧ w' = w'') := fun w' => by rw [HBB.out]; exact BG.out w'
        go_wp2_with fail
        refine (BG2.out _).mono ?_
        rintro e w13 ⟨rfl, rfl⟩
        go_wp2_with fail
        refine (AB.out _).mono ?_
        rintro e w14 ⟨rfl, hb14⟩
        have B14 := Below.next B12 hb14
        clear B12 hb14 AB
        by_cases hcut : cutN TA = 0
        · have hup : hasUp TA = false := by simp [hasUp, hcut]
          have hnil : TA.toList = [] := by rw [DA.out.1]; exact NOUP.out hcut
          have hz : (⟨#[]⟩ : ByteArray).toList = [] := by rw [ByteArray.toList_eq]
          rw [hup]
          clear hup hcut
          go_wp2_with fail
          go_ret
          exact ⟨rfl, B14⟩
        · have hup : hasUp TA = true := by simp [hasUp, hcut]
          have h1 := UPS.out hcut EB
          have h2 := UPS.out hcut (EA ++ EB)
          rw [beg_app] at h2
          have h2' : Op.bytesLess (EA ++ EB) (aboveB TA).data.toList = true := by
            cases hh : Op.bytesLess (EA ++ EB) (aboveB TA).data.toList
            · rw [hh] at h2; simp at h2
            · rfl
          obtain ⟨u1, u2⟩ := less_not h2'
          rw [← HBB.out] at h1
          have hTU : (TA ++ TB).toList = EA ++ EB := by
            rw [ByteArray.toList_eq]
            have e1 := DA.out.1
            have e2 := DA.out.2
            rw [ByteArray.toList_eq] at e1 e2
            simp [e1, e2]
          have hUU : (aboveB TA).toList = (aboveB TA).data.toList := ByteArray.toList_eq _
          have hg1 : Op.bytesLess (aboveB TA).toList (TA ++ TB).toList = false := by rw [hTU, hUU]; exact u1
          have hg2 : ((aboveB TA).toList == (TA ++ TB).toList) = false := by rw [hTU, hUU]; exact u2
          have hE1 := DA.out.1
          have hE2 := DA.out.2
          have hl1 : Op.bytesLess TB.toList TA.toList = Op.bytesLess EB EA := by rw [hE1, hE2]
          have hl2 : Op.bytesLess TB.toList (aboveB TA).toList = Op.bytesLess EB (aboveB TA).data.toList := by rw [hE2, hUU]
          rw [hup]
          clear hup hcut h2 h2' u1 u2 hTU hUU hE1 hE2 UPS NOUP
          generalize aboveB TA = UP at *
          cases hx : Op.bytesLess EB EA <;> cases hy : Op.bytesLess EB UP.data.toList
          all_goals
            rw [hx] at hl1
            rw [hy] at hl2
            rw [hx, hy] at h1
            first
            | (exact absurd h1 (by decide))
            | (clear h1 hx hy
               go_wp2_with (go_at_call 20; refine (BG2.out _).mono ?_; rintro e w15 ⟨rfl, rfl⟩)
               go_ret
               exact ⟨rfl, B14⟩)
  · have hpos : 0 < qb.length := by
      rcases Nat.eq_zero_or_pos qb.length with h | h
      · exact absurd (List.length_eq_zero_iff.1 h) hqb
      · exact h
    obtain ⟨usb, husb, howb, hokb, hinb⟩ := ob5
    obtain ⟨g5, c5, rfl, hg5, hlt5⟩ := howb.form hpos
    have hc5 : qb.length ≤ c5 := by
      rcases howb.2 with ⟨h', _⟩ | ⟨_, _, _, h', _, _, hn, _⟩
      · cases h'
      · cases h'; exact hn
    have howb6 := owns_keep howb hb6
    have hinb6 : ∀ i (h : i < qb.length) (h' : i < usb.length), ItsAt w6 (fun g => g < w5.heap.size) usb[i] qb[i].list := fun i h h' => ((hinb i h h').keep hb6).imp fun g hg => hg.2.2
    have hone : ∀ u ∈ usb, u.oneCell' = true := fun u hu => by
      obtain ⟨i, hi, rfl⟩ := List.getElem_of_mem hu
      obtain ⟨x, c, e⟩ := (hinb i (by omega) hi).form
      rw [e]; rfl
    have hsrc := cells_src howb6
    have hbk := o6.blk
    obtain ⟨usa, husa, howa, hoka, hina⟩ := o6
    have hlen : (cellsOf' qb usb).length = qb.length * 4 := cellsOf'_len qb usb husb
    have HS : Hid ((∀ j u, (cellsOf' qb usb)[j]? = some u → w6.cell? ((⟨g5, 0, none⟩ : Addr).add j) = some u) ∧ (cellsOf' qb usb).length = qb.length * 4 ∧ (∀ x ∈ cellsOf' qb usb, x.oneCell' = true)) := ⟨hsrc, hlen, cellsOf'_one qb usb hone⟩
    have HA : Hid (w6.ownsRow w5.heap.size 43 4 v6 qa.length (cellsOf' qa usa)) := howa
    have hm1 : qa.length + qb.length ≤ maxLen := by unfold maxLen; omega
    have hm2 : (qa.length + qb.length) * 56 ≤ 140737488355328 := by omega
    clear hsrc hlen hone howb howb6 hb6 hlt5 hinb ob6 howa
    go_wp2_with (first
      | (at_builtin; refine wpList_append_lies _ rfl _ _ 22 rfl w5.heap.size 43 i0 (.agg #[.int .i64 0, .int .i64 0, .string ⟨#[]⟩, .slice none 0 0]) 4 56 Tryd.underlying22 hi hz0 hz1 hz2 rfl (by decide) _ _ _ rfl HA.out ⟨g5, 0, none⟩ qb.length c5 (cellsOf' qb usb) rfl HS.out.2.1 HS.out.1 HS.out.2.2 hpos hm1 hm2 s56 w6.heap.size rfl ?_))
    intro g7 c7 w7 hown7 hgrow hat hlg
    have iu7 := join_at (b5 := w5.heap.size) husa husb hoka hokb hina hinb6 (fun k hk => (hbk k hk).1) hown7 hgrow (by omega)
    have hbut : But w6 w7 v6.ownBlock := ⟨hgrow.size, hgrow.block⟩
    have hne : ∀ g, g < w5.heap.size → some g ≠ v6.ownBlock := fun g hg e => by have := (hbk g e.symm).1; omega
    have ia7 : ItsAt w7 anyB (.slice a4 qa.length c4) qa := (ia6'.but hbut hne).any
    have ib7 : ItsAt w7 anyB (.slice (some ⟨g5, 0, none⟩) qb.length c5) qb := (ib6'.but hbut hne).any
    have B7 : Below w.heap.size w w7 := B6.grown hgrow B6.size (fun k hk => by have := (hbk k hk).1; omega)
    have he7 : Errs2 aA aM w7 := ⟨(hgrow.cell_far ⟨1, 0, none⟩ (by have := HE5.out.1; show 1 < _; omega) (hne _ HE5.out.1)).trans he6.arg, (hgrow.cell_far ⟨2, 0, none⟩ (by have := HE5.out.2; show 2 < _; omega) (hne _ HE5.out.2)).trans he6.many⟩
    clear hown7 hgrow hat hlg hbut hne ia6' ib6' B6 he6 hbk hina hoka hokb hinb6 HS HA husa husb HE5 s05 s56 nb5 hqb hpos hm1 hm2 hg5
    have FA := tidy_packF ta
    have FB := tidy_packF tb
    have FU := tidy_both ta tb
    have ea := tidy_enc ta
    have eb := tidy_enc tb
    have PA : Hid (∀ w', ItsAt w' anyB ((.slice a4 qa.length c4)) qa → Errs2 aA aM w' → Calls Tryd.prog 17 #[((.slice a4 qa.length c4))] w' fun e w'' => e = .returned (.tuple #[.string ⟨(encL qa).toArray⟩, .nilIface]) ∧ Below w'.heap.size w' w'') := fun w' p q => by
      have h := pack_any aA aM qa ((.slice a4 qa.length c4)) w' p q (fun _ => by omega)
      rw [FA, show packT qa = ⟨(encL qa).toArray⟩ by unfold packT; rw [if_pos FA]] at h; exact h
    have PB : Hid (∀ w', ItsAt w' anyB (.slice (some ⟨g5, 0, none⟩) qb.length c5) qb → Errs2 aA aM w' → Calls Tryd.prog 17 #[(.slice (some ⟨g5, 0, none⟩) qb.length c5)] w' fun e w'' => e = .returned (.tuple #[.string ⟨(encL qb).toArray⟩, .nilIface]) ∧ Below w'.heap.size w' w'') := fun w' p q => by
      have h := pack_any aA aM qb (.slice (some ⟨g5, 0, none⟩) qb.length c5) w' p q (fun _ => by omega)
      rw [FB, show packT qb = ⟨(encL qb).toArray⟩ by unfold packT; rw [if_pos FB]] at h; exact h
    have PU : Hid (∀ w', ItsAt w' anyB (.slice (some ⟨g7, 0, none⟩) (qa.length + qb.length) c7) (qa ++ qb) → Errs2 aA aM w' → Calls Tryd.prog 17 #[(.slice (some ⟨g7, 0, none⟩) (qa.length + qb.length) c7)] w' fun e w'' => e = .returned (.tuple #[.string (⟨(encL qa).toArray⟩ ++ ⟨(encL qb).toArray⟩), .nilIface]) ∧ Below w'.heap.size w' w'') := fun w' p q => by
      have h := pack_any aA aM (qa ++ qb) (.slice (some ⟨g7, 0, none⟩) (qa.length + qb.length) c7) w' p q (fun _ => by rw [encL_append, List.length_append]; omega)
      rw [FU, show packT (qa ++ qb) = ⟨(encL qa).toArray⟩ ++ ⟨(encL qb).toArray⟩ by unfold packT; rw [if_pos FU, encL_append, ByteArray.mk_append_mk]] at h; exact h
    have SV : Hid (∀ w', Errs2 aA aM w' → Calls Tryd.prog 16 #[] w' fun e w'' => e = .returned (.bool true) ∧ Below w'.heap.size w' w'') := fun w' h => seven_any aA aM w' h
    have PRE : Hid (beg (encL qa) (encL qb) = true ↔ (qa.length ≤ qb.length ∧ qa = qb.take qa.length)) := prefix_iff qa qb ta tb
    have hnoup : cutN ⟨(encL qa).toArray⟩ = 0 → encL qa = [] := no_up (fun x hx => (oneF_zero (tidy_each ta x hx).1).1)
    have NOUP : Hid (cutN ⟨(encL qa).toArray⟩ = 0 → encL qa = []) := hnoup
    have za : (⟨(encL qa).toArray⟩ : ByteArray).size ≤ 140737488351232 := by show (encL qa).toArray.size ≤ _; simp; omega
    have zb : (⟨(encL qb).toArray⟩ : ByteArray).size ≤ 140737488351232 := by show (encL qb).toArray.size ≤ _; simp; omega
    have BG : Hid (∀ w', Calls Tryd.prog 20 #[.string ⟨(encL qb).toArray⟩, .string ⟨(encL qa).toArray⟩] w' fun e w'' => e = .returned (.bool (beg (encL qa) (encL qb))) ∧ w' = w'') := fun w' => begins_any ⟨(encL qb).toArray⟩ ⟨(encL qa).toArray⟩ w' zb za
    have AB : Hid (∀ w', Calls Tryd.prog 21 #[.string ⟨(encL qa).toArray⟩] w' fun e w'' => e = .returned (.tuple #[.string (aboveB ⟨(encL qa).toArray⟩), .bool (hasUp ⟨(encL qa).toArray⟩)]) ∧ Below w'.heap.size w' w'') := fun w' => above_any _ w' za
    have za' : (⟨(encL qa).toArray⟩ : ByteArray).size ≤ 28328 := by show (encL qa).toArray.size ≤ _; simp; exact ea
    have zb' : (⟨(encL qb).toArray⟩ : ByteArray).size ≤ 28328 := by show (encL qb).toArray.size ≤ _; simp; exact eb
    have UPS : Hid (cutN ⟨(encL qa).toArray⟩ ≠ 0 → ∀ t : List UInt8, beg (encL qa) t = (!Op.bytesLess t (encL qa) && Op.bytesLess t (aboveB ⟨(encL qa).toArray⟩).data.toList)) := fun h t => beg_above ⟨(encL qa).toArray⟩ h t
    have DA : Hid ((⟨(encL qa).toArray⟩ : ByteArray).toList = encL qa ∧ (⟨(encL qb).toArray⟩ : ByteArray).toList = encL qb) := ⟨by rw [ByteArray.toList_eq], by rw [ByteArray.toList_eq]⟩
    clear FA FB FU ea eb ta tb hnoup za zb
    generalize hTA : (⟨(encL qa).toArray⟩ : ByteArray) = TA at *
    generalize hTB : (⟨(encL qb).toArray⟩ : ByteArray) = TB at *
    clear hTA hTB
    generalize encL qa = EA at *
    generalize encL qb = EB at *
    go_wp2_with fail
    refine (PA.out _ ia7 he7).mono ?_
    rintro e w8 ⟨rfl, hb8⟩
    have ia8 := ia7.keep hb8
    have ib8 := ib7.keep hb8
    have iu8 := iu7.keep hb8
    have he8 := he7.keep hb8
    have B8 := Below.next B7 hb8
    clear ia7 ib7 iu7 he7 B7 hb8 PA
    go_wp2_with fail
    refine (PB.out _ ib8 he8).mono ?_
    rintro e w9 ⟨rfl, hb9⟩
    have ia9 := ia8.keep hb9
    have ib9 := ib8.keep hb9
    have iu9 := iu8.keep hb9
    have he9 := he8.keep hb9
    have B9 := Below.next B8 hb9
    clear ia8 ib8 iu8 he8 B8 hb9 PB
    go_wp2_with fail
    refine (PU.out _ iu9 he9).mono ?_
    rintro e w10 ⟨rfl, hb10⟩
    have ia10 := ia9.keep hb10
    have ib10 := ib9.keep hb10
    have he10 := he9.keep hb10
    have B10 := Below.next B9 hb10
    clear ia9 ib9 iu9 he9 B9 hb10 PU
    go_wp2_with fail
    refine (SV.out _ he10).mono ?_
    rintro e w11 ⟨rfl, hb11⟩
    have ia11 := ia10.keep hb11
    have ib11 := ib10.keep hb11
    have B11 := Below.next B10 hb11
    clear ia10 ib10 he10 B10 hb11 SV
    have hbeg : ∀ b : Bool, beg EA EB = b → (b = true ↔ (qa.length ≤ qb.length ∧ qa = qb.take qa.length)) := fun b h => by rw [← h]; exact PRE.out
    have HBEG : Hid (∀ b : Bool, beg EA EB = b → (b = true ↔ (qa.length ≤ qb.length ∧ qa = qb.take qa.length))) := hbeg
    clear hbeg PRE
    by_cases hle : qa.length ≤ qb.length
    · have SM : Hid (∀ w', ItsAt w' anyB (.slice a4 qa.length c4) qa → ItsAt w' anyB (.slice (some ⟨g5, 0, none⟩) qa.length c5) (qb.take qa.length) → Calls Tryd.prog 9 #[(.slice a4 qa.length c4), .slice (some ⟨g5, 0, none⟩) qa.length c5] w' fun e w'' => ∃ b : Bool, e = .returned (.bool b) ∧ b = beg EA EB ∧ Below w'.heap.size w' w'') := fun w' p q => by
        refine (sameItems_any _ qa _ _ _ w' (Nat.le_refl _) p q).mono ?_
        rintro e w'' ⟨b, rfl, hb, hbb⟩
        refine ⟨b, rfl, ?_, hbb⟩
        have h2 := HBEG.out _ rfl
        cases b <;> cases hh : beg EA EB
        · rfl
        · have := hb.2 (h2.1 hh).2; cases this
        · have := h2.2 ⟨hle, hb.1 rfl⟩; rw [hh] at this; cases this
        · rfl
      have ih11 : ItsAt w11 anyB (.slice (some ⟨g5, 0, none⟩) qa.length c5) (qb.take qa.length) := ib11.takeN qa.length hle
      have hmin : ∀ (ts : Array TypeId) (t : TypeId) (w : World), (Builtin.min_ ts t #[.int .i64 (qa.length : Int), .int .i64 (qb.length : Int)]).run Tryd.prog w = .ok (.int .i64 (qa.length : Int)) w := by
        intro ts t w
        rw [run_min_int2]
        have : (if (qb.length : Int) < (qa.length : Int) then (qb.length : Int) else (qa.length : Int)) = (qa.length : Int) := by split <;> omega
        first | rw [this] | simp [this]
      have i1 : (0 : Int) ≤ (qa.length : Int) := by omega
      have i2 : (qa.length : Int) ≤ (c5 : Int) := by omega
      have i3 : (qa.length : Int) ≤ (qb.length : Int) := by omega
      clear HBEG
      go_wp2_with fail
      refine (SM.out _ ia11 ih11).mono ?_
      rintro e w12 ⟨b, rfl, hbb, hb12⟩
      have B12 := Below.next B11 hb12
      have HBB : Hid (b = beg EA EB) := hbb
      clear SM ia11 ib11 ih11 B11 hb12 hmin hbb i1 i2 i3 hle
      cases b
      · have BG2 : Hid (∀ w', Calls Tryd.prog 20 #[.string TB, .string TA] w' fun e w'' => e = .returned (.bool false) ∧ w' = w'') := fun w' => by rw [HBB.out]; exact BG.out w'
        go_wp2_with fail
        refine (BG2.out _).mono ?_
        rintro e w13 ⟨rfl, rfl⟩
        go_wp2_with fail
        refine (AB.out _).mono ?_
        rintro e w14 ⟨rfl, hb14⟩
        have B14 := Below.next B12 hb14
        clear B12 hb14 AB
        by_cases hcut : cutN TA = 0
        · have hup : hasUp TA = false := by simp [hasUp, hcut]
          have hnil : TA.toList = [] := by rw [DA.out.1]; exact NOUP.out hcut
          have hz : (⟨#[]⟩ : ByteArray).toList = [] := by rw [ByteArray.toList_eq]
          rw [hup]
          clear hup hcut
          go_wp2_with fail
          go_ret
          exact ⟨rfl, B14⟩
        · have hup : hasUp TA = true := by simp [hasUp, hcut]
          have h1 := UPS.out hcut EB
          have h2 := UPS.out hcut (EA ++ EB)
          rw [beg_app] at h2
          have h2' : Op.bytesLess (EA ++ EB) (aboveB TA).data.toList = true := by
            cases hh : Op.bytesLess (EA ++ EB) (aboveB TA).data.toList
            · rw [hh] at h2; simp at h2
            · rfl
          obtain ⟨u1, u2⟩ := less_not h2'
          rw [← HBB.out] at h1
          have hTU : (TA ++ TB).toList = EA ++ EB := by
            rw [ByteArray.toList_eq]
            have e1 := DA.out.1
            have e2 := DA.out.2
            rw [ByteArray.toList_eq] at e1 e2
            simp [e1, e2]
          have hUU : (aboveB TA).toList = (aboveB TA).data.toList := ByteArray.toList_eq _
          have hg1 : Op.bytesLess (aboveB TA).toList (TA ++ TB).toList = false := by rw [hTU, hUU]; exact u1
          have hg2 : ((aboveB TA).toList == (TA ++ TB).toList) = false := by rw [hTU, hUU]; exact u2
          have hE1 := DA.out.1
          have hE2 := DA.out.2
          have hl1 : Op.bytesLess TB.toList TA.toList = Op.bytesLess EB EA := by rw [hE1, hE2]
          have hl2 : Op.bytesLess TB.toList (aboveB TA).toList = Op.bytesLess EB (aboveB TA).data.toList := by rw [hE2, hUU]
          rw [hup]
          clear hup hcut h2 h2' u1 u2 hTU hUU hE1 hE2 UPS NOUP
          generalize aboveB TA = UP at *
          cases hx : Op.bytesLess EB EA <;> cases hy : Op.bytesLess EB UP.data.toList
          all_goals
            rw [hx] at hl1
            rw [hy] at hl2
            rw [hx, hy] at h1
            first
            | (exact absurd h1 (by decide))
            | (clear h1 hx hy
               go_wp2_with (go_at_call 20; refine (BG2.out _).mono ?_; rintro e w15 ⟨rfl, rfl⟩)
               go_ret
               exact ⟨rfl, B14⟩)
      · have BG2 : Hid (∀ w', Calls Tryd.prog 20 #[.string TB, .string TA] w' fun e w'' => e = .returned (.bool true) ∧ w' = w'') := fun w' => by rw [HBB.out]; exact BG.out w'
        go_wp2_with fail
        refine (BG2.out _).mono ?_
        rintro e w13 ⟨rfl, rfl⟩
        go_wp2_with fail
        refine (AB.out _).mono ?_
        rintro e w14 ⟨rfl, hb14⟩
        have B14 := Below.next B12 hb14
        clear B12 hb14 AB
        by_cases hcut : cutN TA = 0
        · have hup : hasUp TA = false := by simp [hasUp, hcut]
          have hnil : TA.toList = [] := by rw [DA.out.1]; exact NOUP.out hcut
          have hz : (⟨#[]⟩ : ByteArray).toList = [] := by rw [ByteArray.toList_eq]
          rw [hup]
          clear hup hcut
          go_wp2_with fail
          go_ret
          exact ⟨rfl, B14⟩
        · have hup : hasUp TA = true := by simp [hasUp, hcut]
          have h1 := UPS.out hcut EB
          have h2 := UPS.out hcut (EA ++ EB)
          rw [beg_app] at h2
          have h2' : Op.bytesLess (EA ++ EB) (aboveB TA).data.toList = true := by
            cases hh : Op.bytesLess (EA ++ EB) (aboveB TA).data.toList
            · rw [hh] at h2; simp at h2
            · rfl
          obtain ⟨u1, u2⟩ := less_not h2'
          rw [← HBB.out] at h1
          have hTU : (TA ++ TB).toList = EA ++ EB := by
            rw [ByteArray.toList_eq]
            have e1 := DA.out.1
            have e2 := DA.out.2
            rw [ByteArray.toList_eq] at e1 e2
            simp [e1, e2]
          have hUU : (aboveB TA).toList = (aboveB TA).data.toList := ByteArray.toList_eq _
          have hg1 : Op.bytesLess (aboveB TA).toList (TA ++ TB).toList = false := by rw [hTU, hUU]; exact u1
          have hg2 : ((aboveB TA).toList == (TA ++ TB).toList) = false := by rw [hTU, hUU]; exact u2
          have hE1 := DA.out.1
          have hE2 := DA.out.2
          have hl1 : Op.bytesLess TB.toList TA.toList = Op.bytesLess EB EA := by rw [hE1, hE2]
          have hl2 : Op.bytesLess TB.toList (aboveB TA).toList = Op.bytesLess EB (aboveB TA).data.toList := by rw [hE2, hUU]
          rw [hup]
          clear hup hcut h2 h2' u1 u2 hTU hUU hE1 hE2 UPS NOUP
          generalize aboveB TA = UP at *
          cases hx : Op.bytesLess EB EA <;> cases hy : Op.bytesLess EB UP.data.toList
          all_goals
            rw [hx] at hl1
            rw [hy] at hl2
            rw [hx, hy] at h1
            first
            | (exact absurd h1 (by decide))
            | (clear h1 hx hy
               go_wp2_with (go_at_call 20; refine (BG2.out _).mono ?_; rintro e w15 ⟨rfl, rfl⟩)
               go_ret
               exact ⟨rfl, B14⟩)
    · have hbf : beg EA EB = false := by
        cases hh : beg EA EB
        · rfl
        · exact absurd ((HBEG.out _ hh).1 rfl).1 hle
      have HBB : Hid (false = beg EA EB) := hbf.symm
      have B12 := B11
      have hd : decide ((qa.length : Int) ≤ (qb.length : Int)) = false := decide_eq_false (by omega)
      clear ia11 ib11 B11 HBEG hbf
      have BG2 : Hid (∀ w', Calls Tryd.prog 20 #[.string TB, .string TA] w' fun e w'' => e = .returned (.bool false) ∧ w' = w'') := fun w' => by rw [HBB.out]; exact BG.out w'
      go_wp2_with fail
      refine (BG2.out _).mono ?_
      rintro e w13 ⟨rfl, rfl⟩
      go_wp2_with fail
      refine (AB.out _).mono ?_
      rintro e w14 ⟨rfl, hb14⟩
      have B14 := Below.next B12 hb14
      clear B12 hb14 AB
      by_cases hcut : cutN TA = 0
      · have hup : hasUp TA = false := by simp [hasUp, hcut]
        have hnil : TA.toList = [] := by rw [DA.out.1]; exact NOUP.out hcut
        have hz : (⟨#[]⟩ : ByteArray).toList = [] := by rw [ByteArray.toList_eq]
        rw [hup]
        clear hup hcut
        go_wp2_with fail
        go_ret
        exact ⟨rfl, B14⟩
      · have hup : hasUp TA = true := by simp [hasUp, hcut]
        have h1 := UPS.out hcut EB
        have h2 := UPS.out hcut (EA ++ EB)
        rw [beg_app] at h2
        have h2' : Op.bytesLess (EA ++ EB) (aboveB TA).data.toList = true := by
          cases hh : Op.bytesLess (EA ++ EB) (aboveB TA).data.toList
          · rw [hh] at h2; simp at h2
          · rfl
        obtain ⟨u1, u2⟩ := less_not h2'
        rw [← HBB.out] at h1
        have hTU : (TA ++ TB).toList = EA ++ EB := by
          rw [ByteArray.toList_eq]
          have e1 := DA.out.1
          have e2 := DA.out.2
          rw [ByteArray.toList_eq] at e1 e2
          simp [e1, e2]
        have hUU : (aboveB TA).toList = (aboveB TA).data.toList := ByteArray.toList_eq _
        have hg1 : Op.bytesLess (aboveB TA).toList (TA ++ TB).toList = false := by rw [hTU, hUU]; exact u1
        have hg2 : ((aboveB TA).toList == (TA ++ TB).toList) = false := by rw [hTU, hUU]; exact u2
        have hE1 := DA.out.1
        have hE2 := DA.out.2
        have hl1 : Op.bytesLess TB.toList TA.toList = Op.bytesLess EB EA := by rw [hE1, hE2]
        have hl2 : Op.bytesLess TB.toList (aboveB TA).toList = Op.bytesLess EB (aboveB TA).data.toList := by rw [hE2, hUU]
        rw [hup]
        clear hup hcut h2 h2' u1 u2 hTU hUU hE1 hE2 UPS NOUP
        generalize aboveB TA = UP at *
        cases hx : Op.bytesLess EB EA <;> cases hy : Op.bytesLess EB UP.data.toList
        all_goals
          rw [hx] at hl1
          rw [hy] at hl2
          rw [hx, hy] at h1
          first
          | (exact absurd h1 (by decide))
          | (clear h1 hx hy
             go_wp2_with (go_at_call 20; refine (BG2.out _).mono ?_; rintro e w15 ⟨rfl, rfl⟩)
             go_ret
             exact ⟨rfl, B14⟩)

end Go.Proofs.YtgljkgkophaefaaDoor
