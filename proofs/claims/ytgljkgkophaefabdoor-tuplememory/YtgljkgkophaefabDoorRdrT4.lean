import Derived.Test.YtgljkgkophaefabDoorRdr5
import Derived.Test.YtgljkgkophaefabDoorTree
namespace Go.Proofs.YtgljkgkophaefabDoor
open Go.RowKit

/-- A tree of which all blocks are at base or above. -/
def TrN (w : World) (base : Nat) (v : Value) (l : List It) : Prop := ∃ bs, Tr w v l bs ∧ ∀ k ∈ bs, base ≤ k
theorem TrN.nil (w : World) (base : Nat) : TrN w base (.slice none 0 0) [] := ⟨[], .nil, fun k hk => by simp at hk⟩
theorem TrN.sole {w w' : World} {rb base : Nat} {v : Value} {l : List It} (h : TrN w base v l) (hs : Sole rb w w') (hr : rb < base) : TrN w' base v l := by
  obtain ⟨bs, h1, h2⟩ := h
  exact ⟨bs, h1.sole hs (fun hm => by have := h2 rb hm; omega), h2⟩
theorem TrN.under {w w' : World} {base : Nat} {v : Value} {l : List It} (h : TrN w base v l) (hb : Below w.heap.size w w') : TrN w' base v l := by
  obtain ⟨bs, h1, h2⟩ := h
  exact ⟨bs, h1.under hb, h2⟩
theorem TrN.low {w : World} {base base' : Nat} {v : Value} {l : List It} (h : TrN w base v l) (hb : base' ≤ base) : TrN w base' v l := by
  obtain ⟨bs, h1, h2⟩ := h
  exact ⟨bs, h1, fun k hk => Nat.le_trans hb (h2 k hk)⟩
theorem TrN.form {w : World} {base : Nat} {v : Value} {l : List It} (h : TrN w base v l) : ∃ a c, v = .slice a l.length c := by
  obtain ⟨bs, h1, h2⟩ := h
  exact h1.form
theorem TrN.at' {w : World} {base : Nat} {v : Value} {l : List It} (h : TrN w base v l) : ItsAt w (fun g => base ≤ g) v l := by
  obtain ⟨bs, h1, h2⟩ := h
  exact h1.its.imp h2
theorem TrN.four {w : World} {X o H B : Nat} {v : Value} {l : List It} {u a b c d : Value} (h : TrN w B v l) (hX : X < B) (hH : H < B) :
    TrN (((((w.setCell ⟨X, o, none⟩ u).setCell ⟨H, 0, none⟩ a).setCell ⟨H, 1, none⟩ b).setCell ⟨H, 2, none⟩ c).setCell ⟨H, 3, none⟩ d) B v l :=
  ((((h.sole (Sole.set X o w u) hX).sole (Sole.set H 0 _ a) hH).sole (Sole.set H 1 _ b) hH).sole (Sole.set H 2 _ c) hH).sole (Sole.set H 3 _ d) hH

def ItemsCT (aT : Addr) (rb d r : Nat) : Prop := ∀ (t : List UInt8) (w : World), TextAt aT w → RdAt w rb (S t) → t.length ≤ 65536 →
    Calls Tryd.prog 28 #[.pointer (some ⟨rb, 0, none⟩), .int .i64 (d : Int)] w fun e w' => (∃ l v b, t = encL l ++ fin d b ∧ VL r l ∧ e = .returned v ∧ TrN w' w.heap.size v l ∧ Rest rb w w' b) ∨ (e = gone aT ∧ Sole rb w w' ∧ ∀ l b, VL r l → t ≠ encL l ++ fin d b)

set_option maxHeartbeats 1000000 in
theorem itemT_any (aT : Addr) (rb d r : Nat) (hd : d + r = 4) (hn : rb ≠ 1) (hI : ∀ r', r = r' + 1 → ItemsCT aT rb (d + 1) r') (t : List UInt8) (w : World) (ht : TextAt aT w) (hr : RdAt w rb (S t)) (hs : t.length ≤ 65536) :
    Calls Tryd.prog 39 #[.pointer (some ⟨rb, 0, none⟩), .int .i64 (d : Int)] w fun e w' => (∃ x lv b, t = x.enc ++ b ∧ VI r x ∧ e = .returned (.agg #[.int .i64 x.kind, .int .i64 x.num, .string x.text, lv]) ∧ TrN w' w.heap.size lv x.list ∧ Rest rb w w' b) ∨ (e = gone aT ∧ Sole rb w w' ∧ ∀ x b, VI r x → t ≠ x.enc ++ b) := by
  have hlt := hr.lt
  cases t with
  | nil =>
    have NO : Hid (∀ (x : It) b, VI r x → [] ≠ x.enc ++ b) := fun x b _ h => by rw [x.enc_eq] at h; cases h
    have b0 := below_new w (.cells #[.int .i64 0, .int .i64 0, .string ⟨#[]⟩, .slice none 0 0] 43)
    have T := next_no aT rb _ (cell_below b0 ht) (hr.keep b0)
    clear ht hr hI hs
    go_enter Tryd.func39, Tryd.ntmps39
    go_wp2_with fail
    refine T.mono ?_
    rintro e w1 ⟨rfl, rfl⟩
    exact ⟨rfl, .inr ⟨rfl, Sole.of_below b0, NO.out⟩⟩
  | cons c b =>
    have b0 := below_new w (.cells #[.int .i64 0, .int .i64 0, .string ⟨#[]⟩, .slice none 0 0] 43)
    have T := next_ok rb c b _ (hr.keep b0)
    have x0 := Bx.new w (.int .i64 0) (.int .i64 0) (.string ⟨#[]⟩) (.slice none 0 0)
    have HT : Hid (TextAt aT w) := ht
    clear hr ht
    go_enter Tryd.func39, Tryd.ntmps39
    go_wp2_with fail
    refine T.mono ?_
    rintro e w1 ⟨rfl, hR⟩
    have hne : w.heap.size ≠ rb := by omega
    have x1 := x0.sole hR.sole hne
    have hS1 : Sole rb w w1 := (Sole.of_below b0).trans hR.sole
    have HR1 : Hid (Rest rb w w1 b) := ⟨hR.at_, hS1⟩
    have hw : IntKind.i64.wrap (c.toNat : Int) = (c.toNat : Int) := wrap_i64 _ (by omega) (by have := UInt8.toNat_lt c; omega)
    have hsz1 := hS1.size
    have b1 := below_new w1 (.cells #[.int .i64 (c.toNat : Int), .int .i64 0, .string ⟨#[]⟩, .slice none 0 0] 43)
    have x2 := Bx.new w1 (.int .i64 (c.toNat : Int)) (.int .i64 0) (.string ⟨#[]⟩) (.slice none 0 0)
    have HT2 := cell_below b1 (HT.out.sole hS1 hn)
    have HR2 : Rest rb w (w1.alloc (.cells #[.int .i64 (c.toNat : Int), .int .i64 0, .string ⟨#[]⟩, .slice none 0 0] 43)) b := ⟨HR1.out.at_.keep b1, hS1.trans (Sole.of_below b1)⟩
    have hne2 : w1.heap.size ≠ rb := by omega
    have y2 := x1.sole (rb := rb) (Sole.of_below b1) hne
    have hHH : w.heap.size < w1.heap.size := by
      rcases Nat.lt_or_ge w.heap.size w1.heap.size with h' | h'
      · exact h'
      · have := x1; unfold Bx at this; rw [Array.getElem?_eq_none h'] at this; cases this
    clear x0 T hR b0 hS1 HT
    by_cases e1 : c = 1
    · subst e1
      have HR3 := HR1
      have Y2 : Hid (Bx w1 w.heap.size (.int .i64 0) (.int .i64 0) (.string ⟨#[]⟩) (.slice none 0 0)) := x1
      have d0 := x1.c0
      have d1 := x1.c1
      have d2 := x1.c2
      have d3 := x1.c3
      have g0 := x1.fr 0
      have g1 := x1.fr 1
      have g2 := x1.fr 2
      have g3 := x1.fr 3
      clear HR2 HT2 x2 b1 y2 x1
      go_wp2_with fail
      (try simp only [Exit.inBlock, Exit.then])
      refine bodyPost_ret (results_cell_row rfl _ _ w.heap.size 43 #[.int .i64 1, .int .i64 0, .string ⟨#[]⟩, .slice none 0 0] (0, 0) _ rfl ((Y2.out.four _ _ _ _).sole (rb := rb) (Sole.of_below (below_new _ _)) hne) Tryd.underlying43 rfl (by kernel_rfl)) rfl ?_
      refine .inl ⟨.mk 1 0 ⟨#[]⟩ [], .slice none 0 0, b, rfl, plain_item r 1 0 _ (by simp [fits, fitB, It.kind, It.num, It.text, It.list, ByteArray.toList_eq]) (by decide) (ok_mk' _ _ _ _ (by decide) (by decide) (by decide) (by decide) (by decide)), rfl, TrN.nil _ _, (HR3.out.four (Nat.le_refl _) hne _ _ _ _).alloc _⟩
    · by_cases e2 : c = 2
      · subst e2
        clear e1
        have F := flag_any aT rb b _ HT2 HR2.at_ hn
        have X2 : Hid (Bx (w1.alloc (.cells #[.int .i64 2, .int .i64 0, .string ⟨#[]⟩, .slice none 0 0] 43)) w1.heap.size (.int .i64 2) (.int .i64 0) (.string ⟨#[]⟩) (.slice none 0 0)) := x2
        have Y2 : Hid (Bx (w1.alloc (.cells #[.int .i64 2, .int .i64 0, .string ⟨#[]⟩, .slice none 0 0] 43)) w.heap.size (.int .i64 0) (.int .i64 0) (.string ⟨#[]⟩) (.slice none 0 0)) := y2
        have HR3 : Hid (Rest rb w (w1.alloc (.cells #[.int .i64 2, .int .i64 0, .string ⟨#[]⟩, .slice none 0 0] 43)) b) := HR2
        clear HR2 HT2 x2 b1 y2 x1
        go_wp2_with fail
        refine F.mono ?_
        rintro e w3 (⟨c, b', rfl, hc, rfl, hR⟩ | ⟨rfl, hS, hno⟩)
        · have x3 := X2.out.sole hR.sole hne2
          have y3 := Y2.out.sole hR.sole hne
          have HR4 : Hid (Rest rb w w3 b') := HR3.out.trans hR
          have Y3 : Hid (Bx w3 w.heap.size (.int .i64 0) (.int .i64 0) (.string ⟨#[]⟩) (.slice none 0 0)) := y3
          have c0 := x3.c0
          have c1 := x3.c1
          have c2 := x3.c2
          have c3 := x3.c3
          have f1 := x3.fr 1
          have d0 := y3.c0
          have d1 := y3.c1
          have d2 := y3.c2
          have d3 := y3.c3
          have g0 := y3.fr 0
          have g1 := y3.fr 1
          have g2 := y3.fr 2
          have g3 := y3.fr 3
          clear x3 y3 hR HR3 X2 Y2 F
          go_wp2_with fail
          (try simp only [Exit.inBlock, Exit.then])
          refine bodyPost_ret (results_cell_row rfl _ _ w.heap.size 43 #[.int .i64 2, .int .i64 (c.toNat : Int), .string ⟨#[]⟩, .slice none 0 0] (0, 0) _ rfl ((Y3.out.other _ (by omega)).four _ _ _ _) Tryd.underlying43 rfl (by kernel_rfl)) rfl ?_
          refine .inl ⟨.mk 2 (c.toNat : Int) ⟨#[]⟩ [], .slice none 0 0, b', flag_enc c b', plain_item r 2 _ _ (flag_fits c hc) (by decide) (ok_mk' _ _ _ _ (by decide) (by decide) (by omega) (by have := UInt8.toNat_lt c; omega) (by decide)), rfl, TrN.nil _ _, (HR4.out.new _ (by omega) hne2).four (Nat.le_refl _) hne _ _ _ _⟩
        · have NO : Hid (∀ x b', VI r x → 2 :: b ≠ x.enc ++ b') := fun x b' hx h => by
            obtain ⟨k, e⟩ := head_kind hx h
            have hk : x.kind = 2 := k.symm
            rw [hk] at e
            have hf := fit_flag' (oneF_zero hx.one).1 hk
            have e' : b = byteOf x.num :: b' := e
            refine hno _ _ e' ?_
            have := byteOf_nat x.num
            rcases hf with h | h <;> rw [h] at this ⊢ <;> omega
          exact ⟨rfl, .inr ⟨rfl, HR3.out.sole.trans hS, NO.out⟩⟩
      · by_cases e3 : c = 3
        · subst e3
          clear e1 e2
          have F := num_any aT rb b _ HT2 HR2.at_
          have X2 : Hid (Bx (w1.alloc (.cells #[.int .i64 3, .int .i64 0, .string ⟨#[]⟩, .slice none 0 0] 43)) w1.heap.size (.int .i64 3) (.int .i64 0) (.string ⟨#[]⟩) (.slice none 0 0)) := x2
          have Y2 : Hid (Bx (w1.alloc (.cells #[.int .i64 3, .int .i64 0, .string ⟨#[]⟩, .slice none 0 0] 43)) w.heap.size (.int .i64 0) (.int .i64 0) (.string ⟨#[]⟩) (.slice none 0 0)) := y2
          have HR3 : Hid (Rest rb w (w1.alloc (.cells #[.int .i64 3, .int .i64 0, .string ⟨#[]⟩, .slice none 0 0] 43)) b) := HR2
          clear HR2 HT2 x2 b1 y2 x1
          go_wp2_with fail
          refine F.mono ?_
          rintro e w3 (⟨n, b', rfl, hn1, hn2, rfl, hR⟩ | ⟨rfl, hS, hno⟩)
          · have x3 := X2.out.sole hR.sole hne2
            have y3 := Y2.out.sole hR.sole hne
            have HR4 : Hid (Rest rb w w3 b') := HR3.out.trans hR
            have Y3 : Hid (Bx w3 w.heap.size (.int .i64 0) (.int .i64 0) (.string ⟨#[]⟩) (.slice none 0 0)) := y3
            have c0 := x3.c0
            have c1 := x3.c1
            have c2 := x3.c2
            have c3 := x3.c3
            have f1 := x3.fr 1
            have d0 := y3.c0
            have d1 := y3.c1
            have d2 := y3.c2
            have d3 := y3.c3
            have g0 := y3.fr 0
            have g1 := y3.fr 1
            have g2 := y3.fr 2
            have g3 := y3.fr 3
            clear x3 y3 hR HR3 X2 Y2 F
            go_wp2_with fail
            (try simp only [Exit.inBlock, Exit.then])
            refine bodyPost_ret (results_cell_row rfl _ _ w.heap.size 43 #[.int .i64 3, .int .i64 n, .string ⟨#[]⟩, .slice none 0 0] (0, 0) _ rfl ((Y3.out.other _ (by omega)).four _ _ _ _) Tryd.underlying43 rfl (by kernel_rfl)) rfl ?_
            refine .inl ⟨.mk 3 n ⟨#[]⟩ [], .slice none 0 0, b', rfl, plain_item r 3 _ _ (by simp [fits, fitB, It.kind, It.text, It.list, ByteArray.toList_eq]) (by decide) (ok_mk' _ _ _ _ (by decide) (by decide) hn1 hn2 (by decide)), rfl, TrN.nil _ _, (HR4.out.new _ (by omega) hne2).four (Nat.le_refl _) hne _ _ _ _⟩
          · have NO : Hid (∀ x b', VI r x → 3 :: b ≠ x.enc ++ b') := fun x b' hx h => by
              obtain ⟨k, e⟩ := head_kind hx h
              have hk : x.kind = 3 := k.symm
              rw [hk] at e
              have e' : b = num8 x.num ++ b' := e
              rw [e', List.length_append] at hno
              have : (num8 x.num).length = 8 := rfl
              omega
            exact ⟨rfl, .inr ⟨rfl, HR3.out.sole.trans hS, NO.out⟩⟩
        · by_cases e4 : c = 4
          · subst e4
            clear e1 e2 e3
            have F := text_any aT rb b _ HT2 HR2.at_ hn (by rw [List.length_cons] at hs; omega)
            have X2 : Hid (Bx (w1.alloc (.cells #[.int .i64 4, .int .i64 0, .string ⟨#[]⟩, .slice none 0 0] 43)) w1.heap.size (.int .i64 4) (.int .i64 0) (.string ⟨#[]⟩) (.slice none 0 0)) := x2
            have Y2 : Hid (Bx (w1.alloc (.cells #[.int .i64 4, .int .i64 0, .string ⟨#[]⟩, .slice none 0 0] 43)) w.heap.size (.int .i64 0) (.int .i64 0) (.string ⟨#[]⟩) (.slice none 0 0)) := y2
            have HR3 : Hid (Rest rb w (w1.alloc (.cells #[.int .i64 4, .int .i64 0, .string ⟨#[]⟩, .slice none 0 0] 43)) b) := HR2
            clear HR2 HT2 x2 b1 y2 x1
            go_wp2_with fail
            refine F.mono ?_
            rintro e w3 (⟨s, b', rfl, rfl, hR⟩ | ⟨rfl, hS, hno⟩)
            · have x3 := X2.out.sole hR.sole hne2
              have y3 := Y2.out.sole hR.sole hne
              have HR4 : Hid (Rest rb w w3 b') := HR3.out.trans hR
              have Y3 : Hid (Bx w3 w.heap.size (.int .i64 0) (.int .i64 0) (.string ⟨#[]⟩) (.slice none 0 0)) := y3
              have c0 := x3.c0
              have c1 := x3.c1
              have c2 := x3.c2
              have c3 := x3.c3
              have f1 := x3.fr 2
              have d0 := y3.c0
              have d1 := y3.c1
              have d2 := y3.c2
              have d3 := y3.c3
              have g0 := y3.fr 0
              have g1 := y3.fr 1
              have g2 := y3.fr 2
              have g3 := y3.fr 3
              clear x3 y3 hR HR3 X2 Y2 F
              go_wp2_with fail
              (try simp only [Exit.inBlock, Exit.then])
              refine bodyPost_ret (results_cell_row rfl _ _ w.heap.size 43 #[.int .i64 4, .int .i64 0, .string (S s), .slice none 0 0] (0, 0) _ rfl ((Y3.out.other _ (by omega)).four _ _ _ _) Tryd.underlying43 rfl (by kernel_rfl)) rfl ?_
              refine .inl ⟨.mk 4 0 (S s) [], .slice none 0 0, b', rfl, plain_item r 4 _ _ (by simp [fits, fitB, It.kind, It.num, It.list]) (by decide) (ok_mk' _ _ _ _ (by decide) (by decide) (by decide) (by decide) (text_ok s b' hs)), rfl, TrN.nil _ _, (HR4.out.new _ (by omega) hne2).four (Nat.le_refl _) hne _ _ _ _⟩
            · have NO : Hid (∀ x b', VI r x → 4 :: b ≠ x.enc ++ b') := fun x b' hx h => by
                obtain ⟨k, e⟩ := head_kind hx h
                have hk : x.kind = 4 := k.symm
                rw [hk] at e
                exact hno _ _ e
              exact ⟨rfl, .inr ⟨rfl, HR3.out.sole.trans hS, NO.out⟩⟩
          · by_cases e5 : c = 5
            · subst e5
              clear e1 e2 e3 e4
              cases r with
              | zero =>
                have h4 : ¬ (d : Int) < 4 := by omega
                have G := giveUp_any aT (.pointer (some ⟨rb, 0, none⟩)) _ HT2
                have NO : Hid (∀ x b', VI 0 x → 5 :: b ≠ x.enc ++ b') := fun x b' hx h => by
                  obtain ⟨k, e⟩ := head_kind hx h
                  obtain ⟨r', e, _⟩ := hx.pos k.symm
                  cases e
                have HR3 : Hid (Rest rb w (w1.alloc (.cells #[.int .i64 5, .int .i64 0, .string ⟨#[]⟩, .slice none 0 0] 43)) b) := HR2
                clear HR2 HT2 x2 b1 y2 x1 hI
                go_wp2_with fail
                refine G.mono ?_
                rintro e w3 ⟨rfl, rfl⟩
                exact ⟨rfl, .inr ⟨rfl, HR3.out.sole, NO.out⟩⟩
              | succ r =>
                have h4 : (d : Int) < 4 := by omega
                have F := hI r rfl b _ HT2 HR2.at_ (by rw [List.length_cons] at hs; omega)
                have X2 : Hid (Bx (w1.alloc (.cells #[.int .i64 5, .int .i64 0, .string ⟨#[]⟩, .slice none 0 0] 43)) w1.heap.size (.int .i64 5) (.int .i64 0) (.string ⟨#[]⟩) (.slice none 0 0)) := x2
                have Y2 : Hid (Bx (w1.alloc (.cells #[.int .i64 5, .int .i64 0, .string ⟨#[]⟩, .slice none 0 0] 43)) w.heap.size (.int .i64 0) (.int .i64 0) (.string ⟨#[]⟩) (.slice none 0 0)) := y2
                have HR3 : Hid (Rest rb w (w1.alloc (.cells #[.int .i64 5, .int .i64 0, .string ⟨#[]⟩, .slice none 0 0] 43)) b) := HR2
                have hsz2 : w1.heap.size + 1 = (w1.alloc (.cells #[.int .i64 5, .int .i64 0, .string ⟨#[]⟩, .slice none 0 0] 43)).heap.size := by simp
                have HSZ : Hid (w1.heap.size + 1 = (w1.alloc (.cells #[.int .i64 ((5 : UInt8).toNat : Int), .int .i64 0, .string ⟨#[]⟩, .slice none 0 0] 43)).heap.size) := hsz2
                clear HR2 HT2 x2 b1 y2 x1 hI hsz2
                go_wp2_with fail
                refine F.mono ?_
                rintro e w3 (⟨l, v, b', rfl, hvl, rfl, hown, hR⟩ | ⟨rfl, hS, hno⟩)
                · have x3 := X2.out.sole hR.sole hne2
                  have y3 := Y2.out.sole hR.sole hne
                  have HR4 : Hid (Rest rb w w3 b') := HR3.out.trans hR
                  have Y3 : Hid (Bx w3 w.heap.size (.int .i64 0) (.int .i64 0) (.string ⟨#[]⟩) (.slice none 0 0)) := y3
                  have c0 := x3.c0
                  have c1 := x3.c1
                  have c2 := x3.c2
                  have c3 := x3.c3
                  have f1 := x3.fr 3
                  have d0 := y3.c0
                  have d1 := y3.c1
                  have d2 := y3.c2
                  have d3 := y3.c3
                  have g0 := y3.fr 0
                  have g1 := y3.fr 1
                  have g2 := y3.fr 2
                  have g3 := y3.fr 3
                  obtain ⟨av, cv, rfl⟩ := hown.form
                  have HI3 : Hid (TrN w3 (w1.heap.size + 1) (.slice av l.length cv) l) := by
                    rw [← HSZ.out] at hown
                    exact hown
                  have HV : Hid (VL r l) := hvl
                  clear x3 y3 hR HR3 X2 Y2 F hown hvl
                  go_wp2_with fail
                  (try simp only [Exit.inBlock, Exit.then])
                  refine bodyPost_ret (results_cell_row rfl _ _ w.heap.size 43 #[.int .i64 5, .int .i64 0, .string ⟨#[]⟩, .slice av l.length cv] (0, 0) _ rfl ((Y3.out.other _ (by omega)).four _ _ _ _) Tryd.underlying43 rfl (by kernel_rfl)) rfl ?_
                  refine .inl ⟨.mk 5 0 ⟨#[]⟩ l, .slice av l.length cv, b', list_enc l b' d, list_item r l HV.out, rfl, ?_, (HR4.out.new _ (by omega) hne2).four (Nat.le_refl _) hne _ _ _ _⟩
                  exact (HI3.out.four (by omega) (by omega)).low (by omega)
                · have NO : Hid (∀ x b', VI (r + 1) x → 5 :: b ≠ x.enc ++ b') := fun x b' hx h => by
                    obtain ⟨k, e⟩ := head_kind hx h
                    have hk : x.kind = 5 := k.symm
                    rw [hk] at e
                    obtain ⟨r', e1, e2, e3⟩ := hx.pos hk
                    cases e1
                    refine hno x.list b' (VL.of e2 e3) ?_
                    rw [e]
                    simp [bodyOf, fin]
                  exact ⟨rfl, .inr ⟨rfl, HR3.out.sole.trans hS, NO.out⟩⟩
            · have n1 : ((c.toNat : Int) == 1) = false := ne_num c 1 (by decide) e1
              have n2 : ((c.toNat : Int) == 2) = false := ne_num c 2 (by decide) e2
              have n3 : ((c.toNat : Int) == 3) = false := ne_num c 3 (by decide) e3
              have n4 : ((c.toNat : Int) == 4) = false := ne_num c 4 (by decide) e4
              have n5 : ((c.toNat : Int) == 5) = false := ne_num c 5 (by decide) e5
              have G := giveUp_any aT (.pointer (some ⟨rb, 0, none⟩)) _ HT2
              have NO : Hid (∀ x b', VI r x → c :: b ≠ x.enc ++ b') := fun x b' hx h => by
                obtain ⟨k, e⟩ := head_kind hx h
                have hk := hx.kind
                have m1 : (c.toNat : Int) ≠ 1 := by simpa using n1
                have m2 : (c.toNat : Int) ≠ 2 := by simpa using n2
                have m3 : (c.toNat : Int) ≠ 3 := by simpa using n3
                have m4 : (c.toNat : Int) ≠ 4 := by simpa using n4
                have m5 : (c.toNat : Int) ≠ 5 := by simpa using n5
                omega
              have HR3 : Hid (Rest rb w (w1.alloc (.cells #[.int .i64 (c.toNat : Int), .int .i64 0, .string ⟨#[]⟩, .slice none 0 0] 43)) b) := HR2
              clear HR2 HT2 x2 b1 y2 x1 hI e1 e2 e3 e4 e5
              go_wp2_with fail
              refine G.mono ?_
              rintro e w3 ⟨rfl, rfl⟩
              exact ⟨rfl, .inr ⟨rfl, HR3.out.sole, NO.out⟩⟩

end Go.Proofs.YtgljkgkophaefabDoor
