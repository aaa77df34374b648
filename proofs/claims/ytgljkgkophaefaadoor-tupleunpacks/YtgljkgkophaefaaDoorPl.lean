import Derived.Test.YtgljkgkophaefaaDoorRdr3
namespace Go.Proofs.YtgljkgkophaefaaDoor
open Go.RowKit

/-- The reference's place in a text. -/
def PlAt (w : World) (pb : Nat) (s : ByteArray) (i : Nat) (lost : Bool) : Prop := w.heap[pb]? = some (.cells #[.string s, .int .i64 (i : Int), .bool lost] 55 (0, 0))
theorem PlAt.c0 {w : World} {pb : Nat} {s : ByteArray} {i : Nat} {lo : Bool} (h : PlAt w pb s i lo) : w.cell? ⟨pb, 0, none⟩ = some (.string s) := by rw [cell_of_row w pb 0 _ _ _ h]; rfl
theorem PlAt.c1 {w : World} {pb : Nat} {s : ByteArray} {i : Nat} {lo : Bool} (h : PlAt w pb s i lo) : w.cell? ⟨pb, 1, none⟩ = some (.int .i64 (i : Int)) := by rw [cell_of_row w pb 1 _ _ _ h]; rfl
theorem PlAt.c2 {w : World} {pb : Nat} {s : ByteArray} {i : Nat} {lo : Bool} (h : PlAt w pb s i lo) : w.cell? ⟨pb, 2, none⟩ = some (.bool lo) := by rw [cell_of_row w pb 2 _ _ _ h]; rfl
theorem PlAt.fr {w : World} {pb : Nat} {s : ByteArray} {i : Nat} {lo : Bool} (h : PlAt w pb s i lo) (o : Nat) : w.frozen? ⟨pb, o, none⟩ = false := frozen_of_row w pb o _ _ h
theorem PlAt.lt {w : World} {pb : Nat} {s : ByteArray} {i : Nat} {lo : Bool} (h : PlAt w pb s i lo) : pb < w.heap.size := by
  rcases Nat.lt_or_ge pb w.heap.size with h' | h'
  · exact h'
  · unfold PlAt at h; rw [Array.getElem?_eq_none h'] at h; cases h
theorem PlAt.keepB {w w' : World} {pb base : Nat} {s : ByteArray} {i : Nat} {lo : Bool} (h : PlAt w pb s i lo) (hb : Below base w w') (hr : pb < base) : PlAt w' pb s i lo := by
  unfold PlAt; rw [hb.block pb hr]; exact h
theorem PlAt.set1 {w : World} {pb : Nat} {s : ByteArray} {i : Nat} {lo : Bool} (h : PlAt w pb s i lo) (j : Nat) : PlAt (w.setCell ⟨pb, 1, none⟩ (.int .i64 (j : Int))) pb s j lo := heap_setCell_same w pb 1 _ _ _ h
theorem PlAt.set2 {w : World} {pb : Nat} {s : ByteArray} {i : Nat} {lo : Bool} (h : PlAt w pb s i lo) (b : Bool) : PlAt (w.setCell ⟨pb, 2, none⟩ (.bool b)) pb s i b := heap_setCell_same w pb 2 _ _ _ h
structure Pst (pb : Nat) (w w' : World) (s : ByteArray) (i : Nat) (lo : Bool) : Prop where
  at_ : PlAt w' pb s i lo
  sole : Sole pb w w'
theorem Pst.trans {pb : Nat} {a b c : World} {s : ByteArray} {i j : Nat} {lo lo' : Bool} (h : Pst pb a b s i lo) (k : Pst pb b c s j lo') : Pst pb a c s j lo' := ⟨k.at_, h.sole.trans k.sole⟩
def D (s : ByteArray) (i : Nat) : List UInt8 := s.data.toList.drop i
theorem D_end {s : ByteArray} {i : Nat} (h : s.size ≤ i) : D s i = [] := by unfold D; exact List.drop_eq_nil_of_le (by simpa using h)
theorem D_cons {s : ByteArray} {i : Nat} (h : i < s.size) : D s i = s[i] :: D s (i + 1) := by
  unfold D
  rw [List.drop_eq_getElem_cons (by simpa using h)]
  rfl

set_option maxHeartbeats 1000000 in
theorem byte_any (pb : Nat) (s : ByteArray) (i : Nat) (lo : Bool) (w : World) (hp : PlAt w pb s i lo) (hi : i ≤ s.size) (hs : s.size ≤ 65536) :
    Calls Tryd.prog 37 #[.pointer (some ⟨pb, 0, none⟩)] w fun e w' => (∃ c, i < s.size ∧ D s i = c :: D s (i + 1) ∧ e = .returned (.int .i64 (c.toNat : Int)) ∧ Pst pb w w' s (i + 1) lo) ∨ (i = s.size ∧ D s i = [] ∧ e = .returned (.int .i64 0) ∧ Pst pb w w' s i true) := by
  have c0 := hp.c0
  have c1 := hp.c1
  have c2 := hp.c2
  have f1 := hp.fr 1
  have f2 := hp.fr 2
  have HP : Hid (PlAt w pb s i lo) := hp
  clear hp
  by_cases h : i < s.size
  · have h1 : ¬ (s.size : Int) ≤ (i : Int) := by omega
    have k0 : (0 : Int) ≤ (i : Int) := by omega
    have k1 : (i : Int) < (s.size : Int) := by omega
    have hd := D_cons h
    obtain ⟨c, hc⟩ : ∃ c : UInt8, s[i] = c := ⟨_, rfl⟩
    rw [hc] at hd
    have hw : IntKind.i64.wrap (c.toNat : Int) = (c.toNat : Int) := wrap_i64 _ (by omega) (by have := UInt8.toNat_lt c; omega)
    have HD : Hid (D s i = c :: D s (i + 1)) := hd
    clear hd
    go_enter Tryd.func37, Tryd.ntmps37
    go_wp2_with fail
    go_quiet (fail)
    go_wp2_with fail
    go_quiet (fail)
    go_wp2_with fail
    go_ret
    exact .inl ⟨c, h, HD.out, rfl, HP.out.set1 (i + 1), (Sole.of_below (below_drewN (Below.refl _ _) _)).trans (Sole.set _ _ _ _)⟩
  · have h1 : (s.size : Int) ≤ (i : Int) := by omega
    have HD : Hid (D s i = []) := D_end (by omega)
    go_enter Tryd.func37, Tryd.ntmps37
    go_wp2_with fail
    go_quiet (fail)
    go_wp2_with fail
    go_ret
    exact .inr ⟨by omega, HD.out, rfl, HP.out.set2 true, (Sole.of_below (below_drewN (Below.refl _ _) _)).trans (Sole.set _ _ _ _)⟩

theorem t_end {r s b : List UInt8} (h : 0 :: 0 :: r = encT s ++ b) : s = [] ∧ r = b := by
  cases s with
  | nil => simp [encT, escL] at h; exact ⟨rfl, h⟩
  | cons x s =>
    rw [encT_cons] at h
    by_cases hx : x = 0
    · rw [if_pos hx] at h; simp at h
    · rw [if_neg hx] at h
      simp only [List.cons_append, List.nil_append, List.cons.injEq] at h
      exact absurd h.1.symm hx
/-- So far the text's bytes are p. -/
def MidP (s : ByteArray) (i0 : Nat) (p : List UInt8) (i : Nat) (lo : Bool) : Prop := ∀ u b, D s i0 = encT u ++ b → lo = false ∧ ∃ u2, u = p ++ u2 ∧ D s i = encT u2 ++ b

set_option maxHeartbeats 1000000 in
theorem ptext_any (pb : Nat) (s : ByteArray) (i0 : Nat) (w : World) (hp : PlAt w pb s i0 false) (hi0 : i0 ≤ s.size) (hs : s.size ≤ 65536) :
    Calls Tryd.prog 50 #[.pointer (some ⟨pb, 0, none⟩)] w fun e w' => ∃ x i lo, e = .returned (.string (S x)) ∧ i0 + x.length ≤ i ∧ i ≤ s.size ∧ Pst pb w w' s i lo ∧ ∀ u b, D s i0 = encT u ++ b → x = u ∧ D s i = b ∧ lo = false := by
  obtain ⟨q0, hi, hz0, hz1, hz2⟩ := info_parts Tryd.info5
  go_enter Tryd.func50, Tryd.ntmps50
  go_wp2_with fail
  have hlt := hp.lt
  go_loopw [3] (fun v wr => ∃ (p : List UInt8) (i : Nat) (lo : Bool) (a : Option Addr) (c : Nat), v = .slice a p.length c ∧ i0 + p.length ≤ i ∧ i ≤ s.size ∧ MidP s i0 p i lo ∧ wr.ownsRow w.heap.size 5 1 v p.length (u8s p) ∧ Pst pb w wr s i lo) (fun v _ => s.size + 1 - lenOf v)
  case atStart => exact ⟨[], i0, false, none, 0, rfl, by simp, hi0, fun u b e => ⟨rfl, u, rfl, e⟩, World.ownsRow_nil _ _ _ _, hp, Sole.refl _ _⟩
  case round =>
    obtain ⟨p, i, lo, ap, cp, rfl, hpi, his, hM, hown, hP⟩ := hrel
    have HM : Hid (MidP s i0 p i lo) := hM
    have hsz := hP.sole.size
    have e2 := hP.at_.c2
    have HP : Hid (Pst pb w wr s i lo) := hP
    clear hM hp hP
    cases lo with
    | true =>
      have hcv : (convert 63 9 (.slice ap p.length cp)).run Tryd.prog wr = .ok (.string (S p)) wr := conv_back hown
      clear hown
      go_wp2_with fail
      go_ret
      exact ⟨p, i, true, rfl, hpi, his, HP.out, fun u b e => by cases (HM.out u b e).1⟩
    | false =>
      have B := byte_any pb s i false wr HP.out.at_ his hs
      go_wp2_with fail
      refine B.mono ?_
      rintro e w1 (⟨c, hi1, hd, rfl, hP1⟩ | ⟨hi1, hd, rfl, hP1⟩)
      · have HP1 : Hid (Pst pb w w1 s (i + 1) false) := HP.out.trans hP1
        have HD : Hid (D s i = c :: D s (i + 1)) := hd
        have hown1 := owns_sole hown hP1.sole hlt
        have hsz1 := hP1.sole.size
        clear hown hP1 B HP e2 hd
        by_cases hc : c = 0
        · subst hc
          have B2 := byte_any pb s (i + 1) false w1 HP1.out.at_ (by omega) hs
          go_wp2_with fail
          refine B2.mono ?_
          rintro e w2 (⟨c2, hi2, hd2, rfl, hP2⟩ | ⟨hi2, hd2, rfl, hP2⟩)
          · have HR : Hid (Pst pb w w2 s (i + 1 + 1) false) := HP1.out.trans hP2
            have hown := owns_sole hown1 hP2.sole hlt
            have hsz2 := hP2.sole.size
            have HD2 : Hid (D s (i + 1) = c2 :: D s (i + 1 + 1)) := hd2
            clear hown1 hP2 B2 hd2 HP1
            by_cases hc2 : c2 = 0
            · subst hc2
              have hcv : (convert 63 9 (.slice ap p.length cp)).run Tryd.prog w2 = .ok (.string (S p)) w2 := conv_back hown
              have HF : Hid (∀ u b, D s i0 = encT u ++ b → p = u ∧ D s (i + 1 + 1) = b) := fun u b e => by
                obtain ⟨_, u2, rfl, e2⟩ := HM.out u b e
                rw [HD.out, HD2.out] at e2
                obtain ⟨rfl, e3⟩ := t_end e2
                exact ⟨by simp, e3⟩
              clear hown
              go_wp2_with fail
              go_ret
              exact ⟨p, i + 1 + 1, false, rfl, by omega, by omega, HR.out, fun u b e => ⟨(HF.out u b e).1, (HF.out u b e).2, rfl⟩⟩
            · have n2 : ((c2.toNat : Int) == 0) = false := by simp; intro e; exact hc2 (UInt8.toNat_inj.1 (by rw [e]; rfl))
              have HM2 : Hid (MidP s i0 (p ++ [0]) (i + 1 + 1) false) := fun u b e => by
                obtain ⟨_, u2, rfl, e2⟩ := HM.out u b e
                rw [HD.out, HD2.out] at e2
                by_cases h255 : c2 = 255
                · subst h255
                  obtain ⟨u3, rfl, e3⟩ := t_own e2
                  exact ⟨rfl, u3, by simp, e3⟩
                · exact (t_bad (fun c b h => by cases h; exact fun hz => hz.elim hc2 h255) e2).elim
              clear HM HD HD2 hc2
              have hm1 : p.length + 1 ≤ maxLen := by unfold maxLen; omega
              have hm2 : (p.length + 1) * 1 ≤ 140737488355328 := by omega
              go_wp2_with (first
                | (at_builtin; refine wpList_append_lies _ rfl _ _ 63 rfl w.heap.size 5 q0 (.int .u8 0) 1 1 Tryd.underlying63 hi hz0 hz1 hz2 rfl (by decide) _ _ _ rfl (hown.alloc _) ⟨w2.heap.size, 0, none⟩ 1 1 [.int .u8 0] rfl rfl (news1 _ (w2.heap.size) 0 (by simp)) (u8s_single _) (by decide) hm1 hm2 (by simp; omega) (w2.heap.size + 1) (by simp) ?_))
              intro g cap w3 hown' hgrow hat hlg
              obtain ⟨hown2, hb1⟩ := pushed (es := [0]) (by omega) hown hown' hgrow
              have HR3 : Hid (Pst pb w w3 s (i + 1 + 1) false) := ⟨HR.out.at_.keepB hb1 hlt, HR.out.sole.then hb1 rfl⟩
              have HO : Hid (w3.ownsRow w.heap.size 5 1 (.slice (some ⟨g, 0, none⟩) (p.length + 1) cap) (p ++ [0]).length (u8s (p ++ [0]))) := hown2
              clear hown' hgrow hown hat hlg hb1 hown2 HR
              go_wp2_with fail
              go_roundw
              case rel => exact ⟨p ++ [0], i + 1 + 1, false, some ⟨g, 0, none⟩, cap, by simp, by simp; omega, by omega, HM2.out, HO.out, HR3.out⟩
              case measure => simp [lenOf]; omega
          · have HR : Hid (Pst pb w w2 s (i + 1) true) := HP1.out.trans hP2
            have hown := owns_sole hown1 hP2.sole hlt
            have hcv : (convert 63 9 (.slice ap p.length cp)).run Tryd.prog w2 = .ok (.string (S p)) w2 := conv_back hown
            have HF : Hid (∀ u b, D s i0 = encT u ++ b → p = u ∧ D s (i + 1) = b ∧ true = false) := fun u b e => by
              obtain ⟨_, u2, rfl, e2⟩ := HM.out u b e
              rw [HD.out, hd2] at e2
              exact (t_bad (fun c b h => by cases h) e2).elim
            clear hown hown1 hP2 B2 hd2 HP1
            go_wp2_with fail
            go_ret
            exact ⟨p, i + 1, true, rfl, by omega, by omega, HR.out, HF.out⟩
        · have g0 : ((c.toNat : Int) != 0) = true := by simp; intro e; exact hc (UInt8.toNat_inj.1 (by rw [e]; rfl))
          have HM2 : Hid (MidP s i0 (p ++ [c]) (i + 1) false) := fun u b e => by
            obtain ⟨_, u2, rfl, e2⟩ := HM.out u b e
            rw [HD.out] at e2
            obtain ⟨u3, rfl, e3⟩ := t_plain hc e2
            exact ⟨rfl, u3, by simp, e3⟩
          have HR := HP1
          have hown := hown1
          have hwc : IntKind.u8.wrap (c.toNat : Int) = (c.toNat : Int) := by rw [wrap_u8]; have := UInt8.toNat_lt c; omega
          clear HM HD hc HP1 hown1
          have hm1 : p.length + 1 ≤ maxLen := by unfold maxLen; omega
          have hm2 : (p.length + 1) * 1 ≤ 140737488355328 := by omega
          go_wp2_with (first
            | (at_builtin; refine wpList_append_lies _ rfl _ _ 63 rfl w.heap.size 5 q0 (.int .u8 0) 1 1 Tryd.underlying63 hi hz0 hz1 hz2 rfl (by decide) _ _ _ rfl (hown.alloc _) ⟨w1.heap.size, 0, none⟩ 1 1 [.int .u8 (c.toNat : Int)] rfl rfl (news1 _ (w1.heap.size) (c.toNat : Int) (by simp)) (u8s_single _) (by decide) hm1 hm2 (by simp; omega) (w1.heap.size + 1) (by simp) ?_))
          intro g cap w3 hown' hgrow hat hlg
          obtain ⟨hown2, hb1⟩ := pushed (es := [c]) (by omega) hown hown' hgrow
          have HR3 : Hid (Pst pb w w3 s (i + 1) false) := ⟨HR.out.at_.keepB hb1 hlt, HR.out.sole.then hb1 rfl⟩
          have HO : Hid (w3.ownsRow w.heap.size 5 1 (.slice (some ⟨g, 0, none⟩) (p.length + 1) cap) (p ++ [c]).length (u8s (p ++ [c]))) := hown2
          clear hown' hgrow hown hat hlg hb1 hown2 HR
          go_wp2_with fail
          go_roundw
          case rel => exact ⟨p ++ [c], i + 1, false, some ⟨g, 0, none⟩, cap, by simp, by simp; omega, by omega, HM2.out, HO.out, HR3.out⟩
          case measure => simp [lenOf]; omega
      · have HP1 : Hid (Pst pb w w1 s i true) := HP.out.trans hP1
        have hown1 := owns_sole hown hP1.sole hlt
        have HF : Hid (∀ u b, D s i0 = encT u ++ b → p = u ∧ D s i = b ∧ true = false) := fun u b e => by
          obtain ⟨_, u2, rfl, e2⟩ := HM.out u b e
          rw [hd] at e2
          exact (t_none e2).elim
        have B2 := byte_any pb s i true w1 HP1.out.at_ his hs
        clear hown hP1 B HP e2 hd HM
        go_wp2_with fail
        refine B2.mono ?_
        rintro e w2 (⟨c2, hi2, _⟩ | ⟨hi2, hd2, rfl, hP2⟩)
        · omega
        · have HR : Hid (Pst pb w w2 s i true) := HP1.out.trans hP2
          have hown := owns_sole hown1 hP2.sole hlt
          have hcv : (convert 63 9 (.slice ap p.length cp)).run Tryd.prog w2 = .ok (.string (S p)) w2 := conv_back hown
          clear hown hown1 hP2 B2 hd2 HP1
          go_wp2_with fail
          go_ret
          exact ⟨p, i, true, rfl, hpi, his, HR.out, HF.out⟩
end Go.Proofs.YtgljkgkophaefaaDoor
