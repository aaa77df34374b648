import Derived.Test.YtddhjnfcbpookaaDoorRNum
namespace Go.Proofs.YtddhjnfcbpookaaDoor
open Go.RowKit

theorem cells_news {w : World} {base g n c : Nat} {o : List UInt8} (h : w.ownsRow base 5 1 (.slice (some ⟨g, 0, none⟩) n c) o.length (u8s o)) : ∀ j u, (u8s o)[j]? = some u → w.cell? ((⟨g, 0, none⟩ : Addr).add j) = some u := fun j u hu => by
  have hj : j < o.length := by
    rcases Nat.lt_or_ge j o.length with h' | h'
    · exact h'
    · rw [List.getElem?_eq_none (by rw [u8s_length]; exact h')] at hu; cases hu
  have hn : n = o.length := by
    rcases h.2 with ⟨h', _⟩ | ⟨_, _, _, h', _⟩
    · cases h'
    · cases h'; rfl
  subst hn
  have := h.cellAt j (by omega)
  rw [hu] at this
  rw [show (⟨g, 0, none⟩ : Addr).add j = ⟨g, j, none⟩ by unfold Addr.add; split <;> simp_all]
  exact this
theorem pushed0 {base : Nat} {wr w1 : World} {o es : List UInt8} {v v' : Value} (hb : base ≤ wr.heap.size) (hown : wr.ownsRow base 5 1 v o.length (u8s o))
    (hown' : w1.ownsRow base 5 1 v' (o.length + es.length) (u8s o ++ u8s es)) (hgrow : wr.grownBy w1 v.ownBlock) : w1.ownsRow base 5 1 v' (o ++ es).length (u8s (o ++ es)) ∧ Below base wr w1 := by
  refine ⟨by rw [u8s_append, List.length_append]; exact hown', ?_⟩
  exact (Below.refl base wr).grown hgrow hb (fun k hk => (hown.lt k hk).1)
theorem own_lit (w : World) (base : Nat) (c : UInt8) (H : Nat) (hb : base ≤ H) (hH : w.heap.size = H) : (w.alloc (.cells #[.int .u8 (c.toNat : Int)] 5)).ownsRow base 5 1 (.slice (some ⟨H, 0, none⟩) 1 1) [c].length (u8s [c]) := by
  subst hH
  exact ⟨rfl, .inr ⟨w.heap.size, 1, _, rfl, hb, heap_alloc_new w _, Nat.le_refl _, by unfold maxLen; decide, rfl, rfl⟩⟩

def AllSpec (k : Nat) : Prop := ∀ (l : List It) (lv : Value) (w : World), SizeOf.sizeOf l ≤ k → ItsAt w anyB lv l → (encL l).length ≤ 100000000000000 →
    Calls Tryd.prog 45 #[lv] w fun e w' => ∃ v', e = .returned v' ∧ (l = [] → v' = .slice none 0 0) ∧ w'.ownsRow w.heap.size 5 1 v' (encL l).length (u8s (encL l)) ∧ Below w.heap.size w w'
theorem enc_pos (x : It) : 0 < x.enc.length := by rw [x.enc_eq]; simp
theorem encL_pos (l : List It) (h : l ≠ []) : 0 < (encL l).length := by
  cases l with
  | nil => exact absurd rfl h
  | cons x r => simp only [encL, List.length_append]; have := enc_pos x; omega

set_option maxHeartbeats 1000000 in
theorem rone_any (k : Nat) (ih : AllSpec k) (x : It) (la : Value) (w : World) (hk : SizeOf.sizeOf x.list ≤ k) (hx : x.Ok) (hl : ItsAt w anyB la x.list) (hsz : x.enc.length ≤ 100000000000000) :
    Calls Tryd.prog 64 #[.agg #[.int .i64 x.kind, .int .i64 x.num, .string x.text, la]] w fun e w' => ∃ v', e = .returned v' ∧ w'.ownsRow w.heap.size 5 1 v' x.enc.length (u8s x.enc) ∧ Below w.heap.size w w' := by
  obtain ⟨i0, hi, hz0, hz1, hz2⟩ := info_parts Tryd.info5
  obtain ⟨aa, ca, rfl⟩ := hl.form
  have HE : Hid (x.enc = byteOf x.kind :: bodyOf x.kind x.num x.text.data.toList (encL x.list)) := x.enc_eq
  have hn1 := hx.n1
  have hn2 := hx.n2
  have hbk := byteOf_wrap x.kind
  have hbn := byteOf_wrap x.num
  have HZ : Hid (1 + (bodyOf x.kind x.num x.text.data.toList (encL x.list)).length ≤ 100000000000000) := by
    rw [HE.out, List.length_cons] at hsz; show _ ≤ _; omega
  clear hsz hx
  go_enter Tryd.func64, Tryd.ntmps64
  generalize x.enc = E at *
  generalize x.kind = xk at *
  generalize x.num = xn at *
  generalize x.text = xt at *
  generalize x.list = xl at *
  generalize hBK : byteOf xk = bk at *
  generalize hBN : byteOf xn = bn at *
  have HN : Hid (byteOf xn = bn) := hBN
  clear hBK hBN
  have b1 := below_new w (.cells #[.int .i64 xk, .int .i64 xn, .string xt, .slice aa xl.length ca] 59)
  have x1 := boxed_new w #[.int .i64 xk, .int .i64 xn, .string xt, .slice aa xl.length ca] 59
  have b2 := below_new (w.alloc (.cells #[.int .i64 xk, .int .i64 xn, .string xt, .slice aa xl.length ca] 59)) (.cells #[.int .u8 (bk.toNat : Int)] 5)
  have hown := own_lit (w.alloc (.cells #[.int .i64 xk, .int .i64 xn, .string xt, .slice aa xl.length ca] 59)) w.heap.size bk (w.heap.size + 1) (by omega) (by simp)
  have x2 := x1.keep b2
  have b12 := Below.next b1 b2
  have hl2 := hl.keep b12
  have hs2 := b12.size
  have ALL : Hid (Below w.heap.size w ((w.alloc (.cells #[.int .i64 xk, .int .i64 xn, .string xt, .slice aa xl.length ca] 59)).alloc (.cells #[.int .u8 (bk.toNat : Int)] 5)) ∧ ((w.alloc (.cells #[.int .i64 xk, .int .i64 xn, .string xt, .slice aa xl.length ca] 59)).alloc (.cells #[.int .u8 (bk.toNat : Int)] 5)).ownsRow w.heap.size 5 1 (.slice (some ⟨w.heap.size + 1, 0, none⟩) 1 1) [bk].length (u8s [bk]) ∧ ItsAt ((w.alloc (.cells #[.int .i64 xk, .int .i64 xn, .string xt, .slice aa xl.length ca] 59)).alloc (.cells #[.int .u8 (bk.toNat : Int)] 5)) anyB (.slice aa xl.length ca) xl) := ⟨b12, hown, hl2⟩
  clear b1 x1 b2 hown x2 b12 hl2 hs2 hl
  by_cases e2 : xk = 2
  · subst e2
    have hp1 : [bk].length + 1 ≤ maxLen := by unfold maxLen; simp
    have hp2 : ([bk].length + 1) * 1 ≤ 140737488355328 := by simp
    have HF : Hid (E = [bk] ++ [bn]) := by show E = _; rw [HE.out, ← HN.out]; rfl
    have hE2 : (E = [bk] ++ [bn]) := HF.out
    clear hE2
    go_wp2_with (first
      | (at_builtin; refine wpList_append_lies _ rfl _ _ 79 rfl w.heap.size 5 i0 (.int .u8 0) 1 1 Tryd.underlying79 hi hz0 hz1 hz2 rfl (by decide) _ _ _ rfl (ALL.out.2.1.alloc _) ⟨w.heap.size + 1 + 1, 0, none⟩ 1 1 [.int .u8 (bn.toNat : Int)] rfl rfl (news1 _ (w.heap.size + 1 + 1) (bn.toNat : Int) (by simp)) (u8s_single _) (by decide) hp1 hp2 (by simp; omega) (w.heap.size + 1 + 1 + 1) (by simp) ?_))
    intro g4 cap4 w4 hown' hgrow hat hlg
    have hs := ALL.out.1.size
    obtain ⟨hown4, hb4⟩ := pushed (es := [bn]) hs ALL.out.2.1 hown' hgrow
    have HB4 : Hid (Below w.heap.size w w4) := ALL.out.1.trans hb4
    clear hown' hgrow hat hlg hb4 hs
    go_wp2_with fail
    go_ret
    exact ⟨_, rfl, by rw [HF.out]; exact hown4, HB4.out⟩
  · have g2 : (xk == 2) = false := by simpa using e2
    by_cases e3 : xk = 3
    · subst e3
      have HX : Hid (E = [bk] ++ num8 xn) := by show E = _; rw [HE.out]; rfl
      have HL0 : Hid (0 < (num8 xn).length ∧ (num8 xn).length ≤ 100000000000000) := ⟨by simp [num8, be8], by simp [num8, be8]⟩
      go_wp2_with fail
      obtain ⟨b12, hown, hl2⟩ := ALL.out
      clear ALL
      generalize (w.alloc (.cells #[.int .i64 3, .int .i64 xn, .string xt, .slice aa xl.length ca] 59)).alloc (.cells #[.int .u8 (bk.toNat : Int)] 5) = W2 at *
      refine (rnum_any xn hn1 hn2 _).mono ?_
      rintro e w3 ⟨v3, rfl, hown3, hb3⟩
      have hout := owns_keep hown hb3
      have hb3' := Below.next b12 hb3
      have hs3 := hb3'.size
      obtain ⟨g3, c3, rfl, hg3, hlt3⟩ := hown3.form HL0.out.1
      have hsrc := cells_news hown3
      have HO : Hid (w3.ownsRow w.heap.size 5 1 (.slice (some ⟨w.heap.size + 1, 0, none⟩) 1 1) [bk].length (u8s [bk])) := hout
      have HS : Hid (∀ j u, (u8s (num8 xn))[j]? = some u → w3.cell? ((⟨g3, 0, none⟩ : Addr).add j) = some u) := hsrc
      have HB : Hid (Below w.heap.size w w3) := hb3'
      clear b12 hown hl2 hown3 hb3 hb3' hsrc hg3 hlt3 hout
      generalize num8 xn = B at *
      have hm0 : 0 < B.length := HL0.out.1
      have hm1 : [bk].length + B.length ≤ maxLen := by have := HL0.out.2; unfold maxLen; simp; omega
      have hm2 : ([bk].length + B.length) * 1 ≤ 140737488355328 := by have := HL0.out.2; simp; omega
      have hlb : (u8s B).length = B.length * 1 := by rw [u8s_length, Nat.mul_one]
      have HLB : Hid ((u8s B).length = B.length * 1) := hlb
      clear hlb
      go_wp2_with (first
        | (at_builtin; refine wpList_append_lies _ rfl _ _ 79 rfl w.heap.size 5 i0 (.int .u8 0) 1 1 Tryd.underlying79 hi hz0 hz1 hz2 rfl (by decide) _ _ _ rfl HO.out ⟨g3, 0, none⟩ B.length c3 (u8s B) rfl HLB.out HS.out (u8s_one _) hm0 hm1 hm2 (by omega) w3.heap.size rfl ?_))
      intro g4 cap4 w4 hown' hgrow hat hlg
      obtain ⟨hown4, hb4⟩ := pushed0 (by omega) HO.out hown' hgrow
      clear hown' hgrow hat hlg
      have HF : Hid (E = [bk] ++ B) := HX.out
      go_wp2_with fail
      go_ret
      exact ⟨_, rfl, by rw [HF.out]; exact hown4, HB.out.trans hb4⟩
    · have g3 : (xk == 3) = false := by simpa using e3
      by_cases e4 : xk = 4
      · subst e4
        have HX : Hid (E = [bk] ++ encT xt.data.toList) := by show E = _; rw [HE.out]; rfl
        have HL0 : Hid (0 < (encT xt.data.toList).length ∧ (encT xt.data.toList).length ≤ 100000000000000) := ⟨by unfold encT; simp, by have := HZ.out; have e : bodyOf 4 xn xt.data.toList (encL xl) = encT xt.data.toList := rfl; rw [e] at this; omega⟩
        go_wp2_with fail
        obtain ⟨b12, hown, hl2⟩ := ALL.out
        clear ALL
        generalize (w.alloc (.cells #[.int .i64 4, .int .i64 xn, .string xt, .slice aa xl.length ca] 59)).alloc (.cells #[.int .u8 (bk.toNat : Int)] 5) = W2 at *
        refine (rtext_any xt _ HL0.out.2).mono ?_
        rintro e w3 ⟨v3, rfl, hown3, hb3⟩
        have hout := owns_keep hown hb3
        have hb3' := Below.next b12 hb3
        have hs3 := hb3'.size
        obtain ⟨g3, c3, rfl, hg3, hlt3⟩ := hown3.form HL0.out.1
        have hsrc := cells_news hown3
        have HO : Hid (w3.ownsRow w.heap.size 5 1 (.slice (some ⟨w.heap.size + 1, 0, none⟩) 1 1) [bk].length (u8s [bk])) := hout
        have HS : Hid (∀ j u, (u8s (encT xt.data.toList))[j]? = some u → w3.cell? ((⟨g3, 0, none⟩ : Addr).add j) = some u) := hsrc
        have HB : Hid (Below w.heap.size w w3) := hb3'
        clear b12 hown hl2 hown3 hb3 hb3' hsrc hg3 hlt3 hout
        generalize encT xt.data.toList = B at *
        have hm0 : 0 < B.length := HL0.out.1
        have hm1 : [bk].length + B.length ≤ maxLen := by have := HL0.out.2; unfold maxLen; simp; omega
        have hm2 : ([bk].length + B.length) * 1 ≤ 140737488355328 := by have := HL0.out.2; simp; omega
        have hlb : (u8s B).length = B.length * 1 := by rw [u8s_length, Nat.mul_one]
        have HLB : Hid ((u8s B).length = B.length * 1) := hlb
        clear hlb
        go_wp2_with (first
          | (at_builtin; refine wpList_append_lies _ rfl _ _ 79 rfl w.heap.size 5 i0 (.int .u8 0) 1 1 Tryd.underlying79 hi hz0 hz1 hz2 rfl (by decide) _ _ _ rfl HO.out ⟨g3, 0, none⟩ B.length c3 (u8s B) rfl HLB.out HS.out (u8s_one _) hm0 hm1 hm2 (by omega) w3.heap.size rfl ?_))
        intro g4 cap4 w4 hown' hgrow hat hlg
        obtain ⟨hown4, hb4⟩ := pushed0 (by omega) HO.out hown' hgrow
        clear hown' hgrow hat hlg
        have HF : Hid (E = [bk] ++ B) := HX.out
        go_wp2_with fail
        go_ret
        exact ⟨_, rfl, by rw [HF.out]; exact hown4, HB.out.trans hb4⟩
      · have g4 : (xk == 4) = false := by simpa using e4
        by_cases e5 : xk = 5
        · subst e5
          have HX5 : Hid (E = ([bk] ++ encL xl) ++ [0]) := by show E = _; rw [HE.out]; rfl
          have HL5 : Hid ((encL xl).length + 2 ≤ 100000000000000) := by
            have := HZ.out
            have e : bodyOf 5 xn xt.data.toList (encL xl) = encL xl ++ [0] := rfl
            rw [e, List.length_append] at this
            simp only [List.length_cons, List.length_nil] at this
            show _ ≤ _
            omega
          have IHA : Hid (∀ w', ItsAt w' anyB (.slice aa xl.length ca) xl → Calls Tryd.prog 45 #[.slice aa xl.length ca] w' fun e w'' => ∃ v', e = .returned v' ∧ (xl = [] → v' = .slice none 0 0) ∧ w''.ownsRow w'.heap.size 5 1 v' (encL xl).length (u8s (encL xl)) ∧ Below w'.heap.size w' w'') := fun w' h => ih xl _ w' hk h (by have := HL5.out; omega)
          clear ih hk
          go_wp2_with fail
          obtain ⟨b12, hown, hl2⟩ := ALL.out
          clear ALL
          generalize (w.alloc (.cells #[.int .i64 5, .int .i64 xn, .string xt, .slice aa xl.length ca] 59)).alloc (.cells #[.int .u8 (bk.toNat : Int)] 5) = W2 at *
          refine (IHA.out _ hl2).mono ?_
          rintro e w3 ⟨v3, rfl, hnil, hown3, hb3⟩
          have hout := owns_keep hown hb3
          have hb3' := Below.next b12 hb3
          have hs3 := hb3'.size
          by_cases hxl : xl = []
          · obtain rfl := hnil hxl
            have HX : Hid (E = [bk] ++ [0]) := by show E = _; rw [HX5.out, hxl]; simp [encL]
            subst hxl
            have hp1 : [bk].length + 1 ≤ maxLen := by unfold maxLen; simp
            have hp2 : ([bk].length + 1) * 1 ≤ 140737488355328 := by simp
            have HO : Hid (w3.ownsRow w.heap.size 5 1 (.slice (some ⟨w.heap.size + 1, 0, none⟩) 1 1) [bk].length (u8s [bk])) := hout
            have HB : Hid (Below w.heap.size w w3) := hb3'
            clear IHA hnil hown3 hout hb3 hb3' hown b12 hl2 HX5 HL5 HE HZ
            go_wp2_with (first
              | (at_builtin; refine wpList_append_lies _ rfl _ _ 79 rfl w.heap.size 5 i0 (.int .u8 0) 1 1 Tryd.underlying79 hi hz0 hz1 hz2 rfl (by decide) _ _ _ rfl (HO.out.alloc _) ⟨w3.heap.size, 0, none⟩ 1 1 [.int .u8 0] rfl rfl (news1 _ (w3.heap.size) 0 (by simp)) (u8s_single _) (by decide) hp1 hp2 (by simp; omega) (w3.heap.size + 1) (by simp) ?_))
            intro g4 cap4 w4 hown' hgrow hat hlg
            obtain ⟨hown4, hb4⟩ := pushed (es := [0]) hs3 HO.out hown' hgrow
            clear hown' hgrow hat hlg
            go_wp2_with fail
            go_ret
            exact ⟨_, rfl, by rw [HX.out]; exact hown4, HB.out.trans hb4⟩
          · have hpos := encL_pos xl hxl
            obtain ⟨g3, c3, rfl, hg3, hlt3⟩ := hown3.form hpos
            have hsrc := cells_news hown3
            have HO : Hid (w3.ownsRow w.heap.size 5 1 (.slice (some ⟨w.heap.size + 1, 0, none⟩) 1 1) [bk].length (u8s [bk])) := hout
            have HS : Hid (∀ j u, (u8s (encL xl))[j]? = some u → w3.cell? ((⟨g3, 0, none⟩ : Addr).add j) = some u) := hsrc
            have HB : Hid (Below w.heap.size w w3) := hb3'
            clear b12 hown hl2 hown3 hb3 hb3' hsrc hg3 hlt3 hout IHA hnil hxl HE HZ
            generalize encL xl = B at *
            have hm1 : [bk].length + B.length ≤ maxLen := by have := HL5.out; unfold maxLen; simp; omega
            have hm2 : ([bk].length + B.length) * 1 ≤ 140737488355328 := by have := HL5.out; simp; omega
            have HLB : Hid ((u8s B).length = B.length * 1) := by show _ = _; rw [u8s_length, Nat.mul_one]
            go_wp2_with (first
              | (at_builtin; refine wpList_append_lies _ rfl _ _ 79 rfl w.heap.size 5 i0 (.int .u8 0) 1 1 Tryd.underlying79 hi hz0 hz1 hz2 rfl (by decide) _ _ _ rfl HO.out ⟨g3, 0, none⟩ B.length c3 (u8s B) rfl HLB.out HS.out (u8s_one _) hpos hm1 hm2 (by omega) w3.heap.size rfl ?_))
            intro g4 cap4 w4 hown' hgrow hat hlg
            obtain ⟨hown4, hb4⟩ := pushed0 (by omega) HO.out hown' hgrow
            have HO4 : Hid (w4.ownsRow w.heap.size 5 1 (.slice (some ⟨g4, 0, none⟩) ([bk].length + B.length) cap4) ([bk] ++ B).length (u8s ([bk] ++ B))) := hown4
            have HB4 : Hid (Below w.heap.size w w4) := HB.out.trans hb4
            have hs4 := HB4.out.size
            have hl4 : ([bk] ++ B).length = 1 + B.length := by simp; omega
            have hn1' : ([bk] ++ B).length + 1 ≤ maxLen := by have := HL5.out; rw [hl4]; unfold maxLen; omega
            have hn2' : (([bk] ++ B).length + 1) * 1 ≤ 140737488355328 := by have := HL5.out; rw [hl4]; omega
            clear hown' hgrow hat hlg hown4 hb4 hl4 HO HS
            generalize hq : [bk] ++ B = q at *
            have HQ : Hid (E = q ++ [0]) := by show E = _; rw [HX5.out]
            clear hq HX5
            go_wp2_with (first
              | (at_builtin; refine wpList_append_lies _ rfl _ _ 79 rfl w.heap.size 5 i0 (.int .u8 0) 1 1 Tryd.underlying79 hi hz0 hz1 hz2 rfl (by decide) _ _ _ rfl (HO4.out.alloc _) ⟨w4.heap.size, 0, none⟩ 1 1 [.int .u8 0] rfl rfl (news1 _ (w4.heap.size) 0 (by simp)) (u8s_single _) (by decide) hn1' hn2' (by simp; omega) (w4.heap.size + 1) (by simp) ?_))
            intro g5 cap5 w5 hown' hgrow hat hlg
            obtain ⟨hown5, hb5⟩ := pushed (es := [0]) hs4 HO4.out hown' hgrow
            clear hown' hgrow hat hlg
            go_wp2_with fail
            go_ret
            exact ⟨_, rfl, by rw [HQ.out]; exact hown5, HB4.out.trans hb5⟩
        · have g5 : (xk == 5) = false := by simpa using e5
          have HF : Hid (E = [bk]) := by
            have : bodyOf xk xn xt.data.toList (encL xl) = [] := by unfold bodyOf; rw [if_neg e2, if_neg e3, if_neg e4, if_neg e5]
            show E = _
            rw [HE.out, this]
          clear HE HZ e2 e3 e4 e5
          go_wp2_with fail
          go_ret
          exact ⟨_, rfl, by rw [HF.out]; exact ALL.out.2.1, ALL.out.1⟩

set_option maxHeartbeats 1000000 in
theorem rall_any (k : Nat) : AllSpec k := by
  induction k with
  | zero => intro l lv w hk; cases l <;> simp at hk
  | succ k ih =>
    intro l lv w hk hv hsz
    obtain ⟨a, g, off, cap, l, vs, hlen, ha, hok, h0, h1, h2, h3, hin⟩ := hv
    obtain ⟨i0, hi, hz0, hz1, hz2⟩ := info_parts Tryd.info5
    have HH : Hid (AllSpec k ∧ SizeOf.sizeOf l ≤ k + 1) := ⟨ih, hk⟩
    clear ih hk
    go_enter Tryd.func45, Tryd.ntmps45
    go_wp2_with fail
    go_loopw [3, 4] (fun v i wr => ∃ (j : Nat) (p : List UInt8), j ≤ l.length ∧ i = .int .i64 j ∧ p = encL (l.take j) ∧ (j = 0 → v = .slice none 0 0) ∧ wr.ownsRow w.heap.size 5 1 v p.length (u8s p) ∧ Below w.heap.size w wr) (fun _ i _ => l.length - (intOf i).toNat)
    case atStart => exact ⟨0, [], Nat.zero_le _, rfl, by simp [encL], fun _ => rfl, World.ownsRow_nil _ _ _ _, Below.refl _ _⟩
    case round =>
      obtain ⟨j, p, hj, rfl, hp, hnil, hown, hbl⟩ := hrel
      have hbs := hbl.size
      have HP : Hid (p = encL (l.take j)) := hp
      have HNIL : Hid (j = 0 → u3 = .slice none 0 0) := hnil
      clear hp hnil
      by_cases hlt : j < l.length
      · obtain ⟨rfl, -⟩ := ha (by omega)
        have c0 := cell_below hbl (h0 j hlt)
        have c1 := cell_below hbl (h1 j hlt)
        have c2 := cell_below hbl (h2 j hlt)
        have c3 := cell_below hbl (h3 j hlt)
        have ia := (hin j hlt).keep hbl
        have HS : Hid (p ++ l[j].enc = encL (l.take (j + 1))) := by show _ = _; rw [encL_take_succ l j hlt, HP.out]
        have HL : Hid (0 < l[j].enc.length ∧ p.length + l[j].enc.length ≤ 100000000000000) := by
          have h2 := encL_take_le l (j + 1)
          rw [← HS.out, List.length_append] at h2
          exact ⟨enc_pos _, by omega⟩
        have RO : Hid (∀ w', ItsAt w' anyB (vs j) l[j].list → Calls Tryd.prog 64 #[.agg #[.int .i64 l[j].kind, .int .i64 l[j].num, .string l[j].text, vs j]] w' fun e w'' => ∃ v', e = .returned v' ∧ w''.ownsRow w'.heap.size 5 1 v' l[j].enc.length (u8s l[j].enc) ∧ Below w'.heap.size w' w'') := fun w' h =>
          rone_any k HH.out.1 l[j] (vs j) w' (by have := list_lt_of_get hlt; have := HH.out.2; omega) (hok j hlt) h (by have := HL.out.2; omega)
        generalize l[j].enc = B at *
        generalize l[j] = x at *
        generalize vs j = va at *
        have j0 : (0 : Int) ≤ (j : Int) := Int.natCast_nonneg _
        have j1 : (j : Int) < (l.length : Int) := by omega
        clear h0 h1 h2 h3 hin hok ha hsz
        generalize x.kind = xk at *
        generalize x.num = xn at *
        generalize x.text = xt at *
        generalize x.list = xl at *
        go_wp2_with fail
        refine (RO.out _ ia).mono ?_
        rintro e w3 ⟨v3, rfl, hown3, hb3⟩
        have hout := owns_keep hown hb3
        have hb3' := Below.next hbl hb3
        have hs3 := hb3'.size
        obtain ⟨g3, c3', rfl, hg3, hlt3⟩ := hown3.form HL.out.1
        have hsrc := cells_news hown3
        have HO : Hid (w3.ownsRow w.heap.size 5 1 u3 p.length (u8s p)) := hout
        have HSR : Hid (∀ j u, (u8s B)[j]? = some u → w3.cell? ((⟨g3, 0, none⟩ : Addr).add j) = some u) := hsrc
        have HB : Hid (Below w.heap.size w w3) := hb3'
        have hm0 := HL.out.1
        have hm1 : p.length + B.length ≤ maxLen := by have := HL.out.2; unfold maxLen; omega
        have hm2 : (p.length + B.length) * 1 ≤ 140737488355328 := by have := HL.out.2; omega
        have HLB : Hid ((u8s B).length = B.length * 1) := by show _ = _; rw [u8s_length, Nat.mul_one]
        clear hown hown3 hb3 hb3' hsrc hg3 hlt3 hout RO ia c0 c1 c2 c3 hbl HNIL HP
        go_wp2_with (first
          | (at_builtin; refine wpList_append_lies _ rfl _ _ 79 rfl w.heap.size 5 i0 (.int .u8 0) 1 1 Tryd.underlying79 hi hz0 hz1 hz2 rfl (by decide) _ _ _ rfl HO.out ⟨g3, 0, none⟩ B.length c3' (u8s B) rfl HLB.out HSR.out (u8s_one _) hm0 hm1 hm2 (by omega) w3.heap.size rfl ?_))
        intro g4 cap4 w4 hown' hgrow hat hlg
        obtain ⟨hown4, hb4⟩ := pushed0 (by omega) HO.out hown' hgrow
        have HO4 : Hid (w4.ownsRow w.heap.size 5 1 (.slice (some ⟨g4, 0, none⟩) (p.length + B.length) cap4) (p ++ B).length (u8s (p ++ B))) := hown4
        have HB4 : Hid (Below w.heap.size w w4) := HB.out.trans hb4
        clear hown' hgrow hat hlg hown4 hb4 HO HSR
        go_wp2_with fail
        go_roundw
        case rel => exact ⟨j + 1, p ++ B, by omega, by go_num, HS.out, fun h => by omega, HO4.out, HB4.out⟩
        case measure => simp [intOf]; omega
      · have hke : j = l.length := by omega
        have HQ : Hid (p = encL l) := by
          show p = _
          rw [HP.out, List.take_of_length_le (by omega)]
        have HN2 : Hid (l = [] → u3 = .slice none 0 0) := fun h => HNIL.out (by rw [hke, h]; rfl)
        subst hke
        clear h0 h1 h2 h3 hin hok ha HP HNIL
        go_wp2_with fail
        go_ret
        exact ⟨_, rfl, HN2.out, by rw [← HQ.out]; exact hown, hbl⟩

end Go.Proofs.YtddhjnfcbpookaaDoor
