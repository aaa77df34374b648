import Derived.Test.YtgljkgkophaefaaDoorPl
import Derived.Test.YtgljkgkophaefaaDoorRdr4
namespace Go.Proofs.YtgljkgkophaefaaDoor
open Go.RowKit

theorem bytes_nil {t : ByteArray} (h : (t.toList == []) = true) : t = ⟨#[]⟩ := by
  have h1 : t.toList = [] := by simpa using h
  rw [ByteArray.toList_eq] at h1
  apply ByteArray.ext
  simpa using h1
theorem form1 {y : It} (h : fits y = true) (hk : y.kind = 1) : y = .mk 1 0 ⟨#[]⟩ [] := by
  obtain ⟨k, n, t, l⟩ := y
  simp only [It.kind] at hk
  subst hk
  simp only [fits, fitB, It.kind, It.num, It.text, It.list, if_true, Bool.and_eq_true] at h
  obtain rfl := bytes_nil h.1.2
  have : l = [] := List.length_eq_zero_iff.1 (by simpa using h.2)
  subst this
  have : n = 0 := by simpa using h.1.1
  rw [this]
theorem form2 {y : It} (h : fits y = true) (hk : y.kind = 2) : y = .mk 2 y.num ⟨#[]⟩ [] := by
  obtain ⟨k, n, t, l⟩ := y
  simp only [It.kind] at hk
  subst hk
  simp [fits, fitB, It.kind, It.num, It.text, It.list] at h
  obtain ⟨⟨_, ht⟩, rfl⟩ := h
  obtain rfl := bytes_nil (t := t) (by simpa using ht)
  rfl
theorem form3 {y : It} (h : fits y = true) (hk : y.kind = 3) : y = .mk 3 y.num ⟨#[]⟩ [] := by
  obtain ⟨k, n, t, l⟩ := y
  simp only [It.kind] at hk
  subst hk
  simp [fits, fitB, It.kind, It.text, It.list] at h
  obtain ⟨ht, rfl⟩ := h
  obtain rfl := bytes_nil (t := t) (by simpa using ht)
  rfl
theorem form4 {y : It} (h : fits y = true) (hk : y.kind = 4) : y = .mk 4 0 y.text [] := by
  obtain ⟨k, n, t, l⟩ := y
  simp only [It.kind] at hk
  subst hk
  simp [fits, fitB, It.kind, It.num, It.list] at h
  obtain ⟨rfl, rfl⟩ := h
  rfl
theorem form5 {y : It} (h : fits y = true) (hk : y.kind = 5) : y = .mk 5 0 ⟨#[]⟩ y.list := by
  obtain ⟨k, n, t, l⟩ := y
  simp only [It.kind] at hk
  subst hk
  simp [fits, fitB, It.kind, It.num, It.text] at h
  obtain ⟨rfl, ht⟩ := h
  obtain rfl := bytes_nil (t := t) (by simpa using ht)
  rfl
theorem Pst.new {pb H o : Nat} {w a : World} {s : ByteArray} {i : Nat} {lo : Bool} (h : Pst pb w a s i lo) (u : Value) (hH : w.heap.size ≤ H) (hn : H ≠ pb) : Pst pb w (a.setCell ⟨H, o, none⟩ u) s i lo :=
  ⟨by unfold PlAt; rw [heap_setCell_other a ⟨H, o, none⟩ pb u (fun e => hn e.symm)]; exact h.at_, h.sole.new u hH⟩
theorem Pst.four {pb H : Nat} {w0 w : World} {s : ByteArray} {i : Nat} {lo : Bool} (h : Pst pb w0 w s i lo) (hH : w0.heap.size ≤ H) (hn : H ≠ pb) (a b c d : Value) : Pst pb w0 ((((w.setCell ⟨H, 0, none⟩ a).setCell ⟨H, 1, none⟩ b).setCell ⟨H, 2, none⟩ c).setCell ⟨H, 3, none⟩ d) s i lo :=
  (((h.new a hH hn).new b hH hn).new c hH hn).new d hH hn
theorem Pst.keep {pb : Nat} {w a b : World} {s : ByteArray} {i : Nat} {lo : Bool} (h : Pst pb w a s i lo) (hb : Below a.heap.size a b) : Pst pb w b s i lo := ⟨h.at_.keepB hb h.at_.lt, h.sole.trans (Sole.of_below hb)⟩
theorem Pst.refl {pb : Nat} {w : World} {s : ByteArray} {i : Nat} {lo : Bool} (h : PlAt w pb s i lo) : Pst pb w w s i lo := ⟨h, Sole.refl _ _⟩

def PItemsC (pb d r : Nat) : Prop := ∀ (s : ByteArray) (i : Nat) (w : World), PlAt w pb s i false → i ≤ s.size → s.size ≤ 65536 →
    Calls Tryd.prog 24 #[.pointer (some ⟨pb, 0, none⟩), .int .i64 (d : Int), .bool (d == 0)] w fun e w' => ∃ l v j lo, e = .returned v ∧ ItsOwn w' w.heap.size v l ∧ (encL l).length + 9 * i ≤ 9 * j ∧ l.length + i ≤ j ∧ j ≤ s.size ∧ Pst pb w w' s j lo ∧
      ∀ m b, VL r m → D s i = encL m ++ fin d b → l = m ∧ fin d (D s j) = fin d b ∧ lo = false

def PItemR (pb r : Nat) (c : UInt8) (s : ByteArray) (i : Nat) (w : World) (e : Ending) (w' : World) : Prop :=
  ∃ x lv j lo, e = .returned (.agg #[.int .i64 x.kind, .int .i64 x.num, .string x.text, lv]) ∧ x.Ok ∧ x.enc.length + 9 * i ≤ 9 * j + 9 ∧ i ≤ j ∧ j ≤ s.size ∧ ItsAt w' (fun g => w.heap.size ≤ g) lv x.list ∧ Pst pb w w' s j lo ∧
    ∀ y b, VI r y → c :: D s i = y.enc ++ b → x = y ∧ D s j = b ∧ lo = false

theorem S_data' (s : ByteArray) : S s.data.toList = s := by
  apply ByteArray.ext; simp [S]
/-- The end of all ways but one: x's part is laid, and x into the result. -/
theorem pfin {pb r : Nat} {c : UInt8} {s : ByteArray} {i j o : Nat} {lo : Bool} {w w2 w3 : World} {u : Value} (x : It) (lv : Value) (hne : w.heap.size ≠ pb) (hne2 : w.heap.size + 1 ≠ pb) (hok : x.Ok) (hl : x.enc.length + 9 * i ≤ 9 * j + 9) (hij : i ≤ j) (hjs : j ≤ s.size)
    (hlv : ItsAt w3 (fun g => w.heap.size + 2 ≤ g) lv x.list) (P2 : Pst pb w w2 s i false) (hP : Pst pb w2 w3 s j lo) (hF : ∀ y b, VI r y → c :: D s i = y.enc ++ b → x = y ∧ D s j = b ∧ lo = false) :
    PItemR pb r c s i w (.returned (.agg #[.int .i64 x.kind, .int .i64 x.num, .string x.text, lv])) (((((w3.setCell ⟨w.heap.size + 1, o, none⟩ u).setCell ⟨w.heap.size, 0, none⟩ (.int .i64 x.kind)).setCell ⟨w.heap.size, 1, none⟩ (.int .i64 x.num)).setCell ⟨w.heap.size, 2, none⟩ (.string x.text)).setCell ⟨w.heap.size, 3, none⟩ lv) :=
  ⟨x, lv, j, lo, rfl, hok, hl, hij, hjs, (its_four hlv (by omega) (by omega)).imp fun g hg => by omega, ((P2.trans hP).new _ (by omega) hne2).four (Nat.le_refl _) hne _ _ _ _, hF⟩
theorem text_len (x : List UInt8) : (encT x).length ≤ 2 * x.length + 2 := by
  unfold encT
  rw [List.length_append]
  have : (escL x).length ≤ 2 * x.length := by
    induction x with
    | nil => simp [escL]
    | cons c r ih =>
      have e : escL (c :: r) = (if c = 0 then [0, 255] else [c]) ++ escL r := by simp [escL]
      rw [e, List.length_append, List.length_cons]
      split <;> simp <;> omega
  simp
  omega
theorem byteAt_nat (m k : Nat) : (byteAt m k).toNat = m / 2 ^ (8 * k) % 256 := by
  unfold byteAt
  rw [UInt8.toNat_ofNat']
  omega
theorem beN_be8 (m : Nat) (h : m < 18446744073709551616) : beN (be8 m) = m := by
  have hb : beN (be8 m) = ((((((((0 * 256 + (byteAt m 7).toNat) * 256 + (byteAt m 6).toNat) * 256 + (byteAt m 5).toNat) * 256 + (byteAt m 4).toNat) * 256 + (byteAt m 3).toNat) * 256 + (byteAt m 2).toNat) * 256 + (byteAt m 1).toNat) * 256 + (byteAt m 0).toNat) := rfl
  rw [hb]
  simp only [byteAt_nat, Nat.reduceMul, Nat.reducePow]
  omega
theorem beN_num8 (n : Int) (h1 : -9223372036854775808 ≤ n) (h2 : n ≤ 9223372036854775807) : (beN (num8 n) : Int) - 9223372036854775808 = n := by
  unfold num8
  rw [beN_be8 _ (biased_lt n h1 h2)]
  unfold biased
  omega

theorem lost_row (w : World) (pb : Nat) (u : Value) (A B : Obj) : (((w.setCell ⟨pb, 2, none⟩ u).alloc A).alloc B).heap[w.heap.size]? = some A := by
  have h := heap_alloc2_old (w.setCell ⟨pb, 2, none⟩ u) A B
  have e : (w.setCell ⟨pb, 2, none⟩ u).heap.size = w.heap.size := by simp [World.setCell]
  rw [e] at h
  exact h
theorem enc_small (k : Int) : (It.mk k 0 ⟨#[]⟩ []).enc.length ≤ 9 := by
  simp only [It.enc, bodyOf, List.length_cons]
  split
  · simp
  · split
    · simp [num8, be8]
    · split
      · simp [encT, escL]
      · split
        · simp [encL]
        · simp
theorem lost_end {pb r : Nat} {c : UInt8} {s : ByteArray} {i : Nat} {w : World} {A B : Obj} (hp : PlAt w pb s i false) (his : i ≤ s.size) (hF : ∀ y b, VI r y → c :: D s i = y.enc ++ b → False) :
    PItemR pb r c s i w (.returned (.agg #[.int .i64 (c.toNat : Int), .int .i64 0, .string ⟨#[]⟩, .slice none 0 0])) (((w.setCell ⟨pb, 2, none⟩ (.bool true)).alloc A).alloc B) := by
  have hc := UInt8.toNat_lt c
  have P1 : Pst pb w (w.setCell ⟨pb, 2, none⟩ (.bool true)) s i true := ⟨hp.set2 true, Sole.set _ _ _ _⟩
  exact ⟨.mk (c.toNat : Int) 0 ⟨#[]⟩ [], .slice none 0 0, i, true, rfl, ok_mk' _ _ _ _ (by omega) (by omega) (by decide) (by decide) (by decide), by have := enc_small (c.toNat : Int); omega, Nat.le_refl _, his, its_nil _ _ _ _, (P1.keep (below_new _ _)).keep (below_new _ _), fun y b hy e => (hF y b hy e).elim⟩

set_option maxHeartbeats 1000000 in
theorem pitem_any (pb d r : Nat) (hd : d + r = 4) (hI : ∀ r', r = r' + 1 → PItemsC pb (d + 1) r') (c : UInt8) (s : ByteArray) (i : Nat) (w : World) (hp : PlAt w pb s i false) (his : i ≤ s.size) (hs : s.size ≤ 65536) :
    Calls Tryd.prog 38 #[.pointer (some ⟨pb, 0, none⟩), .int .i64 (c.toNat : Int), .int .i64 (d : Int)] w (PItemR pb r c s i w) := by
  have hlt := hp.lt
  have hne : w.heap.size ≠ pb := by omega
  have hne2 : w.heap.size + 1 ≠ pb := by omega
  have b1 := below_new w (.cells #[.int .i64 0, .int .i64 0, .string ⟨#[]⟩, .slice none 0 0] 43)
  have b2 := below_new (w.alloc (.cells #[.int .i64 0, .int .i64 0, .string ⟨#[]⟩, .slice none 0 0] 43)) (.cells #[.int .i64 (c.toNat : Int), .int .i64 0, .string ⟨#[]⟩, .slice none 0 0] 43)
  have y2 : Bx ((w.alloc (.cells #[.int .i64 0, .int .i64 0, .string ⟨#[]⟩, .slice none 0 0] 43)).alloc (.cells #[.int .i64 (c.toNat : Int), .int .i64 0, .string ⟨#[]⟩, .slice none 0 0] 43)) w.heap.size (.int .i64 0) (.int .i64 0) (.string ⟨#[]⟩) (.slice none 0 0) := heap_alloc2_old w _ _
  have x2 : Bx ((w.alloc (.cells #[.int .i64 0, .int .i64 0, .string ⟨#[]⟩, .slice none 0 0] 43)).alloc (.cells #[.int .i64 (c.toNat : Int), .int .i64 0, .string ⟨#[]⟩, .slice none 0 0] 43)) (w.heap.size + 1) (.int .i64 (c.toNat : Int)) (.int .i64 0) (.string ⟨#[]⟩) (.slice none 0 0) := heap_alloc2_new w _ _
  have p2 : Pst pb w ((w.alloc (.cells #[.int .i64 0, .int .i64 0, .string ⟨#[]⟩, .slice none 0 0] 43)).alloc (.cells #[.int .i64 (c.toNat : Int), .int .i64 0, .string ⟨#[]⟩, .slice none 0 0] 43)) s i false := ((Pst.refl hp).keep b1).keep b2
  have HP : Hid (PlAt w pb s i false) := hp
  clear b1 b2 hp
  by_cases e1 : c = 1
  · subst e1
    have HF : Hid (∀ y b, VI r y → 1 :: D s i = y.enc ++ b → It.mk 1 0 ⟨#[]⟩ [] = y ∧ D s i = b) := fun y b hy e => by
      obtain ⟨k, e'⟩ := head_kind hy e
      have hk : y.kind = 1 := k.symm
      rw [hk] at e'
      exact ⟨(form1 (oneF_zero hy.one).1 hk).symm, by simpa [bodyOf] using e'⟩
    have HQ : Hid (∀ o o', Pst pb w ((w.alloc o).alloc o') s i false) := fun o o' => ((Pst.refl HP.out).keep (below_new _ _)).keep (below_new _ _)
    clear x2 y2 p2 hI
    go_enter Tryd.func38, Tryd.ntmps38
    go_wp2_with fail
    (try simp only [Exit.inBlock, Exit.then])
    refine bodyPost_ret (results_cell_row rfl _ _ w.heap.size 43 #[.int .i64 1, .int .i64 0, .string ⟨#[]⟩, .slice none 0 0] (0, 0) _ rfl (heap_alloc2_old w _ _) Tryd.underlying43 rfl (by kernel_rfl)) rfl ?_
    exact ⟨.mk 1 0 ⟨#[]⟩ [], .slice none 0 0, i, false, rfl, ok_mk' _ _ _ _ (by decide) (by decide) (by decide) (by decide) (by decide), by simp [It.enc, bodyOf]; omega, Nat.le_refl _, his, its_nil _ _ _ _, HQ.out _ _, fun y b hy e => ⟨(HF.out y b hy e).1, (HF.out y b hy e).2, rfl⟩⟩
  · by_cases e2 : c = 2
    · subst e2
      clear e1
      have F := byte_any pb s i false _ p2.at_ his hs
      have X2 : Hid (Bx ((w.alloc (.cells #[.int .i64 0, .int .i64 0, .string ⟨#[]⟩, .slice none 0 0] 43)).alloc (.cells #[.int .i64 2, .int .i64 0, .string ⟨#[]⟩, .slice none 0 0] 43)) (w.heap.size + 1) (.int .i64 2) (.int .i64 0) (.string ⟨#[]⟩) (.slice none 0 0)) := x2
      have Y2 : Hid (Bx ((w.alloc (.cells #[.int .i64 0, .int .i64 0, .string ⟨#[]⟩, .slice none 0 0] 43)).alloc (.cells #[.int .i64 2, .int .i64 0, .string ⟨#[]⟩, .slice none 0 0] 43)) w.heap.size (.int .i64 0) (.int .i64 0) (.string ⟨#[]⟩) (.slice none 0 0)) := y2
      have P2 : Hid (Pst pb w ((w.alloc (.cells #[.int .i64 0, .int .i64 0, .string ⟨#[]⟩, .slice none 0 0] 43)).alloc (.cells #[.int .i64 2, .int .i64 0, .string ⟨#[]⟩, .slice none 0 0] 43)) s i false) := p2
      clear x2 y2 p2 hI HP
      go_enter Tryd.func38, Tryd.ntmps38
      go_wp2_with fail
      refine F.mono ?_
      rintro e w3 (⟨cb, hi1, hd, rfl, hP⟩ | ⟨hi1, hd, rfl, hP⟩)
      · have HD : Hid (D s i = cb :: D s (i + 1)) := hd
        clear F hd
        have x3 := X2.out.sole hP.sole hne2
        have y3 := Y2.out.sole hP.sole hne
        have HP3 : Hid (Pst pb ((w.alloc (.cells #[.int .i64 0, .int .i64 0, .string ⟨#[]⟩, .slice none 0 0] 43)).alloc (.cells #[.int .i64 2, .int .i64 0, .string ⟨#[]⟩, .slice none 0 0] 43)) w3 s (i + 1) false) := hP
        have Y3 : Hid (Bx w3 w.heap.size (.int .i64 0) (.int .i64 0) (.string ⟨#[]⟩) (.slice none 0 0)) := y3
        have c0 := x3.c0
        have c1 := x3.c1
        have c2 := x3.c2
        have c3 := x3.c3
        have f1 := x3.fr 1
        have d0 := y3.c0
        have d1 := y3.c1
        have d2 := y3.c2
        have d3 := y3.c3
        have g0 := y3.fr 0
        have g1 := y3.fr 1
        have g2 := y3.fr 2
        have g3 := y3.fr 3
        clear x3 y3 hP X2 Y2
        go_wp2_with fail
        (try simp only [Exit.inBlock, Exit.then])
        refine bodyPost_ret (results_cell_row rfl _ _ w.heap.size 43 #[.int .i64 2, .int .i64 (cb.toNat : Int), .string ⟨#[]⟩, .slice none 0 0] (0, 0) _ rfl ((Y3.out.other _ (by omega)).four _ _ _ _) Tryd.underlying43 rfl (by kernel_rfl)) rfl ?_
        exact pfin (.mk 2 (cb.toNat : Int) ⟨#[]⟩ []) (.slice none 0 0) hne hne2 (ok_mk' _ _ _ _ (by decide) (by decide) (by omega) (by have := UInt8.toNat_lt cb; omega) (by decide)) (by simp [It.enc, bodyOf]; omega) (by omega) (by omega) (its_nil _ _ _ _) P2.out HP3.out (fun y b hy e => by
          obtain ⟨k, e'⟩ := head_kind hy e
          have hk : y.kind = 2 := k.symm
          rw [hk, HD.out] at e'
          have e2 : cb = byteOf y.num ∧ D s (i + 1) = b := by simpa [bodyOf] using e'
          have hn := byteOf_nat y.num
          rw [← e2.1] at hn
          have := fit_flag' (oneF_zero hy.one).1 hk
          have e3 : (cb.toNat : Int) = y.num := by omega
          exact ⟨by rw [e3]; exact (form2 (oneF_zero hy.one).1 hk).symm, e2.2, rfl⟩)
      · have HD : Hid (D s i = []) := hd
        clear F hd
        have x3 := X2.out.sole hP.sole hne2
        have y3 := Y2.out.sole hP.sole hne
        have HP3 : Hid (Pst pb ((w.alloc (.cells #[.int .i64 0, .int .i64 0, .string ⟨#[]⟩, .slice none 0 0] 43)).alloc (.cells #[.int .i64 2, .int .i64 0, .string ⟨#[]⟩, .slice none 0 0] 43)) w3 s i true) := hP
        have Y3 : Hid (Bx w3 w.heap.size (.int .i64 0) (.int .i64 0) (.string ⟨#[]⟩) (.slice none 0 0)) := y3
        have c0 := x3.c0
        have c1 := x3.c1
        have c2 := x3.c2
        have c3 := x3.c3
        have f1 := x3.fr 1
        have d0 := y3.c0
        have d1 := y3.c1
        have d2 := y3.c2
        have d3 := y3.c3
        have g0 := y3.fr 0
        have g1 := y3.fr 1
        have g2 := y3.fr 2
        have g3 := y3.fr 3
        clear x3 y3 hP X2 Y2
        go_wp2_with fail
        (try simp only [Exit.inBlock, Exit.then])
        refine bodyPost_ret (results_cell_row rfl _ _ w.heap.size 43 #[.int .i64 2, .int .i64 0, .string ⟨#[]⟩, .slice none 0 0] (0, 0) _ rfl ((Y3.out.other _ (by omega)).four _ _ _ _) Tryd.underlying43 rfl (by kernel_rfl)) rfl ?_
        exact pfin (.mk 2 0 ⟨#[]⟩ []) (.slice none 0 0) hne hne2 (ok_mk' _ _ _ _ (by decide) (by decide) (by decide) (by decide) (by decide)) (by simp [It.enc, bodyOf]; omega) (by omega) (by omega) (its_nil _ _ _ _) P2.out HP3.out (fun y b hy e => by
          obtain ⟨k, e'⟩ := head_kind hy e
          have hk : y.kind = 2 := k.symm
          rw [hk, HD.out] at e'
          simp [bodyOf] at e')
    · by_cases e3 : c = 3
      · subst e3
        clear e1 e2
        have X2 : Hid (Bx ((w.alloc (.cells #[.int .i64 0, .int .i64 0, .string ⟨#[]⟩, .slice none 0 0] 43)).alloc (.cells #[.int .i64 3, .int .i64 0, .string ⟨#[]⟩, .slice none 0 0] 43)) (w.heap.size + 1) (.int .i64 3) (.int .i64 0) (.string ⟨#[]⟩) (.slice none 0 0)) := x2
        have Y2 : Hid (Bx ((w.alloc (.cells #[.int .i64 0, .int .i64 0, .string ⟨#[]⟩, .slice none 0 0] 43)).alloc (.cells #[.int .i64 3, .int .i64 0, .string ⟨#[]⟩, .slice none 0 0] 43)) w.heap.size (.int .i64 0) (.int .i64 0) (.string ⟨#[]⟩) (.slice none 0 0)) := y2
        have P2 : Hid (Pst pb w ((w.alloc (.cells #[.int .i64 0, .int .i64 0, .string ⟨#[]⟩, .slice none 0 0] 43)).alloc (.cells #[.int .i64 3, .int .i64 0, .string ⟨#[]⟩, .slice none 0 0] 43)) s i false) := p2
        clear x2 y2 p2 hI HP
        have h3 : ((3 : UInt8).toNat : Int) = 3 := rfl
        rw [h3]
        go_enter Tryd.func38, Tryd.ntmps38
        go_wp2_with fail
        obtain ⟨W2, hW2⟩ : ∃ W2, W2 = ((w.alloc (.cells #[.int .i64 0, .int .i64 0, .string ⟨#[]⟩, .slice none 0 0] 43)).alloc (.cells #[.int .i64 3, .int .i64 0, .string ⟨#[]⟩, .slice none 0 0] 43)) := ⟨_, rfl⟩
        have X2' : Hid (Bx W2 (w.heap.size + 1) (.int .i64 3) (.int .i64 0) (.string ⟨#[]⟩) (.slice none 0 0)) := by rw [hW2]; exact X2
        have Y2' : Hid (Bx W2 w.heap.size (.int .i64 0) (.int .i64 0) (.string ⟨#[]⟩) (.slice none 0 0)) := by rw [hW2]; exact Y2
        have P2' : Hid (Pst pb w W2 s i false) := by rw [hW2]; exact P2
        rw [← hW2]
        clear X2 Y2 P2 hW2
        go_loopw [8, 9] (fun u k wr => ∃ (kk y j : Nat) (lo : Bool), kk ≤ 8 ∧ k = .int .i64 kk ∧ u = .int .u64 (y : Int) ∧ y < 256 ^ kk ∧ i ≤ j ∧ j ≤ s.size ∧ Pst pb W2 wr s j lo ∧ (∀ n b, D s i = num8 n ++ b → lo = false ∧ y = beN ((num8 n).take kk) ∧ D s j = (num8 n).drop kk ++ b)) (fun _ k _ => 8 - (intOf k).toNat)
        case atStart => exact ⟨0, 0, i, false, by omega, rfl, rfl, by simp, Nat.le_refl _, his, Pst.refl P2'.out.at_, fun n b e => ⟨rfl, rfl, e⟩⟩
        case round =>
          obtain ⟨kk, y, j, lo, hkk, rfl, rfl, hy, hij, hjs, hP, hF⟩ := hrel
          have HP : Hid (Pst pb W2 wr s j lo) := hP
          have HF : Hid (∀ n b, D s i = num8 n ++ b → lo = false ∧ y = beN ((num8 n).take kk) ∧ D s j = (num8 n).drop kk ++ b) := hF
          have HY : Hid (y < 256 ^ kk) := hy
          have B := byte_any pb s j lo wr hP.at_ hjs hs
          clear hP hF hy
          by_cases hlt8 : kk < 8
          · have hyb : y < 72057594037927936 := Nat.lt_of_lt_of_le HY.out (Nat.le_trans (Nat.pow_le_pow_right (n := 256) (i := kk) (j := 7) (by decide) (by omega)) (by decide))
            go_wp2_with fail
            refine B.mono ?_
            rintro e w3 (⟨cb, hi1, hd, rfl, hP3⟩ | ⟨hi1, hd, rfl, hP3⟩)
            · have HP3 : Hid (Pst pb W2 w3 s (j + 1) lo) := HP.out.trans hP3
              have hcb := UInt8.toNat_lt cb
              have HF3 : Hid (∀ n b, D s i = num8 n ++ b → lo = false ∧ y * 256 + cb.toNat = beN ((num8 n).take (kk + 1)) ∧ D s (j + 1) = (num8 n).drop (kk + 1) ++ b) := fun n b e => by
                obtain ⟨h1, h2, h3⟩ := HF.out n b e
                have hl8 : kk < (num8 n).length := by show kk < 8; exact hlt8
                rw [hd, List.drop_eq_getElem_cons hl8, List.cons_append, List.cons.injEq] at h3
                exact ⟨h1, by rw [List.take_succ_eq_append_getElem hl8, beN_snoc, ← h2, ← h3.1], h3.2⟩
              have HY3 : Hid (y * 256 + cb.toNat < 256 ^ (kk + 1)) := by have := HY.out; show _ < _; rw [Nat.pow_succ]; omega
              clear hP3 B HP HF HY hd
              go_wp2_with fail
              go_roundw
              case rel => exact ⟨kk + 1, y * 256 + cb.toNat, j + 1, lo, by omega, by go_num, by go_num, HY3.out, by omega, by omega, HP3.out, HF3.out⟩
              case measure => simp [intOf]; omega
            · have HP3 : Hid (Pst pb W2 w3 s j true) := HP.out.trans hP3
              have HF3 : Hid (∀ n b, D s i = num8 n ++ b → true = false ∧ y * 256 = beN ((num8 n).take (kk + 1)) ∧ D s j = (num8 n).drop (kk + 1) ++ b) := fun n b e => by
                obtain ⟨h1, h2, h3⟩ := HF.out n b e
                have hl8 : kk < (num8 n).length := by show kk < 8; exact hlt8
                rw [hd, List.drop_eq_getElem_cons hl8] at h3
                cases h3
              have HY3 : Hid (y * 256 < 256 ^ (kk + 1)) := by have := HY.out; show _ < _; rw [Nat.pow_succ]; omega
              clear hP3 B HP HF HY hd
              go_wp2_with fail
              go_roundw
              case rel => exact ⟨kk + 1, y * 256, j, true, by omega, by go_num, by go_num, HY3.out, by omega, by omega, HP3.out, fun n b e => by cases (HF3.out n b e).1⟩
              case measure => simp [intOf]; omega
          · have hke : kk = 8 := by omega
            subst hke
            have hy64 : y < 18446744073709551616 := HY.out
            have hw : IntKind.i64.wrap (IntKind.u64.wrap ((y : Int) - 9223372036854775808)) = (y : Int) - 9223372036854775808 := by
              simp [IntKind.wrap, IntKind.bits, IntKind.signed]
              omega
            have HFE : Hid (∀ n b, D s i = num8 n ++ b → lo = false ∧ y = beN (num8 n) ∧ D s j = b) := fun n b e => by
              obtain ⟨h1, h2, h3⟩ := HF.out n b e
              have e8 : (num8 n).length = 8 := rfl
              rw [List.take_of_length_le (by omega)] at h2
              rw [List.drop_of_length_le (by omega)] at h3
              exact ⟨h1, h2, h3⟩
            have x3 := X2'.out.sole HP.out.sole hne2
            have y3 := Y2'.out.sole HP.out.sole hne
            have Y3 : Hid (Bx wr w.heap.size (.int .i64 0) (.int .i64 0) (.string ⟨#[]⟩) (.slice none 0 0)) := y3
            have c0 := x3.c0
            have c1 := x3.c1
            have c2 := x3.c2
            have c3 := x3.c3
            have f1 := x3.fr 1
            have d0 := y3.c0
            have d1 := y3.c1
            have d2 := y3.c2
            have d3 := y3.c3
            have g0 := y3.fr 0
            have g1 := y3.fr 1
            have g2 := y3.fr 2
            have g3 := y3.fr 3
            clear x3 y3 HF B X2' Y2' HY
            go_wp2_with fail
            (try simp only [Exit.inBlock, Exit.then])
            refine bodyPost_ret (results_cell_row rfl _ _ w.heap.size 43 #[.int .i64 3, .int .i64 ((y : Int) - 9223372036854775808), .string ⟨#[]⟩, .slice none 0 0] (0, 0) _ rfl ((Y3.out.other _ (by omega)).four _ _ _ _) Tryd.underlying43 rfl (by kernel_rfl)) rfl ?_
            exact pfin (.mk 3 ((y : Int) - 9223372036854775808) ⟨#[]⟩ []) (.slice none 0 0) hne hne2 (ok_mk' _ _ _ _ (by decide) (by decide) (by omega) (by omega) (by decide)) (by simp [It.enc, bodyOf, num8, be8]; omega) (by omega) (by omega) (its_nil _ _ _ _) P2'.out HP.out (fun y' b hy e => by
              obtain ⟨k, e'⟩ := head_kind hy e
              have hk : y'.kind = 3 := k.symm
              rw [hk] at e'
              obtain ⟨h1, h2, h3⟩ := HFE.out y'.num b (by simpa [bodyOf] using e')
              have e3 : (y : Int) - 9223372036854775808 = y'.num := by rw [h2]; exact beN_num8 _ hy.ok.n1 hy.ok.n2
              exact ⟨by rw [e3]; exact (form3 (oneF_zero hy.one).1 hk).symm, h3, h1⟩)
      · by_cases e4 : c = 4
        · subst e4
          clear e1 e2 e3
          have F := ptext_any pb s i _ p2.at_ his hs
          have X2 : Hid (Bx ((w.alloc (.cells #[.int .i64 0, .int .i64 0, .string ⟨#[]⟩, .slice none 0 0] 43)).alloc (.cells #[.int .i64 4, .int .i64 0, .string ⟨#[]⟩, .slice none 0 0] 43)) (w.heap.size + 1) (.int .i64 4) (.int .i64 0) (.string ⟨#[]⟩) (.slice none 0 0)) := x2
          have Y2 : Hid (Bx ((w.alloc (.cells #[.int .i64 0, .int .i64 0, .string ⟨#[]⟩, .slice none 0 0] 43)).alloc (.cells #[.int .i64 4, .int .i64 0, .string ⟨#[]⟩, .slice none 0 0] 43)) w.heap.size (.int .i64 0) (.int .i64 0) (.string ⟨#[]⟩) (.slice none 0 0)) := y2
          have P2 : Hid (Pst pb w ((w.alloc (.cells #[.int .i64 0, .int .i64 0, .string ⟨#[]⟩, .slice none 0 0] 43)).alloc (.cells #[.int .i64 4, .int .i64 0, .string ⟨#[]⟩, .slice none 0 0] 43)) s i false) := p2
          clear x2 y2 p2 hI HP
          go_enter Tryd.func38, Tryd.ntmps38
          go_wp2_with fail
          refine F.mono ?_
          rintro e w3 ⟨tx, j, lo, rfl, hj1, hj2, hP, hF⟩
          have HF : Hid (∀ u b, D s i = encT u ++ b → tx = u ∧ D s j = b ∧ lo = false) := hF
          clear F hF
          have x3 := X2.out.sole hP.sole hne2
          have y3 := Y2.out.sole hP.sole hne
          have HP3 : Hid (Pst pb ((w.alloc (.cells #[.int .i64 0, .int .i64 0, .string ⟨#[]⟩, .slice none 0 0] 43)).alloc (.cells #[.int .i64 4, .int .i64 0, .string ⟨#[]⟩, .slice none 0 0] 43)) w3 s j lo) := hP
          have Y3 : Hid (Bx w3 w.heap.size (.int .i64 0) (.int .i64 0) (.string ⟨#[]⟩) (.slice none 0 0)) := y3
          have c0 := x3.c0
          have c1 := x3.c1
          have c2 := x3.c2
          have c3 := x3.c3
          have f1 := x3.fr 2
          have d0 := y3.c0
          have d1 := y3.c1
          have d2 := y3.c2
          have d3 := y3.c3
          have g0 := y3.fr 0
          have g1 := y3.fr 1
          have g2 := y3.fr 2
          have g3 := y3.fr 3
          clear x3 y3 hP X2 Y2
          go_wp2_with fail
          (try simp only [Exit.inBlock, Exit.then])
          refine bodyPost_ret (results_cell_row rfl _ _ w.heap.size 43 #[.int .i64 4, .int .i64 0, .string (S tx), .slice none 0 0] (0, 0) _ rfl ((Y3.out.other _ (by omega)).four _ _ _ _) Tryd.underlying43 rfl (by kernel_rfl)) rfl ?_
          exact pfin (.mk 4 0 (S tx) []) (.slice none 0 0) hne hne2 (ok_mk' _ _ _ _ (by decide) (by decide) (by decide) (by decide) (by rw [S_size]; omega)) (by have := text_len tx; simp only [It.enc, bodyOf]; simp [S]; omega) (by omega) (by omega) (its_nil _ _ _ _) P2.out HP3.out (fun y b hy e => by
            obtain ⟨k, e'⟩ := head_kind hy e
            have hk : y.kind = 4 := k.symm
            rw [hk] at e'
            obtain ⟨h1, h2, h3⟩ := HF.out y.text.data.toList b (by simpa [bodyOf] using e')
            exact ⟨by rw [h1, S_data']; exact (form4 (oneF_zero hy.one).1 hk).symm, h2, h3⟩)
        · by_cases e5 : c = 5
          · subst e5
            clear e1 e2 e3 e4
            cases r with
            | zero =>
              have h4 : ¬ (d : Int) < 4 := by omega
              have q0 := HP.out.c2
              have q1 := HP.out.fr 2
              have h2 : pb < w.heap.size + 1 := by omega
              have HF : Hid (∀ y b, VI 0 y → 5 :: D s i = y.enc ++ b → False) := fun y b hy e => by
                obtain ⟨k, e'⟩ := head_kind hy e
                obtain ⟨r', e, _⟩ := hy.pos k.symm
                cases e
              clear x2 y2 p2 hI
              go_enter Tryd.func38, Tryd.ntmps38
              go_wp2_with fail
              (try simp only [Exit.inBlock, Exit.then])
              refine bodyPost_ret (results_cell_row rfl _ _ w.heap.size 43 #[.int .i64 5, .int .i64 0, .string ⟨#[]⟩, .slice none 0 0] (0, 0) _ rfl (lost_row w pb _ _ _) Tryd.underlying43 rfl (by kernel_rfl)) rfl ?_
              exact lost_end HP.out his HF.out
            | succ r =>
              have h4 : (d : Int) < 4 := by omega
              have F := hI r rfl s i _ p2.at_ his hs
              rw [show (d + 1 == 0) = false from rfl] at F
              have X2 : Hid (Bx ((w.alloc (.cells #[.int .i64 0, .int .i64 0, .string ⟨#[]⟩, .slice none 0 0] 43)).alloc (.cells #[.int .i64 5, .int .i64 0, .string ⟨#[]⟩, .slice none 0 0] 43)) (w.heap.size + 1) (.int .i64 5) (.int .i64 0) (.string ⟨#[]⟩) (.slice none 0 0)) := x2
              have Y2 : Hid (Bx ((w.alloc (.cells #[.int .i64 0, .int .i64 0, .string ⟨#[]⟩, .slice none 0 0] 43)).alloc (.cells #[.int .i64 5, .int .i64 0, .string ⟨#[]⟩, .slice none 0 0] 43)) w.heap.size (.int .i64 0) (.int .i64 0) (.string ⟨#[]⟩) (.slice none 0 0)) := y2
              have P2 : Hid (Pst pb w ((w.alloc (.cells #[.int .i64 0, .int .i64 0, .string ⟨#[]⟩, .slice none 0 0] 43)).alloc (.cells #[.int .i64 5, .int .i64 0, .string ⟨#[]⟩, .slice none 0 0] 43)) s i false) := p2
              have HSZ : Hid (w.heap.size + 2 = ((w.alloc (.cells #[.int .i64 0, .int .i64 0, .string ⟨#[]⟩, .slice none 0 0] 43)).alloc (.cells #[.int .i64 ((5 : UInt8).toNat : Int), .int .i64 0, .string ⟨#[]⟩, .slice none 0 0] 43)).heap.size) := by show _ = _; simp
              clear x2 y2 p2 hI HP
              go_enter Tryd.func38, Tryd.ntmps38
              go_wp2_with fail
              refine F.mono ?_
              rintro e w3 ⟨l, v, j, lo, rfl, hown, hj0, hj1, hj2, hP, hF⟩
              obtain ⟨av, cv, rfl⟩ := hown.form
              have HI3 : Hid (ItsAt w3 (fun g => w.heap.size + 2 ≤ g) (.slice av l.length cv) l) := by
                have := hown.at' (by omega)
                rw [← HSZ.out] at this
                exact this
              have HF : Hid (∀ m b, VL r m → D s i = encL m ++ fin (d + 1) b → l = m ∧ fin (d + 1) (D s j) = fin (d + 1) b ∧ lo = false) := hF
              clear F hF hown
              have x3 := X2.out.sole hP.sole hne2
              have y3 := Y2.out.sole hP.sole hne
              have HP3 : Hid (Pst pb ((w.alloc (.cells #[.int .i64 0, .int .i64 0, .string ⟨#[]⟩, .slice none 0 0] 43)).alloc (.cells #[.int .i64 5, .int .i64 0, .string ⟨#[]⟩, .slice none 0 0] 43)) w3 s j lo) := hP
              have Y3 : Hid (Bx w3 w.heap.size (.int .i64 0) (.int .i64 0) (.string ⟨#[]⟩) (.slice none 0 0)) := y3
              have c0 := x3.c0
              have c1 := x3.c1
              have c2 := x3.c2
              have c3 := x3.c3
              have f1 := x3.fr 3
              have d0 := y3.c0
              have d1 := y3.c1
              have d2 := y3.c2
              have d3 := y3.c3
              have g0 := y3.fr 0
              have g1 := y3.fr 1
              have g2 := y3.fr 2
              have g3 := y3.fr 3
              clear x3 y3 hP X2 Y2
              go_wp2_with fail
              (try simp only [Exit.inBlock, Exit.then])
              refine bodyPost_ret (results_cell_row rfl _ _ w.heap.size 43 #[.int .i64 5, .int .i64 0, .string ⟨#[]⟩, .slice av l.length cv] (0, 0) _ rfl ((Y3.out.other _ (by omega)).four _ _ _ _) Tryd.underlying43 rfl (by kernel_rfl)) rfl ?_
              exact pfin (.mk 5 0 ⟨#[]⟩ l) (.slice av l.length cv) hne hne2 (ok_mk' _ _ _ _ (by decide) (by decide) (by decide) (by decide) (by decide)) (by simp [It.enc, bodyOf]; omega) (by omega) hj2 HI3.out P2.out HP3.out (fun y b hy e => by
                obtain ⟨k, e'⟩ := head_kind hy e
                have hk : y.kind = 5 := k.symm
                rw [hk] at e'
                obtain ⟨r', h1, h2, h3⟩ := hy.pos hk
                cases h1
                obtain ⟨g1, g2, g3⟩ := HF.out y.list b (VL.of h2 h3) (by rw [e']; simp [bodyOf, fin])
                exact ⟨by rw [g1]; exact (form5 (oneF_zero hy.one).1 hk).symm, by simpa [fin] using g2, g3⟩)
          · have n1 : ((c.toNat : Int) == 1) = false := ne_num c 1 (by decide) e1
            have n2 : ((c.toNat : Int) == 2) = false := ne_num c 2 (by decide) e2
            have n3 : ((c.toNat : Int) == 3) = false := ne_num c 3 (by decide) e3
            have n4 : ((c.toNat : Int) == 4) = false := ne_num c 4 (by decide) e4
            have n5 : ((c.toNat : Int) == 5) = false := ne_num c 5 (by decide) e5
            have HF : Hid (∀ y b, VI r y → c :: D s i = y.enc ++ b → False) := fun x b' hx h => by
              obtain ⟨k, e⟩ := head_kind hx h
              have hk := hx.kind
              have m1 : (c.toNat : Int) ≠ 1 := by simpa using n1
              have m2 : (c.toNat : Int) ≠ 2 := by simpa using n2
              have m3 : (c.toNat : Int) ≠ 3 := by simpa using n3
              have m4 : (c.toNat : Int) ≠ 4 := by simpa using n4
              have m5 : (c.toNat : Int) ≠ 5 := by simpa using n5
              omega
            have q0 := HP.out.c2
            have q1 := HP.out.fr 2
            have h2 : pb < w.heap.size + 1 := by omega
            clear x2 y2 p2 hI e1 e2 e3 e4 e5
            go_enter Tryd.func38, Tryd.ntmps38
            go_wp2_with fail
            (try simp only [Exit.inBlock, Exit.then])
            refine bodyPost_ret (results_cell_row rfl _ _ w.heap.size 43 #[.int .i64 (c.toNat : Int), .int .i64 0, .string ⟨#[]⟩, .slice none 0 0] (0, 0) _ rfl (lost_row w pb _ _ _) Tryd.underlying43 rfl (by kernel_rfl)) rfl ?_
            exact lost_end HP.out his HF.out

end Go.Proofs.YtgljkgkophaefaaDoor
