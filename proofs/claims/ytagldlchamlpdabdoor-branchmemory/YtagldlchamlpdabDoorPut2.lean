import Derived.Test.YtagldlchamlpdabDoorBEditF
namespace Go.Proofs.YtagldlchamlpdabDoor
open Go.RowKit

theorem lks_set2 (l : List Lk) (k : Nat) (h : k < l.length) (c : Int) : (lks l).set (k * 2 + 1) (.int .i64 c) = lks (l.set k (l[k].1, c)) := by
  rw [← lks_set (l[k].1, c) l k]
  congr 1
  have := (lks_get l k h).1
  rw [List.getElem?_eq_some_iff] at this
  obtain ⟨h', e⟩ := this
  simp only []
  conv => rhs; rw [← e]
  rw [List.set_getElem_self]

set_option maxHeartbeats 2000000 in
theorem bputA_any (A : Nat → Addr) (f i c : Int) (v : Value) (l : List Lk) (w : World) (hm : l.length ≤ 5864062014800) (hr : LkR w v l) (hE : ErrA A w) :
    Calls Tryd.prog 23 #[.agg #[.int .i64 f, v], .int .i64 i, .int .i64 c] w fun e w' =>
      ((hasC l i = true ∧ ∃ u, e = .returned (.tuple #[.agg #[.int .i64 (putF f i.toNat c), u], .nilIface]) ∧ LkO w' w.heap.size u (putL l i.toNat c)) ∨
       (hasC l i = false ∧ e = .returned (.tuple #[.agg #[.int .i64 0, .slice none 0 0], .iface 167 (.pointer (some (A 0)))]))) ∧ Below w.heap.size w w' := by
  obtain ⟨a, cap, hv⟩ := hr.form
  subst hv
  obtain ⟨n, hn⟩ : ∃ n, n = l.length := ⟨_, rfl⟩
  rw [← hn] at hm hr ⊢
  have q0 := below_new w (.cells #[.int .i64 f, .slice a n cap] 30)
  have x0 := RowAt.new w #[.int .i64 f, .slice a n cap] 30
  have s0 : (w.alloc (.cells #[.int .i64 f, .slice a n cap] 30)).heap.size = w.heap.size + 1 := by simp
  generalize hW0 : w.alloc (.cells #[.int .i64 f, .slice a n cap] 30) = W0 at *
  have q1 := below_new W0 (.cells #[.int .i64 0, .slice none 0 0] 30)
  have x1 := RowAt.new W0 #[.int .i64 0, .slice none 0 0] 30
  have s1 : (W0.alloc (.cells #[.int .i64 0, .slice none 0 0] 30)).heap.size = W0.heap.size + 1 := by simp
  generalize hW1 : W0.alloc (.cells #[.int .i64 0, .slice none 0 0] 30) = W1 at *
  have HX0 := hide (x0.below q1)
  have HX1 := hide x1
  have HQ := hide (Below.next q0 q1)
  have HR := hide (hr.below (Below.next q0 q1))
  have HE := hide (hE.below (Below.next q0 q1))
  have HS : Hid (W0.heap.size = w.heap.size + 1 ∧ W1.heap.size = w.heap.size + 2) := ⟨s0, by rw [s1, s0]⟩
  have b1 : ¬ w.heap.size = W0.heap.size := by omega
  have b2 : ¬ W0.heap.size = w.heap.size := by omega
  have hg0 : 1 < w.heap.size := World.block_lt_of_cell? w _ hE
  have b3 : ¬ 1 = W0.heap.size := by omega
  have b4 : ¬ W0.heap.size = 1 := by omega
  have HN := hide hn
  have HH := hide (bhasc_any f i _ l W1 HR.out)
  have p0 := HX0.out.c0
  have p1 := HX0.out.c1
  clear q0 x0 q1 x1 hr hE hn s0 s1 hg0
  go_enter Tryd.func23, Tryd.ntmps23
  go_wp2_with fail
  refine HH.out.mono ?_
  rintro e w1 ⟨rfl, hb1⟩
  have HB1 := hide hb1
  clear hb1 HH p0 p1
  by_cases hg : hasC l i = true
  · rw [hg]
    have HG := hide hg
    simp only [hasC, Bool.and_eq_true, decide_eq_true_eq] at hg
    have p0 := (HX0.out.below HB1.out).c0
    have p1 := (HX0.out.below HB1.out).c1
    have HCL := hide (kclone_any (.slice a n cap) l w1 (by have := HN.out; omega) (HR.out.below HB1.out))
    go_wp2_with fail
    refine HCL.out.mono ?_
    rintro e w3 ⟨u, rfl, ho3, hb3⟩
    have HBw : Hid (Below W1.heap.size W1 w3) := Below.next HB1.out hb3
    obtain ⟨ua, uc, hu⟩ := ho3.form
    rw [← HN.out] at hu
    subst hu
    have HO := hide ho3
    have HS1 := hide HB1.out.size
    have x0 := HX0.out.below HBw.out
    have x1 := HX1.out.below HBw.out
    have y0 := x0.c0
    have y1 := x0.c1
    have y2 := x0.free 1
    have y7 := x0.free 0
    have y3 := x1.c0
    have y4 := x1.c1
    have y5 := x1.free 0
    have y6 := x1.free 1
    have HX1' := hide x1
    clear hb3 ho3 x0 x1 HCL p0 p1
    by_cases h0 : i = 0
    · subst h0
      clear hg
      go_wp2_with fail
      have hx := (HX1'.out.other (j := 1) b2 (.slice ua n uc)).other (j := 0) b2 (.int .i64 c)
      have hno : (Value.slice ua n uc).ownBlock ≠ some w.heap.size := fun h => by have := (HO.out.blk _ h).1; have := HS1.out; have := HS.out; omega
      have ho := (HO.out.put (g := w.heap.size) (j := 1) hno (.slice ua n uc)).put (g := w.heap.size) (j := 0) hno (.int .i64 c)
      have ho2 := (ho.put2 (g := W0.heap.size) (by have := HS1.out; have := HS.out; omega) (.int .i64 c) (.slice ua n uc)).mono (b2 := w.heap.size) (by have := HS1.out; have := HS.out; omega)
      have hbw := below_two (b := W0.heap.size) (x := .int .i64 c) (y := .slice ua n uc) (((HQ.out.trans (HBw.out.mono (by have := HS.out; omega))).setCell (p := ⟨w.heap.size, 1, none⟩) (Nat.le_refl _) (.slice ua n uc)).setCell (p := ⟨w.heap.size, 0, none⟩) (Nat.le_refl _) (.int .i64 c)) (by have := HS.out; omega)
      refine bodyPost_ret (results_row_tmp rfl _ _ W0.heap.size 30 _ (0, 0) _ rfl (hx.two _ _) Tryd.underlying30 rfl (by kernel_rfl)) rfl ⟨.inl ⟨HG.out, .slice ua n uc, by simp [putF], ?_⟩, hbw⟩
      have : putL l (0 : Int).toNat c = l := by simp [putL]
      rw [this]
      exact ho2
    · obtain ⟨k, hk⟩ : ∃ k : Nat, i = (k : Int) + 1 := ⟨(i - 1).toNat, by omega⟩
      subst hk
      have hkl : k < l.length := by omega
      obtain ⟨g, cc, hu, hbg, hgw, _⟩ := HO.out.has (by omega)
      have hua : ua = some ⟨g, 0, none⟩ := by cases hu; rfl
      subst hua
      have HKL := hide hkl
      have HBG := hide hbg
      have bg1 : ¬ g = w.heap.size := by have := HS1.out; have := HS.out; omega
      have bg2 : ¬ w.heap.size = g := by omega
      have bg3 : ¬ g = W0.heap.size := by have := HS1.out; have := HS.out; omega
      have bg4 : ¬ W0.heap.size = g := by omega
      have hown : w3.ownsRow w1.heap.size 54 2 (.slice (some ⟨g, 0, none⟩) n uc) n (lks l) := by
        have := HO.out
        unfold LkO at this
        rwa [← HN.out] at this
      have z1 : w3.cell? ⟨g, k * 2 + 1, none⟩ = some (.int .i64 l[k].2) := by
        rw [World.ownsRow.cellAt hown (k * 2 + 1) (by have := HN.out; omega)]; exact (lks_get l k hkl).2
      have z2 : w3.frozen? ⟨g, k * 2 + 1, none⟩ = false := World.ownsRow.frozenAt hown (k * 2 + 1)
      have hw1 : IntKind.i64.wrap ((k : Int) + 1 - 1) = (k : Int) := by have := HN.out; rw [IntKind.wrap_i64]; omega
      have hkn : (k : Int) < (n : Int) := by have := HN.out; omega
      have hk0 : (0 : Int) ≤ (k : Int) := by omega
      have hno : (Value.slice (some ⟨g, 0, none⟩) n uc).ownBlock ≠ some w.heap.size := fun h => bg1 (by simpa [Value.ownBlock] using h)
      have hown2 : (w3.setCell ⟨w.heap.size, 1, none⟩ (.slice (some ⟨g, 0, none⟩) n uc)).ownsRow w1.heap.size 54 2 (.slice (some ⟨g, 0, none⟩) n uc) n (lks l) := by
        have := HO.out.put (j := 1) hno (.slice (some ⟨g, 0, none⟩) n uc)
        unfold LkO at this
        rwa [← HN.out] at this
      have hst := (World.ownsRow.stored hown2 (k * 2 + 1) (.int .i64 c)).1
      have hpl : (lks l).set (k * 2 + 1) (.int .i64 c) = lks (putL l (((k : Int) + 1).toNat) c) := by
        rw [show ((k : Int) + 1).toNat = k + 1 by omega]
        unfold putL
        rw [dif_pos ⟨by omega, by omega⟩]
        exact lks_set2 l k hkl c
      rw [hpl] at hst
      have HST := hide hst
      clear hpl
      obtain ⟨oldv, hov⟩ : ∃ x, x = l[k].2 := ⟨_, rfl⟩
      rw [← hov] at z1
      clear hg hu hkl hbg hgw hst hov hown hown2 hno
      go_wp2_with fail
      have hl' : (putL l (((k : Int) + 1).toNat) c).length = n := by rw [putL_len, HN.out]
      have ho : LkO ((w3.setCell ⟨w.heap.size, 1, none⟩ (.slice (some ⟨g, 0, none⟩) n uc)).setCell ⟨g, k * 2 + 1, none⟩ (.int .i64 c)) w1.heap.size (.slice (some ⟨g, 0, none⟩) n uc) (putL l (((k : Int) + 1).toNat) c) := by
        unfold LkO
        rw [hl']
        exact HST.out
      have ho2 := (ho.put2 (g := W0.heap.size) (by have := HS1.out; have := HS.out; omega) (.int .i64 f) (.slice (some ⟨g, 0, none⟩) n uc)).mono (b2 := w.heap.size) (by have := HS1.out; have := HS.out; omega)
      have hx := (HX1'.out.other (j := 1) b2 (.slice (some ⟨g, 0, none⟩) n uc)).other (g := g) (j := k * 2 + 1) bg4 (.int .i64 c)
      have hbw := below_two (b := W0.heap.size) (x := .int .i64 f) (y := .slice (some ⟨g, 0, none⟩) n uc) (((HQ.out.trans (HBw.out.mono (by have := HS.out; omega))).setCell (p := ⟨w.heap.size, 1, none⟩) (Nat.le_refl _) (.slice (some ⟨g, 0, none⟩) n uc)).setCell (p := ⟨g, k * 2 + 1, none⟩) (by have := HBG.out; have := HS1.out; have := HS.out; show w.heap.size ≤ g; omega) (.int .i64 c)) (by have := HS.out; omega)
      refine bodyPost_ret (results_row_tmp rfl _ _ W0.heap.size 30 _ (0, 0) _ rfl (hx.two _ _) Tryd.underlying30 rfl (by kernel_rfl)) rfl ⟨.inl ⟨HG.out, .slice (some ⟨g, 0, none⟩) n uc, ?_, ho2⟩, hbw⟩
      have : putF f (((k : Int) + 1).toNat) c = f := by unfold putF; rw [if_neg (by omega)]
      rw [this]
      rfl
  · rw [Bool.not_eq_true] at hg
    rw [hg]
    have HG := hide hg
    have x1 := HX1.out.below HB1.out
    have e0 : w1.cell? ⟨1, 0, none⟩ = some (.iface 167 (.pointer (some (A 0)))) := HE.out.below HB1.out
    have p3 := x1.c0
    have p4 := x1.c1
    have p5 := x1.free 0
    have p6 := x1.free 1
    have HX1' := hide x1
    clear x1
    go_wp2_with fail
    go_region_held3 (fun w' => w'.cell? ⟨1, 0, none⟩ = some (.iface 167 (.pointer (some (A 0))))) (go_keep) (fail)
    all_goals
      go_wp2_with fail
      exact bodyPost_ret (results_row_tmp rfl _ _ W0.heap.size 30 _ (0, 0) _ rfl (HX1'.out.two _ _).drew Tryd.underlying30 rfl (by kernel_rfl)) rfl ⟨.inr ⟨HG.out, rfl⟩, below_drewB (below_two (Below.next HQ.out HB1.out) (by have := HS.out; omega))⟩

theorem bput_any (A : Nat → Addr) (f i c : Int) (v : Value) (l : List Lk) (w : World) (hm : l.length ≤ 5864062014800) (hr : LkR w v l) (hE : ErrC A w) :
    Calls Tryd.prog 23 #[.agg #[.int .i64 f, v], .int .i64 i, .int .i64 c] w fun e w' =>
      ((hasC l i = true ∧ ∃ u, e = .returned (.tuple #[.agg #[.int .i64 (putF f i.toNat c), u], .nilIface]) ∧ LkO w' w.heap.size u (putL l i.toNat c)) ∨
       (hasC l i = false ∧ e = .returned (.tuple #[.agg #[.int .i64 0, .slice none 0 0], .iface 167 (.pointer (some (A 0)))]))) ∧ Below w.heap.size w w' := bputA_any A f i c v l w hm hr hE.a

end Go.Proofs.YtagldlchamlpdabDoor

namespace Go.Proofs.YtagldlchamlpdabDoor
open Go.RowKit

theorem insL_at (l : List Lk) (i : Nat) (p : Lk) (h : i ≤ l.length) : (insL l i p)[i]? = some p := by
  unfold insL
  rw [List.getElem?_append_right (by rw [List.length_take]; omega), List.length_take, Nat.min_eq_left h, Nat.sub_self]
  rfl
theorem childN_ins (f : Int) (l : List Lk) (i : Nat) (p : Lk) (h : i ≤ l.length) : childN f (insL l i p) ((i : Int) + 1) = p.2 := by
  unfold childN
  rw [if_neg (by omega), show ((i : Int) + 1 - 1).toNat = i by omega, List.getD_eq_getElem?_getD, insL_at l i p h]
  rfl
theorem remL_insL (l : List Lk) (i : Nat) (p : Lk) (h : i ≤ l.length) : remL (insL l i p) i = l := by
  unfold remL insL
  have hl : (l.take i).length = i := by rw [List.length_take]; omega
  rw [List.take_append_of_le_length (by omega), List.take_of_length_le (by omega), List.drop_append, hl, List.drop_eq_nil_of_le (by omega), show i + 1 - i = 1 by omega]
  exact List.take_append_drop i l
theorem putL_at (l : List Lk) (i : Nat) (c : Int) (h : i < l.length) : putL l (i + 1) c = l.set i (l[i].1, c) := by
  unfold putL
  rw [dif_pos ⟨by omega, by omega⟩]
  rfl
theorem childN_put_same (f : Int) (l : List Lk) (i : Nat) (c : Int) (h : i ≤ l.length) : childN (putF f i c) (putL l i c) (i : Int) = c := by
  cases i with
  | zero => simp [childN, putF]
  | succ i =>
    unfold childN
    rw [if_neg (by omega), show (((i + 1 : Nat) : Int) - 1).toNat = i by omega, putL_at l i c (by omega), List.getD_eq_getElem?_getD, List.getElem?_set_self (by omega)]
    rfl
theorem childN_put_ne (f : Int) (l : List Lk) (i k : Nat) (c : Int) (h : i ≤ l.length) (hne : k ≠ i) : childN (putF f i c) (putL l i c) (k : Int) = childN f l (k : Int) := by
  cases i with
  | zero =>
    unfold childN
    rw [if_neg (by omega), if_neg (by omega)]
    have : putL l 0 c = l := by simp [putL]
    rw [this]
  | succ i =>
    have e1 : putF f (i + 1) c = f := by unfold putF; rw [if_neg (by omega)]
    rw [e1]
    unfold childN
    by_cases h0 : (k : Int) = 0
    · rw [if_pos h0, if_pos h0]
    · rw [if_neg h0, if_neg h0, putL_at l i c (by omega), List.getD_eq_getElem?_getD, List.getD_eq_getElem?_getD, List.getElem?_set_ne (by omega)]

end Go.Proofs.YtagldlchamlpdabDoor
