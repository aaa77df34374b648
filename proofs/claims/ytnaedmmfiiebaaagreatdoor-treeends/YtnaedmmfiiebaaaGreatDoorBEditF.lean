import Derived.Test.YtnaedmmfiiebaaaGreatDoorG07
namespace Go.Proofs.YtnaedmmfiiebaaaGreatDoor.B
open Go.RowKit

/-- Is there a link of that number? -/
def hasLk (l : List Lk) (i : Int) : Bool := decide (0 ≤ i) && decide (i < (l.length : Int))

set_option maxHeartbeats 1000000 in
theorem bhasl_any (f i : Int) (v : Value) (l : List Lk) (w : World) (hr : LkR w v l) :
    Calls Tryz.prog 207 #[.agg #[.int .i64 f, v], .int .i64 i] w fun e w' => e = .returned (.bool (hasLk l i)) ∧ Below w.heap.size w w' := by
  obtain ⟨a, c, hv⟩ := hr.form
  subst hv
  obtain ⟨n, hn⟩ : ∃ n, n = l.length := ⟨_, rfl⟩
  have HG : Hid (hasLk l i = (decide (0 ≤ i) && decide (i < (n : Int)))) := by show _ = _; rw [hn]; rfl
  rw [← hn]
  have HB := hide (below_new w (.cells #[.int .i64 f, .slice a n c] 150))
  clear hr hn
  by_cases h0 : 0 ≤ i
  · by_cases h1 : i < (n : Int)
    · go_enter Tryz.func207, Tryz.ntmps207
      go_wp2
      go_ret
      exact ⟨by rw [HG.out]; simp [h0, h1], HB.out⟩
    · go_enter Tryz.func207, Tryz.ntmps207
      go_wp2
      go_ret
      exact ⟨by rw [HG.out]; simp [h0, h1], HB.out⟩
  · have HF : Hid (hasLk l i = false) := by show _ = _; rw [HG.out]; simp [h0]
    clear HG
    go_enter Tryz.func207, Tryz.ntmps207
    go_wp2
    go_ret
    exact ⟨by rw [HF.out]; rfl, HB.out⟩

theorem RowAt.one {w : World} {b : Nat} {x y : Value} {t : TypeId} (h : RowAt w b #[x, y] t) (y' : Value) : RowAt (w.setCell ⟨b, 1, none⟩ y') b #[x, y'] t := by
  have := set_two h x y'
  have e : w.setCell ⟨b, 0, none⟩ x = w := by
    unfold RowAt at h
    rw [setCell_eq_setRow w b 0 #[x, y] t (0, 0) x h]
    exact setRow_self w b #[x, y] t (0, 0) h
  rwa [e] at this
theorem RowAt.zero {w : World} {b : Nat} {x y : Value} {t : TypeId} (h : RowAt w b #[x, y] t) (x' : Value) : RowAt (w.setCell ⟨b, 0, none⟩ x') b #[x', y] t := by
  unfold RowAt at h ⊢
  rw [setCell_eq_setRow w b 0 #[x, y] t (0, 0) x' h]
  exact setRow_heap w b _ _ t _ h

set_option maxHeartbeats 2000000 in
theorem bremA_any (A : Nat → Addr) (f i : Int) (v : Value) (l : List Lk) (w : World) (hm : l.length ≤ 5864062014800) (hr : LkR w v l) (hE : ErrA A w) :
    Calls Tryz.prog 167 #[.agg #[.int .i64 f, v], .int .i64 i] w fun e w' =>
      ((hasLk l i = true ∧ ∃ u, e = .returned (.tuple #[.agg #[.int .i64 f, u], .nilIface]) ∧ LkO w' w.heap.size u (remL l i.toNat)) ∨
       (hasLk l i = false ∧ e = .returned (.tuple #[.agg #[.int .i64 0, .slice none 0 0], .iface 360 (.pointer (some (A 0)))]))) ∧ Below w.heap.size w w' := by
  obtain ⟨a, cap, hv⟩ := hr.form
  subst hv
  obtain ⟨n, hn⟩ : ∃ n, n = l.length := ⟨_, rfl⟩
  rw [← hn] at hm hr ⊢
  have q0 := below_new w (.cells #[.int .i64 f, .slice a n cap] 150)
  have x0 := RowAt.new w #[.int .i64 f, .slice a n cap] 150
  have s0 : (w.alloc (.cells #[.int .i64 f, .slice a n cap] 150)).heap.size = w.heap.size + 1 := by simp
  generalize hW0 : w.alloc (.cells #[.int .i64 f, .slice a n cap] 150) = W0 at *
  have q1 := below_new W0 (.cells #[.int .i64 0, .slice none 0 0] 150)
  have x1 := RowAt.new W0 #[.int .i64 0, .slice none 0 0] 150
  have s1 : (W0.alloc (.cells #[.int .i64 0, .slice none 0 0] 150)).heap.size = W0.heap.size + 1 := by simp
  generalize hW1 : W0.alloc (.cells #[.int .i64 0, .slice none 0 0] 150) = W1 at *
  have HX0 := hide (x0.below q1)
  have HX1 := hide x1
  have HQ := hide (Below.next q0 q1)
  have HR := hide (hr.below (Below.next q0 q1))
  have HE := hide (hE.below (Below.next q0 q1))
  have HS : Hid (W0.heap.size = w.heap.size + 1 ∧ W1.heap.size = w.heap.size + 2) := ⟨s0, by rw [s1, s0]⟩
  have b1 : ¬ w.heap.size = W0.heap.size := by omega
  have b2 : ¬ W0.heap.size = w.heap.size := by omega
  have hg0 : 0 < w.heap.size := World.block_lt_of_cell? w _ hE
  have b3 : ¬ 0 = W0.heap.size := by omega
  have b4 : ¬ W0.heap.size = 0 := by omega
  have HN := hide hn
  have HH := hide (bhasl_any f i _ l W1 HR.out)
  have p0 := HX0.out.c0
  have p1 := HX0.out.c1
  clear q0 x0 q1 x1 hr hE hn s0 s1 hg0
  go_enter Tryz.func167, Tryz.ntmps167
  go_wp2_with fail
  refine HH.out.mono ?_
  rintro e w1 ⟨rfl, hb1⟩
  have HB1 := hide hb1
  clear hb1 HH p0 p1
  by_cases hg : hasLk l i = true
  · rw [hg]
    have HG := hide hg
    simp only [hasLk, Bool.and_eq_true, decide_eq_true_eq] at hg
    obtain ⟨k, hk⟩ : ∃ k : Nat, i = (k : Int) := ⟨i.toNat, by omega⟩
    subst hk
    have hkl : k < l.length := by omega
    have HK := hide hkl
    have p0 := (HX0.out.below HB1.out).c0
    have p1 := (HX0.out.below HB1.out).c1
    have HCL := hide (kclone_any (.slice a n cap) l w1 (by have := HN.out; omega) (HR.out.below HB1.out))
    clear hkl
    go_wp2_with fail
    refine HCL.out.mono ?_
    rintro e w2 ⟨u2, rfl, ho2, hb2⟩
    have HD := hide (kdelete_any w1.heap.size u2 l k w2 HK.out ho2)
    have hw1 : IntKind.i64.wrap ((k : Int) + 1) = (k : Int) + 1 := by have := HK.out; have := HN.out; rw [IntKind.wrap_i64]; omega
    have HB2 := hide hb2
    clear hb2 ho2 HCL p0 p1
    go_wp2_with fail
    refine HD.out.mono ?_
    rintro e w3 ⟨u, rfl, ho3, hb3⟩
    have HBw : Hid (Below W1.heap.size W1 w3) := Below.next HB1.out (HB2.out.trans hb3)
    obtain ⟨ua, uc, hu⟩ := ho3.form
    obtain ⟨un, hun⟩ : ∃ n, n = (remL l k).length := ⟨_, rfl⟩
    rw [← hun] at hu
    subst hu
    have HO := hide ho3
    clear hun
    have HS1 := hide HB1.out.size
    have x0 := HX0.out.below HBw.out
    have x1 := HX1.out.below HBw.out
    have p0 := x0.c0
    have p1 := x0.c1
    have p2 := x0.free 1
    have p3 := x1.c0
    have p4 := x1.c1
    have p5 := x1.free 0
    have p6 := x1.free 1
    have HX0' := hide x0
    have HX1' := hide x1
    clear hb3 ho3 x0 x1 HB2 HD
    go_wp2_with fail
    have hx := HX1'.out.other (j := 1) b2 (.slice ua un uc)
    have ho := HO.out.put (g := w.heap.size) (j := 1) (fun h => by have := (HO.out.blk _ h).1; have := HS1.out; have := HS.out; omega) (.slice ua un uc)
    have ho2 := (ho.put2 (g := W0.heap.size) (by have := HS1.out; have := HS.out; omega) (.int .i64 f) (.slice ua un uc)).mono (b2 := w.heap.size) (by have := HS1.out; have := HS.out; omega)
    have hbw := below_two (b := W0.heap.size) (x := .int .i64 f) (y := .slice ua un uc) ((HQ.out.trans (HBw.out.mono (by have := HS.out; omega))).setCell (p := ⟨w.heap.size, 1, none⟩) (Nat.le_refl _) (.slice ua un uc)) (by have := HS.out; omega)
    exact bodyPost_ret (results_row_tmp rfl _ _ W0.heap.size 150 _ (0, 0) _ rfl (hx.two _ _) Tryz.underlying150 rfl (by kernel_rfl)) rfl ⟨.inl ⟨HG.out, _, rfl, ho2⟩, hbw⟩
  · rw [Bool.not_eq_true] at hg
    rw [hg]
    have HG := hide hg
    have x1 := HX1.out.below HB1.out
    have e0 : w1.cell? ⟨0, 0, none⟩ = some (.iface 360 (.pointer (some (A 0)))) := HE.out.below HB1.out
    have p3 := x1.c0
    have p4 := x1.c1
    have p5 := x1.free 0
    have p6 := x1.free 1
    have HX1' := hide x1
    clear x1
    go_wp2_with fail
    go_region_held3 (fun w' => w'.cell? ⟨0, 0, none⟩ = some (.iface 360 (.pointer (some (A 0))))) (go_keep) (fail)
    all_goals
      go_wp2_with fail
      exact bodyPost_ret (results_row_tmp rfl _ _ W0.heap.size 150 _ (0, 0) _ rfl (HX1'.out.two _ _).drew Tryz.underlying150 rfl (by kernel_rfl)) rfl ⟨.inr ⟨HG.out, rfl⟩, below_drewB (below_two (Below.next HQ.out HB1.out) (by have := HS.out; omega))⟩

theorem brem_any (A : Nat → Addr) (f i : Int) (v : Value) (l : List Lk) (w : World) (hm : l.length ≤ 5864062014800) (hr : LkR w v l) (hE : ErrC A w) :
    Calls Tryz.prog 167 #[.agg #[.int .i64 f, v], .int .i64 i] w fun e w' =>
      ((hasLk l i = true ∧ ∃ u, e = .returned (.tuple #[.agg #[.int .i64 f, u], .nilIface]) ∧ LkO w' w.heap.size u (remL l i.toNat)) ∨
       (hasLk l i = false ∧ e = .returned (.tuple #[.agg #[.int .i64 0, .slice none 0 0], .iface 360 (.pointer (some (A 0)))]))) ∧ Below w.heap.size w w' := bremA_any A f i v l w hm hr hE.a

end Go.Proofs.YtnaedmmfiiebaaaGreatDoor.B
