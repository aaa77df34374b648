import Derived.Test.YtagldlchamlpdaaDoorBBack
namespace Go.Proofs.YtagldlchamlpdaaDoor
open Go.RowKit Go.Shelf
attribute [local go_sem] Oper.semAt_some

/-- One text is not above another. -/
def leK (a b : ByteArray) : Bool := Op.bytesLess a.toList b.toList || a.toList == b.toList

set_option maxHeartbeats 1000000 in
theorem pickf_any (x : Lk) (B : Nat) (key : ByteArray) (W : World) (hc : W.cell? ⟨B, 0, none⟩ = some (.string key)) :
    Calls Tryd.prog 50 #[.agg #[.string x.1, .int .i64 x.2], .pointer (some ⟨B, 0, none⟩)] W fun e W' => e = .returned (.bool (leK x.1 key)) ∧ W' = W.alloc (.cells #[.string x.1, .int .i64 x.2] 35) := by
  have hc2 : (W.alloc (.cells #[.string x.1, .int .i64 x.2] 35)).cell? ⟨B, 0, none⟩ = some (.string key) := ((below_new W _).cell (p := ⟨B, 0, none⟩) (World.block_lt_of_cell? W _ hc)).trans hc
  go_enter Tryd.func50, Tryd.ntmps50
  go_wp2
  go_ret
  exact ⟨by simp [leK], rfl⟩

set_option maxHeartbeats 1000000 in
theorem kback_in (n : Nat) (v : Value) (hv : ∃ a l c, v = .slice a l c) (w : World) :
    CallsIn Fence.wide n Tryd.prog 72 #[v] w fun e w' => e = .returned (.func (.func 93) #[] #[.pointer (some ⟨w.heap.size, 0, none⟩)]) ∧ w' = w.alloc (.cells #[v] 25) := by
  obtain ⟨a, len, cap, rfl⟩ := hv
  refine callsIn_of_wp Tryd.func72 rfl trivial ?_ rfl
  simp only [Tryd.ntmps72, List.size_toArray, List.length_cons, List.length_nil, Nat.reduceAdd, Nat.reduceSub, Array.replicate_succ, Array.replicate_zero, List.push_toArray, List.append_toArray, List.nil_append, List.cons_append]
  gi_wp2
  go_ret
  exact ⟨rfl, rfl⟩

theorem back_stops (n : Nat) (hn : 1 ≤ n) (Bs : Nat) (v : Value) (ls : List Lk) (w0 : World) (hm : ls.length ≤ 5864062014805) (hr : LkR w0 v ls) (hc : w0.cell? ⟨Bs, 0, none⟩ = some v) :
    SeqStopsK Fence.wide n Tryd.prog 93 #[.pointer (some ⟨Bs, 0, none⟩)] encB (Below w0.heap.size) (fun ys => ys = backL ls ls.length) (fun pre => ∃ k, k < ls.length ∧ pre = backL ls (k + 1)) ls.length w0 :=
  fun l J Jx W hW _ _ hY h0 => back1_in Fence.wide n trivial rfl hn l Bs v ls w0 hm hr hc J Jx hY W hW h0

set_option maxRecDepth 100000 in
set_option maxHeartbeats 1000000 in
theorem lastof_any (v : Value) (ls : List Lk) (B : Nat) (key : ByteArray) (w : World) (hm : ls.length ≤ 5864062014805) (hr : LkR w v ls) (hk : w.cell? ⟨B, 0, none⟩ = some (.string key)) :
    Calls Tryd.prog 49 #[v, .func (.func 50) #[] #[.pointer (some ⟨B, 0, none⟩)]] w fun e W' =>
      ((e = .returned (.int .i64 (-1)) ∧ ∀ x ∈ backL ls ls.length, leK x.2.1 key = false) ∨ (∃ k : Nat, k < ls.length ∧ e = .returned (.int .i64 ((ls.length - 1 - k : Nat) : Int)) ∧ leK (ls.getD (ls.length - 1 - k) (⟨#[]⟩, 0)).1 key = true ∧ ∀ x ∈ backL ls k, leK x.2.1 key = false)) ∧ Below w.heap.size w W' := by
  refine (callsIn_wide (n := 6)).1 ?_
  refine callsIn_of_wp_marks Tryd.func49 rfl trivial ?_ rfl
  simp only [Tryd.ntmps49, List.size_toArray, List.length_cons, List.length_nil, Nat.reduceAdd, Nat.reduceSub, Array.replicate_succ, Array.replicate_zero, List.push_toArray, List.append_toArray, List.nil_append, List.cons_append]
  have HK := hide (fun n w => kback_in n v (by obtain ⟨a, c, h⟩ := hr.form; exact ⟨_, _, _, h⟩) w)
  gi_wp2_with (refine ⟨trivial, ?_⟩; gi_at_call 72; refine (HK.out _ _).mono ?_; rintro e w' ⟨rfl, rfl⟩)
  have q1 := below_new w (.cells #[.func (.func 50) #[] #[.pointer (some ⟨B, 0, none⟩)]] 85)
  have bC := ((Go.Boxed.new w 85 (.func (.func 50) #[] #[.pointer (some ⟨B, 0, none⟩)])).alloc (.cells #[.int .i64 0] 3)).alloc (.cells #[v] 25)
  have bR := (Go.Boxed.new (w.alloc (.cells #[.func (.func 50) #[] #[.pointer (some ⟨B, 0, none⟩)]] 85)) 3 (.int .i64 0)).alloc (.cells #[v] 25)
  have bS   := Go.Boxed.new ((w.alloc (.cells #[.func (.func 50) #[] #[.pointer (some ⟨B, 0, none⟩)]] 85)).alloc (.cells #[.int .i64 0] 3)) 25 v
  simp only [World.size_alloc] at bR bS
  have hB0 : Below w.heap.size w (((w.alloc (.cells #[.func (.func 50) #[] #[.pointer (some ⟨B, 0, none⟩)]] 85)).alloc (.cells #[.int .i64 0] 3)).alloc (.cells #[v] 25)) := (((Below.refl _ w).alloc (Nat.le_refl _) _).alloc (by simp) _).alloc (by simp; omega) _
  have hsz : (((w.alloc (.cells #[.func (.func 50) #[] #[.pointer (some ⟨B, 0, none⟩)]] 85)).alloc (.cells #[.int .i64 0] 3)).alloc (.cells #[v] 25)).heap.size = w.heap.size + 3 := by simp
  obtain ⟨W0, hW0⟩ : ∃ W0, ((w.alloc (.cells #[.func (.func 50) #[] #[.pointer (some ⟨B, 0, none⟩)]] 85)).alloc (.cells #[.int .i64 0] 3)).alloc (.cells #[v] 25) = W0 := ⟨_, rfl⟩
  rw [hW0] at bC bR bS hB0 hsz ⊢
  clear hW0 HK q1
  have hkB : ∀ W, Below w.heap.size w W → W.cell? ⟨B, 0, none⟩ = some (.string key) := fun W h => (h.cell (p := ⟨B, 0, none⟩) (World.block_lt_of_cell? w _ hk)).trans hk
  refine wpIn_rangeFunc_ownH rfl (by decide) (gf := 93) (lb := #[.pointer (some ⟨w.heap.size + 1 + 1, 0, none⟩)]) rfl trivial (enters_of Tryd.func93 (by kernel_rfl) rfl)
    (back_stops 5 (by decide) (w.heap.size + 1 + 1) v ls W0 hm (hr.below hB0) bS.cell) belowK_t (belowK_b (Nat.le_refl _)) (Below.refl _ _) (fun _ => rfl)
    (fun pre W => ((Go.Boxed W w.heap.size 85 (.func (.func 50) #[] #[.pointer (some ⟨B, 0, none⟩)]) ∧ Go.Boxed W (w.heap.size + 1) 3 (.int .i64 0)) ∧ Below w.heap.size w W) ∧ ((∀ x ∈ pre, leK x.2.1 key = false) ∧ W0.heap.size ≤ W.heap.size))
    (fun c pre W => (c = .ret ∧ ∃ ini last, pre = ini ++ [last] ∧ (∀ x ∈ ini, leK x.2.1 key = false) ∧ leK last.2.1 key = true ∧ W.cell? ⟨w.heap.size + 1, 0, none⟩ = some (.int .i64 (last.1 : Int))) ∧ Below w.heap.size w W)
    ?hI ?hIx ?h0
    (fun x a' W => ∃ Bx, w.heap.size + 2 < Bx ∧ W.cell? ⟨Bx, 0, none⟩ = some (.string x.2.1) ∧ W.cell? ⟨Bx, 1, none⟩ = some (.int .i64 x.2.2) ∧ a' = { tmps := #[v, .func (.func 50) #[] #[.pointer (some ⟨B, 0, none⟩)], undef, .pointer (some ⟨w.heap.size, 0, none⟩), .pointer (some ⟨w.heap.size + 1, 0, none⟩), .int .i64 (x.1 : Int), .pointer (some ⟨Bx, 0, none⟩), v, .func (.func 93) #[] #[.pointer (some ⟨w.heap.size + 1 + 1, 0, none⟩)], .int .i64 (x.1 : Int), .agg #[.string x.2.1, .int .i64 x.2.2], undef, undef, undef, undef], defers := [] })
    ?hAx ?assign ?body ?done ?stop
  case hI => exact OwnFrom.and (OwnFrom.and (OwnFrom.and (Own.from (boxed_own _ _ _) _) (Own.from (boxed_own _ _ _) _)) (ownFrom_below (Nat.le_refl _) (by omega))) (Own.from (fun _ _ _ _ hs hg _ => ⟨hs.1, Nat.le_trans hs.2 hg.size⟩) _)
  case hIx => exact fun c => OwnFrom.and (Own.from (fun s A B row hs hg hr => by obtain ⟨hc, ini, last, e1, e2, e3, e4⟩ := hs; exact ⟨hc, ini, last, e1, e2, e3, cell_kept e4 hg hr⟩) _) (ownFrom_below (Nat.le_refl _) (by omega))
  case h0 => exact ⟨⟨⟨bC, bR⟩, hB0⟩, by simp, Nat.le_refl _⟩
  case hAx => exact fun x a' _ X Y row hs hg hr => by obtain ⟨Bx, h1, h2, h3, h4⟩ := hs; exact ⟨Bx, h1, cell_kept h2 hg (fun r e => (hr r e).2), cell_kept h3 hg (fun r e => (hr r e).2), h4⟩
  case assign =>
    rintro l pre x W K hi hK
    obtain ⟨⟨⟨b1, b2⟩, hb⟩, hp, hs⟩ := hi
    simp only [encB]
    gi_wp2
    exact hK _ _ ((KeepsOthers.alloc _ _).from _) ((Below.refl _ W).alloc hs _) ⟨⟨⟨b1.alloc _, b2.alloc _⟩, hb.alloc hb.size _⟩, hp, Nat.le_trans hs (by simp)⟩ ⟨W.heap.size, by omega, RowAt.c0 (RowAt.new W _ 35), RowAt.c1 (RowAt.new W _ 35), rfl⟩
  case body =>
    rintro l pre x a' W hl ⟨r, hr'⟩ ⟨⟨⟨b1, b2⟩, hb⟩, hp, hs⟩ ⟨Bx, hBx, c1, c2, rfl⟩ hlt
    have k1 := b1.cell
    have k2 := (b2.alloc (.cells #[.string x.2.1, .int .i64 x.2.2] 35)).cell
    have kf := (b2.alloc (.cells #[.string x.2.1, .int .i64 x.2.2] 35)).frozen
    have hkW := hkB W hb
    gi_wp2_with (refine ⟨trivial, ?_⟩; gi_at_call 50; refine (CallsIn.inRound l (callsIn_wide.2 (pickf_any _ _ key _ hkW))).mono ?_; rintro e w' ⟨rfl, rfl⟩)
    · have hx : leK x.2.1 key = true := by assumption
      exact ⟨((KeepsOthers.alloc _ _).from _).trans ((KeepsOthers.setCell _ _ _).from _), ⟨rfl, pre, x, rfl, hp, hx, World.cell?_setCell_same' _ _ _ (by rw [k2]; rfl)⟩, (hb.alloc hb.size _).setCell (p := ⟨w.heap.size + 1, 0, none⟩) (by simp) _⟩
    · have hx : leK x.2.1 key = false := by assumption
      exact ⟨(KeepsOthers.alloc _ _).from _, (Below.refl _ W).alloc hs _, ⟨⟨b1.alloc _, b2.alloc _⟩, hb.alloc hb.size _⟩, fun p hp' => (List.mem_append.1 hp').elim (hp p) (fun e => by simp at e; subst e; exact hx), Nat.le_trans hs (by simp)⟩
  case done =>
    rintro D ys W hD rfl ⟨⟨⟨b1, b2⟩, hb⟩, hp, _⟩ hK
    have k2 := b2.cell
    have kf := b2.frozen
    gi_wp2
    have hK' := (KeepsOthers.setCell W ⟨w.heap.size + 1, 0, none⟩ (.int .i64 (-1))).same D _ hK rfl
    refine ⟨by simp, .inl ⟨_, _, rfl, run_takeDeferred hK', ?_⟩⟩
    have hc5 := cell_kept (World.cell?_setCell_same' W ⟨w.heap.size + 1, 0, none⟩ (.int .i64 (-1)) (by rw [k2]; rfl)) (grownBy_putObj' _ D (.deferred none)) (fun r e => by cases e; exact ⟨_, hK', rfl⟩)
    refine ⟨.int .i64 (-1), ?_, .inl ⟨rfl, hp⟩, (hb.setCell (p := ⟨w.heap.size + 1, 0, none⟩) (by simp) _).trans (belowK_b (w := w) (Nat.le_refl _) _ D _ _ (by omega) hK' rfl rfl)⟩
    simp [results, Tryd.f49, go_sem, hc5]
  case stop =>
    rintro D c pre W hD ⟨k, hk, rfl⟩ ⟨⟨rfl, ini, last, e1, e2, e3, hcr⟩, hB⟩ hK
    gi_wp2
    refine ⟨by simp, .inl ⟨_, _, rfl, run_takeDeferred hK, ?_⟩⟩
    have hc5 := cell_kept hcr (grownBy_putObj' _ D (.deferred none)) (fun r e => by cases e; exact ⟨_, hK, rfl⟩)
    rw [backL_succ] at e1
    obtain ⟨rfl, e5⟩ := List.append_inj' e1 rfl
    obtain rfl : _ = last := List.singleton_inj.1 e5
    refine ⟨_, ?_, .inr ⟨k, hk, rfl, e3, e2⟩, hB.trans (belowK_b (w := w) (Nat.le_refl _) W D _ _ (by omega) hK rfl rfl)⟩
    simp [results, Tryd.f49, go_sem, hc5]
end Go.Proofs.YtagldlchamlpdaaDoor
