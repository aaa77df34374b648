import Derived.Test.YtdghlblgmihbpaaDoorFBStep0
namespace Go.Proofs.YtdghlblgmihbpaaDoor
open Go.RowKit

structure StepPost (b g c bm gm P : Nat) (T' : Nat → Bool) (w w' : World) : Prop where
  book : BookR w' b g c P T'
  map : MapR w' bm gm P T'
  only : Only (fun k => k = gm ∨ k = g) w w'
theorem StepIn.post {w w4 w5 : World} {b g c bm gm P : Nat} {T : Nat → Bool} {s : SaidD} {v : Value} {K O n : Int} {gb : Nat} (h : StepIn w w4 b g c bm gm P T T s v K O n gb) (hb : Below w4.heap.size w4 w5) : StepPost b g c bm gm P T w w5 :=
  ⟨h.book.below hb, h.map.below hb, (h.only.imp (fun _ _ h => Or.inl h)).trans (Only.of_below hb)⟩
theorem StepIn.post2 {w w4 w5 : World} {b g c bm gm P : Nat} {T T' : Nat → Bool} {s : SaidD} {v : Value} {K O n : Int} {gb : Nat} (h : StepIn w w4 b g c bm gm P T T' s v K O n gb) (hk : BookR w5 b g c P T') (ho : Only (fun k => k = g) w4 w5) (h1 : g ≠ bm) (h2 : g ≠ gm) : StepPost b g c bm gm P T' w w5 :=
  ⟨hk, h.map.only ho (fun e => h1 e.symm) (fun e => h2 e.symm), (h.only.imp (fun _ _ h => Or.inl h)).trans (ho.imp (fun _ _ h => Or.inr h))⟩
theorem takeD_full {P m : Nat} {T : Nat → Bool} (h : (frl T P).length < m) : takeD P T (m : Int) = (some 6, [], T) := by
  unfold takeD
  rw [if_neg (by omega), Int.toNat_natCast, if_pos h]
theorem drewN_below (w : World) (n : Nat) : Below w.heap.size w (w.drewN n) := ⟨rfl, rfl, rfl, Nat.le_refl _, fun _ _ => rfl⟩

set_option maxRecDepth 100000 in
set_option maxHeartbeats 2000000 in
theorem bstep_mark0 (A : Nat → Addr) (base : Nat) (b g c bm gm P : Nat) (T : Nat → Bool) (w : World) (h : BookR w b g c P T) (hm : MapR w bm gm P T) (hok : MapOk P T) (hE : Env base A w) (hgb : base ≤ gm) (h1 : b ≠ gm) (h2 : g ≠ gm) (h3 : g ≠ bm) (K O : Int) (n : Int) (hk : K = 1) (ht : treeB P n = false) :
    Calls Tryd.prog 24 #[.pointer (some ⟨b, 0, none⟩), .pointer (some ⟨bm, 0, none⟩), .agg #[.int .i64 K, .int .i64 O, .int .i64 n]] w fun e w' => e = .returned (.bool true) ∧ StepPost b g c bm gm P (actD P T K n).1 w w' := by
  have e1 : (K == 1) = true := by rw [hk]; decide
  obtain ⟨w2, hw2⟩ : ∃ w2, w2 = w.alloc (.cells #[.int .i64 K, .int .i64 O, .int .i64 n] 33) := ⟨_, rfl⟩
  have hbn : Below w.heap.size w w2 := by rw [hw2]; exact below_new _ _
  have hbx : Boxed w.heap.size [.int .i64 K, .int .i64 O, .int .i64 n] w2 := by rw [hw2]; exact boxed_new w #[.int .i64 K, .int .i64 O, .int .i64 n] 33
  have q0 : w2.cell? ⟨w.heap.size, 0, none⟩ = some (.int .i64 K) := hbx.2 0 (by simp)
  have q1 : w2.cell? ⟨w.heap.size, 1, none⟩ = some (.int .i64 O) := hbx.2 1 (by simp)
  have q2 : w2.cell? ⟨w.heap.size, 2, none⟩ = some (.int .i64 n) := hbx.2 2 (by simp)
  have AC := hide (act_any base A bm gm P T w2 (hm.below hbn) hok (hE.up hbn) hgb K O n)
  have SIN : Hid (∀ w3 v, ActPost w2 bm gm P (actD P T K n) (.returned (.agg (saidC (actD P T K n).2 v))) w3 v → StepIn w (w3.alloc (.cells (saidC (actD P T K n).2 v) 30)) b g c bm gm P T (actD P T K n).1 (actD P T K n).2 v K O n w3.heap.size) := fun w3 v hp => step_in hw2 h hm h1 h2 hp
  have HACT : Hid (actD P T K n = (T, (⟨1, 0, 0, false, []⟩ : SaidD))) := by
    show actD P T K n = _
    simp [actD, hk, markD, ht, numE, said0]
  rw [HACT.out] at AC SIN ⊢
  have HNE : Hid (g ≠ bm ∧ g ≠ gm) := ⟨h3, h2⟩
  have HGL := hide h.ltg
  clear h hm hE hbn hbx h1 h2 h3 hk hok
  go_enter Tryd.func24, Tryd.ntmps24
  go_wp2_with fail
  rw [← hw2]
  clear hw2
  refine AC.out.mono ?_
  rintro e w3 ⟨v, hp⟩
  obtain ⟨rfl, hp2⟩ : e = _ ∧ True := ⟨hp.ret, trivial⟩
  obtain ⟨va, vc, rfl, -⟩ := owns_form hp.rl
  simp only [List.length_nil] at hp
  have HI := hide (SIN.out w3 _ hp)
  have hst := said_new w3 (⟨1, 0, 0, false, []⟩ : SaidD) (.slice va 0 vc) rfl
  clear hp hp2 SIN AC q0 q1 q2
  have k0 := HI.out.box.2 0 (by simp)
  have k2 := HI.out.box.2 2 (by simp)
  have e0 := HI.out.got.2 0 (by simp [saidC])
  have e4 := HI.out.got.2 4 (by simp [saidC])
  simp only [saidC, List.getElem_cons_zero, List.getElem_cons_succ] at k0 k2 e0 e4
  obtain ⟨w4, hw4⟩ : ∃ w4, w4 = w3.alloc (.cells (saidC (⟨1, 0, 0, false, []⟩ : SaidD) (.slice va 0 vc)) 30) := ⟨_, rfl⟩
  unfold zSaid at hst
  rw [← hw4] at hst HI
  simp only [saidC] at hw4
  rw [← hw4] at k0 k2 e0 e4
  clear hw4
  have BT := hide (btree_any b g c P T n w4 HI.out.book)
  rw [ht] at BT
  clear ht
  go_wp2_with (refine wpList_store_eq rfl 30 _ _ rfl _ _ rfl rfl hst ?_)
  refine BT.out.mono ?_
  rintro e w5 ⟨rfl, rfl⟩
  clear BT
  go_wp2
  go_ret
  exact ⟨rfl, HI.out.post (Below.refl _ _)⟩

set_option maxRecDepth 100000 in
set_option maxHeartbeats 2000000 in
theorem bstep_mark1 (A : Nat → Addr) (base : Nat) (b g c bm gm P : Nat) (T : Nat → Bool) (w : World) (h : BookR w b g c P T) (hm : MapR w bm gm P T) (hok : MapOk P T) (hE : Env base A w) (hgb : base ≤ gm) (h1 : b ≠ gm) (h2 : g ≠ gm) (h3 : g ≠ bm) (K O : Int) (m : Nat) (hk : K = 1) (hm2 : 2 ≤ m) (hmP : m < P) (hT : T m = true) :
    Calls Tryd.prog 24 #[.pointer (some ⟨b, 0, none⟩), .pointer (some ⟨bm, 0, none⟩), .agg #[.int .i64 K, .int .i64 O, .int .i64 (m : Int)]] w fun e w' => e = .returned (.bool true) ∧ StepPost b g c bm gm P (actD P T K (m : Int)).1 w w' := by
  have e1 : (K == 1) = true := by rw [hk]; decide
  have HTR : Hid (treeB P (m : Int) = true) := by show treeB P (m : Int) = true; simp [treeB]; omega
  obtain ⟨w2, hw2⟩ : ∃ w2, w2 = w.alloc (.cells #[.int .i64 K, .int .i64 O, .int .i64 (m : Int)] 33) := ⟨_, rfl⟩
  have hbn : Below w.heap.size w w2 := by rw [hw2]; exact below_new _ _
  have hbx : Boxed w.heap.size [.int .i64 K, .int .i64 O, .int .i64 (m : Int)] w2 := by rw [hw2]; exact boxed_new w #[.int .i64 K, .int .i64 O, .int .i64 (m : Int)] 33
  have q0 : w2.cell? ⟨w.heap.size, 0, none⟩ = some (.int .i64 K) := hbx.2 0 (by simp)
  have q1 : w2.cell? ⟨w.heap.size, 1, none⟩ = some (.int .i64 O) := hbx.2 1 (by simp)
  have q2 : w2.cell? ⟨w.heap.size, 2, none⟩ = some (.int .i64 (m : Int)) := hbx.2 2 (by simp)
  have AC := hide (act_any base A bm gm P T w2 (hm.below hbn) hok (hE.up hbn) hgb K O (m : Int))
  have SIN : Hid (∀ w3 v, ActPost w2 bm gm P (actD P T K (m : Int)) (.returned (.agg (saidC (actD P T K (m : Int)).2 v))) w3 v → StepIn w (w3.alloc (.cells (saidC (actD P T K (m : Int)).2 v) 30)) b g c bm gm P T (actD P T K (m : Int)).1 (actD P T K (m : Int)).2 v K O (m : Int) w3.heap.size) := fun w3 v hp => step_in hw2 h hm h1 h2 hp
  have HACT : Hid (actD P T K (m : Int) = (T, (⟨5, 0, 0, false, []⟩ : SaidD))) := by
    show actD P T K (m : Int) = _
    simp [actD, hk, markD, HTR.out, hT, numE, said0]
  rw [HACT.out] at AC SIN ⊢
  have HNE : Hid (g ≠ bm ∧ g ≠ gm) := ⟨h3, h2⟩
  have HGL := hide h.ltg
  clear h hm hE hbn hbx h1 h2 h3 hk hok hm2
  go_enter Tryd.func24, Tryd.ntmps24
  go_wp2_with fail
  rw [← hw2]
  clear hw2
  refine AC.out.mono ?_
  rintro e w3 ⟨v, hp⟩
  obtain ⟨rfl, hp2⟩ : e = _ ∧ True := ⟨hp.ret, trivial⟩
  obtain ⟨va, vc, rfl, -⟩ := owns_form hp.rl
  simp only [List.length_nil] at hp
  have HI := hide (SIN.out w3 _ hp)
  have hst := said_new w3 (⟨5, 0, 0, false, []⟩ : SaidD) (.slice va 0 vc) rfl
  clear hp hp2 SIN AC q0 q1 q2
  have k0 := HI.out.box.2 0 (by simp)
  have k2 := HI.out.box.2 2 (by simp)
  have e0 := HI.out.got.2 0 (by simp [saidC])
  have e4 := HI.out.got.2 4 (by simp [saidC])
  simp only [saidC, List.getElem_cons_zero, List.getElem_cons_succ] at k0 k2 e0 e4
  obtain ⟨w4, hw4⟩ : ∃ w4, w4 = w3.alloc (.cells (saidC (⟨5, 0, 0, false, []⟩ : SaidD) (.slice va 0 vc)) 30) := ⟨_, rfl⟩
  unfold zSaid at hst
  rw [← hw4] at hst HI
  simp only [saidC] at hw4
  rw [← hw4] at k0 k2 e0 e4
  clear hw4
  have BT := hide (btree_any b g c P T m w4 HI.out.book)
  rw [HTR.out] at BT
  have c0 := HI.out.book.c0
  have ck := HI.out.book.cr m hmP
  rw [hT] at ck
  clear hT
  have hmI : (m : Int) < (P : Int) := by omega
  have m0I : (0 : Int) ≤ (m : Int) := by omega
  go_wp2_with (refine wpList_store_eq rfl 30 _ _ rfl _ _ rfl rfl hst ?_)
  refine BT.out.mono ?_
  rintro e w5 ⟨rfl, rfl⟩
  clear BT
  go_wp2_with fail
  go_quiet (fail)
  have HBD := hide (drewN_below w4 nq)
  go_wp2
  go_ret
  exact ⟨rfl, HI.out.post HBD.out⟩

set_option maxRecDepth 100000 in
set_option maxHeartbeats 2000000 in
theorem bstep_mark2 (A : Nat → Addr) (base : Nat) (b g c bm gm P : Nat) (T : Nat → Bool) (w : World) (h : BookR w b g c P T) (hm : MapR w bm gm P T) (hok : MapOk P T) (hE : Env base A w) (hgb : base ≤ gm) (h1 : b ≠ gm) (h2 : g ≠ gm) (h3 : g ≠ bm) (K O : Int) (m : Nat) (hk : K = 1) (hm2 : 2 ≤ m) (hmP : m < P) (hT : T m = false) :
    Calls Tryd.prog 24 #[.pointer (some ⟨b, 0, none⟩), .pointer (some ⟨bm, 0, none⟩), .agg #[.int .i64 K, .int .i64 O, .int .i64 (m : Int)]] w fun e w' => e = .returned (.bool true) ∧ StepPost b g c bm gm P (actD P T K (m : Int)).1 w w' := by
  have e1 : (K == 1) = true := by rw [hk]; decide
  have HTR : Hid (treeB P (m : Int) = true) := by show treeB P (m : Int) = true; simp [treeB]; omega
  obtain ⟨w2, hw2⟩ : ∃ w2, w2 = w.alloc (.cells #[.int .i64 K, .int .i64 O, .int .i64 (m : Int)] 33) := ⟨_, rfl⟩
  have hbn : Below w.heap.size w w2 := by rw [hw2]; exact below_new _ _
  have hbx : Boxed w.heap.size [.int .i64 K, .int .i64 O, .int .i64 (m : Int)] w2 := by rw [hw2]; exact boxed_new w #[.int .i64 K, .int .i64 O, .int .i64 (m : Int)] 33
  have q0 : w2.cell? ⟨w.heap.size, 0, none⟩ = some (.int .i64 K) := hbx.2 0 (by simp)
  have q1 : w2.cell? ⟨w.heap.size, 1, none⟩ = some (.int .i64 O) := hbx.2 1 (by simp)
  have q2 : w2.cell? ⟨w.heap.size, 2, none⟩ = some (.int .i64 (m : Int)) := hbx.2 2 (by simp)
  have AC := hide (act_any base A bm gm P T w2 (hm.below hbn) hok (hE.up hbn) hgb K O (m : Int))
  have SIN : Hid (∀ w3 v, ActPost w2 bm gm P (actD P T K (m : Int)) (.returned (.agg (saidC (actD P T K (m : Int)).2 v))) w3 v → StepIn w (w3.alloc (.cells (saidC (actD P T K (m : Int)).2 v) 30)) b g c bm gm P T (actD P T K (m : Int)).1 (actD P T K (m : Int)).2 v K O (m : Int) w3.heap.size) := fun w3 v hp => step_in hw2 h hm h1 h2 hp
  have HACT : Hid (actD P T K (m : Int) = (upd T m true, (⟨0, 0, 0, false, []⟩ : SaidD))) := by
    show actD P T K (m : Int) = _
    simp [actD, hk, markD, HTR.out, hT, numE, said0]
  rw [HACT.out] at AC SIN ⊢
  have HNE : Hid (g ≠ bm ∧ g ≠ gm) := ⟨h3, h2⟩
  have HGL := hide h.ltg
  clear h hm hE hbn hbx h1 h2 h3 hk hok hm2
  go_enter Tryd.func24, Tryd.ntmps24
  go_wp2_with fail
  rw [← hw2]
  clear hw2
  refine AC.out.mono ?_
  rintro e w3 ⟨v, hp⟩
  obtain ⟨rfl, hp2⟩ : e = _ ∧ True := ⟨hp.ret, trivial⟩
  obtain ⟨va, vc, rfl, -⟩ := owns_form hp.rl
  simp only [List.length_nil] at hp
  have HI := hide (SIN.out w3 _ hp)
  have hst := said_new w3 (⟨0, 0, 0, false, []⟩ : SaidD) (.slice va 0 vc) rfl
  clear hp hp2 SIN AC q0 q1 q2
  have k0 := HI.out.box.2 0 (by simp)
  have k2 := HI.out.box.2 2 (by simp)
  have e0 := HI.out.got.2 0 (by simp [saidC])
  have e4 := HI.out.got.2 4 (by simp [saidC])
  simp only [saidC, List.getElem_cons_zero, List.getElem_cons_succ] at k0 k2 e0 e4
  obtain ⟨w4, hw4⟩ : ∃ w4, w4 = w3.alloc (.cells (saidC (⟨0, 0, 0, false, []⟩ : SaidD) (.slice va 0 vc)) 30) := ⟨_, rfl⟩
  unfold zSaid at hst
  rw [← hw4] at hst HI
  simp only [saidC] at hw4
  rw [← hw4] at k0 k2 e0 e4
  clear hw4
  have BT := hide (btree_any b g c P T m w4 HI.out.book)
  rw [HTR.out] at BT
  have c0 := HI.out.book.c0
  have ck := HI.out.book.cr m hmP
  rw [hT] at ck
  clear hT
  have hmI : (m : Int) < (P : Int) := by omega
  have m0I : (0 : Int) ≤ (m : Int) := by omega
  have cz := HI.out.book.row.frozenAt m
  have hn1 : ¬ g = w3.heap.size := by have := HGL.out; have := HI.out.lt; omega
  have hn2 : ¬ w3.heap.size = g := fun e => hn1 e.symm
  have HST := hide (HI.out.book.stored m true)
  go_wp2_with (refine wpList_store_eq rfl 30 _ _ rfl _ _ rfl rfl hst ?_)
  refine BT.out.mono ?_
  rintro e w5 ⟨rfl, rfl⟩
  clear BT
  go_wp2_with fail
  go_quiet (fail)
  have HBD := hide (drewN_below w4 nq)
  go_wp2_with fail
  go_region
  go_wp2
  go_ret
  refine ⟨rfl, HI.out.post2 (w5 := _) ?_ ?_ HNE.out.1 HNE.out.2⟩
  · exact ⟨HST.out.blk, HST.out.row⟩
  · have h := Only.set (F := fun k => k = g) rfl m w4 (.bool true)
    exact ⟨h.os, h.tape, h.output, h.size, h.block⟩

set_option maxRecDepth 100000 in
set_option maxHeartbeats 2000000 in
theorem bstep_clear0 (A : Nat → Addr) (base : Nat) (b g c bm gm P : Nat) (T : Nat → Bool) (w : World) (h : BookR w b g c P T) (hm : MapR w bm gm P T) (hok : MapOk P T) (hE : Env base A w) (hgb : base ≤ gm) (h1 : b ≠ gm) (h2 : g ≠ gm) (h3 : g ≠ bm) (K O : Int) (n : Int) (hk : K = 2) (ht : treeB P n = false) :
    Calls Tryd.prog 24 #[.pointer (some ⟨b, 0, none⟩), .pointer (some ⟨bm, 0, none⟩), .agg #[.int .i64 K, .int .i64 O, .int .i64 n]] w fun e w' => e = .returned (.bool true) ∧ StepPost b g c bm gm P (actD P T K n).1 w w' := by
  have e1 : (K == 1) = false := by rw [hk]; decide
  have e2 : (K == 2) = true := by rw [hk]; decide
  obtain ⟨w2, hw2⟩ : ∃ w2, w2 = w.alloc (.cells #[.int .i64 K, .int .i64 O, .int .i64 n] 33) := ⟨_, rfl⟩
  have hbn : Below w.heap.size w w2 := by rw [hw2]; exact below_new _ _
  have hbx : Boxed w.heap.size [.int .i64 K, .int .i64 O, .int .i64 n] w2 := by rw [hw2]; exact boxed_new w #[.int .i64 K, .int .i64 O, .int .i64 n] 33
  have q0 : w2.cell? ⟨w.heap.size, 0, none⟩ = some (.int .i64 K) := hbx.2 0 (by simp)
  have q1 : w2.cell? ⟨w.heap.size, 1, none⟩ = some (.int .i64 O) := hbx.2 1 (by simp)
  have q2 : w2.cell? ⟨w.heap.size, 2, none⟩ = some (.int .i64 n) := hbx.2 2 (by simp)
  have AC := hide (act_any base A bm gm P T w2 (hm.below hbn) hok (hE.up hbn) hgb K O n)
  have SIN : Hid (∀ w3 v, ActPost w2 bm gm P (actD P T K n) (.returned (.agg (saidC (actD P T K n).2 v))) w3 v → StepIn w (w3.alloc (.cells (saidC (actD P T K n).2 v) 30)) b g c bm gm P T (actD P T K n).1 (actD P T K n).2 v K O n w3.heap.size) := fun w3 v hp => step_in hw2 h hm h1 h2 hp
  have HACT : Hid (actD P T K n = (T, (⟨1, 0, 0, false, []⟩ : SaidD))) := by
    show actD P T K n = _
    simp [actD, hk, clearD, ht, numE, said0]
  rw [HACT.out] at AC SIN ⊢
  have HNE : Hid (g ≠ bm ∧ g ≠ gm) := ⟨h3, h2⟩
  have HGL := hide h.ltg
  clear h hm hE hbn hbx h1 h2 h3 hk hok
  go_enter Tryd.func24, Tryd.ntmps24
  go_wp2_with fail
  rw [← hw2]
  clear hw2
  refine AC.out.mono ?_
  rintro e w3 ⟨v, hp⟩
  obtain ⟨rfl, hp2⟩ : e = _ ∧ True := ⟨hp.ret, trivial⟩
  obtain ⟨va, vc, rfl, -⟩ := owns_form hp.rl
  simp only [List.length_nil] at hp
  have HI := hide (SIN.out w3 _ hp)
  have hst := said_new w3 (⟨1, 0, 0, false, []⟩ : SaidD) (.slice va 0 vc) rfl
  clear hp hp2 SIN AC q0 q1 q2
  have k0 := HI.out.box.2 0 (by simp)
  have k2 := HI.out.box.2 2 (by simp)
  have e0 := HI.out.got.2 0 (by simp [saidC])
  have e4 := HI.out.got.2 4 (by simp [saidC])
  simp only [saidC, List.getElem_cons_zero, List.getElem_cons_succ] at k0 k2 e0 e4
  obtain ⟨w4, hw4⟩ : ∃ w4, w4 = w3.alloc (.cells (saidC (⟨1, 0, 0, false, []⟩ : SaidD) (.slice va 0 vc)) 30) := ⟨_, rfl⟩
  unfold zSaid at hst
  rw [← hw4] at hst HI
  simp only [saidC] at hw4
  rw [← hw4] at k0 k2 e0 e4
  clear hw4
  have BT := hide (btree_any b g c P T n w4 HI.out.book)
  rw [ht] at BT
  clear ht
  go_wp2_with (refine wpList_store_eq rfl 30 _ _ rfl _ _ rfl rfl hst ?_)
  refine BT.out.mono ?_
  rintro e w5 ⟨rfl, rfl⟩
  clear BT
  go_wp2
  go_ret
  exact ⟨rfl, HI.out.post (Below.refl _ _)⟩

set_option maxRecDepth 100000 in
set_option maxHeartbeats 2000000 in
theorem bstep_clear1 (A : Nat → Addr) (base : Nat) (b g c bm gm P : Nat) (T : Nat → Bool) (w : World) (h : BookR w b g c P T) (hm : MapR w bm gm P T) (hok : MapOk P T) (hE : Env base A w) (hgb : base ≤ gm) (h1 : b ≠ gm) (h2 : g ≠ gm) (h3 : g ≠ bm) (K O : Int) (m : Nat) (hk : K = 2) (hm2 : 2 ≤ m) (hmP : m < P) (hT : T m = false) :
    Calls Tryd.prog 24 #[.pointer (some ⟨b, 0, none⟩), .pointer (some ⟨bm, 0, none⟩), .agg #[.int .i64 K, .int .i64 O, .int .i64 (m : Int)]] w fun e w' => e = .returned (.bool true) ∧ StepPost b g c bm gm P (actD P T K (m : Int)).1 w w' := by
  have e1 : (K == 1) = false := by rw [hk]; decide
  have e2 : (K == 2) = true := by rw [hk]; decide
  have HTR : Hid (treeB P (m : Int) = true) := by show treeB P (m : Int) = true; simp [treeB]; omega
  obtain ⟨w2, hw2⟩ : ∃ w2, w2 = w.alloc (.cells #[.int .i64 K, .int .i64 O, .int .i64 (m : Int)] 33) := ⟨_, rfl⟩
  have hbn : Below w.heap.size w w2 := by rw [hw2]; exact below_new _ _
  have hbx : Boxed w.heap.size [.int .i64 K, .int .i64 O, .int .i64 (m : Int)] w2 := by rw [hw2]; exact boxed_new w #[.int .i64 K, .int .i64 O, .int .i64 (m : Int)] 33
  have q0 : w2.cell? ⟨w.heap.size, 0, none⟩ = some (.int .i64 K) := hbx.2 0 (by simp)
  have q1 : w2.cell? ⟨w.heap.size, 1, none⟩ = some (.int .i64 O) := hbx.2 1 (by simp)
  have q2 : w2.cell? ⟨w.heap.size, 2, none⟩ = some (.int .i64 (m : Int)) := hbx.2 2 (by simp)
  have AC := hide (act_any base A bm gm P T w2 (hm.below hbn) hok (hE.up hbn) hgb K O (m : Int))
  have SIN : Hid (∀ w3 v, ActPost w2 bm gm P (actD P T K (m : Int)) (.returned (.agg (saidC (actD P T K (m : Int)).2 v))) w3 v → StepIn w (w3.alloc (.cells (saidC (actD P T K (m : Int)).2 v) 30)) b g c bm gm P T (actD P T K (m : Int)).1 (actD P T K (m : Int)).2 v K O (m : Int) w3.heap.size) := fun w3 v hp => step_in hw2 h hm h1 h2 hp
  have HACT : Hid (actD P T K (m : Int) = (T, (⟨6, 0, 0, false, []⟩ : SaidD))) := by
    show actD P T K (m : Int) = _
    simp [actD, hk, clearD, HTR.out, hT, numE, said0]
  rw [HACT.out] at AC SIN ⊢
  have HNE : Hid (g ≠ bm ∧ g ≠ gm) := ⟨h3, h2⟩
  have HGL := hide h.ltg
  clear h hm hE hbn hbx h1 h2 h3 hk hok hm2
  go_enter Tryd.func24, Tryd.ntmps24
  go_wp2_with fail
  rw [← hw2]
  clear hw2
  refine AC.out.mono ?_
  rintro e w3 ⟨v, hp⟩
  obtain ⟨rfl, hp2⟩ : e = _ ∧ True := ⟨hp.ret, trivial⟩
  obtain ⟨va, vc, rfl, -⟩ := owns_form hp.rl
  simp only [List.length_nil] at hp
  have HI := hide (SIN.out w3 _ hp)
  have hst := said_new w3 (⟨6, 0, 0, false, []⟩ : SaidD) (.slice va 0 vc) rfl
  clear hp hp2 SIN AC q0 q1 q2
  have k0 := HI.out.box.2 0 (by simp)
  have k2 := HI.out.box.2 2 (by simp)
  have e0 := HI.out.got.2 0 (by simp [saidC])
  have e4 := HI.out.got.2 4 (by simp [saidC])
  simp only [saidC, List.getElem_cons_zero, List.getElem_cons_succ] at k0 k2 e0 e4
  obtain ⟨w4, hw4⟩ : ∃ w4, w4 = w3.alloc (.cells (saidC (⟨6, 0, 0, false, []⟩ : SaidD) (.slice va 0 vc)) 30) := ⟨_, rfl⟩
  unfold zSaid at hst
  rw [← hw4] at hst HI
  simp only [saidC] at hw4
  rw [← hw4] at k0 k2 e0 e4
  clear hw4
  have BT := hide (btree_any b g c P T m w4 HI.out.book)
  rw [HTR.out] at BT
  have c0 := HI.out.book.c0
  have ck := HI.out.book.cr m hmP
  rw [hT] at ck
  clear hT
  have hmI : (m : Int) < (P : Int) := by omega
  have m0I : (0 : Int) ≤ (m : Int) := by omega
  go_wp2_with (refine wpList_store_eq rfl 30 _ _ rfl _ _ rfl rfl hst ?_)
  refine BT.out.mono ?_
  rintro e w5 ⟨rfl, rfl⟩
  clear BT
  go_wp2_with fail
  go_quiet (fail)
  have HBD := hide (drewN_below w4 nq)
  go_wp2
  go_ret
  exact ⟨rfl, HI.out.post HBD.out⟩

set_option maxRecDepth 100000 in
set_option maxHeartbeats 2000000 in
theorem bstep_clear2 (A : Nat → Addr) (base : Nat) (b g c bm gm P : Nat) (T : Nat → Bool) (w : World) (h : BookR w b g c P T) (hm : MapR w bm gm P T) (hok : MapOk P T) (hE : Env base A w) (hgb : base ≤ gm) (h1 : b ≠ gm) (h2 : g ≠ gm) (h3 : g ≠ bm) (K O : Int) (m : Nat) (hk : K = 2) (hm2 : 2 ≤ m) (hmP : m < P) (hT : T m = true) :
    Calls Tryd.prog 24 #[.pointer (some ⟨b, 0, none⟩), .pointer (some ⟨bm, 0, none⟩), .agg #[.int .i64 K, .int .i64 O, .int .i64 (m : Int)]] w fun e w' => e = .returned (.bool true) ∧ StepPost b g c bm gm P (actD P T K (m : Int)).1 w w' := by
  have e1 : (K == 1) = false := by rw [hk]; decide
  have e2 : (K == 2) = true := by rw [hk]; decide
  have HTR : Hid (treeB P (m : Int) = true) := by show treeB P (m : Int) = true; simp [treeB]; omega
  obtain ⟨w2, hw2⟩ : ∃ w2, w2 = w.alloc (.cells #[.int .i64 K, .int .i64 O, .int .i64 (m : Int)] 33) := ⟨_, rfl⟩
  have hbn : Below w.heap.size w w2 := by rw [hw2]; exact below_new _ _
  have hbx : Boxed w.heap.size [.int .i64 K, .int .i64 O, .int .i64 (m : Int)] w2 := by rw [hw2]; exact boxed_new w #[.int .i64 K, .int .i64 O, .int .i64 (m : Int)] 33
  have q0 : w2.cell? ⟨w.heap.size, 0, none⟩ = some (.int .i64 K) := hbx.2 0 (by simp)
  have q1 : w2.cell? ⟨w.heap.size, 1, none⟩ = some (.int .i64 O) := hbx.2 1 (by simp)
  have q2 : w2.cell? ⟨w.heap.size, 2, none⟩ = some (.int .i64 (m : Int)) := hbx.2 2 (by simp)
  have AC := hide (act_any base A bm gm P T w2 (hm.below hbn) hok (hE.up hbn) hgb K O (m : Int))
  have SIN : Hid (∀ w3 v, ActPost w2 bm gm P (actD P T K (m : Int)) (.returned (.agg (saidC (actD P T K (m : Int)).2 v))) w3 v → StepIn w (w3.alloc (.cells (saidC (actD P T K (m : Int)).2 v) 30)) b g c bm gm P T (actD P T K (m : Int)).1 (actD P T K (m : Int)).2 v K O (m : Int) w3.heap.size) := fun w3 v hp => step_in hw2 h hm h1 h2 hp
  have HACT : Hid (actD P T K (m : Int) = (upd T m false, (⟨0, 0, 0, false, []⟩ : SaidD))) := by
    show actD P T K (m : Int) = _
    simp [actD, hk, clearD, HTR.out, hT, numE, said0]
  rw [HACT.out] at AC SIN ⊢
  have HNE : Hid (g ≠ bm ∧ g ≠ gm) := ⟨h3, h2⟩
  have HGL := hide h.ltg
  clear h hm hE hbn hbx h1 h2 h3 hk hok hm2
  go_enter Tryd.func24, Tryd.ntmps24
  go_wp2_with fail
  rw [← hw2]
  clear hw2
  refine AC.out.mono ?_
  rintro e w3 ⟨v, hp⟩
  obtain ⟨rfl, hp2⟩ : e = _ ∧ True := ⟨hp.ret, trivial⟩
  obtain ⟨va, vc, rfl, -⟩ := owns_form hp.rl
  simp only [List.length_nil] at hp
  have HI := hide (SIN.out w3 _ hp)
  have hst := said_new w3 (⟨0, 0, 0, false, []⟩ : SaidD) (.slice va 0 vc) rfl
  clear hp hp2 SIN AC q0 q1 q2
  have k0 := HI.out.box.2 0 (by simp)
  have k2 := HI.out.box.2 2 (by simp)
  have e0 := HI.out.got.2 0 (by simp [saidC])
  have e4 := HI.out.got.2 4 (by simp [saidC])
  simp only [saidC, List.getElem_cons_zero, List.getElem_cons_succ] at k0 k2 e0 e4
  obtain ⟨w4, hw4⟩ : ∃ w4, w4 = w3.alloc (.cells (saidC (⟨0, 0, 0, false, []⟩ : SaidD) (.slice va 0 vc)) 30) := ⟨_, rfl⟩
  unfold zSaid at hst
  rw [← hw4] at hst HI
  simp only [saidC] at hw4
  rw [← hw4] at k0 k2 e0 e4
  clear hw4
  have BT := hide (btree_any b g c P T m w4 HI.out.book)
  rw [HTR.out] at BT
  have c0 := HI.out.book.c0
  have ck := HI.out.book.cr m hmP
  rw [hT] at ck
  clear hT
  have hmI : (m : Int) < (P : Int) := by omega
  have m0I : (0 : Int) ≤ (m : Int) := by omega
  have cz := HI.out.book.row.frozenAt m
  have hn1 : ¬ g = w3.heap.size := by have := HGL.out; have := HI.out.lt; omega
  have hn2 : ¬ w3.heap.size = g := fun e => hn1 e.symm
  have HST := hide (HI.out.book.stored m false)
  go_wp2_with (refine wpList_store_eq rfl 30 _ _ rfl _ _ rfl rfl hst ?_)
  refine BT.out.mono ?_
  rintro e w5 ⟨rfl, rfl⟩
  clear BT
  go_wp2_with fail
  go_quiet (fail)
  have HBD := hide (drewN_below w4 nq)
  go_wp2_with fail
  go_region
  go_wp2
  go_ret
  refine ⟨rfl, HI.out.post2 (w5 := _) ?_ ?_ HNE.out.1 HNE.out.2⟩
  · exact ⟨HST.out.blk, HST.out.row⟩
  · have h := Only.set (F := fun k => k = g) rfl m w4 (.bool false)
    exact ⟨h.os, h.tape, h.output, h.size, h.block⟩

set_option maxRecDepth 100000 in
set_option maxHeartbeats 2000000 in
theorem bstep_take0 (A : Nat → Addr) (base : Nat) (b g c bm gm P : Nat) (T : Nat → Bool) (w : World) (h : BookR w b g c P T) (hm : MapR w bm gm P T) (hok : MapOk P T) (hE : Env base A w) (hgb : base ≤ gm) (h1 : b ≠ gm) (h2 : g ≠ gm) (h3 : g ≠ bm) (K O : Int) (n : Int) (hk : K = 5) (hn : n < 0) :
    Calls Tryd.prog 24 #[.pointer (some ⟨b, 0, none⟩), .pointer (some ⟨bm, 0, none⟩), .agg #[.int .i64 K, .int .i64 O, .int .i64 n]] w fun e w' => e = .returned (.bool true) ∧ StepPost b g c bm gm P (actD P T K n).1 w w' := by
  have e1 : (K == 1) = false := by rw [hk]; decide
  have e2 : (K == 2) = false := by rw [hk]; decide
  have e5 : (K == 5) = true := by rw [hk]; decide
  obtain ⟨w2, hw2⟩ : ∃ w2, w2 = w.alloc (.cells #[.int .i64 K, .int .i64 O, .int .i64 n] 33) := ⟨_, rfl⟩
  have hbn : Below w.heap.size w w2 := by rw [hw2]; exact below_new _ _
  have hbx : Boxed w.heap.size [.int .i64 K, .int .i64 O, .int .i64 n] w2 := by rw [hw2]; exact boxed_new w #[.int .i64 K, .int .i64 O, .int .i64 n] 33
  have q0 : w2.cell? ⟨w.heap.size, 0, none⟩ = some (.int .i64 K) := hbx.2 0 (by simp)
  have q1 : w2.cell? ⟨w.heap.size, 1, none⟩ = some (.int .i64 O) := hbx.2 1 (by simp)
  have q2 : w2.cell? ⟨w.heap.size, 2, none⟩ = some (.int .i64 n) := hbx.2 2 (by simp)
  have AC := hide (act_any base A bm gm P T w2 (hm.below hbn) hok (hE.up hbn) hgb K O n)
  have SIN : Hid (∀ w3 v, ActPost w2 bm gm P (actD P T K n) (.returned (.agg (saidC (actD P T K n).2 v))) w3 v → StepIn w (w3.alloc (.cells (saidC (actD P T K n).2 v) 30)) b g c bm gm P T (actD P T K n).1 (actD P T K n).2 v K O n w3.heap.size) := fun w3 v hp => step_in hw2 h hm h1 h2 hp
  have HACT : Hid (actD P T K n = (T, (⟨1, 0, 0, false, []⟩ : SaidD))) := by
    show actD P T K n = _
    simp [actD, hk, takeD, hn, numE, said0]
  rw [HACT.out] at AC SIN ⊢
  have HNE : Hid (g ≠ bm ∧ g ≠ gm) := ⟨h3, h2⟩
  have HGL := hide h.ltg
  clear h hm hE hbn hbx h1 h2 h3 hk hok
  go_enter Tryd.func24, Tryd.ntmps24
  go_wp2_with fail
  rw [← hw2]
  clear hw2
  refine AC.out.mono ?_
  rintro e w3 ⟨v, hp⟩
  obtain ⟨rfl, hp2⟩ : e = _ ∧ True := ⟨hp.ret, trivial⟩
  obtain ⟨va, vc, rfl, -⟩ := owns_form hp.rl
  simp only [List.length_nil] at hp
  have HI := hide (SIN.out w3 _ hp)
  have hst := said_new w3 (⟨1, 0, 0, false, []⟩ : SaidD) (.slice va 0 vc) rfl
  clear hp hp2 SIN AC q0 q1 q2
  have k0 := HI.out.box.2 0 (by simp)
  have k2 := HI.out.box.2 2 (by simp)
  have e0 := HI.out.got.2 0 (by simp [saidC])
  have e4 := HI.out.got.2 4 (by simp [saidC])
  simp only [saidC, List.getElem_cons_zero, List.getElem_cons_succ] at k0 k2 e0 e4
  obtain ⟨w4, hw4⟩ : ∃ w4, w4 = w3.alloc (.cells (saidC (⟨1, 0, 0, false, []⟩ : SaidD) (.slice va 0 vc)) 30) := ⟨_, rfl⟩
  unfold zSaid at hst
  rw [← hw4] at hst HI
  simp only [saidC] at hw4
  rw [← hw4] at k0 k2 e0 e4
  clear hw4
  go_wp2_with (refine wpList_store_eq rfl 30 _ _ rfl _ _ rfl rfl hst ?_)
  try simp only [Exit.inBlock, Exit.then]
  go_ret
  exact ⟨rfl, HI.out.post (Below.refl _ _)⟩

set_option maxRecDepth 100000 in
set_option maxHeartbeats 2000000 in
theorem bstep_take1 (A : Nat → Addr) (base : Nat) (b g c bm gm P : Nat) (T : Nat → Bool) (w : World) (h : BookR w b g c P T) (hm : MapR w bm gm P T) (hok : MapOk P T) (hE : Env base A w) (hgb : base ≤ gm) (h1 : b ≠ gm) (h2 : g ≠ gm) (h3 : g ≠ bm) (K O : Int) (m : Nat) (hk : K = 5) (hn : (frl T P).length < m) :
    Calls Tryd.prog 24 #[.pointer (some ⟨b, 0, none⟩), .pointer (some ⟨bm, 0, none⟩), .agg #[.int .i64 K, .int .i64 O, .int .i64 (m : Int)]] w fun e w' => e = .returned (.bool true) ∧ StepPost b g c bm gm P (actD P T K (m : Int)).1 w w' := by
  have e1 : (K == 1) = false := by rw [hk]; decide
  have e2 : (K == 2) = false := by rw [hk]; decide
  have e5 : (K == 5) = true := by rw [hk]; decide
  obtain ⟨w2, hw2⟩ : ∃ w2, w2 = w.alloc (.cells #[.int .i64 K, .int .i64 O, .int .i64 (m : Int)] 33) := ⟨_, rfl⟩
  have hbn : Below w.heap.size w w2 := by rw [hw2]; exact below_new _ _
  have hbx : Boxed w.heap.size [.int .i64 K, .int .i64 O, .int .i64 (m : Int)] w2 := by rw [hw2]; exact boxed_new w #[.int .i64 K, .int .i64 O, .int .i64 (m : Int)] 33
  have q0 : w2.cell? ⟨w.heap.size, 0, none⟩ = some (.int .i64 K) := hbx.2 0 (by simp)
  have q1 : w2.cell? ⟨w.heap.size, 1, none⟩ = some (.int .i64 O) := hbx.2 1 (by simp)
  have q2 : w2.cell? ⟨w.heap.size, 2, none⟩ = some (.int .i64 (m : Int)) := hbx.2 2 (by simp)
  have AC := hide (act_any base A bm gm P T w2 (hm.below hbn) hok (hE.up hbn) hgb K O (m : Int))
  have SIN : Hid (∀ w3 v, ActPost w2 bm gm P (actD P T K (m : Int)) (.returned (.agg (saidC (actD P T K (m : Int)).2 v))) w3 v → StepIn w (w3.alloc (.cells (saidC (actD P T K (m : Int)).2 v) 30)) b g c bm gm P T (actD P T K (m : Int)).1 (actD P T K (m : Int)).2 v K O (m : Int) w3.heap.size) := fun w3 v hp => step_in hw2 h hm h1 h2 hp
  have HACT : Hid (actD P T K (m : Int) = (T, (⟨7, 0, 0, false, []⟩ : SaidD))) := by
    show actD P T K (m : Int) = _
    simp [actD, hk, takeD_full hn, numE, said0]
  rw [HACT.out] at AC SIN ⊢
  have HP := hide hok.hi
  have HNE : Hid (g ≠ bm ∧ g ≠ gm) := ⟨h3, h2⟩
  have HGL := hide h.ltg
  clear h hm hE hbn hbx h1 h2 h3 hk hok
  go_enter Tryd.func24, Tryd.ntmps24
  go_wp2_with fail
  rw [← hw2]
  clear hw2
  refine AC.out.mono ?_
  rintro e w3 ⟨v, hp⟩
  obtain ⟨rfl, hp2⟩ : e = _ ∧ True := ⟨hp.ret, trivial⟩
  obtain ⟨va, vc, rfl, -⟩ := owns_form hp.rl
  simp only [List.length_nil] at hp
  have HI := hide (SIN.out w3 _ hp)
  have hst := said_new w3 (⟨7, 0, 0, false, []⟩ : SaidD) (.slice va 0 vc) rfl
  clear hp hp2 SIN AC q0 q1 q2
  have k0 := HI.out.box.2 0 (by simp)
  have k2 := HI.out.box.2 2 (by simp)
  have e0 := HI.out.got.2 0 (by simp [saidC])
  have e4 := HI.out.got.2 4 (by simp [saidC])
  simp only [saidC, List.getElem_cons_zero, List.getElem_cons_succ] at k0 k2 e0 e4
  obtain ⟨w4, hw4⟩ : ∃ w4, w4 = w3.alloc (.cells (saidC (⟨7, 0, 0, false, []⟩ : SaidD) (.slice va 0 vc)) 30) := ⟨_, rfl⟩
  unfold zSaid at hst
  rw [← hw4] at hst HI
  simp only [saidC] at hw4
  rw [← hw4] at k0 k2 e0 e4
  clear hw4
  have CN : Hid (∀ X, Below w4.heap.size w4 X → Calls Tryd.prog 39 #[.pointer (some ⟨b, 0, none⟩)] X fun e w' => e = .returned (.int .i64 ((frl T P).length : Nat)) ∧ X = w') := fun X hX => count_any b g c P T X (HI.out.book.below hX) HP.out
  have hgt : ((frl T P).length : Int) < (m : Int) := by omega
  have hneg : ¬ (m : Int) < 0 := by omega
  have HQ : Hid (Below w4.heap.size w4 w4.drew) := (Below.refl _ _).drew
  generalize (frl T P).length = fl at *
  clear hn
  go_upto_region 20 with (refine wpList_store_eq rfl 30 _ _ rfl _ _ rfl rfl hst ?_)
  go_cut [94] (fun u wx => u = .bool true ∧ Below w4.heap.size w4 wx)
  case first =>
    go_region_held3 (fun w' => w'.cell? ⟨w.heap.size, 2, none⟩ = some (.int .i64 (m : Int))) (go_keep)
      (first
        | (go_at_call 39; refine (CN.out _ HQ.out).mono ?_; rintro e W1 ⟨rfl, rfl⟩))
    all_goals
      go_wp2_with fail
      go_meet
    all_goals exact ⟨rfl, HQ.out⟩
  case rest =>
    obtain ⟨rfl, hb5⟩ := hcut
    have e0 := (HI.out.got.below hb5).2 0 (by simp [saidC])
    have e4 := (HI.out.got.below hb5).2 4 (by simp [saidC])
    simp only [saidC, List.getElem_cons_zero, List.getElem_cons_succ] at e0 e4
    have HB5 := hide hb5
    clear hb5 CN HQ
    go_wp2
    go_ret
    exact ⟨rfl, HI.out.post HB5.out⟩

set_option maxRecDepth 100000 in
set_option maxHeartbeats 2000000 in
theorem bstep_take2 (A : Nat → Addr) (base : Nat) (b g c bm gm P : Nat) (T : Nat → Bool) (w : World) (h : BookR w b g c P T) (hm : MapR w bm gm P T) (hok : MapOk P T) (hE : Env base A w) (hgb : base ≤ gm) (h1 : b ≠ gm) (h2 : g ≠ gm) (h3 : g ≠ bm) (K O : Int) (m : Nat) (hk : K = 5) (hn : m ≤ (frl T P).length) :
    Calls Tryd.prog 24 #[.pointer (some ⟨b, 0, none⟩), .pointer (some ⟨bm, 0, none⟩), .agg #[.int .i64 K, .int .i64 O, .int .i64 (m : Int)]] w fun e w' => e = .returned (.bool true) ∧ StepPost b g c bm gm P (actD P T K (m : Int)).1 w w' := by
  have e1 : (K == 1) = false := by rw [hk]; decide
  have e2 : (K == 2) = false := by rw [hk]; decide
  have e5 : (K == 5) = true := by rw [hk]; decide
  obtain ⟨w2, hw2⟩ : ∃ w2, w2 = w.alloc (.cells #[.int .i64 K, .int .i64 O, .int .i64 (m : Int)] 33) := ⟨_, rfl⟩
  have hbn : Below w.heap.size w w2 := by rw [hw2]; exact below_new _ _
  have hbx : Boxed w.heap.size [.int .i64 K, .int .i64 O, .int .i64 (m : Int)] w2 := by rw [hw2]; exact boxed_new w #[.int .i64 K, .int .i64 O, .int .i64 (m : Int)] 33
  have q0 : w2.cell? ⟨w.heap.size, 0, none⟩ = some (.int .i64 K) := hbx.2 0 (by simp)
  have q1 : w2.cell? ⟨w.heap.size, 1, none⟩ = some (.int .i64 O) := hbx.2 1 (by simp)
  have q2 : w2.cell? ⟨w.heap.size, 2, none⟩ = some (.int .i64 (m : Int)) := hbx.2 2 (by simp)
  have AC := hide (act_any base A bm gm P T w2 (hm.below hbn) hok (hE.up hbn) hgb K O (m : Int))
  have SIN : Hid (∀ w3 v, ActPost w2 bm gm P (actD P T K (m : Int)) (.returned (.agg (saidC (actD P T K (m : Int)).2 v))) w3 v → StepIn w (w3.alloc (.cells (saidC (actD P T K (m : Int)).2 v) 30)) b g c bm gm P T (actD P T K (m : Int)).1 (actD P T K (m : Int)).2 v K O (m : Int) w3.heap.size) := fun w3 v hp => step_in hw2 h hm h1 h2 hp
  have HACT : Hid (actD P T K (m : Int) = (updL T (lowL T P m), (⟨0, 0, 0, false, lowL T P m⟩ : SaidD))) := by
    show actD P T K (m : Int) = _
    simp [actD, hk, takeD_ok hn, numE, said0]
  rw [HACT.out] at AC SIN ⊢
  have HP := hide hok.hi
  have HOK := hide hok
  have HNL := hide hn
  have hlen : (lowL T P m).length = m := by rw [lowL_len]; omega
  clear hok
  have HNE : Hid (g ≠ bm ∧ g ≠ gm) := ⟨h3, h2⟩
  have HGL := hide h.ltg
  clear h hm hE hbn hbx h1 h2 h3 hk
  go_enter Tryd.func24, Tryd.ntmps24
  go_wp2_with fail
  rw [← hw2]
  clear hw2
  refine AC.out.mono ?_
  rintro e w3 ⟨v, hp⟩
  obtain ⟨rfl, hp2⟩ : e = _ ∧ True := ⟨hp.ret, trivial⟩
  have HLN := hide hlen
  have hrl := hp.rl
  simp only [hlen] at hrl
  obtain ⟨va, vc, rfl, -⟩ := owns_form hrl
  clear hrl hlen
  have HI := hide (SIN.out w3 _ hp)
  have hst := said_new w3 (⟨0, 0, 0, false, lowL T P m⟩ : SaidD) (.slice va m vc) rfl
  clear hp hp2 SIN AC q0 q1 q2
  have k0 := HI.out.box.2 0 (by simp)
  have k2 := HI.out.box.2 2 (by simp)
  have e0 := HI.out.got.2 0 (by simp [saidC])
  have e4 := HI.out.got.2 4 (by simp [saidC])
  simp only [saidC, List.getElem_cons_zero, List.getElem_cons_succ] at k0 k2 e0 e4
  obtain ⟨w4, hw4⟩ : ∃ w4, w4 = w3.alloc (.cells (saidC (⟨0, 0, 0, false, lowL T P m⟩ : SaidD) (.slice va m vc)) 30) := ⟨_, rfl⟩
  unfold zSaid at hst
  rw [← hw4] at hst HI
  simp only [saidC] at hw4
  rw [← hw4] at k0 k2 e0 e4
  clear hw4
  have CN : Hid (∀ X, Below w4.heap.size w4 X → Calls Tryd.prog 39 #[.pointer (some ⟨b, 0, none⟩)] X fun e w' => e = .returned (.int .i64 ((frl T P).length : Nat)) ∧ X = w') := fun X hX => count_any b g c P T X (HI.out.book.below hX) HP.out
  have TK : Hid (∀ X, Below w4.heap.size w4 X → Calls Tryd.prog 41 #[.pointer (some ⟨b, 0, none⟩), .slice va m vc, .int .i64 m] X fun e w' => e = .returned (.bool true) ∧ BookR w' b g c P (updL T (lowL T P m)) ∧ Only (fun k => k = g) X w') := fun X hX => by
    have hrl := owns_below HI.out.rl hX
    simp only [HLN.out] at hrl
    exact took_any b g c P T X (HI.out.book.below hX) HOK.out m HNL.out va vc w.heap.size hrl
  have hgt : ¬ ((frl T P).length : Int) < (m : Int) := by omega
  have hdec : decide ((frl T P).length < m) = false := by simp; omega
  have hneg : ¬ (m : Int) < 0 := by omega
  have HQ : Hid (Below w4.heap.size w4 w4.drew) := (Below.refl _ _).drew
  generalize (frl T P).length = fl at *
  clear hn
  go_upto_region 20 with (refine wpList_store_eq rfl 30 _ _ rfl _ _ rfl rfl hst ?_)
  go_cut [94] (fun u wx => u = .bool false ∧ Below w4.heap.size w4 wx)
  case first =>
    go_region_held3 (fun w' => w'.cell? ⟨w.heap.size, 2, none⟩ = some (.int .i64 (m : Int))) (go_keep)
      (first
        | (go_at_call 39; refine (CN.out _ HQ.out).mono ?_; rintro e W1 ⟨rfl, rfl⟩))
    all_goals
      go_wp2_with fail
      go_meet
    all_goals exact ⟨rfl, HQ.out⟩
  case rest =>
    obtain ⟨rfl, hb5⟩ := hcut
    have e0 := (HI.out.got.below hb5).2 0 (by simp [saidC])
    have e4 := (HI.out.got.below hb5).2 4 (by simp [saidC])
    simp only [saidC, List.getElem_cons_zero, List.getElem_cons_succ] at e0 e4
    have k2 := (HI.out.box.below hb5).2 2 (by simp)
    simp only [List.getElem_cons_zero, List.getElem_cons_succ] at k2
    have TK2 := hide (TK.out _ hb5)
    have HB5 := hide hb5
    clear hb5 CN HQ TK
    go_wp2_with fail
    refine TK2.out.mono ?_
    rintro e w6 ⟨rfl, h6, o6⟩
    have H6 := hide h6
    have O6 := hide ((Only.of_below HB5.out).trans o6)
    clear h6 o6 TK2
    go_wp2
    go_ret
    exact ⟨rfl, HI.out.post2 H6.out O6.out HNE.out.1 HNE.out.2⟩

set_option maxRecDepth 100000 in
set_option maxHeartbeats 2000000 in
theorem bstep_other (A : Nat → Addr) (base : Nat) (b g c bm gm P : Nat) (T : Nat → Bool) (w : World) (h : BookR w b g c P T) (hm : MapR w bm gm P T) (hok : MapOk P T) (hE : Env base A w) (hgb : base ≤ gm) (h1 : b ≠ gm) (h2 : g ≠ gm) (h3 : g ≠ bm) (K O : Int) (n : Int) (hk : K ≠ 1 ∧ K ≠ 2 ∧ K ≠ 5) :
    Calls Tryd.prog 24 #[.pointer (some ⟨b, 0, none⟩), .pointer (some ⟨bm, 0, none⟩), .agg #[.int .i64 K, .int .i64 O, .int .i64 n]] w fun e w' => e = .returned (.bool true) ∧ StepPost b g c bm gm P (actD P T K n).1 w w' := by
  have e1 : (K == 1) = false := by simp; omega
  have e2 : (K == 2) = false := by simp; omega
  have e5 : (K == 5) = false := by simp; omega
  obtain ⟨w2, hw2⟩ : ∃ w2, w2 = w.alloc (.cells #[.int .i64 K, .int .i64 O, .int .i64 n] 33) := ⟨_, rfl⟩
  have hbn : Below w.heap.size w w2 := by rw [hw2]; exact below_new _ _
  have hbx : Boxed w.heap.size [.int .i64 K, .int .i64 O, .int .i64 n] w2 := by rw [hw2]; exact boxed_new w #[.int .i64 K, .int .i64 O, .int .i64 n] 33
  have q0 : w2.cell? ⟨w.heap.size, 0, none⟩ = some (.int .i64 K) := hbx.2 0 (by simp)
  have q1 : w2.cell? ⟨w.heap.size, 1, none⟩ = some (.int .i64 O) := hbx.2 1 (by simp)
  have q2 : w2.cell? ⟨w.heap.size, 2, none⟩ = some (.int .i64 n) := hbx.2 2 (by simp)
  have AC := hide (act_any base A bm gm P T w2 (hm.below hbn) hok (hE.up hbn) hgb K O n)
  have SIN : Hid (∀ w3 v, ActPost w2 bm gm P (actD P T K n) (.returned (.agg (saidC (actD P T K n).2 v))) w3 v → StepIn w (w3.alloc (.cells (saidC (actD P T K n).2 v) 30)) b g c bm gm P T (actD P T K n).1 (actD P T K n).2 v K O n w3.heap.size) := fun w3 v hp => step_in hw2 h hm h1 h2 hp
  have HACT : Hid (∃ a b ok, actD P T K n = (T, (⟨0, a, b, ok, []⟩ : SaidD))) := by
    show ∃ a b ok, actD P T K n = _
    unfold actD
    rw [if_neg hk.1, if_neg hk.2.1]
    repeat' split
    · exact ⟨_, _, _, rfl⟩
    · exact ⟨_, _, _, rfl⟩
    · rename_i h5; exact absurd h5 hk.2.2
    · exact ⟨_, _, _, rfl⟩
  obtain ⟨sa, sb, sk, hact⟩ := HACT.out
  have HACT := hide hact
  clear hact
  rw [HACT.out] at AC SIN ⊢
  have HNE : Hid (g ≠ bm ∧ g ≠ gm) := ⟨h3, h2⟩
  have HGL := hide h.ltg
  clear h hm hE hbn hbx h1 h2 h3 hk hok
  go_enter Tryd.func24, Tryd.ntmps24
  go_wp2_with fail
  rw [← hw2]
  clear hw2
  refine AC.out.mono ?_
  rintro e w3 ⟨v, hp⟩
  obtain ⟨rfl, hp2⟩ : e = _ ∧ True := ⟨hp.ret, trivial⟩
  obtain ⟨va, vc, rfl, -⟩ := owns_form hp.rl
  simp only [List.length_nil] at hp
  have HI := hide (SIN.out w3 _ hp)
  have hst := said_new w3 (⟨0, sa, sb, sk, []⟩ : SaidD) (.slice va 0 vc) rfl
  clear hp hp2 SIN AC q0 q1 q2
  have k0 := HI.out.box.2 0 (by simp)
  have k2 := HI.out.box.2 2 (by simp)
  have e0 := HI.out.got.2 0 (by simp [saidC])
  have e4 := HI.out.got.2 4 (by simp [saidC])
  simp only [saidC, List.getElem_cons_zero, List.getElem_cons_succ] at k0 k2 e0 e4
  obtain ⟨w4, hw4⟩ : ∃ w4, w4 = w3.alloc (.cells (saidC (⟨0, sa, sb, sk, []⟩ : SaidD) (.slice va 0 vc)) 30) := ⟨_, rfl⟩
  unfold zSaid at hst
  rw [← hw4] at hst HI
  simp only [saidC] at hw4
  rw [← hw4] at k0 k2 e0 e4
  clear hw4
  go_wp2_with (refine wpList_store_eq rfl 30 _ _ rfl _ _ rfl rfl hst ?_)
  try simp only [Exit.inBlock, Exit.then]
  go_ret
  exact ⟨rfl, HI.out.post (Below.refl _ _)⟩

end Go.Proofs.YtdghlblgmihbpaaDoor
