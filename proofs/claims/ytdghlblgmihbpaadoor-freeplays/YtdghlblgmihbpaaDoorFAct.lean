import Derived.Test.YtdghlblgmihbpaaDoorFAct0
namespace Go.Proofs.YtdghlblgmihbpaaDoor
open Go.RowKit

structure ActPost (w : World) (b g P : Nat) (r : (Nat → Bool) × SaidD) (e : Ending) (w' : World) (v : Value) : Prop where
  ret : e = .returned (.agg (saidC r.2 v))
  rl : w'.ownsRow w.heap.size 3 1 v r.2.list.length (nats r.2.list)
  map : MapR w' b g P r.1
  only : Only (fun k => k = g) w w'
theorem act_post {w w2 w3 : World} {b g P : Nat} {r : (Nat → Bool) × SaidD} {cs : List Value} {v : Value} (hi : ActIn w w2 cs) (hb : b < w.heap.size) (hg : g < w.heap.size) (hm : MapR w3 b g P r.1) (hs : Only (fun k => k = g) w2 w3)
    (rl : w3.ownsRow w2.heap.size 3 1 v r.2.list.length (nats r.2.list)) :
    ∃ w4, (Instr.storeAt 30 (.pointer (some ⟨w.heap.size + 1, 0, none⟩)) (.agg (saidC r.2 v))).run Tryd.prog w3 = .ok () w4 ∧ w4.heap[w.heap.size + 1]? = some (.cells (saidC r.2 v) 30 (0, 0)) ∧ ActPost w b g P r (.returned (.agg (saidC r.2 v))) w4 v := by
  obtain ⟨w4, h1, h2, h3, h4, h5⟩ := act_fin r.2 hi (fun k hk => .inl (by rw [show k = g from hk]; exact hg)) hs rl
  exact ⟨w4, h1, h2, ⟨rfl, h3, hm.only h4 (by omega) (by omega), h5⟩⟩
theorem own_none (w : World) (n : Nat) : w.ownsRow n 3 1 (.slice none 0 0) ([] : List Nat).length (nats []) := World.ownsRow_nil _ _ _ _

set_option maxRecDepth 100000 in
set_option maxHeartbeats 1600000 in
theorem act_mark (base : Nat) (A : Nat → Addr) (b g P : Nat) (T : Nat → Bool) (w : World) (h : MapR w b g P T) (_hok : MapOk P T) (hE : Env base A w) (hgb : base ≤ g) (K O n : Int) (hk : K = 1) :
    Calls Tryd.prog 10 #[.pointer (some ⟨b, 0, none⟩), .agg #[.int .i64 K, .int .i64 O, .int .i64 n]] w fun e w' => ∃ v, ActPost w b g P (actD P T K n) e w' v := by
  have e1 : (K == 1) = true := by rw [hk]; decide
  have HACT : Hid (actD P T K n = (((markD P T n).2), { said0 with err := numE (markD P T n).1 })) := by
    show actD P T K n = _
    simp [actD, hk]
  rw [HACT.out]
  obtain ⟨w2, hw2⟩ : ∃ w2, w2 = (w.alloc (.cells #[.int .i64 K, .int .i64 O, .int .i64 n] 33)).alloc (.cells zSaid 30) := ⟨_, rfl⟩
  have hin : ActIn w w2 [.int .i64 K, .int .i64 O, .int .i64 n] := by rw [hw2]; exact actIn w #[.int .i64 K, .int .i64 O, .int .i64 n]
  have HIN := hide hin
  have k0 : w2.cell? ⟨w.heap.size, 0, none⟩ = some (.int .i64 K) := hin.box.2 0 (by simp)
  have k2 : w2.cell? ⟨w.heap.size, 2, none⟩ = some (.int .i64 n) := hin.box.2 2 (by simp)
  have h2 := h.below hin.bel
  have hE2 := hE.up hin.bel
  have HE2 := hide hE2
  have HLT : Hid (b < w.heap.size ∧ g < w.heap.size) := ⟨h.ltb, h.ltg⟩
  have HC := hide (mark_any base A b g P T n w2 h2 hE2)
  have HGB : Hid (∀ k, k = g → base ≤ k) := fun k hk => by rw [hk]; exact hgb
  have HIE := hide (isE_mark P T n)
  generalize markD P T n = r at *
  clear h hE hin h2 hE2 _hok hk
  unfold zSaid at hw2
  go_enter Tryd.func10, Tryd.ntmps10
  go_wp2_with fail
  rw [← hw2]
  clear hw2
  refine HC.out.mono ?_
  rintro e w3 ⟨rfl, h3, o3⟩
  have HNM := hide (num_e A r.1 w3 (HE2.out.only o3 HGB.out).errs HIE.out)
  have FIN := hide (act_post (r := (r.2, { said0 with err := numE r.1 })) HIN.out HLT.out.1 HLT.out.2 h3 o3 (own_none _ _))
  obtain ⟨ev, hev⟩ : ∃ ev, ev = errV A r.1 := ⟨_, rfl⟩
  rw [← hev] at HNM ⊢
  clear HC h3 o3 hev k0 k2
  go_wp2_with fail
  refine HNM.out.mono ?_
  rintro e w5 ⟨rfl, rfl⟩
  clear HNM
  obtain ⟨w4, hst, hr4, HP⟩ := FIN.out
  clear FIN
  have HPP := hide HP
  clear HP
  go_wp2_with (refine wpList_store_eq rfl 30 _ _ rfl _ _ rfl rfl hst ?_)
  try simp only [Exit.inBlock, Exit.then]
  refine bodyPost_ret (results_cell_row rfl _ _ (w.heap.size + 1) 30 _ (0, 0) _ rfl hr4 Tryd.underlying30 rfl (by rw [sizeSaid]; rfl)) rfl ?_
  exact ⟨_, HPP.out⟩

set_option maxRecDepth 100000 in
set_option maxHeartbeats 1600000 in
theorem act_clear (base : Nat) (A : Nat → Addr) (b g P : Nat) (T : Nat → Bool) (w : World) (h : MapR w b g P T) (_hok : MapOk P T) (hE : Env base A w) (hgb : base ≤ g) (K O n : Int) (hk : K = 2) :
    Calls Tryd.prog 10 #[.pointer (some ⟨b, 0, none⟩), .agg #[.int .i64 K, .int .i64 O, .int .i64 n]] w fun e w' => ∃ v, ActPost w b g P (actD P T K n) e w' v := by
  have e1 : (K == 1) = false := by rw [hk]; decide
  have e2 : (K == 2) = true := by rw [hk]; decide
  have HACT : Hid (actD P T K n = (((clearD P T n).2), { said0 with err := numE (clearD P T n).1 })) := by
    show actD P T K n = _
    simp [actD, hk]
  rw [HACT.out]
  obtain ⟨w2, hw2⟩ : ∃ w2, w2 = (w.alloc (.cells #[.int .i64 K, .int .i64 O, .int .i64 n] 33)).alloc (.cells zSaid 30) := ⟨_, rfl⟩
  have hin : ActIn w w2 [.int .i64 K, .int .i64 O, .int .i64 n] := by rw [hw2]; exact actIn w #[.int .i64 K, .int .i64 O, .int .i64 n]
  have HIN := hide hin
  have k0 : w2.cell? ⟨w.heap.size, 0, none⟩ = some (.int .i64 K) := hin.box.2 0 (by simp)
  have k2 : w2.cell? ⟨w.heap.size, 2, none⟩ = some (.int .i64 n) := hin.box.2 2 (by simp)
  have h2 := h.below hin.bel
  have hE2 := hE.up hin.bel
  have HE2 := hide hE2
  have HLT : Hid (b < w.heap.size ∧ g < w.heap.size) := ⟨h.ltb, h.ltg⟩
  have HC := hide (clear_any base A b g P T n w2 h2 hE2)
  have HGB : Hid (∀ k, k = g → base ≤ k) := fun k hk => by rw [hk]; exact hgb
  have HIE := hide (isE_clear P T n)
  generalize clearD P T n = r at *
  clear h hE hin h2 hE2 _hok hk
  unfold zSaid at hw2
  go_enter Tryd.func10, Tryd.ntmps10
  go_wp2_with fail
  rw [← hw2]
  clear hw2
  refine HC.out.mono ?_
  rintro e w3 ⟨rfl, h3, o3⟩
  have HNM := hide (num_e A r.1 w3 (HE2.out.only o3 HGB.out).errs HIE.out)
  have FIN := hide (act_post (r := (r.2, { said0 with err := numE r.1 })) HIN.out HLT.out.1 HLT.out.2 h3 o3 (own_none _ _))
  obtain ⟨ev, hev⟩ : ∃ ev, ev = errV A r.1 := ⟨_, rfl⟩
  rw [← hev] at HNM ⊢
  clear HC h3 o3 hev k0 k2
  go_wp2_with fail
  refine HNM.out.mono ?_
  rintro e w5 ⟨rfl, rfl⟩
  clear HNM
  obtain ⟨w4, hst, hr4, HP⟩ := FIN.out
  clear FIN
  have HPP := hide HP
  clear HP
  go_wp2_with (refine wpList_store_eq rfl 30 _ _ rfl _ _ rfl rfl hst ?_)
  try simp only [Exit.inBlock, Exit.then]
  refine bodyPost_ret (results_cell_row rfl _ _ (w.heap.size + 1) 30 _ (0, 0) _ rfl hr4 Tryd.underlying30 rfl (by rw [sizeSaid]; rfl)) rfl ?_
  exact ⟨_, HPP.out⟩

set_option maxRecDepth 100000 in
set_option maxHeartbeats 1600000 in
theorem act_used (base : Nat) (A : Nat → Addr) (b g P : Nat) (T : Nat → Bool) (w : World) (h : MapR w b g P T) (_hok : MapOk P T) (hE : Env base A w) (_hgb : base ≤ g) (K O n : Int) (hk : K = 3) :
    Calls Tryd.prog 10 #[.pointer (some ⟨b, 0, none⟩), .agg #[.int .i64 K, .int .i64 O, .int .i64 n]] w fun e w' => ∃ v, ActPost w b g P (actD P T K n) e w' v := by
  have e1 : (K == 1) = false := by rw [hk]; decide
  have e2 : (K == 2) = false := by rw [hk]; decide
  have e3 : (K == 3) = true := by rw [hk]; decide
  have HACT : Hid (actD P T K n = (T, { said0 with ok := usedB P T n })) := by
    show actD P T K n = _
    simp [actD, hk]
  rw [HACT.out]
  obtain ⟨w2, hw2⟩ : ∃ w2, w2 = (w.alloc (.cells #[.int .i64 K, .int .i64 O, .int .i64 n] 33)).alloc (.cells zSaid 30) := ⟨_, rfl⟩
  have hin : ActIn w w2 [.int .i64 K, .int .i64 O, .int .i64 n] := by rw [hw2]; exact actIn w #[.int .i64 K, .int .i64 O, .int .i64 n]
  have HIN := hide hin
  have k0 : w2.cell? ⟨w.heap.size, 0, none⟩ = some (.int .i64 K) := hin.box.2 0 (by simp)
  have k2 : w2.cell? ⟨w.heap.size, 2, none⟩ = some (.int .i64 n) := hin.box.2 2 (by simp)
  have h2 := h.below hin.bel
  have hE2 := hE.up hin.bel
  have HE2 := hide hE2
  have HLT : Hid (b < w.heap.size ∧ g < w.heap.size) := ⟨h.ltb, h.ltg⟩
  have HC := hide (used_any b g P T n w2 h2)
  have H2 := hide h2
  generalize usedB P T n = r at *
  clear h hE hin h2 hE2 _hok hk
  unfold zSaid at hw2
  go_enter Tryd.func10, Tryd.ntmps10
  go_wp2_with fail
  rw [← hw2]
  clear hw2
  refine HC.out.mono ?_
  rintro e w3 ⟨rfl, hb3⟩
  have FIN := hide (act_post (r := (T, { said0 with ok := r })) HIN.out HLT.out.1 HLT.out.2 (H2.out.below hb3) (Only.of_below hb3) (own_none _ _))
  clear HC hb3 k0 k2
  obtain ⟨w4, hst, hr4, HP⟩ := FIN.out
  clear FIN
  have HPP := hide HP
  clear HP
  go_wp2_with (refine wpList_store_eq rfl 30 _ _ rfl _ _ rfl rfl hst ?_)
  try simp only [Exit.inBlock, Exit.then]
  refine bodyPost_ret (results_cell_row rfl _ _ (w.heap.size + 1) 30 _ (0, 0) _ rfl hr4 Tryd.underlying30 rfl (by rw [sizeSaid]; rfl)) rfl ?_
  exact ⟨_, HPP.out⟩

set_option maxRecDepth 100000 in
set_option maxHeartbeats 1600000 in
theorem act_free (base : Nat) (A : Nat → Addr) (b g P : Nat) (T : Nat → Bool) (w : World) (h : MapR w b g P T) (hok : MapOk P T) (hE : Env base A w) (_hgb : base ≤ g) (K O n : Int) (hk : K = 4) :
    Calls Tryd.prog 10 #[.pointer (some ⟨b, 0, none⟩), .agg #[.int .i64 K, .int .i64 O, .int .i64 n]] w fun e w' => ∃ v, ActPost w b g P (actD P T K n) e w' v := by
  have e1 : (K == 1) = false := by rw [hk]; decide
  have e2 : (K == 2) = false := by rw [hk]; decide
  have e3 : (K == 3) = false := by rw [hk]; decide
  have e4 : (K == 4) = true := by rw [hk]; decide
  have HACT : Hid (actD P T K n = (T, { said0 with a := (frl T P).length, b := P })) := by
    show actD P T K n = _
    simp [actD, hk]
  rw [HACT.out]
  obtain ⟨w2, hw2⟩ : ∃ w2, w2 = (w.alloc (.cells #[.int .i64 K, .int .i64 O, .int .i64 n] 33)).alloc (.cells zSaid 30) := ⟨_, rfl⟩
  have hin : ActIn w w2 [.int .i64 K, .int .i64 O, .int .i64 n] := by rw [hw2]; exact actIn w #[.int .i64 K, .int .i64 O, .int .i64 n]
  have HIN := hide hin
  have k0 : w2.cell? ⟨w.heap.size, 0, none⟩ = some (.int .i64 K) := hin.box.2 0 (by simp)
  have k2 : w2.cell? ⟨w.heap.size, 2, none⟩ = some (.int .i64 n) := hin.box.2 2 (by simp)
  have h2 := h.below hin.bel
  have hE2 := hE.up hin.bel
  have HE2 := hide hE2
  have HLT : Hid (b < w.heap.size ∧ g < w.heap.size) := ⟨h.ltb, h.ltg⟩
  have HC := hide (free_any b g P T w2 h2 hok)
  have HC2 := hide (size_any b g P T w2 h2)
  have H2 := hide h2
  generalize (frl T P).length = r at *
  clear h hE hin h2 hE2 hok hk
  unfold zSaid at hw2
  go_enter Tryd.func10, Tryd.ntmps10
  go_wp2_with fail
  rw [← hw2]
  clear hw2
  refine HC.out.mono ?_
  rintro e w3 ⟨rfl, rfl⟩
  go_wp2_with fail
  refine HC2.out.mono ?_
  rintro e w3 ⟨rfl, rfl⟩
  have FIN := hide (act_post (r := (T, { said0 with a := r, b := P })) HIN.out HLT.out.1 HLT.out.2 H2.out (Only.refl _ _) (own_none _ _))
  clear HC HC2 k0 k2
  obtain ⟨w4, hst, hr4, HP⟩ := FIN.out
  clear FIN
  have HPP := hide HP
  clear HP
  go_wp2_with (refine wpList_store_eq rfl 30 _ _ rfl _ _ rfl rfl hst ?_)
  try simp only [Exit.inBlock, Exit.then]
  refine bodyPost_ret (results_cell_row rfl _ _ (w.heap.size + 1) 30 _ (0, 0) _ rfl hr4 Tryd.underlying30 rfl (by rw [sizeSaid]; rfl)) rfl ?_
  exact ⟨_, HPP.out⟩

set_option maxRecDepth 100000 in
set_option maxHeartbeats 1600000 in
theorem act_take (base : Nat) (A : Nat → Addr) (b g P : Nat) (T : Nat → Bool) (w : World) (h : MapR w b g P T) (hok : MapOk P T) (hE : Env base A w) (hgb : base ≤ g) (K O n : Int) (hk : K = 5) :
    Calls Tryd.prog 10 #[.pointer (some ⟨b, 0, none⟩), .agg #[.int .i64 K, .int .i64 O, .int .i64 n]] w fun e w' => ∃ v, ActPost w b g P (actD P T K n) e w' v := by
  have e1 : (K == 1) = false := by rw [hk]; decide
  have e2 : (K == 2) = false := by rw [hk]; decide
  have e3 : (K == 3) = false := by rw [hk]; decide
  have e4 : (K == 4) = false := by rw [hk]; decide
  have e5 : (K == 5) = true := by rw [hk]; decide
  have HACT : Hid (actD P T K n = ((takeD P T n).2.2, { said0 with err := numE (takeD P T n).1, list := (takeD P T n).2.1 })) := by
    show actD P T K n = _
    simp [actD, hk]
  rw [HACT.out]
  obtain ⟨w2, hw2⟩ : ∃ w2, w2 = (w.alloc (.cells #[.int .i64 K, .int .i64 O, .int .i64 n] 33)).alloc (.cells zSaid 30) := ⟨_, rfl⟩
  have hin : ActIn w w2 [.int .i64 K, .int .i64 O, .int .i64 n] := by rw [hw2]; exact actIn w #[.int .i64 K, .int .i64 O, .int .i64 n]
  have HIN := hide hin
  have k0 : w2.cell? ⟨w.heap.size, 0, none⟩ = some (.int .i64 K) := hin.box.2 0 (by simp)
  have k2 : w2.cell? ⟨w.heap.size, 2, none⟩ = some (.int .i64 n) := hin.box.2 2 (by simp)
  have h2 := h.below hin.bel
  have hE2 := hE.up hin.bel
  have HE2 := hide hE2
  have HLT : Hid (b < w.heap.size ∧ g < w.heap.size) := ⟨h.ltb, h.ltg⟩
  have HC := hide (take_any base A b g P T n w2 h2 hok hE2)
  have HGB : Hid (∀ k, k = g → base ≤ k) := fun k hk => by rw [hk]; exact hgb
  have HIE := hide (isE_take P T n)
  generalize takeD P T n = r at *
  clear h hE hin h2 hE2 hok hk
  unfold zSaid at hw2
  go_enter Tryd.func10, Tryd.ntmps10
  go_wp2_with fail
  rw [← hw2]
  clear hw2
  refine HC.out.mono ?_
  rintro e w3 ⟨v, rfl, hv, h3, o3⟩
  obtain ⟨va, vc, rfl, -⟩ := owns_form hv
  have HNM := hide (num_e A r.1 w3 (HE2.out.only o3 HGB.out).errs HIE.out)
  have FIN := hide (act_post (r := (r.2.2, { said0 with err := numE r.1, list := r.2.1 })) HIN.out HLT.out.1 HLT.out.2 h3 o3 hv)
  obtain ⟨ev, hev⟩ : ∃ ev, ev = errV A r.1 := ⟨_, rfl⟩
  rw [← hev] at HNM ⊢
  clear HC h3 o3 hev k0 k2 hv
  go_wp2_with fail
  refine HNM.out.mono ?_
  rintro e w5 ⟨rfl, rfl⟩
  clear HNM
  obtain ⟨w4, hst, hr4, HP⟩ := FIN.out
  clear FIN
  have HPP := hide HP
  clear HP
  go_wp2_with (refine wpList_store_eq rfl 30 _ _ rfl _ _ rfl rfl hst ?_)
  try simp only [Exit.inBlock, Exit.then]
  refine bodyPost_ret (results_cell_row rfl _ _ (w.heap.size + 1) 30 _ (0, 0) _ rfl hr4 Tryd.underlying30 rfl (by rw [sizeSaid]; rfl)) rfl ?_
  exact ⟨_, HPP.out⟩

set_option maxRecDepth 100000 in
set_option maxHeartbeats 1600000 in
theorem act_other (base : Nat) (A : Nat → Addr) (b g P : Nat) (T : Nat → Bool) (w : World) (h : MapR w b g P T) (_hok : MapOk P T) (hE : Env base A w) (_hgb : base ≤ g) (K O n : Int) (hk : K ≠ 1 ∧ K ≠ 2 ∧ K ≠ 3 ∧ K ≠ 4 ∧ K ≠ 5) :
    Calls Tryd.prog 10 #[.pointer (some ⟨b, 0, none⟩), .agg #[.int .i64 K, .int .i64 O, .int .i64 n]] w fun e w' => ∃ v, ActPost w b g P (actD P T K n) e w' v := by
  have e1 : (K == 1) = false := by simp; omega
  have e2 : (K == 2) = false := by simp; omega
  have e3 : (K == 3) = false := by simp; omega
  have e4 : (K == 4) = false := by simp; omega
  have e5 : (K == 5) = false := by simp; omega
  have HACT : Hid (actD P T K n = (T, said0)) := by
    show actD P T K n = _
    simp [actD, hk.1, hk.2.1, hk.2.2.1, hk.2.2.2.1, hk.2.2.2.2]
  rw [HACT.out]
  obtain ⟨w2, hw2⟩ : ∃ w2, w2 = (w.alloc (.cells #[.int .i64 K, .int .i64 O, .int .i64 n] 33)).alloc (.cells zSaid 30) := ⟨_, rfl⟩
  have hin : ActIn w w2 [.int .i64 K, .int .i64 O, .int .i64 n] := by rw [hw2]; exact actIn w #[.int .i64 K, .int .i64 O, .int .i64 n]
  have HIN := hide hin
  have k0 : w2.cell? ⟨w.heap.size, 0, none⟩ = some (.int .i64 K) := hin.box.2 0 (by simp)
  have k2 : w2.cell? ⟨w.heap.size, 2, none⟩ = some (.int .i64 n) := hin.box.2 2 (by simp)
  have h2 := h.below hin.bel
  have hE2 := hE.up hin.bel
  have HE2 := hide hE2
  have HLT : Hid (b < w.heap.size ∧ g < w.heap.size) := ⟨h.ltb, h.ltg⟩
  have FIN := hide (act_post (r := (T, said0)) HIN.out HLT.out.1 HLT.out.2 h2 (Only.refl _ _) (own_none _ _))
  obtain ⟨w4, hst, hr4, HP⟩ := FIN.out
  clear FIN
  have HPP := hide HP
  clear HP
  rw [hw2] at hst
  clear h hE hin h2 hE2 _hok hk
  unfold zSaid at hw2 hst
  go_enter Tryd.func10, Tryd.ntmps10
  go_wp2_with (refine wpList_store_eq rfl 30 _ _ rfl _ _ rfl rfl hst ?_)
  try simp only [Exit.inBlock, Exit.then]
  refine bodyPost_ret (results_cell_row rfl _ _ (w.heap.size + 1) 30 _ (0, 0) _ rfl hr4 Tryd.underlying30 rfl (by rw [sizeSaid]; rfl)) rfl ?_
  exact ⟨_, HPP.out⟩

theorem act_any (base : Nat) (A : Nat → Addr) (b g P : Nat) (T : Nat → Bool) (w : World) (h : MapR w b g P T) (hok : MapOk P T) (hE : Env base A w) (hgb : base ≤ g) (K O n : Int) :
    Calls Tryd.prog 10 #[.pointer (some ⟨b, 0, none⟩), .agg #[.int .i64 K, .int .i64 O, .int .i64 n]] w fun e w' => ∃ v, ActPost w b g P (actD P T K n) e w' v := by
  by_cases h1 : K = 1
  · exact act_mark base A b g P T w h hok hE hgb K O n h1
  by_cases h2 : K = 2
  · exact act_clear base A b g P T w h hok hE hgb K O n h2
  by_cases h3 : K = 3
  · exact act_used base A b g P T w h hok hE hgb K O n h3
  by_cases h4 : K = 4
  · exact act_free base A b g P T w h hok hE hgb K O n h4
  by_cases h5 : K = 5
  · exact act_take base A b g P T w h hok hE hgb K O n h5
  exact act_other base A b g P T w h hok hE hgb K O n ⟨h1, h2, h3, h4, h5⟩

end Go.Proofs.YtdghlblgmihbpaaDoor
