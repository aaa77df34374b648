import Derived.Test.YtdghlblgmihbpaaDoorFRef4
namespace Go.Proofs.YtdghlblgmihbpaaDoor
open Go.RowKit

structure ToldPost (w : World) (b : Nat) (v : Value) (P : Nat) (r : (Nat → Bool) × SaidD) (e : Ending) (w' : World) (u : Value) : Prop where
  ret : e = .returned (.agg (saidC r.2 u))
  rl : w'.ownsRow w.heap.size 3 1 u r.2.list.length (nats r.2.list)
  ref : RefPost w b v P r.1 w'
theorem told_post {w w2 w3 : World} {b P : Nat} {v : Value} {r : (Nat → Bool) × SaidD} {cs : List Value} {u : Value} (hi : ActIn w w2 cs) (hb : b < w.heap.size) (hv : ∀ k, v.ownBlock = some k → k < w.heap.size) (hm : RefPost w2 b v P r.1 w3)
    (rl : w3.ownsRow w2.heap.size 3 1 u r.2.list.length (nats r.2.list)) :
    ∃ w4, (Instr.storeAt 30 (.pointer (some ⟨w.heap.size + 1, 0, none⟩)) (.agg (saidC r.2 u))).run Tryd.prog w3 = .ok () w4 ∧ w4.heap[w.heap.size + 1]? = some (.cells (saidC r.2 u) 30 (0, 0)) ∧ ToldPost w b v P r (.returned (.agg (saidC r.2 u))) w4 u := by
  obtain ⟨v', h3, ho, hn⟩ := hm
  obtain ⟨w4, e1, e2, e3, e4, e5⟩ := act_fin r.2 hi (fun k hk => .inl (by rw [show k = b from hk]; exact hb)) ho rl
  have hsz := hi.size
  refine ⟨w4, e1, e2, ⟨rfl, e3, v', h3.only e4 (by omega) (fun k hk e => ?_), e5, fun k hk => (hn k hk).imp id (fun h => by omega)⟩⟩
  have : k = w.heap.size + 1 := e
  rcases hn k hk with h | h
  · have := hv k h; omega
  · omega

set_option maxRecDepth 100000 in
set_option maxHeartbeats 1600000 in
theorem told_mark (b : Nat) (v : Value) (P : Nat) (T : Nat → Bool) (w : World) (h : RefR w b v P T) (hok : MapOk P T) (K O n : Int) (hk : K = 1) :
    Calls Tryd.prog 28 #[.pointer (some ⟨b, 0, none⟩), .agg #[.int .i64 K, .int .i64 O, .int .i64 n]] w fun e w' => ∃ u, ToldPost w b v P (actD P T K n) e w' u := by
  have e1 : (K == 1) = true := by rw [hk]; decide
  have HACT : Hid (actD P T K n = (((markD P T n).2), { said0 with err := numE (markD P T n).1 })) := by
    show actD P T K n = _
    simp [actD, hk]
  rw [HACT.out]
  obtain ⟨w2, hw2⟩ : ∃ w2, w2 = (w.alloc (.cells #[.int .i64 K, .int .i64 O, .int .i64 n] 33)).alloc (.cells zSaid 30) := ⟨_, rfl⟩
  have hin : ActIn w w2 [.int .i64 K, .int .i64 O, .int .i64 n] := by rw [hw2]; exact actIn w #[.int .i64 K, .int .i64 O, .int .i64 n]
  have HIN := hide hin
  have k0 : w2.cell? ⟨w.heap.size, 0, none⟩ = some (.int .i64 K) := hin.box.2 0 (by simp)
  have k2 : w2.cell? ⟨w.heap.size, 2, none⟩ = some (.int .i64 n) := hin.box.2 2 (by simp)
  have h2 := h.below hin.bel
  have HLT := hide h.ltb
  have HLV : Hid (∀ k, v.ownBlock = some k → k < w.heap.size) := h.ltv
  have HC := hide (rmark_any b v P T n w2 h2 hok)
  generalize markD P T n = r at *
  clear h hin h2 hok hk
  unfold zSaid at hw2
  go_enter Tryd.func28, Tryd.ntmps28
  go_wp2_with fail
  rw [← hw2]
  clear hw2
  refine HC.out.mono ?_
  rintro e w3 ⟨rfl, h3⟩
  have FIN := hide (told_post (r := (r.2, { said0 with err := numE r.1 })) HIN.out HLT.out HLV.out h3 (own_none _ _))
  clear HC h3 k0 k2
  obtain ⟨w4, hst, hr4, HP⟩ := FIN.out
  clear FIN
  have HPP := hide HP
  clear HP
  go_wp2_with (refine wpList_store_eq rfl 30 _ _ rfl _ _ rfl rfl hst ?_)
  try simp only [Exit.inBlock, Exit.then]
  refine bodyPost_ret (results_cell_row rfl _ _ (w.heap.size + 1) 30 _ (0, 0) _ rfl hr4 Tryd.underlying30 rfl (by rw [sizeSaid]; rfl)) rfl ?_
  exact ⟨_, HPP.out⟩

set_option maxRecDepth 100000 in
set_option maxHeartbeats 1600000 in
theorem told_clear (b : Nat) (v : Value) (P : Nat) (T : Nat → Bool) (w : World) (h : RefR w b v P T) (hok : MapOk P T) (K O n : Int) (hk : K = 2) :
    Calls Tryd.prog 28 #[.pointer (some ⟨b, 0, none⟩), .agg #[.int .i64 K, .int .i64 O, .int .i64 n]] w fun e w' => ∃ u, ToldPost w b v P (actD P T K n) e w' u := by
  have e1 : (K == 1) = false := by rw [hk]; decide
  have e2 : (K == 2) = true := by rw [hk]; decide
  have HACT : Hid (actD P T K n = (((clearD P T n).2), { said0 with err := numE (clearD P T n).1 })) := by
    show actD P T K n = _
    simp [actD, hk]
  rw [HACT.out]
  obtain ⟨w2, hw2⟩ : ∃ w2, w2 = (w.alloc (.cells #[.int .i64 K, .int .i64 O, .int .i64 n] 33)).alloc (.cells zSaid 30) := ⟨_, rfl⟩
  have hin : ActIn w w2 [.int .i64 K, .int .i64 O, .int .i64 n] := by rw [hw2]; exact actIn w #[.int .i64 K, .int .i64 O, .int .i64 n]
  have HIN := hide hin
  have k0 : w2.cell? ⟨w.heap.size, 0, none⟩ = some (.int .i64 K) := hin.box.2 0 (by simp)
  have k2 : w2.cell? ⟨w.heap.size, 2, none⟩ = some (.int .i64 n) := hin.box.2 2 (by simp)
  have h2 := h.below hin.bel
  have HLT := hide h.ltb
  have HLV : Hid (∀ k, v.ownBlock = some k → k < w.heap.size) := h.ltv
  have HC := hide (rclear_any b v P T n w2 h2 hok)
  generalize clearD P T n = r at *
  clear h hin h2 hok hk
  unfold zSaid at hw2
  go_enter Tryd.func28, Tryd.ntmps28
  go_wp2_with fail
  rw [← hw2]
  clear hw2
  refine HC.out.mono ?_
  rintro e w3 ⟨rfl, h3⟩
  have FIN := hide (told_post (r := (r.2, { said0 with err := numE r.1 })) HIN.out HLT.out HLV.out h3 (own_none _ _))
  clear HC h3 k0 k2
  obtain ⟨w4, hst, hr4, HP⟩ := FIN.out
  clear FIN
  have HPP := hide HP
  clear HP
  go_wp2_with (refine wpList_store_eq rfl 30 _ _ rfl _ _ rfl rfl hst ?_)
  try simp only [Exit.inBlock, Exit.then]
  refine bodyPost_ret (results_cell_row rfl _ _ (w.heap.size + 1) 30 _ (0, 0) _ rfl hr4 Tryd.underlying30 rfl (by rw [sizeSaid]; rfl)) rfl ?_
  exact ⟨_, HPP.out⟩

set_option maxRecDepth 100000 in
set_option maxHeartbeats 1600000 in
theorem told_used (b : Nat) (v : Value) (P : Nat) (T : Nat → Bool) (w : World) (h : RefR w b v P T) (hok : MapOk P T) (K O n : Int) (hk : K = 3) :
    Calls Tryd.prog 28 #[.pointer (some ⟨b, 0, none⟩), .agg #[.int .i64 K, .int .i64 O, .int .i64 n]] w fun e w' => ∃ u, ToldPost w b v P (actD P T K n) e w' u := by
  have e1 : (K == 1) = false := by rw [hk]; decide
  have e2 : (K == 2) = false := by rw [hk]; decide
  have e3 : (K == 3) = true := by rw [hk]; decide
  have HACT : Hid (actD P T K n = (T, { said0 with ok := usedB P T n })) := by
    show actD P T K n = _
    simp [actD, hk]
  rw [HACT.out]
  obtain ⟨w2, hw2⟩ : ∃ w2, w2 = (w.alloc (.cells #[.int .i64 K, .int .i64 O, .int .i64 n] 33)).alloc (.cells zSaid 30) := ⟨_, rfl⟩
  have hin : ActIn w w2 [.int .i64 K, .int .i64 O, .int .i64 n] := by rw [hw2]; exact actIn w #[.int .i64 K, .int .i64 O, .int .i64 n]
  have HIN := hide hin
  have k0 : w2.cell? ⟨w.heap.size, 0, none⟩ = some (.int .i64 K) := hin.box.2 0 (by simp)
  have k2 : w2.cell? ⟨w.heap.size, 2, none⟩ = some (.int .i64 n) := hin.box.2 2 (by simp)
  have h2 := h.below hin.bel
  have HLT := hide h.ltb
  have HLV : Hid (∀ k, v.ownBlock = some k → k < w.heap.size) := h.ltv
  have HC := hide (rused_any b v P T n w2 h2 hok)
  have H2 := hide h2
  generalize usedB P T n = r at *
  clear h hin h2 hok hk
  unfold zSaid at hw2
  go_enter Tryd.func28, Tryd.ntmps28
  go_wp2_with fail
  rw [← hw2]
  clear hw2
  refine HC.out.mono ?_
  rintro e w3 ⟨rfl, rfl⟩
  have FIN := hide (told_post (r := (T, { said0 with ok := r })) HIN.out HLT.out HLV.out (ref_same H2.out (Below.refl _ _)) (own_none _ _))
  clear HC k0 k2
  obtain ⟨w4, hst, hr4, HP⟩ := FIN.out
  clear FIN
  have HPP := hide HP
  clear HP
  go_wp2_with (refine wpList_store_eq rfl 30 _ _ rfl _ _ rfl rfl hst ?_)
  try simp only [Exit.inBlock, Exit.then]
  refine bodyPost_ret (results_cell_row rfl _ _ (w.heap.size + 1) 30 _ (0, 0) _ rfl hr4 Tryd.underlying30 rfl (by rw [sizeSaid]; rfl)) rfl ?_
  exact ⟨_, HPP.out⟩

set_option maxRecDepth 100000 in
set_option maxHeartbeats 1600000 in
theorem told_free (b : Nat) (v : Value) (P : Nat) (T : Nat → Bool) (w : World) (h : RefR w b v P T) (hok : MapOk P T) (K O n : Int) (hk : K = 4) :
    Calls Tryd.prog 28 #[.pointer (some ⟨b, 0, none⟩), .agg #[.int .i64 K, .int .i64 O, .int .i64 n]] w fun e w' => ∃ u, ToldPost w b v P (actD P T K n) e w' u := by
  have e1 : (K == 1) = false := by rw [hk]; decide
  have e2 : (K == 2) = false := by rw [hk]; decide
  have e3 : (K == 3) = false := by rw [hk]; decide
  have e4 : (K == 4) = true := by rw [hk]; decide
  have HACT : Hid (actD P T K n = (T, { said0 with a := (frl T P).length, b := P })) := by
    show actD P T K n = _
    simp [actD, hk]
  rw [HACT.out]
  obtain ⟨w2, hw2⟩ : ∃ w2, w2 = (w.alloc (.cells #[.int .i64 K, .int .i64 O, .int .i64 n] 33)).alloc (.cells zSaid 30) := ⟨_, rfl⟩
  have hin : ActIn w w2 [.int .i64 K, .int .i64 O, .int .i64 n] := by rw [hw2]; exact actIn w #[.int .i64 K, .int .i64 O, .int .i64 n]
  have HIN := hide hin
  have k0 : w2.cell? ⟨w.heap.size, 0, none⟩ = some (.int .i64 K) := hin.box.2 0 (by simp)
  have k2 : w2.cell? ⟨w.heap.size, 2, none⟩ = some (.int .i64 n) := hin.box.2 2 (by simp)
  have h2 := h.below hin.bel
  have HLT := hide h.ltb
  have HLV : Hid (∀ k, v.ownBlock = some k → k < w.heap.size) := h.ltv
  have HC := hide (rfree_any b v P T w2 h2 hok)
  have H2 := hide h2
  generalize (frl T P).length = r at *
  clear h hin h2 hok hk
  unfold zSaid at hw2
  go_enter Tryd.func28, Tryd.ntmps28
  go_wp2_with fail
  rw [← hw2]
  clear hw2
  refine HC.out.mono ?_
  rintro e w3 ⟨rfl, hb3⟩
  have HC2 := hide (rsize_any b v P T w3 (H2.out.below hb3))
  have HB3 := hide hb3
  clear hb3 k0 k2 HC
  go_wp2_with fail
  refine HC2.out.mono ?_
  rintro e w4 ⟨rfl, rfl⟩
  have FIN := hide (told_post (r := (T, { said0 with a := r, b := P })) HIN.out HLT.out HLV.out (ref_same H2.out HB3.out) (own_none _ _))
  clear HC2 HB3
  obtain ⟨w5, hst, hr4, HP⟩ := FIN.out
  clear FIN
  have HPP := hide HP
  clear HP
  go_wp2_with (refine wpList_store_eq rfl 30 _ _ rfl _ _ rfl rfl hst ?_)
  try simp only [Exit.inBlock, Exit.then]
  refine bodyPost_ret (results_cell_row rfl _ _ (w.heap.size + 1) 30 _ (0, 0) _ rfl hr4 Tryd.underlying30 rfl (by rw [sizeSaid]; rfl)) rfl ?_
  exact ⟨_, HPP.out⟩

set_option maxRecDepth 100000 in
set_option maxHeartbeats 1600000 in
theorem told_take (b : Nat) (v : Value) (P : Nat) (T : Nat → Bool) (w : World) (h : RefR w b v P T) (hok : MapOk P T) (K O n : Int) (hk : K = 5) :
    Calls Tryd.prog 28 #[.pointer (some ⟨b, 0, none⟩), .agg #[.int .i64 K, .int .i64 O, .int .i64 n]] w fun e w' => ∃ u, ToldPost w b v P (actD P T K n) e w' u := by
  have e1 : (K == 1) = false := by rw [hk]; decide
  have e2 : (K == 2) = false := by rw [hk]; decide
  have e3 : (K == 3) = false := by rw [hk]; decide
  have e4 : (K == 4) = false := by rw [hk]; decide
  have e5 : (K == 5) = true := by rw [hk]; decide
  have HACT : Hid (actD P T K n = ((takeD P T n).2.2, { said0 with err := numE (takeD P T n).1, list := (takeD P T n).2.1 })) := by
    show actD P T K n = _
    simp [actD, hk]
  rw [HACT.out]
  obtain ⟨w2, hw2⟩ : ∃ w2, w2 = (w.alloc (.cells #[.int .i64 K, .int .i64 O, .int .i64 n] 33)).alloc (.cells zSaid 30) := ⟨_, rfl⟩
  have hin : ActIn w w2 [.int .i64 K, .int .i64 O, .int .i64 n] := by rw [hw2]; exact actIn w #[.int .i64 K, .int .i64 O, .int .i64 n]
  have HIN := hide hin
  have k0 : w2.cell? ⟨w.heap.size, 0, none⟩ = some (.int .i64 K) := hin.box.2 0 (by simp)
  have k2 : w2.cell? ⟨w.heap.size, 2, none⟩ = some (.int .i64 n) := hin.box.2 2 (by simp)
  have h2 := h.below hin.bel
  have HLT := hide h.ltb
  have HLV : Hid (∀ k, v.ownBlock = some k → k < w.heap.size) := h.ltv
  have HC := hide (rtake_any b v P T n w2 h2 hok)
  generalize takeD P T n = r at *
  clear h hin h2 hok hk
  unfold zSaid at hw2
  go_enter Tryd.func28, Tryd.ntmps28
  go_wp2_with fail
  rw [← hw2]
  clear hw2
  refine HC.out.mono ?_
  rintro e w3 ⟨u, rfl, hu, h3, -⟩
  obtain ⟨va, vc, rfl, -⟩ := owns_form hu
  have FIN := hide (told_post (r := (r.2.2, { said0 with err := numE r.1, list := r.2.1 })) HIN.out HLT.out HLV.out h3 hu)
  clear HC h3 k0 k2 hu
  obtain ⟨w4, hst, hr4, HP⟩ := FIN.out
  clear FIN
  have HPP := hide HP
  clear HP
  go_wp2_with (refine wpList_store_eq rfl 30 _ _ rfl _ _ rfl rfl hst ?_)
  try simp only [Exit.inBlock, Exit.then]
  refine bodyPost_ret (results_cell_row rfl _ _ (w.heap.size + 1) 30 _ (0, 0) _ rfl hr4 Tryd.underlying30 rfl (by rw [sizeSaid]; rfl)) rfl ?_
  exact ⟨_, HPP.out⟩

set_option maxRecDepth 100000 in
set_option maxHeartbeats 1600000 in
theorem told_other (b : Nat) (v : Value) (P : Nat) (T : Nat → Bool) (w : World) (h : RefR w b v P T) (_hok : MapOk P T) (K O n : Int) (hk : K ≠ 1 ∧ K ≠ 2 ∧ K ≠ 3 ∧ K ≠ 4 ∧ K ≠ 5) :
    Calls Tryd.prog 28 #[.pointer (some ⟨b, 0, none⟩), .agg #[.int .i64 K, .int .i64 O, .int .i64 n]] w fun e w' => ∃ u, ToldPost w b v P (actD P T K n) e w' u := by
  have e1 : (K == 1) = false := by simp; omega
  have e2 : (K == 2) = false := by simp; omega
  have e3 : (K == 3) = false := by simp; omega
  have e4 : (K == 4) = false := by simp; omega
  have e5 : (K == 5) = false := by simp; omega
  have HACT : Hid (actD P T K n = (T, said0)) := by
    show actD P T K n = _
    simp [actD, hk.1, hk.2.1, hk.2.2.1, hk.2.2.2.1, hk.2.2.2.2]
  rw [HACT.out]
  obtain ⟨w2, hw2⟩ : ∃ w2, w2 = (w.alloc (.cells #[.int .i64 K, .int .i64 O, .int .i64 n] 33)).alloc (.cells zSaid 30) := ⟨_, rfl⟩
  have hin : ActIn w w2 [.int .i64 K, .int .i64 O, .int .i64 n] := by rw [hw2]; exact actIn w #[.int .i64 K, .int .i64 O, .int .i64 n]
  have HIN := hide hin
  have k0 : w2.cell? ⟨w.heap.size, 0, none⟩ = some (.int .i64 K) := hin.box.2 0 (by simp)
  have k2 : w2.cell? ⟨w.heap.size, 2, none⟩ = some (.int .i64 n) := hin.box.2 2 (by simp)
  have h2 := h.below hin.bel
  have HLT := hide h.ltb
  have HLV : Hid (∀ k, v.ownBlock = some k → k < w.heap.size) := h.ltv
  have FIN := hide (told_post (r := (T, said0)) HIN.out HLT.out HLV.out (ref_same h2 (Below.refl _ _)) (own_none _ _))
  obtain ⟨w4, hst, hr4, HP⟩ := FIN.out
  clear FIN
  have HPP := hide HP
  clear HP
  rw [hw2] at hst
  clear h hin h2 _hok hk
  unfold zSaid at hw2 hst
  go_enter Tryd.func28, Tryd.ntmps28
  go_wp2_with (refine wpList_store_eq rfl 30 _ _ rfl _ _ rfl rfl hst ?_)
  try simp only [Exit.inBlock, Exit.then]
  refine bodyPost_ret (results_cell_row rfl _ _ (w.heap.size + 1) 30 _ (0, 0) _ rfl hr4 Tryd.underlying30 rfl (by rw [sizeSaid]; rfl)) rfl ?_
  exact ⟨_, HPP.out⟩

theorem told_any (b : Nat) (v : Value) (P : Nat) (T : Nat → Bool) (w : World) (h : RefR w b v P T) (hok : MapOk P T) (K O n : Int) :
    Calls Tryd.prog 28 #[.pointer (some ⟨b, 0, none⟩), .agg #[.int .i64 K, .int .i64 O, .int .i64 n]] w fun e w' => ∃ u, ToldPost w b v P (actD P T K n) e w' u := by
  by_cases h1 : K = 1
  · exact told_mark b v P T w h hok K O n h1
  by_cases h2 : K = 2
  · exact told_clear b v P T w h hok K O n h2
  by_cases h3 : K = 3
  · exact told_used b v P T w h hok K O n h3
  by_cases h4 : K = 4
  · exact told_free b v P T w h hok K O n h4
  by_cases h5 : K = 5
  · exact told_take b v P T w h hok K O n h5
  exact told_other b v P T w h hok K O n ⟨h1, h2, h3, h4, h5⟩

end Go.Proofs.YtdghlblgmihbpaaDoor
