import Derived.Test.YtdghlblgmihbpaaDoorFRef
namespace Go.Proofs.YtdghlblgmihbpaaDoor
open Go.RowKit

theorem lit_int (w : World) (x : Int) : RowR (w.alloc (.cells #[.int .i64 x] 3)) (.slice (some ⟨w.heap.size, 0, none⟩) 1 1) [.int .i64 x] := by
  refine ⟨some ⟨w.heap.size, 0, none⟩, 1, rfl, Nat.le_refl _, fun h => (by cases h), fun j u hj => ⟨w.heap.size, 0, rfl, ?_⟩⟩
  rw [Nat.zero_add, cell_of_row _ w.heap.size j _ _ _ (heap_alloc_new w _)]
  simpa using hj
/-- append(v, x). -/
theorem push_run {w0 w : World} {v : Value} {n : Nat} {xs : List Value} (x : Int) (hown : w.ownsRow w0.heap.size 3 1 v n xs) (hb : Below w0.heap.size w0 w) (hn : n ≤ 1000000000) :
    ∃ a' c' w', (Builtin.append_ #[28, 28] 28 #[v, .slice (some ⟨w.heap.size, 0, none⟩) 1 1]).run Tryd.prog (w.alloc (.cells #[.int .i64 x] 3)) = .ok (.slice a' (n + 1) c') w' ∧ w'.ownsRow w0.heap.size 3 1 (.slice a' (n + 1) c') (n + 1) (xs ++ [.int .i64 x]) ∧ Below w0.heap.size w0 w' := by
  obtain ⟨a', c', w', h1, h2, hg⟩ := append_row 28 3 _ 8 info3 Tryd.underlying28 rfl w0.heap.size n v xs (w.alloc (.cells #[.int .i64 x] 3)) (owns_below hown (below_new _ _)) (.slice (some ⟨w.heap.size, 0, none⟩) 1 1) [.int .i64 x] (lit_int w x) (by intro u hu; simp at hu; subst hu; rfl) (by simp only [List.length_cons, List.length_nil]; omega) (by decide) (by have := hb.size; simp; omega)
  exact ⟨a', c', w', h1, h2, (hb.alloc hb.size _).grown hg (by have := hb.size; simp; omega) (fun j hj => (owns_blk hown j hj).1)⟩
def insK (A R : List Nat) (m k : Nat) : List Nat := if k ≤ A.length then (A ++ R).take k else A ++ m :: R.take (k - A.length)
theorem insK_lt {A R : List Nat} {m k : Nat} (h : k < A.length) (h2 : k < (A ++ R).length) : insK A R m (k + 1) = insK A R m k ++ [(A ++ R)[k]] := by
  unfold insK
  rw [if_pos (by omega), if_pos (by omega), List.take_succ_eq_append_getElem h2]
theorem insK_at {A R : List Nat} {m : Nat} (h2 : A.length < (A ++ R).length) : insK A R m (A.length + 1) = (insK A R m A.length ++ [m]) ++ [(A ++ R)[A.length]] := by
  unfold insK
  rw [if_neg (by omega), if_pos (Nat.le_refl _), List.take_left]
  have hr : 0 < R.length := by simp at h2; omega
  rw [show A.length + 1 - A.length = 1 by omega, List.getElem_append_right (Nat.le_refl _)]
  cases R with
  | nil => simp at hr
  | cons x R => simp
theorem insK_gt {A R : List Nat} {m k : Nat} (h : A.length < k) (h2 : k < (A ++ R).length) : insK A R m (k + 1) = insK A R m k ++ [(A ++ R)[k]] := by
  unfold insK
  have hr : k - A.length < R.length := by simp at h2; omega
  rw [if_neg (by omega), if_neg (by omega), show k + 1 - A.length = (k - A.length) + 1 by omega, List.take_succ_eq_append_getElem hr, List.getElem_append_right (by omega)]
  simp
theorem insK_end (A R : List Nat) (m : Nat) : (if A.length < (A ++ R).length then insK A R m (A ++ R).length else insK A R m (A ++ R).length ++ [m]) = A ++ m :: R := by
  unfold insK
  split
  · rename_i h
    rw [if_neg (by omega)]
    simp
  · rename_i h
    have : R = [] := by
      cases R with
      | nil => rfl
      | cons x R => simp at h
    subst this
    simp
theorem insK_len (A R : List Nat) (m k : Nat) (h : k ≤ (A ++ R).length) : (insK A R m k).length = if k ≤ A.length then k else k + 1 := by
  unfold insK
  simp at h
  split
  · simp; omega
  · simp; omega
/-- Marked: the page stands in its place. -/
theorem tkl_mark {T : Nat → Bool} {P m : Nat} (h2 : 2 ≤ m) (hP : m < P) (hT : T m = false) : ∃ R, tkl T P = tkl T m ++ R ∧ (∀ j ∈ R, m < j) ∧ tkl (upd T m true) P = tkl T m ++ m :: R := by
  obtain ⟨R, e1, e2, e3⟩ := tkl_cut T (m + 1) P hP
  have em : tkl T (m + 1) = tkl T m := by rw [tkl_succ, hT]; simp
  refine ⟨R, by rw [e1, em], fun j hj => e2 j hj, ?_⟩
  rw [e3 (upd T m true) (fun j hj => upd_ne _ _ _ _ (by omega)), tkl_succ, upd_self, tkl_congr (T' := T) (fun j hj _ => upd_ne _ _ _ _ (by omega))]
  simp [h2]
theorem tkl_clear (T : Nat → Bool) (m P : Nat) : tkl (upd T m false) P = (tkl T P).filter (fun j => decide (j ≠ m)) := by
  induction P with
  | zero => rfl
  | succ P ih =>
    rw [tkl_succ, tkl_succ, ih, List.filter_append]
    congr 1
    by_cases h : P = m
    · subst h
      rw [upd_self]
      cases (decide (2 ≤ P) && T P) <;> simp
    · rw [upd_ne _ _ _ _ h]
      cases (decide (2 ≤ P) && T P) <;> simp [h]

def RefPost (w : World) (b : Nat) (v : Value) (P : Nat) (T' : Nat → Bool) (w' : World) : Prop := ∃ v', RefR w' b v' P T' ∧ Only (fun k => k = b) w w' ∧ ∀ k, v'.ownBlock = some k → v.ownBlock = some k ∨ w.heap.size ≤ k
theorem ref_same {w w' : World} {b : Nat} {v : Value} {P : Nat} {T : Nat → Bool} (h : RefR w b v P T) (hb : Below w.heap.size w w') : RefPost w b v P T w' := ⟨v, h.below hb, Only.of_below hb, fun _ h => .inl h⟩
/-- The list is laid anew. -/
theorem ref_store {w w1 : World} {b : Nat} {v : Value} {P : Nat} {T T' : Nat → Bool} {a : Option Addr} {n c : Nat} (h : RefR w b v P T) (hb : Below w.heap.size w w1) (ho : w1.ownsRow w.heap.size 3 1 (.slice a n c) n (nats (tkl T' P))) : RefPost w b v P T' (w1.setCell ⟨b, 1, none⟩ (.slice a n c)) := by
  have hl := ho.1
  rw [nats_length] at hl
  refine ⟨.slice a n c, (h.below hb).stored (owns_weak (by rw [show (tkl T' P).length = n by omega]; exact ho) (Nat.zero_le _)), (Only.of_below hb).trans (Only.set (F := fun k => k = b) rfl _ _ _), fun k hk => .inr (owns_blk ho k hk).1⟩

set_option maxRecDepth 100000 in
set_option maxHeartbeats 2000000 in
theorem rclear_any (b : Nat) (v : Value) (P : Nat) (T : Nat → Bool) (id : Int) (w : World) (h : RefR w b v P T) (hok : MapOk P T) : Calls Tryd.prog 45 #[.pointer (some ⟨b, 0, none⟩), .int .i64 id] w fun e w' => e = .returned (.int .i64 (numE (clearD P T id).1 : Nat)) ∧ RefPost w b v P (clearD P T id).2 w' := by
  have c0 := h.c0
  have hP := hok.hi
  have H := hide h
  have RT := hide (rtaken_any b v P T id w h hok.hi)
  have HP0 := hide (ref_same h (Below.refl _ _))
  cases ht : treeB P id with
  | false =>
    have HD : Hid (clearD P T id = (some 0, T)) := by show clearD P T id = _; simp [clearD, ht]
    rw [HD.out]
    have hor : id < 2 ∨ (2 ≤ id ∧ (P : Int) ≤ id) := by
      simp only [treeB, Bool.and_eq_false_iff, decide_eq_false_iff_not] at ht
      omega
    clear h hok ht RT
    rcases hor with h1 | ⟨h1, h2⟩
    · go_enter Tryd.func45, Tryd.ntmps45
      go_wp2
      go_ret
      exact ⟨rfl, HP0.out⟩
    · go_enter Tryd.func45, Tryd.ntmps45
      go_wp2
      go_ret
      exact ⟨rfl, HP0.out⟩
  | true =>
    have hb := ht
    simp only [treeB, Bool.and_eq_true, decide_eq_true_eq] at hb
    obtain ⟨m, rfl⟩ : ∃ m : Nat, id = m := ⟨id.toNat, by omega⟩
    have htk : takB P T (m : Int) = T m := by simp [takB, ht]
    rw [htk] at RT
    have h2 : ¬ (m : Int) < 2 := by omega
    have h3 : ¬ (P : Int) ≤ (m : Int) := by omega
    cases hT : T m with
    | false =>
      have HD : Hid (clearD P T (m : Int) = (some 5, T)) := by show clearD P T (m : Int) = _; simp [clearD, ht, hT]
      rw [HD.out]
      rw [hT] at RT
      clear h hok ht hb htk hT
      go_enter Tryd.func45, Tryd.ntmps45
      go_wp2_with fail
      refine RT.out.mono ?_
      rintro e w1 ⟨rfl, rfl⟩
      go_wp2
      go_ret
      exact ⟨rfl, HP0.out⟩
    | true =>
      have HD : Hid (clearD P T (m : Int) = (none, upd T m false)) := by show clearD P T (m : Int) = _; simp [clearD, ht, hT]
      rw [HD.out]
      rw [hT] at RT
      have HTC := hide (tkl_clear T m P)
      have hle := tkl_le T P
      obtain ⟨n, hn⟩ : ∃ n, n = (tkl T P).length := ⟨_, rfl⟩
      have HN := hide hn
      obtain ⟨a, c, rfl, -⟩ := h.form
      rw [← hn] at hle
      have c1 := h.c1
      rw [← hn] at c1
      rw [← hn]
      clear h hok ht hb htk hT hn
      go_enter Tryd.func45, Tryd.ntmps45
      go_wp2_with fail
      refine RT.out.mono ?_
      rintro e w1 ⟨rfl, rfl⟩
      clear RT
      go_wp2_with fail
      go_loopw [6, 7] (fun u i wr => ∃ k : Nat, k ≤ n ∧ i = .int .i64 k ∧ wr.ownsRow w.heap.size 3 1 u (((tkl T P).take k).filter (fun j => decide (j ≠ m))).length (nats (((tkl T P).take k).filter (fun j => decide (j ≠ m)))) ∧ Below w.heap.size w wr) (fun _ i _ => n - (intOf i).toNat)
      case atStart => exact ⟨0, Nat.zero_le _, rfl, World.ownsRow_nil _ _ _ _, Below.refl _ _⟩
      case round =>
        obtain ⟨k, hk, rfl, hown, hbw⟩ := hrel
        obtain ⟨ua, uc, rfl, -⟩ := owns_form hown
        have HR := H.out.below hbw
        rw [← HN.out] at HR
        have c1 := HR.c1
        by_cases hlt : k < n
        · have hkl : k < (tkl T P).length := by rw [← HN.out]; exact hlt
          obtain ⟨a', c', he, hc⟩ := HR.form
          simp only [Value.slice.injEq] at he
          obtain ⟨rfl, -, -⟩ := he
          obtain ⟨g, rfl, ck⟩ := hc k hkl
          have HSN : Hid (((tkl T P).take (k + 1)).filter (fun j => decide (j ≠ m)) = ((tkl T P).take k).filter (fun j => decide (j ≠ m)) ++ (if (tkl T P)[k] = m then [] else [(tkl T P)[k]])) := by
            show _ = _
            rw [List.take_succ_eq_append_getElem hkl, List.filter_append]
            congr 1
            by_cases hx : (tkl T P)[k] = m <;> simp [hx]
          have hlb : (((tkl T P).take k).filter (fun j => decide (j ≠ m))).length ≤ 1048576 := by
            have := List.length_filter_le (fun j => decide (j ≠ m)) ((tkl T P).take k)
            have := List.length_take_le k (tkl T P)
            omega
          generalize ((tkl T P).take k).filter (fun j => decide (j ≠ m)) = out at *
          generalize (tkl T P)[k] = x at *
          have HOW := hide hown
          have HBW := hide hbw
          obtain ⟨L2, hL2⟩ : ∃ L2, L2 = out.length := ⟨_, rfl⟩
          have HL2 := hide hL2
          rw [← hL2] at HOW hlb ⊢
          clear hc hkl hown hbw HR hL2
          have hkI : (k : Int) < (n : Int) := by omega
          by_cases hx : x = m
          · have hne : ((x : Int) != (m : Int)) = false := by simp [hx]
            have HX := hide hx
            clear hx
            go_wp2
            go_roundw
            case rel => exact ⟨k + 1, by omega, by go_num, by rw [HSN.out, if_pos HX.out, List.append_nil, ← HL2.out]; exact HOW.out, HBW.out⟩
            case measure => simp [intOf]; omega
          · have hne : ((x : Int) != (m : Int)) = true := by simp; omega
            have HX := hide hx
            obtain ⟨a2, c2, w2, hrun, ho2, hb2⟩ := push_run (x : Int) HOW.out HBW.out (by omega)
            have HO2 : Hid (w2.ownsRow w.heap.size 3 1 (.slice a2 (L2 + 1) c2) (L2 + 1) (nats (out ++ [x]))) := by
              show World.ownsRow _ _ _ _ _ _ _
              rw [nats_append]; exact ho2
            have HB2 := hide hb2
            clear hx ho2 hb2
            go_wp2_with (first | (at_builtin; refine wpList_append_run 28 rfl (.tmp 41) (.tmp 49) rfl rfl _ _ rfl rfl _ _ hrun ?_))
            go_roundw
            case rel => exact ⟨k + 1, by omega, by go_num, by rw [HSN.out, if_neg HX.out, List.length_append, ← HL2.out]; exact HO2.out, HB2.out⟩
            case measure => simp [intOf]; omega
        · have hke : k = n := by omega
          have hkI : ¬ (k : Int) < (n : Int) := by omega
          obtain ⟨L2, hL2⟩ : ∃ L2, L2 = (((tkl T P).take k).filter (fun j => decide (j ≠ m))).length := ⟨_, rfl⟩
          rw [← hL2] at hown ⊢
          rw [hke, HN.out, List.take_length, ← HTC.out] at hown
          have cz := HR.frozen 1
          have HS := hide (ref_store H.out hbw hown)
          rw [← HN.out] at HS
          clear hown hbw HR hL2 H
          go_wp2
          go_ret
          exact ⟨rfl, HS.out⟩

set_option maxRecDepth 100000 in
set_option maxHeartbeats 4000000 in
theorem rmark_any (b : Nat) (v : Value) (P : Nat) (T : Nat → Bool) (id : Int) (w : World) (h : RefR w b v P T) (hok : MapOk P T) : Calls Tryd.prog 44 #[.pointer (some ⟨b, 0, none⟩), .int .i64 id] w fun e w' => e = .returned (.int .i64 (numE (markD P T id).1 : Nat)) ∧ RefPost w b v P (markD P T id).2 w' := by
  have c0 := h.c0
  have hP := hok.hi
  have H := hide h
  have RT := hide (rtaken_any b v P T id w h hok.hi)
  have HP0 := hide (ref_same h (Below.refl _ _))
  cases ht : treeB P id with
  | false =>
    have HD : Hid (markD P T id = (some 0, T)) := by show markD P T id = _; simp [markD, ht]
    rw [HD.out]
    have hor : id < 2 ∨ (2 ≤ id ∧ (P : Int) ≤ id) := by
      simp only [treeB, Bool.and_eq_false_iff, decide_eq_false_iff_not] at ht
      omega
    clear h hok ht RT
    rcases hor with h1 | ⟨h1, h2⟩
    · go_enter Tryd.func44, Tryd.ntmps44
      go_wp2
      go_ret
      exact ⟨rfl, HP0.out⟩
    · go_enter Tryd.func44, Tryd.ntmps44
      go_wp2
      go_ret
      exact ⟨rfl, HP0.out⟩
  | true =>
    have hb := ht
    simp only [treeB, Bool.and_eq_true, decide_eq_true_eq] at hb
    obtain ⟨m, rfl⟩ : ∃ m : Nat, id = m := ⟨id.toNat, by omega⟩
    have htk : takB P T (m : Int) = T m := by simp [takB, ht]
    rw [htk] at RT
    have h2 : ¬ (m : Int) < 2 := by omega
    have h3 : ¬ (P : Int) ≤ (m : Int) := by omega
    cases hT : T m with
    | true =>
      have HD : Hid (markD P T (m : Int) = (some 4, T)) := by show markD P T (m : Int) = _; simp [markD, ht, hT]
      rw [HD.out]
      rw [hT] at RT
      clear h hok ht hb htk hT
      go_enter Tryd.func44, Tryd.ntmps44
      go_wp2_with fail
      refine RT.out.mono ?_
      rintro e w1 ⟨rfl, rfl⟩
      go_wp2
      go_ret
      exact ⟨rfl, HP0.out⟩
    | false =>
      have HD : Hid (markD P T (m : Int) = (none, upd T m true)) := by show markD P T (m : Int) = _; simp [markD, ht, hT]
      rw [HD.out]
      rw [hT] at RT
      obtain ⟨R, eL, eR, eN⟩ := tkl_mark (P := P) (m := m) (by omega) (by omega) hT
      have HA : Hid (∀ j ∈ tkl T m, j < m) := fun j hj => (tkl_mem.1 hj).1
      have HR0 := hide eR
      have HNW := hide eN
      have HL := hide eL
      have hle := tkl_le T P
      obtain ⟨n, hn⟩ : ∃ n, n = (tkl T P).length := ⟨_, rfl⟩
      have HN := hide hn
      obtain ⟨a, c, rfl, -⟩ := h.form
      rw [← hn] at hle
      have c1 := h.c1
      rw [← hn] at c1
      rw [← hn]
      have HAL : Hid (n = (tkl T m ++ R).length) := by show _ = _; rw [hn, eL]
      generalize tkl T m = AA at *
      clear h hok ht hb htk hT hn eL eR eN
      go_enter Tryd.func44, Tryd.ntmps44
      go_wp2_with fail
      refine RT.out.mono ?_
      rintro e w1 ⟨rfl, rfl⟩
      clear RT
      go_wp2_with fail
      go_loopw [6, 7, 8] (fun u d i wr => ∃ (k : Nat) (dn : Bool), k ≤ n ∧ i = .int .i64 k ∧ d = .bool dn ∧ Hid (dn = decide (AA.length < k)) ∧ wr.ownsRow w.heap.size 3 1 u (insK AA R m k).length (nats (insK AA R m k)) ∧ Below w.heap.size w wr) (fun _ _ i _ => n - (intOf i).toNat)
      case atStart => exact ⟨0, false, Nat.zero_le _, rfl, rfl, by show false = _; simp, by simp [insK, nats]; exact World.ownsRow_nil _ _ _ _, Below.refl _ _⟩
      case round =>
        obtain ⟨k, dn, hk, rfl, rfl, HDN, hown, hbw⟩ := hrel
        obtain ⟨ua, uc, rfl, -⟩ := owns_form hown
        have HR := H.out.below hbw
        rw [← HN.out] at HR
        have c1 := HR.c1
        have hlen := insK_len AA R m k (by rw [← HAL.out]; exact hk)
        have hlb : (insK AA R m k).length ≤ 1048578 := by rw [hlen]; split <;> omega
        by_cases hlt : k < n
        · have hkl : k < (tkl T P).length := by rw [← HN.out]; exact hlt
          have hkA : k < (AA ++ R).length := by rw [← HAL.out]; exact hlt
          obtain ⟨a', c', he, hc⟩ := HR.form
          simp only [Value.slice.injEq] at he
          obtain ⟨rfl, -, -⟩ := he
          obtain ⟨g, rfl, ck⟩ := hc k hkl
          have hxe : (tkl T P)[k] = (AA ++ R)[k] := by simp only [HL.out]
          rw [hxe] at ck
          have HCX : Hid (∀ X, Below w.heap.size w X → X.cell? ⟨g, k, none⟩ = some (.int .i64 ((AA ++ R)[k] : Int)) ∧ X.cell? ⟨b, 1, none⟩ = some (.slice (some ⟨g, 0, none⟩) n c)) := fun X hX => by
            have HRX := H.out.below hX
            have e1 := HRX.c1
            rw [← HN.out] at e1
            obtain ⟨a', c', he, hc⟩ := HRX.form
            simp only [Value.slice.injEq] at he
            obtain ⟨ha, -, -⟩ := he
            obtain ⟨g', hg', hcell⟩ := hc k hkl
            rw [← ha] at hg'
            cases hg'
            rw [hxe] at hcell
            exact ⟨hcell, e1⟩
          have HX1 : Hid (k < AA.length → (AA ++ R)[k] < m) := fun h => by
            rw [List.getElem_append_left h]; exact HA.out _ (List.getElem_mem h)
          have HX2 : Hid (AA.length ≤ k → m < (AA ++ R)[k]) := fun h => by
            rw [List.getElem_append_right h]; exact HR0.out _ (List.getElem_mem _)
          have I1 : Hid (k < AA.length → insK AA R m (k + 1) = insK AA R m k ++ [(AA ++ R)[k]]) := fun h => insK_lt h hkA
          have I2 : Hid (AA.length = k → insK AA R m (k + 1) = (insK AA R m k ++ [m]) ++ [(AA ++ R)[k]]) := fun h => by subst h; exact insK_at hkA
          have I3 : Hid (AA.length < k → insK AA R m (k + 1) = insK AA R m k ++ [(AA ++ R)[k]]) := fun h => insK_gt h hkA
          clear hxe hc hkl
          generalize (AA ++ R)[k] = x at *
          have HOW := hide hown
          have HBW := hide hbw
          obtain ⟨L2, hL2⟩ : ∃ L2, L2 = (insK AA R m k).length := ⟨_, rfl⟩
          have HL2 := hide hL2
          rw [← hL2] at HOW hlb ⊢
          clear hown hbw HR hL2 hlen hkA
          have hkI : (k : Int) < (n : Int) := by omega
          rcases Nat.lt_trichotomy AA.length k with hA | hA | hA
          · -- behind the place
            have hdn : dn = true := by rw [HDN.out]; simp [hA]
            subst hdn
            obtain ⟨a2, c2, w2, hrun, ho2, hb2⟩ := push_run (x : Int) HOW.out HBW.out (by omega)
            have HO2 : Hid (w2.ownsRow w.heap.size 3 1 (.slice a2 (L2 + 1) c2) (L2 + 1) (nats (insK AA R m (k + 1)))) := by
              show World.ownsRow _ _ _ _ _ _ _
              rw [I3.out hA, nats_append]; exact ho2
            have HLN : Hid ((insK AA R m (k + 1)).length = L2 + 1) := by show _ = _; rw [I3.out hA, List.length_append, ← HL2.out]; rfl
            have HAA := hide hA
            have HB2 := hide hb2
            clear ho2 hb2 hA
            go_wp2_with (first | (at_builtin; refine wpList_append_run 28 rfl (.tmp 49) (.tmp 57) rfl rfl _ _ rfl rfl _ _ hrun ?_))
            go_roundw
            case rel => exact ⟨k + 1, true, by omega, by go_num, rfl, by show true = _; have := HAA.out; simp; omega, by rw [HLN.out]; exact HO2.out, HB2.out⟩
            case measure => simp [intOf]; omega
          · -- at the place
            have hdn : dn = false := by rw [HDN.out]; simp [hA]
            subst hdn
            have hgt : (m : Int) < (x : Int) := by have := HX2.out (by omega); omega
            obtain ⟨a2, c2, w2, hrun, ho2, hb2⟩ := push_run (m : Int) HOW.out HBW.out (by omega)
            obtain ⟨a3, c3, w3, hrun3, ho3, hb3⟩ := push_run (x : Int) ho2 hb2 (by omega)
            have d1 := (HCX.out w2 hb2).2
            have dk := (HCX.out w2 hb2).1
            have HO3 : Hid (w3.ownsRow w.heap.size 3 1 (.slice a3 (L2 + 1 + 1) c3) (L2 + 1 + 1) (nats (insK AA R m (k + 1)))) := by
              show World.ownsRow _ _ _ _ _ _ _
              rw [I2.out hA, nats_append, nats_append]; exact ho3
            have HLN : Hid ((insK AA R m (k + 1)).length = L2 + 1 + 1) := by show _ = _; rw [I2.out hA, List.length_append, List.length_append, ← HL2.out]; rfl
            have HAA := hide hA
            have HB3 := hide hb3
            clear ho2 hb2 ho3 hb3 hA HCX
            go_wp2_with (first | (at_builtin; refine wpList_append_run 28 rfl (.tmp 45) (.tmp 47) rfl rfl _ _ rfl rfl _ _ hrun ?_) | (at_builtin; refine wpList_append_run 28 rfl (.tmp 49) (.tmp 57) rfl rfl _ _ rfl rfl _ _ hrun3 ?_))
            go_roundw
            case rel => exact ⟨k + 1, true, by omega, by go_num, rfl, by show true = _; have := HAA.out; simp; omega, by rw [HLN.out]; exact HO3.out, HB3.out⟩
            case measure => simp [intOf]; omega
          · -- ahead of it
            have hdn : dn = false := by rw [HDN.out]; simp; omega
            subst hdn
            have hgt : ¬ (m : Int) < (x : Int) := by have := HX1.out hA; omega
            obtain ⟨a2, c2, w2, hrun, ho2, hb2⟩ := push_run (x : Int) HOW.out HBW.out (by omega)
            have HO2 : Hid (w2.ownsRow w.heap.size 3 1 (.slice a2 (L2 + 1) c2) (L2 + 1) (nats (insK AA R m (k + 1)))) := by
              show World.ownsRow _ _ _ _ _ _ _
              rw [I1.out hA, nats_append]; exact ho2
            have HLN : Hid ((insK AA R m (k + 1)).length = L2 + 1) := by show _ = _; rw [I1.out hA, List.length_append, ← HL2.out]; rfl
            have HAA := hide hA
            have HB2 := hide hb2
            clear ho2 hb2 hA
            go_wp2_with (first | (at_builtin; refine wpList_append_run 28 rfl (.tmp 49) (.tmp 57) rfl rfl _ _ rfl rfl _ _ hrun ?_))
            go_roundw
            case rel => exact ⟨k + 1, false, by omega, by go_num, rfl, by show false = _; have := HAA.out; simp; omega, by rw [HLN.out]; exact HO2.out, HB2.out⟩
            case measure => simp [intOf]; omega
        · have hke : k = n := by omega
          have hkI : ¬ (k : Int) < (n : Int) := by omega
          have HE := insK_end AA R m
          rw [← HAL.out] at HE
          rw [hke] at hown HDN
          have cz := HR.frozen 1
          obtain ⟨L2, hL2⟩ : ∃ L2, L2 = (insK AA R m n).length := ⟨_, rfl⟩
          rw [hke] at hlb ⊢
          rw [← hL2] at hown hlb ⊢
          by_cases hA : AA.length < n
          · have hdn : dn = true := by rw [HDN.out]; simp [hA]
            subst hdn
            rw [if_pos hA] at HE
            rw [HE, ← HNW.out] at hown
            have HS := hide (ref_store H.out hbw hown)
            rw [← HN.out] at HS
            clear hown hbw HR hL2 H HE hA hlen hke HDN
            go_wp2
            go_ret
            exact ⟨rfl, HS.out⟩
          · have hdn : dn = false := by rw [HDN.out]; simp; omega
            subst hdn
            rw [if_neg hA] at HE
            obtain ⟨a2, c2, w2, hrun, ho2, hb2⟩ := push_run (m : Int) hown hbw (by omega)
            have ho3 : w2.ownsRow w.heap.size 3 1 (.slice a2 (L2 + 1) c2) (L2 + 1) (nats (tkl (upd T m true) P)) := by
              rw [HNW.out, ← HE, nats_append]; exact ho2
            have HS := hide (ref_store H.out hb2 ho3)
            rw [← HN.out] at HS
            have HR2 := H.out.below hb2
            rw [← HN.out] at HR2
            have d1 := HR2.c1
            have dz := HR2.frozen 1
            clear hown hbw HR HR2 hL2 H HE hA hlen ho2 ho3 hb2 hke HDN
            go_wp2_with (first | (at_builtin; refine wpList_append_run 28 rfl (.tmp 61) (.tmp 63) rfl rfl _ _ rfl rfl _ _ hrun ?_))
            go_ret
            exact ⟨rfl, HS.out⟩

end Go.Proofs.YtdghlblgmihbpaaDoor
