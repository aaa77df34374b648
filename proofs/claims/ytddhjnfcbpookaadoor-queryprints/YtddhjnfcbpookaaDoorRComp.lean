import Derived.Test.YtddhjnfcbpookaaDoorRPack
import Derived.Test.YtddhjnfcbpookaaDoorComp
namespace Go.Proofs.YtddhjnfcbpookaaDoor
open Go.RowKit

set_option maxHeartbeats 400000 in
theorem rsign_any (a b : Int) (w : World) : Calls Tryd.prog 65 #[.int .i64 a, .int .i64 b] w fun e w' => e = .returned (.int .i64 (sgn a b)) ∧ w = w' := by
  rcases Int.lt_trichotomy a b with h | h | h
  · rw [sgn_lt h]
    go_enter Tryd.func65, Tryd.ntmps65
    go_wp2
    go_ret
    exact ⟨rfl, rfl⟩
  · subst h
    rw [sgn_eq]
    have h1 : ¬ a < a := by omega
    go_enter Tryd.func65, Tryd.ntmps65
    go_wp2
    go_ret
    exact ⟨rfl, rfl⟩
  · rw [sgn_gt h]
    have h1 : ¬ a < b := by omega
    go_enter Tryd.func65, Tryd.ntmps65
    go_wp2
    go_ret
    exact ⟨rfl, rfl⟩
theorem less_cmp : ∀ (x y : List UInt8), Op.bytesLess x y = decide (cmpB x y = -1)
  | [], [] => by simp [Op.bytesLess, cmpB, Lib.compareBytes]
  | [], _ :: _ => by simp [Op.bytesLess, cmpB, Lib.compareBytes]
  | _ :: _, [] => by simp [Op.bytesLess, cmpB, Lib.compareBytes]
  | a :: x, b :: y => by
    have ih := less_cmp x y
    rw [cmpB_cons]
    simp only [Op.bytesLess, ih]
    by_cases h : a < b
    · simp [h]
    · by_cases h2 : b < a
      · have : (a == b) = false := by simp; intro e; rw [e] at h2; exact UInt8.lt_irrefl b h2
        simp [h, h2, this]
      · have : a = b := UInt8.le_antisymm (UInt8.not_lt.1 h2) (UInt8.not_lt.1 h)
        subst this
        simp [h]
theorem cmpB_values : ∀ (x y : List UInt8), cmpB x y = -1 ∨ cmpB x y = 0 ∨ cmpB x y = 1
  | [], [] => .inr (.inl rfl)
  | [], _ :: _ => .inl rfl
  | _ :: _, [] => .inr (.inr rfl)
  | a :: x, b :: y => by
    rw [cmpB_cons]
    split
    · exact .inl rfl
    · split
      · exact .inr (.inr rfl)
      · exact cmpB_values x y
set_option maxHeartbeats 400000 in
theorem rtexts_any (a b : ByteArray) (w : World) : Calls Tryd.prog 66 #[.string a, .string b] w fun e w' => e = .returned (.int .i64 (cmpB a.data.toList b.data.toList)) ∧ w = w' := by
  have hl := less_cmp a.toList b.toList
  have e1 := ByteArray.toList_eq a
  have e2 := ByteArray.toList_eq b
  have HT : Hid (cmpB a.data.toList b.data.toList = cmpB a.toList b.toList) := by show _ = _; rw [e1, e2]
  have HZ : Hid (cmpB a.toList b.toList = 0 ↔ (a.toList == b.toList) = true) := by
    show _ ↔ _
    rw [beq_iff_eq]
    exact ⟨cmpB_zero _ _, fun h => by rw [h, cmpB_self]⟩
  rw [HT.out]
  clear e1 e2 HT
  rcases cmpB_values a.toList b.toList with h | h | h
  · have hl2 : Op.bytesLess a.toList b.toList = true := by rw [hl, h]; rfl
    rw [h]
    clear hl HZ h
    go_enter Tryd.func66, Tryd.ntmps66
    go_wp2
    go_ret
    exact ⟨rfl, rfl⟩
  · have hl2 : Op.bytesLess a.toList b.toList = false := by rw [hl, h]; rfl
    have hq : (a.toList == b.toList) = true := HZ.out.1 h
    rw [h]
    clear hl HZ h
    go_enter Tryd.func66, Tryd.ntmps66
    go_wp2
    go_ret
    exact ⟨rfl, rfl⟩
  · have hl2 : Op.bytesLess a.toList b.toList = false := by rw [hl, h]; rfl
    have hq : (a.toList == b.toList) = false := by
      cases hh : (a.toList == b.toList)
      · rfl
      · have := HZ.out.2 hh; rw [h] at this; cases this
    rw [h]
    clear hl HZ h
    go_enter Tryd.func66, Tryd.ntmps66
    go_wp2
    go_ret
    exact ⟨rfl, rfl⟩

/-- What CompareLists answers of lists that may be, r lists in one another. -/
def ListsSpec (r : Nat) : Prop := ∀ (a b : List It) (va vb : Value) (w : World), ItsAt w anyB va a → ItsAt w anyB vb b → faultR r a = 0 → faultR r b = 0 →
    Calls Tryd.prog 67 #[va, vb] w fun e w' => e = .returned (.int .i64 (cmpR r a b)) ∧ Below w.heap.size w w'
/-- The like for the lists within: none, where no list may lie within. -/
def InnerSpec (rec : List It → Nat) (recC : List It → List It → Int) : Prop := ∀ (a b : List It) (va vb : Value) (w : World), ItsAt w anyB va a → ItsAt w anyB vb b → rec a = 0 → rec b = 0 →
    Calls Tryd.prog 67 #[va, vb] w fun e w' => e = .returned (.int .i64 (recC a b)) ∧ Below w.heap.size w w'

set_option maxHeartbeats 1000000 in
theorem rci_any (rec : List It → Nat) (recC : List It → List It → Int) (ih : InnerSpec rec recC) (x y : It) (va vb : Value) (w : World) (hx : oneF rec x = 0) (hy : oneF rec y = 0) (ha : ItsAt w anyB va x.list) (hb : ItsAt w anyB vb y.list) :
    Calls Tryd.prog 46 #[.agg #[.int .i64 x.kind, .int .i64 x.num, .string x.text, va], .agg #[.int .i64 y.kind, .int .i64 y.num, .string y.text, vb]] w
      fun e w' => e = .returned (.int .i64 (cmpOne recC x y)) ∧ Below w.heap.size w w' := by
  have kx := fits_kind (oneF_zero hx).1
  have rx := (oneF_zero hx).2
  have ry := (oneF_zero hy).2
  have HO : Hid (cmpOne recC x y = if x.kind = y.kind then (if x.kind = 2 ∨ x.kind = 3 then sgn x.num y.num else if x.kind = 4 then cmpB x.text.data.toList y.text.data.toList else if x.kind = 5 then recC x.list y.list else 0) else sgn x.kind y.kind) := rfl
  generalize cmpOne recC x y = R at *
  have IH : Hid (x.kind = 5 → y.kind = 5 → ∀ w', ItsAt w' anyB va x.list → ItsAt w' anyB vb y.list → Calls Tryd.prog 67 #[va, vb] w' fun e w'' => e = .returned (.int .i64 (recC x.list y.list)) ∧ Below w'.heap.size w' w'') := fun h1 h2 w' p q => ih _ _ _ _ w' p q (rx h1) (ry h2)
  clear ih hx hy rx ry
  generalize x.kind = xk at *
  generalize y.kind = yk at *
  generalize x.num = xn at *
  generalize y.num = yn at *
  generalize x.text = xt at *
  generalize y.text = yt at *
  generalize x.list = xl at *
  generalize y.list = yl at *
  have b12 := Below.next (below_new w (.cells #[.int .i64 xk, .int .i64 xn, .string xt, va] 59)) (below_new (w.alloc (.cells #[.int .i64 xk, .int .i64 xn, .string xt, va] 59)) (.cells #[.int .i64 yk, .int .i64 yn, .string yt, vb] 59))
  have HW : Hid (Below w.heap.size w ((w.alloc (.cells #[.int .i64 xk, .int .i64 xn, .string xt, va] 59)).alloc (.cells #[.int .i64 yk, .int .i64 yn, .string yt, vb] 59)) ∧ ItsAt ((w.alloc (.cells #[.int .i64 xk, .int .i64 xn, .string xt, va] 59)).alloc (.cells #[.int .i64 yk, .int .i64 yn, .string yt, vb] 59)) anyB va xl ∧ ItsAt ((w.alloc (.cells #[.int .i64 xk, .int .i64 xn, .string xt, va] 59)).alloc (.cells #[.int .i64 yk, .int .i64 yn, .string yt, vb] 59)) anyB vb yl) := ⟨b12, ha.keep b12, hb.keep b12⟩
  clear b12 ha hb
  have SG : Hid (∀ (a b : Int) (w : World), Calls Tryd.prog 65 #[.int .i64 a, .int .i64 b] w fun e w' => e = .returned (.int .i64 (sgn a b)) ∧ w = w') := rsign_any
  have TX : Hid (∀ (w : World), Calls Tryd.prog 66 #[.string xt, .string yt] w fun e w' => e = .returned (.int .i64 (cmpB xt.data.toList yt.data.toList)) ∧ w = w') := fun w => rtexts_any xt yt w
  go_enter Tryd.func46, Tryd.ntmps46
  by_cases hk : xk = yk
  · subst hk
    have hR := HO.out
    rw [if_pos rfl] at hR
    have hne : (xk != xk) = false := by simp
    by_cases k2 : xk = 2
    · subst k2
      have HR : Hid (R = sgn xn yn) := by rw [if_pos (.inl rfl)] at hR; exact hR
      clear HO hR
      go_wp2_with fail
      refine (SG.out xn yn _).mono ?_
      rintro e w3 ⟨rfl, rfl⟩
      go_wp2_with fail
      go_ret
      exact ⟨ret_i64 HR.out.symm, HW.out.1⟩
    · have g2 : (xk == 2) = false := by simpa using k2
      by_cases k3 : xk = 3
      · subst k3
        have HR : Hid (R = sgn xn yn) := by rw [if_pos (.inr rfl)] at hR; exact hR
        clear HO hR
        go_wp2_with fail
        refine (SG.out xn yn _).mono ?_
        rintro e w3 ⟨rfl, rfl⟩
        go_wp2_with fail
        go_ret
        exact ⟨ret_i64 HR.out.symm, HW.out.1⟩
      · have g3 : (xk == 3) = false := by simpa using k3
        rw [if_neg (fun h => h.elim k2 k3)] at hR
        by_cases k4 : xk = 4
        · subst k4
          have HR : Hid (R = cmpB xt.data.toList yt.data.toList) := by rw [if_pos rfl] at hR; exact hR
          clear HO hR
          go_wp2_with fail
          refine (TX.out _).mono ?_
          rintro e w3 ⟨rfl, rfl⟩
          go_wp2_with fail
          go_ret
          exact ⟨ret_i64 HR.out.symm, HW.out.1⟩
        · have g4 : (xk == 4) = false := by simpa using k4
          rw [if_neg k4] at hR
          by_cases k5 : xk = 5
          · subst k5
            have HR : Hid (R = recC xl yl) := by rw [if_pos rfl] at hR; exact hR
            clear HO hR
            go_wp2_with fail
            refine (IH.out (by first | rfl | trivial) (by first | rfl | trivial) _ HW.out.2.1 HW.out.2.2).mono ?_
            rintro e w3 ⟨rfl, hb3⟩
            go_wp2_with fail
            go_ret
            exact ⟨ret_i64 HR.out.symm, Below.next HW.out.1 hb3⟩
          · have g5 : (xk == 5) = false := by simpa using k5
            have HR : Hid (R = 0) := by rw [if_neg k5] at hR; exact hR
            clear HO hR k2 k3 k4 k5
            go_wp2_with fail
            go_ret
            exact ⟨ret_i64 HR.out.symm, HW.out.1⟩
  · have hne : (xk != yk) = true := by rw [bne_iff_ne]; exact hk
    have HR : Hid (R = sgn xk yk) := by have := HO.out; rw [if_neg hk] at this; exact this
    clear HO hk
    go_wp2_with fail
    refine (SG.out xk yk _).mono ?_
    rintro e w3 ⟨rfl, rfl⟩
    go_wp2_with fail
    go_ret
    exact ⟨ret_i64 HR.out.symm, HW.out.1⟩

theorem cmpFirst_take (f : It → It → Int) (a b : List It) (j : Nat) (ha : j < a.length) (hb : j < b.length) (h : cmpFirst f (a.take j) (b.take j) = 0) : cmpFirst f (a.take (j + 1)) (b.take (j + 1)) = f a[j] b[j] := by
  induction a generalizing b j with
  | nil => simp at ha
  | cons x r ih =>
    cases b with
    | nil => simp at hb
    | cons y q =>
      cases j with
      | zero => simp [cmpFirst, sgn_eq]; intro h; exact h.symm
      | succ j =>
        simp only [List.take_succ_cons, cmpFirst, List.getElem_cons_succ] at h ⊢
        split at h
        · rename_i h0
          rw [if_pos h0]; exact ih q j (by simpa using ha) (by simpa using hb) h
        · exact absurd h ‹_›
theorem cmpFirst_stop (f : It → It → Int) (a b : List It) (j : Nat) (ha : j < a.length) (hb : j < b.length) (h : cmpFirst f (a.take j) (b.take j) = 0) (hx : f a[j] b[j] ≠ 0) : cmpFirst f a b = f a[j] b[j] := by
  induction a generalizing b j with
  | nil => simp at ha
  | cons x r ih =>
    cases b with
    | nil => simp at hb
    | cons y q =>
      cases j with
      | zero => simp only [List.getElem_cons_zero] at hx ⊢; simp [cmpFirst, hx]
      | succ j =>
        simp only [List.take_succ_cons, cmpFirst, List.getElem_cons_succ] at h hx ⊢
        split at h
        · rename_i h0
          rw [if_pos h0]; exact ih q j (by simpa using ha) (by simpa using hb) h hx
        · exact absurd h ‹_›
theorem cmpFirst_end (f : It → It → Int) (a b : List It) (j : Nat) (hj : j = a.length ∨ j = b.length) (ha : j ≤ a.length) (hb : j ≤ b.length) (h : cmpFirst f (a.take j) (b.take j) = 0) : cmpFirst f a b = sgn a.length b.length := by
  induction a generalizing b j with
  | nil => cases b <;> rfl
  | cons x r ih =>
    cases b with
    | nil => rfl
    | cons y q =>
      cases j with
      | zero => simp at hj
      | succ j =>
        simp only [List.take_succ_cons, cmpFirst] at h ⊢
        split at h
        · rename_i h0
          rw [if_pos h0, ih q j (by simpa using hj) (by simpa using ha) (by simpa using hb) h]
          exact sgn_congr (by simp) (by simp)
        · exact absurd h ‹_›

set_option maxHeartbeats 1000000 in
theorem rcl_step (rec : List It → Nat) (recC : List It → List It → Int) (ih : InnerSpec rec recC) (a b : List It) (va vb : Value) (w : World) (ha : ItsAt w anyB va a) (hb : ItsAt w anyB vb b) (fa : ∀ x ∈ a, oneF rec x = 0) (fb : ∀ x ∈ b, oneF rec x = 0) :
    Calls Tryd.prog 67 #[va, vb] w fun e w' => e = .returned (.int .i64 (cmpFirst (cmpOne recC) a b)) ∧ Below w.heap.size w w' := by
  obtain ⟨aa, g, off, cap, a, vs, hlen, haa, hok, h0, h1, h2, h3, hin⟩ := ha
  obtain ⟨ab, g', off', cap', b, vs', hlen', haa', hok', h0', h1', h2', h3', hin'⟩ := hb
  have CI : Hid (∀ (x y : It) (va vb : Value) (w : World), oneF rec x = 0 → oneF rec y = 0 → ItsAt w anyB va x.list → ItsAt w anyB vb y.list → Calls Tryd.prog 46 #[.agg #[.int .i64 x.kind, .int .i64 x.num, .string x.text, va], .agg #[.int .i64 y.kind, .int .i64 y.num, .string y.text, vb]] w
      fun e w' => e = .returned (.int .i64 (cmpOne recC x y)) ∧ Below w.heap.size w w') := fun x y va vb w p q s t => rci_any rec recC ih x y va vb w p q s t
  have SG : Hid (∀ (a b : Int) (w : World), Calls Tryd.prog 65 #[.int .i64 a, .int .i64 b] w fun e w' => e = .returned (.int .i64 (sgn a b)) ∧ w = w') := rsign_any
  have FF : Hid ((∀ x ∈ a, oneF rec x = 0) ∧ (∀ x ∈ b, oneF rec x = 0)) := ⟨fa, fb⟩
  clear ih fa fb
  go_enter Tryd.func67, Tryd.ntmps67
  go_wp2_with fail
  go_loopw [5] (fun i wr => ∃ j : Nat, j ≤ a.length ∧ j ≤ b.length ∧ i = .int .i64 j ∧ cmpFirst (cmpOne recC) (a.take j) (b.take j) = 0 ∧ Below w.heap.size w wr) (fun i _ => a.length - (intOf i).toNat)
  case atStart => exact ⟨0, Nat.zero_le _, Nat.zero_le _, rfl, by simp [cmpFirst, sgn_eq], Below.refl _ _⟩
  case round =>
    obtain ⟨j, hj, hj', rfl, hz, hbl⟩ := hrel
    have HZ : Hid (cmpFirst (cmpOne recC) (a.take j) (b.take j) = 0) := hz
    clear hz
    by_cases hlt : j < a.length
    · by_cases hlt' : j < b.length
      · obtain ⟨rfl, -⟩ := haa (by omega)
        obtain ⟨rfl, -⟩ := haa' (by omega)
        have c0 := cell_below hbl (h0 j hlt)
        have c1 := cell_below hbl (h1 j hlt)
        have c2 := cell_below hbl (h2 j hlt)
        have c3 := cell_below hbl (h3 j hlt)
        have d0 := cell_below hbl (h0' j hlt')
        have d1 := cell_below hbl (h1' j hlt')
        have d2 := cell_below hbl (h2' j hlt')
        have d3 := cell_below hbl (h3' j hlt')
        have ia := (hin j hlt).keep hbl
        have ib := (hin' j hlt').keep hbl
        have HN : Hid (cmpOne recC a[j] b[j] = 0 → cmpFirst (cmpOne recC) (a.take (j + 1)) (b.take (j + 1)) = 0) := fun h => by rw [cmpFirst_take _ a b j hlt hlt' HZ.out, h]
        have HS : Hid (cmpOne recC a[j] b[j] ≠ 0 → cmpFirst (cmpOne recC) a b = cmpOne recC a[j] b[j]) := fun h => cmpFirst_stop _ a b j hlt hlt' HZ.out h
        have CX : Hid (∀ w', ItsAt w' anyB (vs j) a[j].list → ItsAt w' anyB (vs' j) b[j].list → Calls Tryd.prog 46 #[.agg #[.int .i64 a[j].kind, .int .i64 a[j].num, .string a[j].text, vs j], .agg #[.int .i64 b[j].kind, .int .i64 b[j].num, .string b[j].text, vs' j]] w'
          fun e w'' => e = .returned (.int .i64 (cmpOne recC a[j] b[j])) ∧ Below w'.heap.size w' w'') := fun w' p q => CI.out _ _ _ _ w' (FF.out.1 _ (List.getElem_mem hlt)) (FF.out.2 _ (List.getElem_mem hlt')) p q
        generalize cmpOne recC a[j] b[j] = R at *
        generalize a[j] = x at *
        generalize b[j] = y at *
        generalize vs j = va at *
        generalize vs' j = vb at *
        have j0 : (0 : Int) ≤ (j : Int) := Int.natCast_nonneg _
        have j1 : (j : Int) < (a.length : Int) := by omega
        have j2 : (j : Int) < (b.length : Int) := by omega
        clear h0 h1 h2 h3 hin hok h0' h1' h2' h3' hin' hok' haa haa' CI FF
        generalize x.kind = xk at *
        generalize x.num = xn at *
        generalize x.text = xt at *
        generalize y.kind = yk at *
        generalize y.num = yn at *
        generalize y.text = yt at *
        go_wp2_with fail
        go_region_held3 (fun w' => (w'.cell? ⟨g, off + j * 4, none⟩ = some (.int .i64 xk) ∧ w'.cell? ⟨g, off + j * 4 + 1, none⟩ = some (.int .i64 xn) ∧ w'.cell? ⟨g, off + j * 4 + 2, none⟩ = some (.string xt) ∧ w'.cell? ⟨g, off + j * 4 + 3, none⟩ = some va) ∧ w'.cell? ⟨g', off' + j * 4, none⟩ = some (.int .i64 yk) ∧ w'.cell? ⟨g', off' + j * 4 + 1, none⟩ = some (.int .i64 yn) ∧ w'.cell? ⟨g', off' + j * 4 + 2, none⟩ = some (.string yt) ∧ w'.cell? ⟨g', off' + j * 4 + 3, none⟩ = some vb) (go_keep)
          (first
            | (go_at_call 46; refine (CX.out _ ?_ ?_).mono ?_; (exact ia.drew); (exact ib.drew); rintro e w1 ⟨rfl, hbd⟩; have hb1 := undrew hbd; clear hbd; have k0 := cell_below hb1 c0; have k1 := cell_below hb1 c1; have k2 := cell_below hb1 c2; have k3 := cell_below hb1 c3; have q0 := cell_below hb1 d0; have q1 := cell_below hb1 d1; have q2 := cell_below hb1 d2; have q3 := cell_below hb1 d3))
        have HB : Hid (Below w.heap.size w w1) := Below.next hbl hb1
        clear hbl hb1 c0 c1 c2 c3 d0 d1 d2 d3 k0 k1 k2 k3 q0 q1 q2 q3 ia ib CX
        by_cases hR : R = 0
        · have HQ : Hid (cmpFirst (cmpOne recC) (a.take (j + 1)) (b.take (j + 1)) = 0) := HN.out hR
          subst hR
          clear HN HS
          go_wp2_with fail
          go_roundw
          case rel => exact ⟨j + 1, by omega, by omega, by go_num, HQ.out, HB.out⟩
          case measure => simp [intOf]; omega
        · have HQ : Hid (cmpFirst (cmpOne recC) a b = R) := HS.out hR
          have hne : (R != 0) = true := by rw [bne_iff_ne]; exact hR
          clear HN HS hR
          go_wp2_with fail
          go_ret
          exact ⟨ret_i64 HQ.out.symm, HB.out⟩
      · have HQ : Hid (cmpFirst (cmpOne recC) a b = sgn a.length b.length) := cmpFirst_end _ a b j (.inr (by omega)) hj hj' HZ.out
        clear h0 h1 h2 h3 hin hok h0' h1' h2' h3' hin' hok' haa haa' CI FF HZ
        go_wp2_with fail
        refine (SG.out _ _ _).mono ?_
        rintro e w3 ⟨rfl, rfl⟩
        go_wp2_with fail
        go_ret
        exact ⟨ret_i64 HQ.out.symm, hbl⟩
    · have HQ : Hid (cmpFirst (cmpOne recC) a b = sgn a.length b.length) := cmpFirst_end _ a b j (.inl (by omega)) hj hj' HZ.out
      clear h0 h1 h2 h3 hin hok h0' h1' h2' h3' hin' hok' haa haa' CI FF HZ
      go_wp2_with fail
      refine (SG.out _ _ _).mono ?_
      rintro e w3 ⟨rfl, rfl⟩
      go_wp2_with fail
      go_ret
      exact ⟨ret_i64 HQ.out.symm, hbl⟩

theorem fault_each {l : List It} {rec : List It → Nat} (h : (if 16 < l.length then 3 else firstF (oneF rec) l) = 0) : ∀ x ∈ l, oneF rec x = 0 := by
  split at h
  · cases h
  · exact firstF_zero h
theorem rcl_any (r : Nat) : ListsSpec r := by
  induction r with
  | zero => intro a b va vb w ha hb fa fb; exact rcl_step (fun _ => 3) _ (fun _ _ _ _ _ _ _ h => by cases h) a b va vb w ha hb (fault_each fa) (fault_each fb)
  | succ r ih => intro a b va vb w ha hb fa fb; exact rcl_step (faultR r) _ ih a b va vb w ha hb (fault_each fa) (fault_each fb)

end Go.Proofs.YtddhjnfcbpookaaDoor
