import Derived.Test.YtageokjobbjddaaGreatDoorGRA
namespace Go.Proofs.YtageokjobbjddaaGreatDoor
open Go.RowKit

/-- What SameItems answers, and SameItem. -/
def SameL (k : Nat) : Prop := ∀ (la lb : List It) (va vb : Value) (w : World), SizeOf.sizeOf la ≤ k → ItsAt w anyB va la → ItsAt w anyB vb lb →
    Calls Tryz.prog 36 #[va, vb] w fun e w' => ∃ b : Bool, e = .returned (.bool b) ∧ (b = true ↔ la = lb) ∧ Below w.heap.size w w'

theorem string_eq_iff (a b : ByteArray) : (a.toList == b.toList) = true ↔ a = b := by
  rw [beq_iff_eq, ByteArray.toList_eq, ByteArray.toList_eq]
  constructor
  · intro h; cases a; cases b; simp at h; rw [h]
  · rintro rfl; rfl

theorem It.eq_iff (x y : It) : x = y ↔ x.list = y.list ∧ x.kind = y.kind ∧ x.num = y.num ∧ x.text = y.text := by
  cases x; cases y
  simp only [It.mk.injEq, It.list, It.kind, It.num, It.text]
  constructor
  · rintro ⟨a, b, c, d⟩; exact ⟨d, a, b, c⟩
  · rintro ⟨d, a, b, c⟩; exact ⟨a, b, c, d⟩

set_option maxHeartbeats 400000 in
theorem sameItem_any (k : Nat) (ih : SameL k) (x y : It) (va vb : Value) (w : World) (hk : SizeOf.sizeOf x.list ≤ k) (ha : ItsAt w anyB va x.list) (hb : ItsAt w anyB vb y.list) :
    Calls Tryz.prog 19 #[.agg #[.int .i64 x.kind, .int .i64 x.num, .string x.text, va], .agg #[.int .i64 y.kind, .int .i64 y.num, .string y.text, vb]] w
      fun e w' => ∃ b : Bool, e = .returned (.bool b) ∧ (b = true ↔ x = y) ∧ Below w.heap.size w w' := by
  have HE : Hid (x = y ↔ x.list = y.list ∧ x.kind = y.kind ∧ x.num = y.num ∧ x.text = y.text) := It.eq_iff x y
  have HT : Hid ((x.text.toList == y.text.toList) = true ↔ x.text = y.text) := string_eq_iff _ _
  generalize hxk : x.kind = xk at *
  generalize hyk : y.kind = yk at *
  generalize hxn : x.num = xn at *
  generalize hyn : y.num = yn at *
  generalize hxt : x.text = xt at *
  generalize hyt : y.text = yt at *
  clear hxk hyk hxn hyn hxt hyt
  go_enter Tryz.func19, Tryz.ntmps19
  go_wp2_with fail
  have b1 := below_new w (.cells #[.int .i64 xk, .int .i64 xn, .string xt, va] 32)
  have x1 := boxed_new w #[.int .i64 xk, .int .i64 xn, .string xt, va] 32
  have b2 := below_new (w.alloc (.cells #[.int .i64 xk, .int .i64 xn, .string xt, va] 32)) (.cells #[.int .i64 yk, .int .i64 yn, .string yt, vb] 32)
  have y2 := boxed_new (w.alloc (.cells #[.int .i64 xk, .int .i64 xn, .string xt, va] 32)) #[.int .i64 yk, .int .i64 yn, .string yt, vb] 32
  have x2 := x1.keep b2
  have b12 := Below.next b1 b2
  rw [show (w.alloc (.cells #[.int .i64 xk, .int .i64 xn, .string xt, va] 32)).heap.size = w.heap.size + 1 by simp] at y2
  have ha2 := ha.keep b12
  have hb2 := hb.keep b12
  clear b1 x1 b2 ha hb
  generalize (w.alloc (.cells #[.int .i64 xk, .int .i64 xn, .string xt, va] 32)).alloc (.cells #[.int .i64 yk, .int .i64 yn, .string yt, vb] 32) = W2 at *
  refine (ih _ _ _ _ _ hk ha2 hb2).mono ?_
  rintro e w3 ⟨b, rfl, hbiff, hb3⟩
  have c0 : w3.cell? ⟨w.heap.size, 0, none⟩ = some (.int .i64 xk) := (x2.keep hb3).2 0 (by simp)
  have c1 : w3.cell? ⟨w.heap.size, 1, none⟩ = some (.int .i64 xn) := (x2.keep hb3).2 1 (by simp)
  have c2 : w3.cell? ⟨w.heap.size, 2, none⟩ = some (.string xt) := (x2.keep hb3).2 2 (by simp)
  have d0 : w3.cell? ⟨w.heap.size + 1, 0, none⟩ = some (.int .i64 yk) := (y2.keep hb3).2 0 (by simp)
  have d1 : w3.cell? ⟨w.heap.size + 1, 1, none⟩ = some (.int .i64 yn) := (y2.keep hb3).2 1 (by simp)
  have d2 : w3.cell? ⟨w.heap.size + 1, 2, none⟩ = some (.string yt) := (y2.keep hb3).2 2 (by simp)
  have HB : Hid (Below w.heap.size w w3) := Below.next b12 hb3
  have HI : Hid (b = true ↔ x.list = y.list) := hbiff
  clear hbiff hb3 b12 x2 y2 ha2 hb2 ih hk
  have fin : ∀ r : Bool, (r = true ↔ (b = true ∧ xk = yk ∧ xn = yn ∧ xt = yt)) → (r = true ↔ x = y) := fun r hr => by
    rw [hr, HE.out, HI.out]
  have HF : Hid (∀ r : Bool, (r = true ↔ (b = true ∧ xk = yk ∧ xn = yn ∧ xt = yt)) → (r = true ↔ x = y)) := fin
  clear fin HE HI
  cases b
  · go_wp2_with fail
    go_ret
    exact ⟨false, rfl, HF.out _ (by simp), HB.out⟩
  · by_cases e1 : xk = yk
    · by_cases e2 : xn = yn
      · by_cases e3 : xt = yt
        · subst e1 e2 e3
          clear HT
          go_wp2_with fail
          first | go_quiet (fail) | skip
          go_wp2_with fail
          go_ret
          exact ⟨true, rfl, HF.out _ (by simp), by first | exact HB.out | exact below_drewN HB.out _⟩
        · have g3 : (xt.toList == yt.toList) = false := by
            cases h : (xt.toList == yt.toList)
            · rfl
            · exact absurd (HT.out.1 h) e3
          subst e1 e2
          clear HT
          go_wp2_with fail
          first | go_quiet (fail) | skip
          go_wp2_with fail
          go_ret
          exact ⟨false, rfl, HF.out _ (by simp [e3]), by first | exact HB.out | exact below_drewN HB.out _⟩
      · have g2 : (xn == yn) = false := by simpa using e2
        subst e1
        clear HT
        go_wp2_with fail
        first | go_quiet (fail) | skip
        go_wp2_with fail
        go_ret
        exact ⟨false, rfl, HF.out _ (by simp [e2]), by first | exact HB.out | exact below_drewN HB.out _⟩
    · have g1 : (xk == yk) = false := by simpa using e1
      clear HT
      go_wp2_with fail
      first | go_quiet (fail) | skip
      go_wp2_with fail
      go_ret
      exact ⟨false, rfl, HF.out _ (by simp [e1]), by first | exact HB.out | exact below_drewN HB.out _⟩

set_option maxHeartbeats 400000 in
theorem sameItems_any (k : Nat) : SameL k := by
  induction k with
  | zero => intro l lb va vb w hk; cases l <;> simp at hk
  | succ k ih =>
    intro la lb va vb w hk ha hb
    obtain ⟨a, g, off, cap, la, vs, hlen, haa, hok, h0, h1, h2, h3, hin⟩ := ha
    obtain ⟨a', g', off', cap', lb, vs', hlen', haa', hok', h0', h1', h2', h3', hin'⟩ := hb
    go_enter Tryz.func36, Tryz.ntmps36
    by_cases hl : la.length = lb.length
    · have hl' : ((la.length : Int) != (lb.length : Int)) = false := by rw [hl]; simp
      have HL : Hid (la.length = lb.length) := hl
      have IH : Hid (SameL k) := ih
      clear hl ih
      go_wp2_with fail
      go_loopw [5] (fun i wr => ∃ j : Nat, j ≤ la.length ∧ i = .int .i64 j ∧ la.take j = lb.take j ∧ Below w.heap.size w wr) (fun i _ => la.length - (intOf i).toNat)
      case atStart => exact ⟨0, Nat.zero_le _, rfl, rfl, Below.refl _ _⟩
      case round =>
        obtain ⟨j, hj, rfl, heq, hbl⟩ := hrel
        have HE : Hid (la.take j = lb.take j) := heq
        clear heq
        by_cases hlt : j < la.length
        · have hlt' : j < lb.length := by have := HL.out; omega
          obtain ⟨rfl, -⟩ := haa (by omega)
          obtain ⟨rfl, -⟩ := haa' (by omega)
          have c0 := cell_below hbl (h0 j hlt)
          have c1 := cell_below hbl (h1 j hlt)
          have c2 := cell_below hbl (h2 j hlt)
          have c3 := cell_below hbl (h3 j hlt)
          have d0 := cell_below hbl (h0' j hlt')
          have d1 := cell_below hbl (h1' j hlt')
          have d2 := cell_below hbl (h2' j hlt')
          have d3 := cell_below hbl (h3' j hlt')
          have ia := (hin j hlt).keep hbl
          have ib := (hin' j hlt').keep hbl
          have HS : Hid (SizeOf.sizeOf la[j].list ≤ k) := by have := list_lt_of_get hlt; show _ ≤ k; omega
          have HN : Hid (la[j] = lb[j] → la.take (j + 1) = lb.take (j + 1)) := fun h => by
            rw [List.take_succ_eq_append_getElem hlt, List.take_succ_eq_append_getElem hlt', HE.out, h]
          have HM : Hid (la[j] ≠ lb[j] → la ≠ lb) := fun h e => h (by subst e; rfl)
          generalize la[j] = x at *
          generalize lb[j] = y at *
          generalize vs j = va at *
          generalize vs' j = vb at *
          have SI : Hid (∀ w', ItsAt w' anyB va x.list → ItsAt w' anyB vb y.list → Calls Tryz.prog 19 #[.agg #[.int .i64 x.kind, .int .i64 x.num, .string x.text, va], .agg #[.int .i64 y.kind, .int .i64 y.num, .string y.text, vb]] w' fun e w'' => ∃ b : Bool, e = .returned (.bool b) ∧ (b = true ↔ x = y) ∧ Below w'.heap.size w' w'') := fun w' p q => sameItem_any k IH.out x y va vb w' HS.out p q
          have j0 : (0 : Int) ≤ (j : Int) := Int.natCast_nonneg _
          have j1 : (j : Int) < (la.length : Int) := by omega
          have j2 : (j : Int) < (lb.length : Int) := by omega
          clear h0 h1 h2 h3 hin hok h0' h1' h2' h3' hin' hok' haa haa' IH hk HS hl'
          generalize x.kind = xk at *
          generalize x.num = xn at *
          generalize x.text = xt at *
          generalize y.kind = yk at *
          generalize y.num = yn at *
          generalize y.text = yt at *
          go_wp2_with fail
          go_region_held3 (fun w' => (w'.cell? ⟨g, off + j * 4, none⟩ = some (.int .i64 xk) ∧ w'.cell? ⟨g, off + j * 4 + 1, none⟩ = some (.int .i64 xn) ∧ w'.cell? ⟨g, off + j * 4 + 2, none⟩ = some (.string xt) ∧ w'.cell? ⟨g, off + j * 4 + 3, none⟩ = some va) ∧ w'.cell? ⟨g', off' + j * 4, none⟩ = some (.int .i64 yk) ∧ w'.cell? ⟨g', off' + j * 4 + 1, none⟩ = some (.int .i64 yn) ∧ w'.cell? ⟨g', off' + j * 4 + 2, none⟩ = some (.string yt) ∧ w'.cell? ⟨g', off' + j * 4 + 3, none⟩ = some vb) (go_keep)
            (first
              | (go_at_call 19; refine (SI.out _ ?_ ?_).mono ?_; (exact ia.drew); (exact ib.drew); rintro e w1 ⟨b, rfl, hbi, hbd⟩; have hb1 := undrew hbd; have HI : Hid (b = true ↔ x = y) := hbi; clear hbd hbi; have k0 := cell_below hb1 c0; have k1 := cell_below hb1 c1; have k2 := cell_below hb1 c2; have k3 := cell_below hb1 c3; have q0 := cell_below hb1 d0; have q1 := cell_below hb1 d1; have q2 := cell_below hb1 d2; have q3 := cell_below hb1 d3))
          have HB : Hid (Below w.heap.size w w1) := Below.next hbl hb1
          clear hbl hb1 c0 c1 c2 c3 d0 d1 d2 d3 k0 k1 k2 k3 q0 q1 q2 q3 ia ib SI
          cases b
          · have hne := HM.out (fun h => by have := HI.out.2 h; cases this)
            go_wp2_with fail
            go_ret
            exact ⟨false, rfl, by simp [hne], HB.out⟩
          · have HQ : Hid (la.take (j + 1) = lb.take (j + 1)) := HN.out (HI.out.1 rfl)
            go_wp2_with fail
            go_roundw
            case rel => exact ⟨j + 1, by omega, by go_num, HQ.out, HB.out⟩
            case measure => simp [intOf]; omega
        · have hke : j = la.length := by omega
          subst hke
          have HQ : Hid (la = lb) := by
            have h := HE.out
            have hl := HL.out
            rw [List.take_of_length_le (Nat.le_refl _), List.take_of_length_le (by omega)] at h
            exact h
          clear h0 h1 h2 h3 hin hok h0' h1' h2' h3' hin' hok' haa haa' IH hk HE
          go_wp2_with fail
          go_ret
          exact ⟨true, rfl, by simp [HQ.out], hbl⟩
    · have hl' : ((la.length : Int) != (lb.length : Int)) = true := by rw [bne_iff_ne]; omega
      clear ih h0 h1 h2 h3 hin hok h0' h1' h2' h3' hin' hok' haa haa'
      go_wp2_with fail
      go_ret
      exact ⟨false, rfl, by simp; intro h; exact hl (by rw [h]), Below.refl _ _⟩

end Go.Proofs.YtageokjobbjddaaGreatDoor
