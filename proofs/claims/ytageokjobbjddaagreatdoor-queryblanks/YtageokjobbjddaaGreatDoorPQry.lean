import Derived.Test.YtageokjobbjddaaGreatDoorPCds
namespace Go.Proofs.YtageokjobbjddaaGreatDoor
open Go.RowKit

/-! The reader's query. -/
theorem CsAt.imp {w : World} {F G : Nat → Prop} {v : Value} {l : List Cd} (h : CsAt w F v l) (hf : ∀ g, F g → G g) : CsAt w G v l := by
  obtain ⟨a, g, off, cap, vs, h1, h2, h3, h4⟩ := h
  exact ⟨a, g, off, cap, vs, h1, h2, fun h => ⟨(h3 h).1, hf _ (h3 h).2⟩, fun i hi => ⟨(h4 i hi).1, (h4 i hi).2.1, (h4 i hi).2.2.imp hf⟩⟩
theorem CsAt.two {w w' : World} {F : Nat → Prop} {v : Value} {l : List Cd} {b g : Nat} (h : CsAt w F v l) (hb : Two b g w w') (hf : ∀ k, F k → k ≠ b ∧ k ≠ g) : CsAt w' F v l := by
  obtain ⟨a, k, off, cap, vs, h1, h2, h3, h4⟩ := h
  refine ⟨a, k, off, cap, vs, h1, h2, h3, fun i hi => ⟨(h4 i hi).1, fun j u hu => ?_, (h4 i hi).2.2.two hb hf⟩⟩
  have hc := (h4 i hi).2.1 j u hu
  have hk := hf k (h3 (by omega)).2
  exact (World.cell?_of_block (a := ⟨k, off + i * 6 + j, none⟩) (hb.block k (World.block_lt_of_cell? w _ hc) hk.1 hk.2)).trans hc
theorem q_set0 {w : World} {b : Nat} {x0 x1 x2 x3 x4 : Value} {t : TypeId} (h : RowAt w b #[x0, x1, x2, x3, x4] t) (y : Value) : RowAt (w.setCell ⟨b, 0, none⟩ y) b #[y, x1, x2, x3, x4] t := by
  unfold RowAt at h ⊢
  rw [setCell_eq_setRow w b 0 _ t (0, 0) y h]
  exact setRow_heap w b _ _ t _ h
theorem q_set1 {w : World} {b : Nat} {x0 x1 x2 x3 x4 : Value} {t : TypeId} (h : RowAt w b #[x0, x1, x2, x3, x4] t) (y : Value) : RowAt (w.setCell ⟨b, 1, none⟩ y) b #[x0, y, x2, x3, x4] t := by
  unfold RowAt at h ⊢
  rw [setCell_eq_setRow w b 1 _ t (0, 0) y h]
  exact setRow_heap w b _ _ t _ h
theorem q_set2 {w : World} {b : Nat} {x0 x1 x2 x3 x4 : Value} {t : TypeId} (h : RowAt w b #[x0, x1, x2, x3, x4] t) (y : Value) : RowAt (w.setCell ⟨b, 2, none⟩ y) b #[x0, x1, y, x3, x4] t := by
  unfold RowAt at h ⊢
  rw [setCell_eq_setRow w b 2 _ t (0, 0) y h]
  exact setRow_heap w b _ _ t _ h
theorem q_set3 {w : World} {b : Nat} {x0 x1 x2 x3 x4 : Value} {t : TypeId} (h : RowAt w b #[x0, x1, x2, x3, x4] t) (y : Value) : RowAt (w.setCell ⟨b, 3, none⟩ y) b #[x0, x1, x2, y, x4] t := by
  unfold RowAt at h ⊢
  rw [setCell_eq_setRow w b 3 _ t (0, 0) y h]
  exact setRow_heap w b _ _ t _ h
theorem q_set4 {w : World} {b : Nat} {x0 x1 x2 x3 x4 : Value} {t : TypeId} (h : RowAt w b #[x0, x1, x2, x3, x4] t) (y : Value) : RowAt (w.setCell ⟨b, 4, none⟩ y) b #[x0, x1, x2, x3, y] t := by
  unfold RowAt at h ⊢
  rw [setCell_eq_setRow w b 4 _ t (0, 0) y h]
  exact setRow_heap w b _ _ t _ h
theorem q_put {w : World} {b : Nat} {x0 x1 x2 x3 x4 : Value} {t : TypeId} (h : RowAt w b #[x0, x1, x2, x3, x4] t) (y0 y1 y2 y3 y4 : Value) : RowAt (((((w.setCell ⟨b, 0, none⟩ y0).setCell ⟨b, 1, none⟩ y1).setCell ⟨b, 2, none⟩ y2).setCell ⟨b, 3, none⟩ y3).setCell ⟨b, 4, none⟩ y4) b #[y0, y1, y2, y3, y4] t := q_set4 (q_set3 (q_set2 (q_set1 (q_set0 h y0) y1) y2) y3) y4
theorem q_two {w : World} {b : Nat} (y0 y1 y2 y3 y4 : Value) : Two b b w (((((w.setCell ⟨b, 0, none⟩ y0).setCell ⟨b, 1, none⟩ y1).setCell ⟨b, 2, none⟩ y2).setCell ⟨b, 3, none⟩ y3).setCell ⟨b, 4, none⟩ y4) := ((((Two.cell1 _ _ _ _).trans (Two.cell1 _ _ _ _)).trans (Two.cell1 _ _ _ _)).trans (Two.cell1 _ _ _ _)).trans (Two.cell1 _ _ _ _)
/-! What is still to be read. -/
def F4 (q : Qd) (u : St) : Option Qd := if u.1.kind = 0 then some q else none
def F3 (q : Qd) (u : St) : Option Qd := if justB 2 ⟨#[108, 105, 109, 105, 116]⟩ u.1 = true then (if limB (nxtD u.2).1 = true then F4 ⟨q.table, q.cs, q.order, q.falling, (nxtD u.2).1.num⟩ (nxtD (nxtD u.2).2) else none) else F4 q u
def F2 (q : Qd) (u : St) : Option Qd :=
  if justB 2 ⟨#[111, 114, 100, 101, 114]⟩ u.1 = true then (if (ordD (nxtD u.2).1 (nxtD u.2).2).1.2.2 = true then F3 ⟨q.table, q.cs, (ordD (nxtD u.2).1 (nxtD u.2).2).1.1, (ordD (nxtD u.2).1 (nxtD u.2).2).1.2.1, q.limit⟩ (ordD (nxtD u.2).1 (nxtD u.2).2).2 else none) else F3 q u
def F1 (q : Qd) (u : St) : Option Qd :=
  if justB 2 ⟨#[119, 104, 101, 114, 101]⟩ u.1 = true then (match condsD (rk (nxtD u.2) + 1) (nxtD u.2) with | none => none | some (cs, v) => F2 ⟨q.table, cs, q.order, q.falling, q.limit⟩ v) else F2 q u
theorem F3_is (t : ByteArray) (cs : List Cd) (o : ByteArray) (f : Bool) (u : St) : F3 ⟨t, cs, o, f, 0⟩ u = match limitD u with | none => none | some (m, y) => if y.1.kind = 0 then some ⟨t, cs, o, f, m⟩ else none := by
  unfold F3 limitD
  split
  · split <;> rfl
  · rfl
theorem F2_is (t : ByteArray) (cs : List Cd) (u : St) : F2 ⟨t, cs, ⟨#[]⟩, false, 0⟩ u = match orderD u with
    | none => none
    | some ((o, f), z) => match limitD z with
      | none => none
      | some (m, y) => if y.1.kind = 0 then some ⟨t, cs, o, f, m⟩ else none := by
  unfold F2 orderD
  split
  · split
    · simp only; rw [F3_is]
    · rfl
  · simp only; rw [F3_is]
theorem F1_is (t : ByteArray) (u : St) : F1 ⟨t, [], ⟨#[]⟩, false, 0⟩ u = restD t u := by
  unfold F1 restD whereD
  split
  · cases condsD (rk (nxtD u.2) + 1) (nxtD u.2) with
    | none => rfl
    | some p => simp only; rw [F2_is]; rfl
  · simp only; rw [F2_is]; rfl
theorem step_ok (y : Bool) (t : Pt) (s : ByteArray) (hs : s.size ≤ 1000000) (h : TokOk t) : TokOk (stepT y t s).1 := by
  cases y with
  | false => exact h
  | true => exact nxtD_ok s hs
theorem ord_ok (t : Pt) (s : ByteArray) (hs : s.size ≤ 1000000) (h : TokOk t) : TokOk (ordD t s).2.1 := by
  unfold ordD
  split
  · split
    · exact step_ok _ _ _ (Nat.le_trans (nxtD_le _) (Nat.le_trans (nxtD_le _) hs)) (nxtD_ok _ (Nat.le_trans (nxtD_le _) hs))
    · exact nxtD_ok _ hs
  · exact h
/-- A stage of the reading is over. -/
def QC (w0 w : World) (b g : Nat) (R0 : Option Qd) (F : Qd → St → Option Qd) (v : Value) (wx : World) : Prop :=
  ∃ (ok : Bool) (q : Qd) (la : Option Addr) (m k : Nat) (u : St), v = .bool ok ∧ Hid (RowAt wx w.heap.size (qV q (.slice la m k)) 24) ∧ Hid (RdP w0 wx b g u.1 u.2) ∧ Hid (Two b g w wx) ∧ Hid (ok = false → R0 = none) ∧ Hid (ok = true → TokOk u.1 ∧ CsAt wx (fun j => w.heap.size < j) (.slice la m k) q.cs ∧ R0 = F q u)
def QryR (w0 w : World) (b g : Nat) (o : Option Qd) (e : Ending) (w' : World) : Prop :=
  (match o with
  | none => ∃ q la m k, e = .returned (.tuple #[.agg (qV q (.slice la m k)), .bool false])
  | some q => ∃ la k, e = .returned (.tuple #[.agg (qV q (.slice la q.cs.length k)), .bool true]) ∧ CsAt w' (fun j => w.heap.size < j) (.slice la q.cs.length k) q.cs) ∧ Two b g w w' ∧ Below w0.heap.size w0 w'
set_option maxHeartbeats 8000000 in
set_option maxRecDepth 100000 in
theorem pquery_any (w0 : World) (b g : Nat) (t : Pt) (s : ByteArray) (w : World) (h : RdP w0 w b g t s) (hv : TokEnv w0) :
    Calls Tryz.prog 18 #[.pointer (some ⟨b, 0, none⟩)] w fun e w' => QryR w0 w b g (queryD (t, s)) e w' := by
  have hblt := h.row.lt
  have hglt := h.rst.lt
  have HH0 : Hid (w0.heap.size ≤ w.heap.size) := Nat.le_trans h.hb (Nat.le_of_lt hblt)
  have m1 : w.heap.size ≠ b := by omega
  have m3 : w.heap.size ≠ g := by omega
  have HM1 := hide m1
  have HM3 := hide m3
  have q1 := below_new w (.cells #[.string ⟨#[]⟩, .slice none 0 0, .string ⟨#[]⟩, .bool false, .int .i64 0] 24)
  have x1 := RowAt.new w #[.string ⟨#[]⟩, .slice none 0 0, .string ⟨#[]⟩, .bool false, .int .i64 0] 24
  obtain ⟨W1, hW1⟩ : ∃ W1, w.alloc (.cells #[.string ⟨#[]⟩, .slice none 0 0, .string ⟨#[]⟩, .bool false, .int .i64 0] 24) = W1 := ⟨_, rfl⟩
  have h1 := h.below q1
  rw [hW1] at q1 x1 h1
  have HW := hide hW1
  have HV := hide hv
  have HSZ := hide h.sz
  obtain ⟨R0, hR0⟩ : ∃ R0, R0 = queryD (t, s) := ⟨_, rfl⟩
  rw [← hR0]
  have HR0 := hide hR0
  have HX1 := hide x1
  have HQ1 := hide q1
  have HWD := hide (pword_any w0 b g t s ⟨#[102, 114, 111, 109]⟩ W1 h1 hv)
  obtain ⟨y, hy⟩ : ∃ y, y = justB 2 ⟨#[102, 114, 111, 109]⟩ t := ⟨_, rfl⟩
  rw [← hy] at HWD
  have HY := hide hy
  obtain ⟨u0, hu0⟩ : ∃ u0, u0 = stepT y t s := ⟨_, rfl⟩
  rw [← hu0] at HWD
  have HU0 := hide hu0
  clear h h1 hW1 hv q1 x1 m1 m3 hR0 hy hu0
  go_enter Tryz.func18, Tryz.ntmps18
  go_wp2_with fail
  rw [HW.out]
  refine HWD.out.mono ?_
  rintro e W2 ⟨rfl, hR2⟩
  have x2 := hR2.2.row HX1.out HM1.out HM3.out
  have HX2 := hide x2
  have HR2 := hide hR2.1
  have HT2 : Hid (Two b g w W2) := (Two.of_below HQ1.out).trans hR2.2
  clear HWD hR2 x2 HX1 HQ1
  go_upto_if 6 with fail
  go_cut [3] (fun v wx => QC w0 w b g R0 F1 v wx)
  case first =>
    cases y with
    | false =>
      have HN : Hid (R0 = none) := by show _ = _; rw [HR0.out, queryD, if_neg (by show ¬ justB 2 _ t = true; rw [← HY.out]; simp)]
      go_wp2_with fail
      go_meet
      exact ⟨false, ⟨⟨#[]⟩, [], ⟨#[]⟩, false, 0⟩, none, 0, 0, u0, rfl, HX2, HR2, HT2, fun _ => HN.out, fun h => by cases h⟩
    | true =>
      have hu1 : u0 = nxtD s := by rw [HU0.out, stepT, if_pos rfl]
      have HQ : Hid (R0 = if u0.1.kind = 3 then restD u0.1.text (nxtD u0.2) else none) := by
        show _ = _
        rw [HR0.out, queryD, if_pos (by show justB 2 _ t = true; rw [← HY.out]), hu1]
      have HNM := hide (pname_any w0 b g u0.1 u0.2 W2 HR2.out HV.out)
      have HNO := hide (nxtD_ok u0.2 HR2.out.sz)
      obtain ⟨c0, _⟩ := HX2.out.q5
      have f0 := HX2.out.free 0
      clear hu1 HR0 HY HU0 HSZ
      by_cases h3 : u0.1.kind = 3
      · rw [if_pos h3] at HQ
        have hkd : decide (u0.1.kind = 3) = true := by simp [h3]
        have htk : takeT 3 u0.1 = u0.1 := by simp [takeT, h3]
        rw [hkd, htk] at HNM
        have HS2 : Hid (stepT true u0.1 u0.2 = nxtD u0.2) := rfl
        rw [HS2.out] at HNM
        obtain ⟨tt, htt⟩ : ∃ tt, tt = u0.1.text := ⟨_, rfl⟩
        rw [← htt] at HNM HQ
        clear h3 hkd htk htt HS2 c0 f0
        go_wp2_with fail
        refine HNM.out.mono ?_
        rintro e W3 ⟨rfl, hR3⟩
        have x3 := hR3.2.row HX2.out HM1.out HM3.out
        obtain ⟨c0, _⟩ := x3.q5
        have f0 := x3.free 0
        have HX3 := hide (q_set0 x3 (.string tt))
        have HR3 := hide (hR3.1.high (Two.cell1 w.heap.size 0 W3 (.string tt)) HH0.out HM1.out HM3.out)
        have HT3 := hide ((HT2.out.trans hR3.2).high (Two.cell1 w.heap.size 0 W3 (.string tt)) (Nat.le_refl _))
        clear HNM hR3 x3 HR2 HT2 HX2
        go_wp2_with fail
        go_meet
        exact ⟨true, ⟨tt, [], ⟨#[]⟩, false, 0⟩, none, 0, 0, nxtD u0.2, rfl, HX3, HR3, HT3, (fun h => by cases h), fun _ => ⟨HNO.out, cs_nil _ _ _ _, by rw [F1_is]; exact HQ.out⟩⟩
      · rw [if_neg h3] at HQ
        have hkd : decide (u0.1.kind = 3) = false := by simp [h3]
        have htk : takeT 3 u0.1 = pt0 := by simp [takeT, h3]
        rw [hkd, htk] at HNM
        have HS2 : Hid (stepT false u0.1 u0.2 = (u0.1, u0.2)) := rfl
        rw [HS2.out] at HNM
        unfold pt0 at HNM
        clear h3 hkd htk HS2 c0 f0
        go_wp2_with fail
        refine HNM.out.mono ?_
        rintro e W3 ⟨rfl, hR3⟩
        have x3 := hR3.2.row HX2.out HM1.out HM3.out
        obtain ⟨c0, _⟩ := x3.q5
        have f0 := x3.free 0
        have HX3 := hide (q_set0 x3 (.string ⟨#[]⟩))
        have HR3 := hide (hR3.1.high (Two.cell1 w.heap.size 0 W3 (.string ⟨#[]⟩)) HH0.out HM1.out HM3.out)
        have HT3 := hide ((HT2.out.trans hR3.2).high (Two.cell1 w.heap.size 0 W3 (.string ⟨#[]⟩)) (Nat.le_refl _))
        clear HNM hR3 x3 HR2 HT2 HX2
        go_wp2_with fail
        go_meet
        exact ⟨false, ⟨⟨#[]⟩, [], ⟨#[]⟩, false, 0⟩, none, 0, 0, u0, rfl, HX3, HR3, HT3, fun _ => HQ.out, fun h => by cases h⟩
  case rest =>
    clear HX2 HR2 HT2 HR0 HY HU0 HSZ
    have hcut2 : QC w0 w b g R0 F1 _ wc := hcut
    obtain ⟨ok, q, la, m, k, u, hvv, hX, hR, hT, hF, hS⟩ := hcut2
    subst hvv
    clear hcut
    cases ok with
    | false =>
      obtain ⟨qt, qc, qo, qf, ql⟩ := q
      obtain ⟨z0, z1, z2, z3, z4⟩ := hX.out.q5
      have zf0 := hX.out.free 0
      have zf1 := hX.out.free 1
      have zf2 := hX.out.free 2
      have zf3 := hX.out.free 3
      have zf4 := hX.out.free 4
      have HZ5 := hide (q_put hX.out (.string qt) (.slice la m k) (.string qo) (.bool qf) (.int .i64 ql))
      have T5 := q_two (w := wc) (b := w.heap.size) (.string qt) (.slice la m k) (.string qo) (.bool qf) (.int .i64 ql)
      have HF5 : Hid (Two b g w _ ∧ Below w0.heap.size w0 _) := ⟨hT.out.high T5 (Nat.le_refl _), (hR.out.high T5 HH0.out HM1.out HM3.out).bel⟩
      have HN : Hid (R0 = none) := hF.out rfl
      clear T5 hS hF hR hT
      go_wp2_with fail
      go_region
      go_wp2
      refine bodyPost_ret (results_row_tmp rfl _ _ w.heap.size 24 _ (0, 0) _ rfl HZ5.out Tryz.underlying24 rfl (by kernel_rfl)) rfl ?_
      rw [HN.out]
      exact ⟨⟨⟨qt, qc, qo, qf, ql⟩, la, m, k, rfl⟩, HF5.out.1.trans (.of_below (Below.refl _ _).drew), HF5.out.2.drew⟩
    | true =>
      obtain ⟨huok, hCS, hQ⟩ := hS.out rfl
      have HUOK := hide huok
      have HWD := hide (pword_any w0 b g u.1 u.2 ⟨#[119, 104, 101, 114, 101]⟩ wc hR.out HV.out)
      have HNO := hide (nxtD_ok u.2 hR.out.sz)
      unfold F1 at hQ
      obtain ⟨y, hy⟩ : ∃ y, y = justB 2 ⟨#[119, 104, 101, 114, 101]⟩ u.1 := ⟨_, rfl⟩
      rw [← hy] at HWD hQ
      have HQ := hide hQ
      have HCS := hide hCS
      clear hy hQ huok hCS hS hF
      go_wp2_with fail
      refine HWD.out.mono ?_
      rintro e W3 ⟨rfl, hR3⟩
      have HX3 := hide (hR3.2.row hX.out HM1.out HM3.out)
      have HR3 := hide hR3.1
      have HT3 := hide (hT.out.trans hR3.2)
      have HC3 := hide (HCS.out.two hR3.2 (fun j hj => ⟨by omega, by omega⟩))
      clear HWD hR3 hX hR hT HCS
      go_upto_if 17 with fail
      go_cut [3] (fun v wx => QC w0 w b g R0 F2 v wx)
      case first =>
        cases y with
        | false =>
          have HQ1 : Hid (R0 = F2 q u) := by show _ = _; rw [HQ.out, if_neg (by simp)]
          clear HQ
          go_wp2_with fail
          go_meet
          exact ⟨true, q, la, m, k, u, rfl, HX3, HR3, HT3, (fun h => by cases h), fun _ => ⟨HUOK.out, HC3.out, HQ1.out⟩⟩
        | true =>
          rw [if_pos rfl] at HQ
          obtain ⟨u1, hu1⟩ : ∃ u1, u1 = nxtD u.2 := ⟨_, rfl⟩
          have HR3b : Hid (RdP w0 W3 b g u1.1 u1.2) := by rw [hu1]; exact HR3.out
          rw [← hu1] at HQ HNO
          obtain ⟨oc, hoc⟩ : ∃ oc, oc = condsD (rk u1 + 1) u1 := ⟨_, rfl⟩
          rw [← hoc] at HQ
          have HOC : Hid (condsD (rk (u1.1, u1.2) + 1) (u1.1, u1.2) = oc) := hoc.symm
          have HCD := hide (pconds_any w0 b g u1.1 u1.2 W3 HR3b.out HNO.out HV.out)
          rw [HOC.out] at HCD
          clear hu1 hoc HOC HC3 HR3 HR3b
          go_wp2_with fail
          refine HCD.out.mono ?_
          rintro e W4 hCR
          clear HCD
          cases oc with
          | none =>
            obtain ⟨rfl, ⟨u2, hR4⟩, hT4⟩ := hCR
            have x4 := hT4.row HX3.out HM1.out HM3.out
            obtain ⟨_, c1, _⟩ := x4.q5
            have f1 := x4.free 1
            have HX4 := hide (q_set1 x4 (.slice none 0 0))
            have HR4 := hide (hR4.high (Two.cell1 w.heap.size 1 W4 (.slice none 0 0)) HH0.out HM1.out HM3.out)
            have HT4 := hide ((HT3.out.trans hT4).high (Two.cell1 w.heap.size 1 W4 (.slice none 0 0)) (Nat.le_refl _))
            have HN : Hid (R0 = none) := HQ.out
            clear x4 hR4 hT4 HX3 HT3 HQ
            go_wp2_with fail
            go_meet
            exact ⟨false, q, none, 0, 0, u2, rfl, HX4, HR4, HT4, fun _ => HN.out, fun h => by cases h⟩
          | some p =>
            obtain ⟨cs, u2⟩ := p
            obtain ⟨⟨la2, k2, rfl, hCS2⟩, hu2ok, hR4, hT4⟩ := hCR
            have x4 := hT4.row HX3.out HM1.out HM3.out
            have hlt3 := HX3.out.lt
            obtain ⟨_, c1, _⟩ := x4.q5
            have f1 := x4.free 1
            have HX4 := hide (q_set1 x4 (.slice la2 cs.length k2))
            have HR4 := hide (hR4.high (Two.cell1 w.heap.size 1 W4 (.slice la2 cs.length k2)) HH0.out HM1.out HM3.out)
            have HT4 := hide ((HT3.out.trans hT4).high (Two.cell1 w.heap.size 1 W4 (.slice la2 cs.length k2)) (Nat.le_refl _))
            have HC4 := hide ((hCS2.two (Two.cell1 w.heap.size 1 W4 (.slice la2 cs.length k2)) (fun j hj => ⟨by omega, by omega⟩)).imp (G := fun j => w.heap.size < j) (fun j hj => by omega))
            have HU2 := hide hu2ok
            have HN : Hid (R0 = F2 ⟨q.table, cs, q.order, q.falling, q.limit⟩ u2) := HQ.out
            clear x4 hR4 hT4 HX3 HT3 HQ hCS2 hu2ok hlt3
            go_wp2_with fail
            go_meet
            exact ⟨true, ⟨q.table, cs, q.order, q.falling, q.limit⟩, la2, cs.length, k2, u2, rfl, HX4, HR4, HT4, (fun h => by cases h), fun _ => ⟨HU2.out, HC4.out, HN.out⟩⟩
      case rest =>
        clear HX3 HR3 HT3 HC3 HQ HUOK HNO
        have hcut2 : QC w0 w b g R0 F2 _ wc := hcut
        obtain ⟨ok, q, la, m, k, u, hvv, hX, hR, hT, hF, hS⟩ := hcut2
        subst hvv
        clear hcut
        cases ok with
        | false =>
          obtain ⟨qt, qc, qo, qf, ql⟩ := q
          obtain ⟨z0, z1, z2, z3, z4⟩ := hX.out.q5
          have zf0 := hX.out.free 0
          have zf1 := hX.out.free 1
          have zf2 := hX.out.free 2
          have zf3 := hX.out.free 3
          have zf4 := hX.out.free 4
          have HZ5 := hide (q_put hX.out (.string qt) (.slice la m k) (.string qo) (.bool qf) (.int .i64 ql))
          have T5 := q_two (w := wc) (b := w.heap.size) (.string qt) (.slice la m k) (.string qo) (.bool qf) (.int .i64 ql)
          have HF5 : Hid (Two b g w _ ∧ Below w0.heap.size w0 _) := ⟨hT.out.high T5 (Nat.le_refl _), (hR.out.high T5 HH0.out HM1.out HM3.out).bel⟩
          have HN : Hid (R0 = none) := hF.out rfl
          clear T5 hS hF hR hT
          go_wp2_with fail
          go_region
          go_wp2
          refine bodyPost_ret (results_row_tmp rfl _ _ w.heap.size 24 _ (0, 0) _ rfl HZ5.out Tryz.underlying24 rfl (by kernel_rfl)) rfl ?_
          rw [HN.out]
          exact ⟨⟨⟨qt, qc, qo, qf, ql⟩, la, m, k, rfl⟩, HF5.out.1.trans (.of_below (Below.refl _ _).drew), HF5.out.2.drew⟩
        | true =>
          obtain ⟨huok, hCS, hQ⟩ := hS.out rfl
          have HUOK := hide huok
          have HWD := hide (pword_any w0 b g u.1 u.2 ⟨#[111, 114, 100, 101, 114]⟩ wc hR.out HV.out)
          have HNO := hide (nxtD_ok u.2 hR.out.sz)
          unfold F2 at hQ
          obtain ⟨y, hy⟩ : ∃ y, y = justB 2 ⟨#[111, 114, 100, 101, 114]⟩ u.1 := ⟨_, rfl⟩
          rw [← hy] at HWD hQ
          have HQ := hide hQ
          have HCS := hide hCS
          clear hy hQ huok hCS hS hF
          go_wp2_with fail
          refine HWD.out.mono ?_
          rintro e W3 ⟨rfl, hR3⟩
          have HX3 := hide (hR3.2.row hX.out HM1.out HM3.out)
          have HR3 := hide hR3.1
          have HT3 := hide (hT.out.trans hR3.2)
          have HC3 := hide (HCS.out.two hR3.2 (fun j hj => ⟨by omega, by omega⟩))
          clear HWD hR3 hX hR hT HCS
          go_upto_if 28 with fail
          go_cut [3] (fun v wx => QC w0 w b g R0 F3 v wx)
          case first =>
            cases y with
            | false =>
              have HQ1 : Hid (R0 = F3 q u) := by show _ = _; rw [HQ.out, if_neg (by simp)]
              clear HQ
              go_wp2_with fail
              go_meet
              exact ⟨true, q, la, m, k, u, rfl, HX3, HR3, HT3, (fun h => by cases h), fun _ => ⟨HUOK.out, HC3.out, HQ1.out⟩⟩
            | true =>
              rw [if_pos rfl] at HQ
              obtain ⟨u1, hu1⟩ : ∃ u1, u1 = nxtD u.2 := ⟨_, rfl⟩
              have HR3b : Hid (RdP w0 W3 b g u1.1 u1.2) := by rw [hu1]; exact HR3.out
              have HOD := hide (ord_ok u1.1 u1.2 HR3b.out.sz (by rw [hu1]; exact HNO.out))
              have HOR := hide (porder_any w0 b g u1.1 u1.2 W3 HR3b.out HV.out)
              rw [← hu1] at HQ
              generalize ordD u1.1 u1.2 = d at *
              obtain ⟨⟨o2, f2, k2⟩, u2⟩ := d
              simp only at HQ HOR HOD
              clear hu1 HR3 HR3b
              go_wp2_with fail
              refine HOR.out.mono ?_
              rintro e W4 ⟨rfl, hR4, hT4⟩
              have x4 := hT4.row HX3.out HM1.out HM3.out
              obtain ⟨_, _, c2, c3, _⟩ := x4.q5
              have f2' := x4.free 2
              have f3' := x4.free 3
              have HX4 := hide (q_set3 (q_set2 x4 (.string o2)) (.bool f2))
              have T4 := (Two.cell1 w.heap.size 2 W4 (.string o2)).trans (Two.cell1 w.heap.size 3 _ (.bool f2))
              have HR4 := hide (hR4.high T4 HH0.out HM1.out HM3.out)
              have HT4 := hide ((HT3.out.trans hT4).high T4 (Nat.le_refl _))
              have HC4 := hide ((HC3.out.two hT4 (fun j hj => ⟨by omega, by omega⟩)).two T4 (fun j hj => ⟨by omega, by omega⟩))
              clear x4 hR4 hT4 HX3 HT3 HC3 T4 HOR
              cases k2 with
              | false =>
                rw [if_neg (by simp)] at HQ
                go_wp2_with fail
                go_meet
                exact ⟨false, ⟨q.table, q.cs, o2, f2, q.limit⟩, la, m, k, u2, rfl, HX4, HR4, HT4, fun _ => HQ.out, fun h => by cases h⟩
              | true =>
                rw [if_pos rfl] at HQ
                go_wp2_with fail
                go_meet
                exact ⟨true, ⟨q.table, q.cs, o2, f2, q.limit⟩, la, m, k, u2, rfl, HX4, HR4, HT4, (fun h => by cases h), fun _ => ⟨HOD.out, HC4.out, HQ.out⟩⟩
          case rest =>
            clear HX3 HR3 HT3 HC3 HQ HUOK HNO
            have hcut2 : QC w0 w b g R0 F3 _ wc := hcut
            obtain ⟨ok, q, la, m, k, u, hvv, hX, hR, hT, hF, hS⟩ := hcut2
            subst hvv
            clear hcut
            cases ok with
            | false =>
              obtain ⟨qt, qc, qo, qf, ql⟩ := q
              obtain ⟨z0, z1, z2, z3, z4⟩ := hX.out.q5
              have zf0 := hX.out.free 0
              have zf1 := hX.out.free 1
              have zf2 := hX.out.free 2
              have zf3 := hX.out.free 3
              have zf4 := hX.out.free 4
              have HZ5 := hide (q_put hX.out (.string qt) (.slice la m k) (.string qo) (.bool qf) (.int .i64 ql))
              have T5 := q_two (w := wc) (b := w.heap.size) (.string qt) (.slice la m k) (.string qo) (.bool qf) (.int .i64 ql)
              have HF5 : Hid (Two b g w _ ∧ Below w0.heap.size w0 _) := ⟨hT.out.high T5 (Nat.le_refl _), (hR.out.high T5 HH0.out HM1.out HM3.out).bel⟩
              have HN : Hid (R0 = none) := hF.out rfl
              clear T5 hS hF hR hT
              go_wp2_with fail
              go_region
              go_wp2
              refine bodyPost_ret (results_row_tmp rfl _ _ w.heap.size 24 _ (0, 0) _ rfl HZ5.out Tryz.underlying24 rfl (by kernel_rfl)) rfl ?_
              rw [HN.out]
              exact ⟨⟨⟨qt, qc, qo, qf, ql⟩, la, m, k, rfl⟩, HF5.out.1.trans (.of_below (Below.refl _ _).drew), HF5.out.2.drew⟩
            | true =>
              obtain ⟨huok, hCS, hQ⟩ := hS.out rfl
              have HUOK := hide huok
              have HWD := hide (pword_any w0 b g u.1 u.2 ⟨#[108, 105, 109, 105, 116]⟩ wc hR.out HV.out)
              have HNO := hide (nxtD_ok u.2 hR.out.sz)
              unfold F3 at hQ
              obtain ⟨y, hy⟩ : ∃ y, y = justB 2 ⟨#[108, 105, 109, 105, 116]⟩ u.1 := ⟨_, rfl⟩
              rw [← hy] at HWD hQ
              have HQ := hide hQ
              have HCS := hide hCS
              clear hy hQ huok hCS hS hF
              go_wp2_with fail
              refine HWD.out.mono ?_
              rintro e W3 ⟨rfl, hR3⟩
              have HX3 := hide (hR3.2.row hX.out HM1.out HM3.out)
              have HR3 := hide hR3.1
              have HT3 := hide (hT.out.trans hR3.2)
              have HC3 := hide (HCS.out.two hR3.2 (fun j hj => ⟨by omega, by omega⟩))
              clear HWD hR3 hX hR hT HCS
              go_upto_if 41 with fail
              go_cut [3] (fun v wx => QC w0 w b g R0 F4 v wx)
              case first =>
                cases y with
                | false =>
                  have HQ1 : Hid (R0 = F4 q u) := by show _ = _; rw [HQ.out, if_neg (by simp)]
                  clear HQ
                  go_wp2_with fail
                  go_meet
                  exact ⟨true, q, la, m, k, u, rfl, HX3, HR3, HT3, (fun h => by cases h), fun _ => ⟨HUOK.out, HC3.out, HQ1.out⟩⟩
                | true =>
                  rw [if_pos rfl] at HQ
                  obtain ⟨u1, hu1⟩ : ∃ u1, u1 = nxtD u.2 := ⟨_, rfl⟩
                  have HR3b : Hid (RdP w0 W3 b g u1.1 u1.2) := by rw [hu1]; exact HR3.out
                  have HLM := hide (plimit_any w0 b g u1.1 u1.2 W3 HR3b.out HV.out)
                  have HNO2 := hide (nxtD_ok u1.2 HR3b.out.sz)
                  rw [← hu1] at HQ
                  clear hu1 HR3
                  by_cases hl : limB u1.1 = true
                  · rw [if_pos hl] at HQ
                    have hk4 : u1.1.kind = 4 := by
                      unfold limB at hl
                      simp only [Bool.and_eq_true, decide_eq_true_eq] at hl
                      exact hl.1
                    have hkd : decide (u1.1.kind = 4) = true := by simp [hk4]
                    have htk : takeT 4 u1.1 = u1.1 := by simp [takeT, hk4]
                    rw [hkd, htk, hl] at HLM
                    have HS2 : Hid (stepT true u1.1 u1.2 = nxtD u1.2) := rfl
                    rw [HS2.out] at HLM
                    generalize u1.1.num = n1 at *
                    generalize nxtD u1.2 = u2 at *
                    clear hl hk4 hkd htk HS2 HR3b
                    go_wp2_with fail
                    refine HLM.out.mono ?_
                    rintro e W4 ⟨rfl, hR4, hT4⟩
                    have x4 := hT4.row HX3.out HM1.out HM3.out
                    obtain ⟨_, _, _, _, c4⟩ := x4.q5
                    have f4 := x4.free 4
                    have HX4 := hide (q_set4 x4 (.int .i64 n1))
                    have T4 := Two.cell1 w.heap.size 4 W4 (.int .i64 n1)
                    have HR4 := hide (hR4.high T4 HH0.out HM1.out HM3.out)
                    have HT4 := hide ((HT3.out.trans hT4).high T4 (Nat.le_refl _))
                    have HC4 := hide ((HC3.out.two hT4 (fun j hj => ⟨by omega, by omega⟩)).two T4 (fun j hj => ⟨by omega, by omega⟩))
                    clear x4 hR4 hT4 HX3 HT3 HC3 T4 HLM
                    go_wp2_with fail
                    go_meet
                    exact ⟨true, ⟨q.table, q.cs, q.order, q.falling, n1⟩, la, m, k, u2, rfl, HX4, HR4, HT4, (fun h => by cases h), fun _ => ⟨HNO2.out, HC4.out, HQ.out⟩⟩
                  · rw [if_neg hl] at HQ
                    have hl2 : limB u1.1 = false := by simpa using hl
                    rw [hl2] at HLM
                    generalize (takeT 4 u1.1).num = n1 at *
                    generalize stepT (decide (u1.1.kind = 4)) u1.1 u1.2 = u2 at *
                    clear hl hl2 HR3b
                    go_wp2_with fail
                    refine HLM.out.mono ?_
                    rintro e W4 ⟨rfl, hR4, hT4⟩
                    have x4 := hT4.row HX3.out HM1.out HM3.out
                    obtain ⟨_, _, _, _, c4⟩ := x4.q5
                    have f4 := x4.free 4
                    have HX4 := hide (q_set4 x4 (.int .i64 n1))
                    have T4 := Two.cell1 w.heap.size 4 W4 (.int .i64 n1)
                    have HR4 := hide (hR4.high T4 HH0.out HM1.out HM3.out)
                    have HT4 := hide ((HT3.out.trans hT4).high T4 (Nat.le_refl _))
                    clear x4 hR4 hT4 HX3 HT3 HC3 T4 HLM
                    go_wp2_with fail
                    go_meet
                    exact ⟨false, ⟨q.table, q.cs, q.order, q.falling, n1⟩, la, m, k, u2, rfl, HX4, HR4, HT4, fun _ => HQ.out, fun h => by cases h⟩
              case rest =>
                clear HX3 HR3 HT3 HC3 HQ HUOK HNO
                have hcut2 : QC w0 w b g R0 F4 _ wc := hcut
                obtain ⟨ok, q, la, m, k, u, hvv, hX, hR, hT, hF, hS⟩ := hcut2
                subst hvv
                clear hcut
                cases ok with
                | false =>
                  obtain ⟨qt, qc, qo, qf, ql⟩ := q
                  obtain ⟨z0, z1, z2, z3, z4⟩ := hX.out.q5
                  have zf0 := hX.out.free 0
                  have zf1 := hX.out.free 1
                  have zf2 := hX.out.free 2
                  have zf3 := hX.out.free 3
                  have zf4 := hX.out.free 4
                  have HZ5 := hide (q_put hX.out (.string qt) (.slice la m k) (.string qo) (.bool qf) (.int .i64 ql))
                  have T5 := q_two (w := wc) (b := w.heap.size) (.string qt) (.slice la m k) (.string qo) (.bool qf) (.int .i64 ql)
                  have HF5 : Hid (Two b g w _ ∧ Below w0.heap.size w0 _) := ⟨hT.out.high T5 (Nat.le_refl _), (hR.out.high T5 HH0.out HM1.out HM3.out).bel⟩
                  have HN : Hid (R0 = none) := hF.out rfl
                  clear T5 hS hF hR hT
                  go_wp2_with fail
                  go_region
                  go_wp2
                  refine bodyPost_ret (results_row_tmp rfl _ _ w.heap.size 24 _ (0, 0) _ rfl HZ5.out Tryz.underlying24 rfl (by kernel_rfl)) rfl ?_
                  rw [HN.out]
                  exact ⟨⟨⟨qt, qc, qo, qf, ql⟩, la, m, k, rfl⟩, HF5.out.1.trans (.of_below (Below.refl _ _).drew), HF5.out.2.drew⟩
                | true =>
                  obtain ⟨huok, hCS, hQ⟩ := hS.out rfl
                  obtain ⟨qt, qc, qo, qf, ql⟩ := q
                  obtain ⟨ca, cc, hcv⟩ := hCS.form
                  cases hcv
                  obtain ⟨z0, z1, z2, z3, z4⟩ := hX.out.q5
                  have zf0 := hX.out.free 0
                  have zf1 := hX.out.free 1
                  have zf2 := hX.out.free 2
                  have zf3 := hX.out.free 3
                  have zf4 := hX.out.free 4
                  have HZ5 := hide (q_put hX.out (.string qt) (.slice la qc.length k) (.string qo) (.bool qf) (.int .i64 ql))
                  have T5 := q_two (w := wc) (b := w.heap.size) (.string qt) (.slice la qc.length k) (.string qo) (.bool qf) (.int .i64 ql)
                  have HF5 : Hid (Two b g w _ ∧ Below w0.heap.size w0 _) := ⟨hT.out.high T5 (Nat.le_refl _), (hR.out.high T5 HH0.out HM1.out HM3.out).bel⟩
                  have HC5 := hide (hCS.two T5 (fun j hj => ⟨by omega, by omega⟩))
                  obtain ⟨⟨_, a1, _, _⟩, _⟩ := rd_cells hR.out.row
                  unfold F4 at hQ
                  have m1 := HM1.out
                  obtain ⟨⟨uk, ut, un⟩, us⟩ := u
                  simp only at hQ a1
                  by_cases hk : uk = 0
                  · rw [if_pos hk] at hQ
                    have HN := hide hQ
                    subst hk
                    clear T5 hS hF hR hT hQ huok hCS
                    go_wp2_with fail
                    go_region
                    go_wp2
                    refine bodyPost_ret (results_row_tmp rfl _ _ w.heap.size 24 _ (0, 0) _ rfl HZ5.out Tryz.underlying24 rfl (by kernel_rfl)) rfl ?_
                    rw [HN.out]
                    exact ⟨⟨la, k, rfl, HC5.out.keep (Below.refl _ _).drew⟩, HF5.out.1.trans (.of_below (Below.refl _ _).drew), HF5.out.2.drew⟩
                  · rw [if_neg hk] at hQ
                    have HN := hide hQ
                    have hkI : (uk == 0) = false := by simpa using hk
                    clear T5 hS hF hR hT hQ huok hCS hk
                    go_wp2_with fail
                    go_region
                    go_wp2
                    refine bodyPost_ret (results_row_tmp rfl _ _ w.heap.size 24 _ (0, 0) _ rfl HZ5.out Tryz.underlying24 rfl (by kernel_rfl)) rfl ?_
                    rw [HN.out]
                    exact ⟨⟨⟨qt, qc, qo, qf, ql⟩, la, qc.length, k, rfl⟩, HF5.out.1.trans (.of_below (Below.refl _ _).drew), HF5.out.2.drew⟩
end Go.Proofs.YtageokjobbjddaaGreatDoor
