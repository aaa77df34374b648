import Derived.Test.YtddhjnfcbpookaaDoorPHas
namespace Go.Proofs.YtddhjnfcbpookaaDoor
open Go.RowKit Go.Maps

/-! The bound fields. -/
theorem ikeyed : Keyed Tryd.prog 3 := int_keyed Tryd.underlying3
open Classical in
noncomputable def itElem (v : Value) : Option (DataW Unit × List MemPlace) := if ∃ (a b : Int) (s : ByteArray) (p : Option Addr) (n c : Nat), v = .agg #[.int .i64 a, .int .i64 b, .string s, .slice p n c] then some (.agg [], []) else none
theorem itElem_mk (a b : Int) (s : ByteArray) (p : Option Addr) (n c : Nat) : itElem (.agg #[.int .i64 a, .int .i64 b, .string s, .slice p n c]) = some (.agg [], []) := by
  unfold itElem
  rw [if_pos ⟨a, b, s, p, n, c, rfl⟩]
theorem itElem_inv {v : Value} {z : DataW Unit × List MemPlace} (h : itElem v = some z) : ∃ (a b : Int) (s : ByteArray) (p : Option Addr) (n c : Nat), v = .agg #[.int .i64 a, .int .i64 b, .string s, .slice p n c] := by
  unfold itElem at h
  split at h
  · rename_i hx; exact hx
  · cases h
theorem wpList_lookup_own_at (w : World) {ops : Array Oper} {rest : List Oper} {o : Oper} {a : Act} {Q : Exit → Act → World → Prop} (hg : o.guard = none) (m x : Operand) (t : TypeId) (hop : o.op = Op.lookup t m x false)
    (ht : Tryd.prog.underlying t = some (.map 9 3)) (b n : Nat) (D : DataW Unit)
    (hm : a.eval m = .map (some b)) (hown : w.ownsMap Tryd.prog 9 (plainElem Tryd.prog 3) b n D) (key : Value) (kl : Lit) (hx : a.eval x = key) (hkey : keyOf Tryd.prog 9 key = some kl) (c0 : Int) (hat : D.atKey kl (.lit (.int .i64 0)) = .lit (.int .i64 c0))
    (hK : wpList Tryd.prog ops Q rest (a.put o.dst (.int .i64 c0)) w) :
    wpList Tryd.prog ops Q (o :: rest) a w :=
  wpList_lookup_own_int w hg m x t hop 9 3 .i64 skeyed ht Tryd.underlying3 (zero3 w) b n D hm hown key kl hx hkey (fun c h _ => by
    rw [hat] at h
    cases h
    exact hK)
theorem zeroIt (w : World) : (zeroValue 59).run Tryd.prog w = .ok (.agg #[.int .i64 0, .int .i64 0, .string ⟨#[]⟩, .slice none 0 0]) w := by kernel_rfl
theorem wpList_lookup_own_it (w : World) {ops : Array Oper} {rest : List Oper} {o : Oper} {a : Act} {Q : Exit → Act → World → Prop} (hg : o.guard = none) (m x : Operand) (t : TypeId) (hop : o.op = Op.lookup t m x true)
    (ht : Tryd.prog.underlying t = some (.map 3 59)) (b n : Nat) (D : DataW Unit)
    (hm : a.eval m = .map (some b)) (hown : w.ownsMap Tryd.prog 3 itElem b n D) (key : Value) (kl : Lit) (hx : a.eval x = key) (hkey : keyOf Tryd.prog 3 key = some kl)
    (hK : ∀ a0 b0 s0 p0 n0 c0, wpList Tryd.prog ops Q rest (a.put o.dst (.tuple #[.agg #[.int .i64 a0, .int .i64 b0, .string s0, .slice p0 n0 c0], .bool (Maps.has D kl)])) w) :
    wpList Tryd.prog ops Q (o :: rest) a w :=
  wpList_lookup_own_ok w hg m x t hop 3 59 ikeyed ht itElem (zeroIt w) (.agg []) [] (itElem_mk _ _ _ _ _ _) b n D hm hown key kl hx hkey (fun v ps hv => by
    obtain ⟨a0, b0, s0, p0, n0, c0, rfl⟩ := itElem_inv hv
    exact hK a0 b0 s0 p0 n0 c0)
abbrev kI (i : Int) : Lit := .int .i64 i
theorem kI_inj {a b : Int} (h : kI a = kI b) : a = b := by simpa [kI] using h
theorem keyI (i : Int) (h1 : -9223372036854775808 ≤ i) (h2 : i ≤ 9223372036854775807) : keyOf Tryd.prog 3 (.int .i64 i) = some (kI i) := keyOf_int_mk Tryd.underlying3 (WalkArith.wf_i64 (by omega))
/-- Does the condition bind its field? -/
def bindC (fs : List Fd) (c : Cd) : Bool := match fs[(fieldI fs c.field).toNat]? with
  | some f => decide (c.sign = 1 ∧ (c.item.kind = 1 ∨ c.item.kind = f.2))
  | none => false
theorem bound_snoc (fs : List Fd) (l : List Cd) (c : Cd) (hc : 0 ≤ fieldI fs c.field) (i : Int) : boundB fs (l ++ [c]) i = (boundB fs l i || (bindC fs c && decide (i = fieldI fs c.field))) := by
  have hlt := (fieldI_ge fs c.field).2
  have hl : (fieldI fs c.field).toNat < fs.length := by omega
  unfold boundB
  by_cases h : 0 ≤ i ∧ i.toNat < fs.length
  · rw [dif_pos h, dif_pos h, List.any_append]
    congr 1
    simp only [List.any_cons, List.any_nil, Bool.or_false, bindsB]
    by_cases e : i = fieldI fs c.field
    · subst e
      have e2 : fs[(fieldI fs c.field).toNat]? = some (fs[(fieldI fs c.field).toNat]'hl) := List.getElem?_eq_getElem hl
      unfold bindC
      rw [e2]
      have e3 : fieldI fs c.field = ((fieldI fs c.field).toNat : Int) := by omega
      simp only [decide_true, Bool.and_true]
      rw [Bool.eq_iff_iff]
      simp only [decide_eq_true_eq]
      constructor
      · rintro ⟨a1, _, a3⟩; exact ⟨a1, a3⟩
      · rintro ⟨a1, a3⟩; exact ⟨a1, e3, a3⟩
    · rw [decide_eq_false e, Bool.and_false, decide_eq_false]
      rintro ⟨_, a2, _⟩
      omega
  · rw [dif_neg h, dif_neg h]
    have : ¬ i = fieldI fs c.field := by omega
    simp [this]
def BndD (D : DataW Unit) (fs : List Fd) (cs : List Cd) : Prop := ∀ i, Maps.has D (kI i) = boundB fs cs i
theorem BndD.nil (fs : List Fd) : BndD (.map []) fs [] := fun i => by simp [Maps.has, boundB]
theorem BndD.no {D : DataW Unit} {fs : List Fd} {l : List Cd} {c : Cd} (h : BndD D fs l) (hc : 0 ≤ fieldI fs c.field) (hb : bindC fs c = false) : BndD D fs (l ++ [c]) := fun i => by
  rw [bound_snoc fs l c hc i, hb, Bool.false_and, Bool.or_false]; exact h i
theorem BndD.skip {D : DataW Unit} {fs : List Fd} {l : List Cd} {c : Cd} (h : BndD D fs l) (hc : 0 ≤ fieldI fs c.field) (hb : Maps.has D (kI (fieldI fs c.field)) = true) : BndD D fs (l ++ [c]) := fun i => by
  rw [bound_snoc fs l c hc i, ← h i]
  by_cases e : i = fieldI fs c.field
  · subst e; rw [hb, Bool.true_or]
  · simp [e]
theorem BndD.put {D : DataW Unit} {fs : List Fd} {l : List Cd} {c : Cd} (h : BndD D fs l) (hm : IsMap D) (hc : 0 ≤ fieldI fs c.field) (hb : bindC fs c = true) (d : DataW Unit) : BndD (D.put (kI (fieldI fs c.field)) d) fs (l ++ [c]) := fun i => by
  rw [bound_snoc fs l c hc i, ← h i, hb]
  by_cases e : i = fieldI fs c.field
  · subst e
    rw [has_put_same hm (show WideAt.IsKeyLit (kI (fieldI fs c.field)) from trivial)]; simp
  · rw [has_put_other (fun h => e (kI_inj h))]
    simp [e]
structure BndMap (w : World) (b : Nat) (fs : List Fd) (cs : List Cd) : Prop where
  ex : ∃ D : DataW Unit, w.ownsMap Tryd.prog 3 itElem b cs.length D ∧ BndD D fs cs
theorem BndMap.keep {w w' : World} {b : Nat} {fs : List Fd} {cs : List Cd} (h : BndMap w b fs cs) (hb : Below w.heap.size w w') : BndMap w' b fs cs := by
  obtain ⟨D, h1, h2⟩ := h.ex
  exact ⟨D, own_keep h1 hb, h2⟩
def BndP (w : World) (fs : List Fd) (cs : List Cd) (e : Ending) (w' : World) : Prop := ∃ b, e = .returned (.map (some b)) ∧ w.heap.size ≤ b ∧ BndMap w' b fs cs ∧ Below w.heap.size w w'
set_option maxHeartbeats 8000000 in
set_option maxRecDepth 100000 in
theorem pbitems_any (tn : ByteArray) (fv iv cv : Value) (fs : List Fd) (l : List Cd) (w : World) (hf : FsAt w fv fs) (hn : ∀ f ∈ fs, f.1.size ≤ 140737488355328) (hiv : ∃ a n c, iv = .slice a n c) (hc : CsAt w anyB cv l) (hall : ∀ c ∈ l, 0 ≤ fieldI fs c.field) :
    Calls Tryd.prog 20 #[.agg (tV tn fv iv), cv] w fun e w' => BndP w fs l e w' := by
  simp only [tV]
  obtain ⟨ca, cc, hcv⟩ := hc.form
  obtain ⟨fa, fc, hfv⟩ := hf.form
  obtain ⟨ia, im, ic, hiv⟩ := hiv
  subst hcv hfv hiv
  have hlen := hc.len
  have hflen := hf.len
  have q1 := below_new w (.cells #[.string tn, .slice fa fs.length fc, .slice ia im ic] 25)
  have x1 := RowAt.new w #[.string tn, .slice fa fs.length fc, .slice ia im ic] 25
  generalize hW1 : w.alloc (.cells #[.string tn, .slice fa fs.length fc, .slice ia im ic] 25) = W1 at q1 x1
  have HW := hide hW1
  have HX := hide x1
  have HF := hide (hf.keep q1)
  have HC := hide (hc.keep q1)
  have HB := hide q1
  have HALL := hide hall
  have HNM := hide (pnums_any fs (.slice fa fs.length fc) W1 (hf.keep q1) hn)
  have t1 : W1.cell? ⟨w.heap.size, 1, none⟩ = some (.slice fa fs.length fc) := x1.cell 1 (by simp)
  rw [← hW1] at t1
  have hmm := @run_makeMap Tryd.prog
  clear hf hc q1 x1 hW1 hn hall
  go_enter Tryd.func20, Tryd.ntmps20
  go_wp2_with fail
  rw [HW.out] at t1 ⊢
  refine HNM.out.mono ?_
  rintro e w3 ⟨bn, rfl, hbs, hnm, hb3⟩
  have HO4 := hide (World.ownsMap_made (H := Unit) w3 Tryd.prog 3 itElem)
  have HQ4 := hide (below_new w3 (.map #[] 0))
  generalize hW4 : w3.alloc (.map #[] 0) = w4 at HO4 HQ4
  have HW4 := hide hW4
  have HM := hide hnm
  have HX3 := hide (HX.out.below hb3)
  have HF3 := hide (HF.out.keep hb3)
  have HC3 := hide (HC.out.keep hb3)
  have HB3 := hide (Below.next HB.out hb3)
  have HSB : Hid (w.heap.size ≤ w3.heap.size) := Nat.le_trans HB.out.size hb3.size
  clear hnm HNM HX HF HC HB t1 HW hbs hW4 hb3
  go_wp2_with fail
  rw [HW4.out]
  go_loopw [18] (fun v wr => ∃ (k : Nat) (D : DataW Unit), v = .int .i64 (k : Int) ∧ k ≤ l.length ∧ Hid (wr.ownsMap Tryd.prog 3 itElem w3.heap.size k D) ∧ Hid (BndD D fs (l.take k)) ∧ Below w3.heap.size w3 wr) (fun v _ => l.length - (intOf v).toNat)
  case atStart => exact ⟨0, _, rfl, Nat.zero_le _, HO4.out, BndD.nil _, HQ4.out⟩
  case round =>
    obtain ⟨k, D, rfl, hk, hown, hbd, hbl⟩ := hrel
    have HBL := hide hbl
    by_cases hlt : k < l.length
    · have hltI : (k : Int) < (l.length : Int) := by omega
      have e0 : (0 : Int) ≤ (k : Int) := by omega
      obtain ⟨g, off, u, hca, -, hok, s0, s1, s2, s3, s4, s5, hin⟩ := (HC3.out.keep hbl).get k hlt
      have HTK : Hid (l.take (k + 1) = l.take k ++ [l[k]'hlt]) := List.take_succ_eq_append_getElem hlt
      have HFI := hide (HALL.out _ (List.getElem_mem hlt))
      have HJ : Hid (k + 1 ≤ l.length) := by show _ ≤ _; omega
      have HSZ := hbl.size
      obtain ⟨x, hx⟩ : ∃ x, x = l[k]'hlt := ⟨_, rfl⟩
      rw [← hx] at s0 s1 s2 s3 s4 hin hok HTK HFI
      subst hca
      have HKY := hide (keyS x.field (by have := hok.f; omega))
      obtain ⟨ua, uc, hu⟩ := hin.form
      subst hu
      obtain ⟨DN, hownN, hndN⟩ := (HM.out.keep hbl).ex
      obtain ⟨N, hN⟩ : ∃ N : Nat, fieldI fs x.field = (N : Int) := ⟨(fieldI fs x.field).toNat, by have := HFI.out; omega⟩
      have HAT := hide ((hndN x.field).2 HFI.out (.lit (.int .i64 0)))
      have hNl : N < fs.length := by have := (fieldI_ge fs x.field).2; omega
      rw [hN] at HAT
      have HNI := hide hN
      obtain ⟨g0, off0, hfa, -, k1⟩ := (HF3.out.keep hbl).get N hNl
      have HBC : Hid (bindC fs x = decide (x.sign = 1 ∧ (x.item.kind = 1 ∨ x.item.kind = (fs[N]'hNl).2))) := by
        show _ = _
        unfold bindC
        rw [HNI.out, Int.toNat_natCast, List.getElem?_eq_getElem hNl]
      obtain ⟨fk, hfk⟩ : ∃ fk, fk = (fs[N]'hNl).2 := ⟨_, rfl⟩
      rw [← hfk] at k1 HBC
      subst hfa
      have r1 := HX3.out.below hbl
      have a1 : wr.cell? ⟨w.heap.size, 1, none⟩ = some (.slice (some ⟨g0, off0, none⟩) fs.length fc) := r1.cell 1 (by simp)
      have qv := below_new wr (.cells #[.string x.field, .int .i64 x.sign, .int .i64 x.item.kind, .int .i64 x.item.num, .string x.item.text, .slice ua x.item.list.length uc] 61)
      have yv := RowAt.new wr #[.string x.field, .int .i64 x.sign, .int .i64 x.item.kind, .int .i64 x.item.num, .string x.item.text, .slice ua x.item.list.length uc] 61
      have HON := hide (hownN.alloc (.cells #[.string x.field, .int .i64 x.sign, .int .i64 x.item.kind, .int .i64 x.item.num, .string x.item.text, .slice ua x.item.list.length uc] 61))
      have HOD := hide (hown.out.alloc (.cells #[.string x.field, .int .i64 x.sign, .int .i64 x.item.kind, .int .i64 x.item.num, .string x.item.text, .slice ua x.item.list.length uc] 61))
      obtain ⟨V1, hV1⟩ : ∃ V1, wr.alloc (.cells #[.string x.field, .int .i64 x.sign, .int .i64 x.item.kind, .int .i64 x.item.num, .string x.item.text, .slice ua x.item.list.length uc] 61) = V1 := ⟨_, rfl⟩
      rw [hV1] at qv yv HON HOD
      obtain ⟨v0, v1, v2, v3, v4, v5⟩ := yv.q6
      have HV1 := hide hV1
      have b1 := cell_below qv a1
      have kk1 := cell_below qv k1
      have HQV := hide ((HBL.out).trans (qv.mono HSZ))
      have hNI : (N : Int) < (fs.length : Int) := by omega
      have n0 : (0 : Int) ≤ (N : Int) := by omega
      clear hin hok hx hbl qv yv hown hownN hndN hN hfk r1 a1 k1 hV1
      go_upto_region 7 with (first
        | (at_lookup; rw [HV1.out]; refine wpList_lookup_own_at _ rfl _ _ 89 rfl Tryd.underlying89 bn fs.length DN rfl HON.out _ _ rfl HKY.out (N : Int) HAT.out ?_)
        | fail)
      by_cases hsg : x.sign = 1
      · have g1 : (x.sign != 1) = false := by simp [hsg]
        by_cases hk1 : x.item.kind = 1
        · have g2 : (x.item.kind != 1) = false := by simp [hk1]
          have HBT : Hid (bindC fs x = true) := by show _ = _; rw [HBC.out]; simp [hsg, hk1]
          clear hk1 hsg
          obtain ⟨hb, hhb⟩ : ∃ hb, hb = Maps.has D (kI (N : Int)) := ⟨_, rfl⟩
          have HHB := hide hhb.symm
          clear hhb
          have HKI := hide (keyI (N : Int) (by omega) (by omega))
          go_quiet (fail)
          have hb2 : Below V1.heap.size V1 (V1.drewN nq) := below_drewN' (Below.refl V1.heap.size V1) nq
          have HB2 : Hid (Below w3.heap.size w3 (V1.drewN nq)) := below_drewN' HQV.out nq
          have HOD2 := hide (own_keep HOD.out hb2)
          have y0 := cell_below hb2 v0
          have y1 := cell_below hb2 v1
          have y2 := cell_below hb2 v2
          have y3 := cell_below hb2 v3
          have y4 := cell_below hb2 v4
          have y5 := cell_below hb2 v5
          have HSV : Hid (w3.heap.size ≤ (V1.drewN nq).heap.size) := HB2.out.size
          clear v0 v1 v2 v3 v4 v5 b1 kk1 HOD HON hb2
          generalize V1.drewN nq = V2 at *
          cases hb with
          | true =>
            have HA : Hid (BndD D fs (l.take (k + 1))) := by
              show BndD _ _ _
              rw [HTK.out]; exact hbd.out.skip HFI.out (by rw [HNI.out]; exact HHB.out)
            clear hbd HBC HTK
            go_wp2_with (first
              | (at_lookup; refine wpList_lookup_own_it _ rfl _ _ 65 rfl Tryd.underlying65 w3.heap.size k D rfl HOD2.out _ _ rfl HKI.out ?_; intro a0 b0 t0 p0 m0 c0; rw [HHB.out])
              | fail)
            go_roundw
            case rel => exact ⟨k + 1, D, by go_num, HJ.out, (HOD2.out.alloc _).mono (Nat.le_succ _), HA.out, HB2.out.alloc HSV.out _⟩
            case measure => simp [intOf]; omega
          | false =>
            have HA : Hid (BndD (D.put (kI (N : Int)) (.agg [])) fs (l.take (k + 1))) := by
              show BndD _ _ _
              have h9 := hbd.out.put (c := x) HOD2.out.isMap HFI.out HBT.out (.agg [])
              rw [HNI.out] at h9
              rw [HTK.out]; exact h9
            have HKM : Hid (k < maxLen) := by show _ < _; unfold maxLen; omega
            have z2 : ∀ o, (V2.alloc o).cell? ⟨wr.heap.size, 2, none⟩ = some (.int .i64 x.item.kind) := fun o => cell_below (below_new V2 o) y2
            have z3 : ∀ o, (V2.alloc o).cell? ⟨wr.heap.size, 3, none⟩ = some (.int .i64 x.item.num) := fun o => cell_below (below_new V2 o) y3
            have z4 : ∀ o, (V2.alloc o).cell? ⟨wr.heap.size, 4, none⟩ = some (.string x.item.text) := fun o => cell_below (below_new V2 o) y4
            have z5 : ∀ o, (V2.alloc o).cell? ⟨wr.heap.size, 5, none⟩ = some (.slice ua x.item.list.length uc) := fun o => cell_below (below_new V2 o) y5
            have HPE := hide (itElem_mk x.item.kind x.item.num x.item.text ua x.item.list.length uc)
            clear hbd HBC HTK
            go_wp2_with (first
              | (at_lookup; refine wpList_lookup_own_it _ rfl _ _ 65 rfl Tryd.underlying65 w3.heap.size k D rfl HOD2.out _ _ rfl HKI.out ?_; intro a0 b0 t0 p0 m0 c0; rw [HHB.out])
              | (at_mapUpdate; refine wpList_mapUpdate_own _ rfl _ _ _ 65 rfl 3 59 ikeyed Tryd.underlying65 itElem w3.heap.size k D rfl (HOD2.out.alloc _) HKM.out _ _ _ rfl rfl HKI.out _ [] HPE.out ?_; intro w9 hown9 hgrow9)
              | fail)
            have HB9 : Hid (Below w3.heap.size w3 w9) := (HB2.out.alloc HSV.out _).grown hgrow9 (by have := HSV.out; simp; omega) (fun j hj => by cases hj; exact Nat.le_refl _)
            have HO9 := hide hown9
            clear hown9 hgrow9
            go_wp2
            go_roundw
            case rel => exact ⟨k + 1, _, by go_num, HJ.out, HO9.out, HA.out, HB9.out⟩
            case measure => simp [intOf]; omega
        · have g2 : (x.item.kind != 1) = true := by simp [hk1]
          by_cases hk2 : x.item.kind = fk
          · have g3 : (x.item.kind != fk) = false := by simp [hk2]
            have HBT : Hid (bindC fs x = true) := by show _ = _; rw [HBC.out]; simp [hsg, hk2]
            clear hk1 hk2 hsg
            obtain ⟨hb, hhb⟩ : ∃ hb, hb = Maps.has D (kI (N : Int)) := ⟨_, rfl⟩
            have HHB := hide hhb.symm
            clear hhb
            have HKI := hide (keyI (N : Int) (by omega) (by omega))
            go_quiet (fail)
            have hb2 : Below V1.heap.size V1 (V1.drewN nq) := below_drewN' (Below.refl V1.heap.size V1) nq
            have HB2 : Hid (Below w3.heap.size w3 (V1.drewN nq)) := below_drewN' HQV.out nq
            have HOD2 := hide (own_keep HOD.out hb2)
            have y0 := cell_below hb2 v0
            have y1 := cell_below hb2 v1
            have y2 := cell_below hb2 v2
            have y3 := cell_below hb2 v3
            have y4 := cell_below hb2 v4
            have y5 := cell_below hb2 v5
            have HSV : Hid (w3.heap.size ≤ (V1.drewN nq).heap.size) := HB2.out.size
            clear v0 v1 v2 v3 v4 v5 b1 kk1 HOD HON hb2
            generalize V1.drewN nq = V2 at *
            cases hb with
            | true =>
              have HA : Hid (BndD D fs (l.take (k + 1))) := by
                show BndD _ _ _
                rw [HTK.out]; exact hbd.out.skip HFI.out (by rw [HNI.out]; exact HHB.out)
              clear hbd HBC HTK
              go_wp2_with (first
                | (at_lookup; refine wpList_lookup_own_it _ rfl _ _ 65 rfl Tryd.underlying65 w3.heap.size k D rfl HOD2.out _ _ rfl HKI.out ?_; intro a0 b0 t0 p0 m0 c0; rw [HHB.out])
                | fail)
              go_roundw
              case rel => exact ⟨k + 1, D, by go_num, HJ.out, (HOD2.out.alloc _).mono (Nat.le_succ _), HA.out, HB2.out.alloc HSV.out _⟩
              case measure => simp [intOf]; omega
            | false =>
              have HA : Hid (BndD (D.put (kI (N : Int)) (.agg [])) fs (l.take (k + 1))) := by
                show BndD _ _ _
                have h9 := hbd.out.put (c := x) HOD2.out.isMap HFI.out HBT.out (.agg [])
                rw [HNI.out] at h9
                rw [HTK.out]; exact h9
              have HKM : Hid (k < maxLen) := by show _ < _; unfold maxLen; omega
              have z2 : ∀ o, (V2.alloc o).cell? ⟨wr.heap.size, 2, none⟩ = some (.int .i64 x.item.kind) := fun o => cell_below (below_new V2 o) y2
              have z3 : ∀ o, (V2.alloc o).cell? ⟨wr.heap.size, 3, none⟩ = some (.int .i64 x.item.num) := fun o => cell_below (below_new V2 o) y3
              have z4 : ∀ o, (V2.alloc o).cell? ⟨wr.heap.size, 4, none⟩ = some (.string x.item.text) := fun o => cell_below (below_new V2 o) y4
              have z5 : ∀ o, (V2.alloc o).cell? ⟨wr.heap.size, 5, none⟩ = some (.slice ua x.item.list.length uc) := fun o => cell_below (below_new V2 o) y5
              have HPE := hide (itElem_mk x.item.kind x.item.num x.item.text ua x.item.list.length uc)
              clear hbd HBC HTK
              go_wp2_with (first
                | (at_lookup; refine wpList_lookup_own_it _ rfl _ _ 65 rfl Tryd.underlying65 w3.heap.size k D rfl HOD2.out _ _ rfl HKI.out ?_; intro a0 b0 t0 p0 m0 c0; rw [HHB.out])
                | (at_mapUpdate; refine wpList_mapUpdate_own _ rfl _ _ _ 65 rfl 3 59 ikeyed Tryd.underlying65 itElem w3.heap.size k D rfl (HOD2.out.alloc _) HKM.out _ _ _ rfl rfl HKI.out _ [] HPE.out ?_; intro w9 hown9 hgrow9)
                | fail)
              have HB9 : Hid (Below w3.heap.size w3 w9) := (HB2.out.alloc HSV.out _).grown hgrow9 (by have := HSV.out; simp; omega) (fun j hj => by cases hj; exact Nat.le_refl _)
              have HO9 := hide hown9
              clear hown9 hgrow9
              go_wp2
              go_roundw
              case rel => exact ⟨k + 1, _, by go_num, HJ.out, HO9.out, HA.out, HB9.out⟩
              case measure => simp [intOf]; omega
          · have g3 : (x.item.kind != fk) = true := by simp [hk2]
            have HBN : Hid (bindC fs x = false) := by show _ = _; rw [HBC.out]; simp [hk1, hk2]
            clear hk1 hk2 hsg
            have HA : Hid (BndD D fs (l.take (k + 1))) := by
              show BndD _ _ _
              rw [HTK.out]; exact hbd.out.no HFI.out HBN.out
            clear hbd HBC HTK
            go_quiet (fail)
            have HB2 : Hid (Below w3.heap.size w3 (V1.drewN nq)) := below_drewN' HQV.out nq
            have HOD2 := hide (own_keep HOD.out (below_drewN' (Below.refl V1.heap.size V1) nq))
            clear v0 v1 v2 v3 v4 v5 b1 kk1 HOD HON
            generalize V1.drewN nq = V2 at *
            go_wp2_with fail
            go_roundw
            case rel => exact ⟨k + 1, D, by go_num, HJ.out, HOD2.out.mono (Nat.le_succ _), HA.out, HB2.out⟩
            case measure => simp [intOf]; omega
      · have g1 : (x.sign != 1) = true := by simp [hsg]
        have HBN : Hid (bindC fs x = false) := by show _ = _; rw [HBC.out]; simp [hsg]
        clear hsg
        have HA : Hid (BndD D fs (l.take (k + 1))) := by
          show BndD _ _ _
          rw [HTK.out]; exact hbd.out.no HFI.out HBN.out
        clear hbd HBC HTK
        go_quiet (fail)
        have HB2 : Hid (Below w3.heap.size w3 (V1.drewN nq)) := below_drewN' HQV.out nq
        have HOD2 := hide (own_keep HOD.out (below_drewN' (Below.refl V1.heap.size V1) nq))
        clear v0 v1 v2 v3 v4 v5 b1 kk1 HOD HON
        generalize V1.drewN nq = V2 at *
        go_wp2_with fail
        go_roundw
        case rel => exact ⟨k + 1, D, by go_num, HJ.out, HOD2.out.mono (Nat.le_succ _), HA.out, HB2.out⟩
        case measure => simp [intOf]; omega
    · have hltI : ¬ (k : Int) < (l.length : Int) := by omega
      have hke : k = l.length := by omega
      have HMM : Hid (BndMap wr w3.heap.size fs l) := ⟨D, by rw [← hke]; exact hown.out, by have := hbd.out; rwa [hke, List.take_length] at this⟩
      have HEB : Hid (Below w.heap.size w wr) := HB3.out.trans (HBL.out.mono HSB.out)
      clear hown hbd hbl hke
      go_wp2
      go_ret
      exact ⟨_, rfl, HSB.out, HMM.out, HEB.out⟩
end Go.Proofs.YtddhjnfcbpookaaDoor
