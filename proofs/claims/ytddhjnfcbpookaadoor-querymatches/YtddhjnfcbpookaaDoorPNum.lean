import Derived.Test.YtddhjnfcbpookaaDoorPFault
import Derived.Test.YtddhjnfcbpookaaDoorQChoose
import Derived.Maps.OwnSet
import Derived.Maps.OwnOps
import Derived.StringKeys
namespace Go.Proofs.YtddhjnfcbpookaaDoor
open Go.RowKit Go.Maps

/-! The map of the fields' numbers. -/
theorem skeyed : Keyed Tryd.prog 9 := string_keyed Tryd.underlying9
theorem zero3 (w : World) : (zeroValue 3).run Tryd.prog w = .ok (.int .i64 0) w := by kernel_rfl
abbrev kS (s : ByteArray) : Lit := .string s.data.toList
theorem kS_inj {a b : ByteArray} (h : kS a = kS b) : a = b := by
  obtain ⟨⟨x⟩⟩ := a
  obtain ⟨⟨y⟩⟩ := b
  simp only [kS, Lit.string.injEq] at h
  rw [h]
theorem keyS (s : ByteArray) (h : s.size ≤ 140737488355328) : keyOf Tryd.prog 9 (.string s) = some (kS s) := WideMaps.keyOf_string_mk Tryd.underlying9 (by unfold maxLen; omega)
theorem fieldI_cases (l : List Fd) (s : ByteArray) : (fieldI l s = -1 ∧ ∀ j (h : j < l.length), l[j].1 ≠ s) ∨ ∃ k : Nat, ∃ hk : k < l.length, fieldI l s = (k : Int) ∧ l[k].1 = s ∧ ∀ j (h : j < l.length), j < k → l[j].1 ≠ s := by
  unfold fieldI
  cases h : l.findIdx? (fun f => decide (f.1 = s)) with
  | none =>
    left
    refine ⟨rfl, fun j hj => ?_⟩
    rw [List.findIdx?_eq_none_iff] at h
    have := h l[j] (List.getElem_mem hj)
    simpa using this
  | some k =>
    right
    rw [List.findIdx?_eq_some_iff_getElem] at h
    obtain ⟨hk, h1, h2⟩ := h
    exact ⟨k, hk, rfl, by simpa using h1, fun j hj hjk => by simpa using h2 j hjk⟩
theorem fieldI_snoc (l : List Fd) (x : Fd) (s : ByteArray) : fieldI (l ++ [x]) s = if 0 ≤ fieldI l s then fieldI l s else if x.1 = s then (l.length : Int) else -1 := by
  rcases fieldI_cases l s with ⟨h1, h2⟩ | ⟨k, hk, h1, h2, h3⟩
  · rw [h1, if_neg (by omega)]
    by_cases hx : x.1 = s
    · rw [if_pos hx]
      refine fieldI_at _ s l.length (by simp) (fun j hj hjl => ?_) (by simpa using hx)
      rw [List.getElem_append_left hjl]; exact h2 j hjl
    · rw [if_neg hx]
      refine fieldI_none _ s fun j hj => ?_
      by_cases hjl : j < l.length
      · rw [List.getElem_append_left hjl]; exact h2 j hjl
      · rw [List.getElem_append_right (by omega)]; simpa using hx
  · rw [h1, if_pos (by omega)]
    refine fieldI_at _ s k (by simp; omega) (fun j hj hjk => ?_) (by rw [List.getElem_append_left hk]; exact h2)
    rw [List.getElem_append_left (by omega)]; exact h3 j (by omega) hjk
theorem fieldI_ge (l : List Fd) (s : ByteArray) : -1 ≤ fieldI l s ∧ fieldI l s < (l.length : Int) := by
  rcases fieldI_cases l s with ⟨h1, _⟩ | ⟨k, hk, h1, _⟩ <;> omega
/-- The map says of each name its number. -/
def NumD (D : DataW Unit) (fs : List Fd) : Prop := ∀ s, Maps.has D (kS s) = decide (0 ≤ fieldI fs s) ∧ (0 ≤ fieldI fs s → ∀ z, D.atKey (kS s) z = .lit (.int .i64 (fieldI fs s)))
theorem NumD.nil : NumD (.map []) [] := fun s => ⟨by simp [Maps.has, fieldI], fun h => by simp [fieldI] at h⟩
theorem NumD.skip {D : DataW Unit} {l : List Fd} {x : Fd} (h : NumD D l) (hx : Maps.has D (kS x.1) = true) : NumD D (l ++ [x]) := fun s => by
  have h0 := (h x.1).1
  rw [hx] at h0
  have h0 : 0 ≤ fieldI l x.1 := by simpa using h0
  rw [fieldI_snoc]
  by_cases hs : 0 ≤ fieldI l s
  · rw [if_pos hs]; exact h s
  · rw [if_neg hs, if_neg (fun e : x.1 = s => hs (by rw [← e]; exact h0))]
    refine ⟨?_, fun h => by omega⟩
    rw [(h s).1]
    simp [hs]
theorem NumD.put {D : DataW Unit} {l : List Fd} {x : Fd} (h : NumD D l) (hm : IsMap D) (hx : Maps.has D (kS x.1) = false) : NumD (D.put (kS x.1) (.lit (.int .i64 (l.length : Int)))) (l ++ [x]) := fun s => by
  have h0 := (h x.1).1
  rw [hx] at h0
  have h0 : ¬ 0 ≤ fieldI l x.1 := by simpa using h0
  rw [fieldI_snoc]
  by_cases e : x.1 = s
  · subst e
    rw [if_neg h0, if_pos rfl]
    refine ⟨?_, fun _ z => ?_⟩
    · rw [has_put_same hm (show WideAt.IsKeyLit (kS x.1) from trivial)]; simp
    · rw [atKey_put_same hm (show WideAt.IsKeyLit (kS x.1) from trivial)]
  · have hne : kS s ≠ kS x.1 := fun h => e (kS_inj h).symm
    rw [has_put_other hne]
    by_cases hs : 0 ≤ fieldI l s
    · rw [if_pos hs]
      exact ⟨(h s).1, fun _ z => by rw [atKey_put_other hne]; exact (h s).2 hs z⟩
    · rw [if_neg hs, if_neg e]
      refine ⟨?_, fun h => by omega⟩
      rw [(h s).1]; simp [hs]
structure NumMap (w : World) (b : Nat) (fs : List Fd) : Prop where
  ex : ∃ D : DataW Unit, w.ownsMap Tryd.prog 9 (plainElem Tryd.prog 3) b fs.length D ∧ NumD D fs
theorem own_keep {w w' : World} {k : TypeId} {R : Value → Option (DataW Unit × List MemPlace)} {b n : Nat} {D : DataW Unit} (h : w.ownsMap Tryd.prog k R b n D) (hb : Below w.heap.size w w') : w'.ownsMap Tryd.prog k R b n D := by
  obtain ⟨es, clock, h1, h2⟩ := h
  exact ⟨es, clock, (hb.block b (Array.getElem?_eq_some_iff.1 h1).1).trans h1, h2⟩
theorem NumMap.keep {w w' : World} {b : Nat} {fs : List Fd} (h : NumMap w b fs) (hb : Below w.heap.size w w') : NumMap w' b fs := by
  obtain ⟨D, h1, h2⟩ := h.ex
  exact ⟨D, own_keep h1 hb, h2⟩
def NumsP (w : World) (fs : List Fd) (e : Ending) (w' : World) : Prop := ∃ b, e = .returned (.map (some b)) ∧ w.heap.size ≤ b ∧ NumMap w' b fs ∧ Below w.heap.size w w'
set_option maxHeartbeats 4000000 in
set_option maxRecDepth 100000 in
theorem pnums_any (fs : List Fd) (fv : Value) (w : World) (hf : FsAt w fv fs) (hn : ∀ f ∈ fs, f.1.size ≤ 140737488355328) :
    Calls Tryd.prog 39 #[fv] w fun e w' => NumsP w fs e w' := by
  obtain ⟨fa, fc, hfv⟩ := hf.form
  subst hfv
  have hlen := hf.len
  have HF := hide hf
  have HN := hide hn
  clear hf hn
  have q0 := below_new w (.map #[] 0)
  have o0 := World.ownsMap_made (H := Unit) w Tryd.prog 9 (plainElem Tryd.prog 3)
  generalize hW1 : w.alloc (.map #[] 0) = W1 at q0 o0
  have HW := hide hW1
  have HQ0 := hide q0
  have HO0 := hide o0
  have hmm := @run_makeMap Tryd.prog
  clear q0 o0 hW1
  go_enter Tryd.func39, Tryd.ntmps39
  go_wp2_with fail
  rw [HW.out]
  go_loopw [11] (fun v wr => ∃ (k : Nat) (D : DataW Unit), v = .int .i64 (k : Int) ∧ k ≤ fs.length ∧ Hid (wr.ownsMap Tryd.prog 9 (plainElem Tryd.prog 3) w.heap.size k D) ∧ Hid (NumD D (fs.take k)) ∧ Below w.heap.size w wr) (fun v _ => fs.length - (intOf v).toNat)
  case atStart => exact ⟨0, _, rfl, Nat.zero_le _, HO0.out, NumD.nil, HQ0.out⟩
  case round =>
    obtain ⟨k, D, rfl, hk, hown, hnd, hbl⟩ := hrel
    have HBL := hide hbl
    by_cases hlt : k < fs.length
    · have hltI : (k : Int) < (fs.length : Int) := by omega
      have e0 : (0 : Int) ≤ (k : Int) := by omega
      obtain ⟨g, off, hfa, s0, s1⟩ := (HF.out.keep hbl).get k hlt
      subst hfa
      have HTK : Hid (fs.take (k + 1) = fs.take k ++ [fs[k]'hlt]) := List.take_succ_eq_append_getElem hlt
      have HKL : Hid ((fs.take k).length = k) := by show _ = _; rw [List.length_take]; omega
      have HKY := hide (keyS (fs[k]'hlt).1 (HN.out _ (List.getElem_mem hlt)))
      have HJ : Hid (k + 1 ≤ fs.length) := by show _ ≤ _; omega
      have HSZ := hbl.size
      obtain ⟨x, hx⟩ : ∃ x, x = fs[k]'hlt := ⟨_, rfl⟩
      rw [← hx] at s0 s1 HTK HKY
      obtain ⟨xn, xk⟩ := x
      simp only at s0 s1 HKY
      have qv := below_new wr (.cells #[.string xn, .int .i64 xk] 93)
      have HQV := hide (Below.next hbl qv)
      have HOA := hide (hown.out.alloc (.cells #[.string xn, .int .i64 xk] 93))
      obtain ⟨hb, hhb⟩ : ∃ hb, hb = Maps.has D (kS xn) := ⟨_, rfl⟩
      have HHB := hide hhb.symm
      clear hx hbl qv hhb hown
      cases hb with
      | true =>
        have HND : Hid (NumD D (fs.take (k + 1))) := by
          show NumD _ _
          rw [HTK.out]; exact hnd.out.skip HHB.out
        clear hnd HTK
        go_wp2_with (first
          | (at_lookup; refine wpList_lookup_own_ok_int _ rfl _ _ 89 rfl 9 3 .i64 skeyed Tryd.underlying89 Tryd.underlying3 (zero3 _) w.heap.size k D rfl HOA.out _ _ rfl HKY.out ?_; intro c hat hwc; rw [HHB.out]; clear hat hwc)
          | fail)
        go_roundw
        case rel => exact ⟨k + 1, D, by go_num, HJ.out, HOA.out.mono (by omega), HND.out, HQV.out⟩
        case measure => simp [intOf]; omega
      | false =>
        have HND : Hid (NumD (D.put (kS xn) (.lit (.int .i64 (k : Int)))) (fs.take (k + 1))) := by
          show NumD _ _
          have h9 := hnd.out.put (x := (xn, xk)) HOA.out.isMap HHB.out
          rw [HKL.out] at h9
          rw [HTK.out]; exact h9
        have HPE := hide (plainElem_int (H := Unit) (P := Tryd.prog) (e := 3) (q := .i64) Tryd.underlying3 (a := (k : Int)) (WalkArith.wf_i64 (by omega)))
        have HKM : Hid (k < maxLen) := by show _ < _; unfold maxLen; omega
        clear hnd HTK
        go_wp2_with (first
          | (at_lookup; refine wpList_lookup_own_ok_int _ rfl _ _ 89 rfl 9 3 .i64 skeyed Tryd.underlying89 Tryd.underlying3 (zero3 _) w.heap.size k D rfl HOA.out _ _ rfl HKY.out ?_; intro c hat hwc; rw [HHB.out]; clear hat hwc)
          | (at_mapUpdate; refine wpList_mapUpdate_own _ rfl _ _ _ 89 rfl 9 3 skeyed Tryd.underlying89 (plainElem (H := Unit) Tryd.prog 3) w.heap.size k D rfl HOA.out HKM.out _ _ _ rfl rfl HKY.out _ [] HPE.out ?_; intro w2 hown2 hgrow2)
          | fail)
        have HB2 : Hid (Below w.heap.size w w2) := HQV.out.grown hgrow2 (by simp; omega) (fun j hj => by cases hj; exact Nat.le_refl _)
        have HO2 := hide hown2
        clear hown2 hgrow2
        go_wp2
        go_roundw
        case rel => exact ⟨k + 1, _, by go_num, HJ.out, HO2.out, HND.out, HB2.out⟩
        case measure => simp [intOf]; omega
    · have hltI : ¬ (k : Int) < (fs.length : Int) := by omega
      have hke : k = fs.length := by omega
      have HM : Hid (NumMap wr w.heap.size fs) := ⟨D, by rw [← hke]; exact hown.out, by have := hnd.out; rwa [hke, List.take_length] at this⟩
      clear hown hnd hbl hke
      go_wp2
      go_ret
      exact ⟨_, rfl, Nat.le_refl _, HM.out, HBL.out⟩
end Go.Proofs.YtddhjnfcbpookaaDoor
