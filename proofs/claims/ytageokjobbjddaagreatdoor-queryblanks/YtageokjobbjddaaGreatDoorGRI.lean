import Derived.Test.YtageokjobbjddaaGreatDoorPIt1
namespace Go.Proofs.YtageokjobbjddaaGreatDoor
open Go.RowKit

theorem namedD_ok (s : ByteArray) : TokOk (namedD s) := by
  unfold namedD
  split
  · rename_i h
    refine ⟨by show _ ≤ (0 : Int); omega, by show (0 : Int) ≤ _; omega, ?_⟩
    have : s.size ≤ 32 := by
      unfold isNameD at h
      simp at h
      omega
    show s.size ≤ _
    omega
  · exact ⟨by decide, by decide, by decide⟩
theorem bad_ok : TokOk ptBad := ⟨by decide, by decide, by decide⟩
theorem ptx_len (m : Nat) : ∀ (l : List UInt8) (q : List UInt8 × List UInt8), l.length ≤ m → ptx l = some q → q.1.length ≤ l.length := by
  induction m with
  | zero =>
    intro l q hl h
    rw [List.length_eq_zero_iff.1 (Nat.le_zero.1 hl), ptx_nil] at h
    cases h
  | succ m ih =>
    intro l q hl h
    cases l with
    | nil => rw [ptx_nil] at h; cases h
    | cons c r =>
      by_cases h34 : c = 34
      · rw [h34, ptx_end] at h; cases h; simp
      · by_cases hb : (byteD (c :: r)).2 = 0
        · rw [ptx_bad c r h34 hb] at h; cases h
        · rw [ptx_step c r h34 hb] at h
          cases hp : ptx ((c :: r).drop (byteD (c :: r)).2) with
          | none => rw [hp] at h; cases h
          | some p =>
            rw [hp] at h
            cases h
            have hd : ((c :: r).drop (byteD (c :: r)).2).length ≤ m := by rw [List.length_drop]; simp only [List.length_cons] at hl ⊢; omega
            have := ih _ p hd hp
            rw [List.length_drop] at this
            simp only [List.length_cons] at this ⊢
            omega
theorem cutD_ok (s : ByteArray) (hs : s.size ≤ 1000000) : TokOk (cutD s).1 := by
  unfold cutD
  split
  · exact ⟨by decide, by decide, by decide⟩
  · rename_i c r hl
    have hlen : r.length + 1 = s.size := by rw [← q_len, hl]; rfl
    split
    · show TokOk (wordD s (leadN inwB s))
      unfold wordD
      split
      · refine ⟨by show _ ≤ (0 : Int); omega, by show (0 : Int) ≤ _; omega, ?_⟩
        show (s.extract 0 (leadN inwB s)).size ≤ _
        rw [ByteArray.size_extract]; omega
      · exact namedD_ok _
    split
    · show TokOk (quotD r).1
      unfold quotD
      split
      · exact bad_ok
      · exact namedD_ok _
    split
    · unfold numD
      split
      · exact bad_ok
      · rename_i v hv
        unfold numT at hv
        split at hv
        · rename_i v2 hv2
          split at hv
          · cases hv
            have hb := Lib.atoiAll_bounds hv2
            exact ⟨hb.1, hb.2, by show 0 ≤ _; omega⟩
          · cases hv
        · cases hv
    split
    · show TokOk (textD r).1
      unfold textD
      split
      · exact bad_ok
      · rename_i q hq
        refine ⟨by show _ ≤ (0 : Int); omega, by show (0 : Int) ≤ _; omega, ?_⟩
        show (⟨q.1.toArray⟩ : ByteArray).size ≤ _
        rw [← q_len]
        have := ptx_len r.length r q (Nat.le_refl _) hq
        show q.1.length ≤ _
        omega
    split
    · exact ⟨by show _ ≤ (0 : Int); omega, by show (0 : Int) ≤ _; omega, by show 1 ≤ _; omega⟩
    · unfold signD
      split
      · exact bad_ok
      · rename_i q hq
        obtain ⟨j, _, h2, h3, h4⟩ := psg_le s 5 q hq
        refine ⟨?_, ?_, by show 0 ≤ _; omega⟩
        · show -9223372036854775808 ≤ (q.1 : Int); omega
        · show (q.1 : Int) ≤ _; omega
theorem nxtD_ok (s : ByteArray) (hs : s.size ≤ 1000000) : TokOk (nxtD s).1 := cutD_ok _ (Nat.le_trans (trimD_le s) hs)
def ItemR (w0 w : World) (b g : Nat) (o : Option (It × St)) (e : Ending) (w' : World) : Prop :=
  match o with
  | none => (∃ x la n k, e = .returned (.tuple #[.agg (itV x (.slice la n k)), .bool false])) ∧ (∃ u : St, RdP w0 w' b g u.1 u.2) ∧ Two b g w w'
  | some (x, u) => (∃ la k, e = .returned (.tuple #[.agg (itV x (.slice la x.list.length k)), .bool true]) ∧ ItsAt w' (fun k => w.heap.size ≤ k) (.slice la x.list.length k) x.list) ∧ x.Ok ∧ TokOk u.1 ∧ RdP w0 w' b g u.1 u.2 ∧ Two b g w w'
def ListR (w0 w : World) (b g : Nat) (o : Option (List It × St)) (e : Ending) (w' : World) : Prop :=
  match o with
  | none => (e = .returned (.tuple #[.slice none 0 0, .bool false])) ∧ (∃ u : St, RdP w0 w' b g u.1 u.2) ∧ Two b g w w'
  | some (l, u) => (∃ la k, e = .returned (.tuple #[.slice la l.length k, .bool true]) ∧ ItsAt w' (fun k => w.heap.size ≤ k) (.slice la l.length k) l) ∧ TokOk u.1 ∧ RdP w0 w' b g u.1 u.2 ∧ Two b g w w'
theorem RdP.setRow {w0 w : World} {b g H : Nat} {t : Pt} {s : ByteArray} (h : RdP w0 w b g t s) (hb : H ≠ b) (hg : H ≠ g) (h0 : w0.heap.size ≤ H) (cs : Array Value) : RdP w0 (w.setRow H cs) b g t s :=
  ⟨below_setRow h.bel h0 _, (setRow_other _ _ _ _ (Ne.symm hb)).trans h.row, (setRow_other _ _ _ _ (Ne.symm hg)).trans h.rst, h.hb, h.hg, h.ne, h.sz⟩
def ListC (w0 : World) (b g r : Nat) : Prop := ∀ (t : Pt) (s : ByteArray) (w : World), RdP w0 w b g t s → TokOk t → Calls Tryz.prog 93 #[.pointer (some ⟨b, 0, none⟩), .int .i64 (r : Int)] w fun e w' => ListR w0 w b g (listD (itemD r) (t, s)) e w'
def ItemC (w0 : World) (b g r : Nat) : Prop := ∀ (t : Pt) (s : ByteArray) (w : World), RdP w0 w b g t s → TokOk t → Calls Tryz.prog 75 #[.pointer (some ⟨b, 0, none⟩), .int .i64 (r : Int)] w fun e w' => ItemR w0 w b g (itemD r (t, s)) e w'
theorem item_form (r : Nat) (u : St) : itemD r u = if u.1.kind = 4 then some (.mk 3 u.1.num ⟨#[]⟩ [], nxtD u.2) else if u.1.kind = 5 then some (.mk 4 0 u.1.text [], nxtD u.2) else if u.1.kind = 2 then (iowD u.1.text).map fun x => (x, nxtD u.2)
    else if isM ⟨#[91]⟩ u = true ∧ 0 < r then (listD (itemD (r - 1)) (nxtD u.2)).map fun p => (.mk 5 0 ⟨#[]⟩ p.1, p.2) else none := by
  cases r with
  | zero => rw [itemD]; simp
  | succ r => rw [itemD]; simp
set_option maxHeartbeats 8000000 in
set_option maxRecDepth 100000 in
theorem pitem_step (w0 : World) (b g r : Nat) (hv : TokEnv w0) (hr : r ≤ 100) (hL : ∀ r', r = r' + 1 → ListC w0 b g r') : ItemC w0 b g r := by
  intro t s w h hok
  have hblt := h.row.lt
  have hglt := h.rst.lt
  have HSZ := hide h.sz
  have HH0 : Hid (w0.heap.size ≤ w.heap.size) := Nat.le_trans h.hb (Nat.le_of_lt hblt)
  have m1 : w.heap.size ≠ b := by omega
  have m3 : w.heap.size ≠ g := by omega
  have HM1 := hide m1
  have HM3 := hide m3
  have q1 := below_new w (.cells #[.int .i64 0, .int .i64 0, .string ⟨#[]⟩, .slice none 0 0] 32)
  have x1 := RowAt.new w #[.int .i64 0, .int .i64 0, .string ⟨#[]⟩, .slice none 0 0] 32
  obtain ⟨W1, hW1⟩ : ∃ W1, w.alloc (.cells #[.int .i64 0, .int .i64 0, .string ⟨#[]⟩, .slice none 0 0] 32) = W1 := ⟨_, rfl⟩
  have h1 := h.below q1
  rw [hW1] at q1 x1 h1
  have hs1 : W1.heap.size = w.heap.size + 1 := by rw [← hW1]; simp
  have HW := hide hW1
  have HG := hide (pgoon_any w0 b g t s W1 h1 hv)
  obtain ⟨o, ho⟩ : ∃ o, o = itemD r (t, s) := ⟨_, rfl⟩
  rw [← ho]
  rw [item_form] at ho
  simp only at ho
  have HO := hide ho
  have HOK := hide hok
  have HOK2 := hide (nxtD_ok s h.sz)
  obtain ⟨tk, tt, tn⟩ := t
  simp only at HG HO
  clear hW1 h h1 ho hok
  go_enter Tryz.func75, Tryz.ntmps75
  go_wp2_with fail
  rw [HW.out]
  refine HG.out.mono ?_
  rintro e W2 ⟨rfl, hR2, hT2⟩
  have x12 := hT2.row x1 m1 m3
  have x2 := RowAt.new W2 (ptV pt0) 67
  have HST := hide (store_pt _ W2.heap.size _ _ _ ⟨tk, tt, tn⟩ x2)
  unfold ptV pt0 at HST
  simp only at HST
  obtain ⟨V, hV⟩ : ∃ V, (W2.alloc (.cells #[.int .i64 0, .string ⟨#[]⟩, .int .i64 0] 67)).setRow W2.heap.size #[.int .i64 tk, .string tt, .int .i64 tn] = V := ⟨_, rfl⟩
  have hB : Below W2.heap.size W2 V := by rw [← hV]; exact below_setRow (below_new W2 _) (Nat.le_refl _) _
  have y2 : RowAt V W2.heap.size #[.int .i64 tk, .string tt, .int .i64 tn] 67 := by rw [← hV]; exact row_set _ _ _ _ _ x2
  rw [hV] at HST
  obtain ⟨⟨d0, d1, d2⟩, _⟩ := pt_cells y2
  have HRV := hide (hR2.below hB)
  have HXV := hide (x12.below hB)
  have HTV : Hid (Two b g w V) := ((Two.of_below q1).trans hT2).trans (.of_below hB)
  have HFIN : Hid (∀ cs, RdP w0 (V.setRow w.heap.size cs) b g (nxtD s).1 (nxtD s).2 ∧ Two b g w (V.setRow w.heap.size cs)) := fun cs => ⟨HRV.out.setRow m1 m3 HH0.out cs, HTV.out.setRow (Nat.le_refl _) cs⟩
  clear HG hR2 hT2 x1 x12 x2 hV hB y2 q1 m1 m3
  by_cases h4 : tk = 4
  · rw [if_pos h4] at HO
    subst h4
    have HST4 := hide (store_it V w.heap.size _ _ _ _ (.mk 3 tn ⟨#[]⟩ []) none 0 0 HXV.out)
    have HXO : Hid ((It.mk 3 tn ⟨#[]⟩ []).Ok) := ⟨by show _ ≤ (3 : Int); omega, by show (3 : Int) ≤ _; omega, HOK.out.n1, HOK.out.n2, by show 0 ≤ _; omega⟩
    go_wp2_with (first
      | (refine wpList_store_eq rfl 67 _ _ rfl _ _ rfl rfl HST.out ?_)
      | (refine wpList_store_eq rfl 32 _ _ rfl _ _ rfl rfl HST4.out ?_))
    refine bodyPost_ret (results_row_tmp rfl _ _ w.heap.size 32 _ (0, 0) _ rfl (row_set _ _ _ _ _ HXV.out) Tryz.underlying32 rfl (by kernel_rfl)) rfl ?_
    rw [HO.out]
    exact ⟨⟨none, 0, rfl, its_nil _ _ _ _⟩, HXO.out, HOK2.out, (HFIN.out _).1, (HFIN.out _).2⟩
  · rw [if_neg h4] at HO
    have e4 : (tk == 4) = false := by simpa using h4
    clear h4
    by_cases h5 : tk = 5
    · rw [if_pos h5] at HO
      subst h5
      have HST4 := hide (store_it V w.heap.size _ _ _ _ (.mk 4 0 tt []) none 0 0 HXV.out)
      have HXO : Hid ((It.mk 4 0 tt []).Ok) := ⟨by show _ ≤ (4 : Int); omega, by show (4 : Int) ≤ _; omega, by show _ ≤ (0 : Int); omega, by show (0 : Int) ≤ _; omega, HOK.out.t⟩
      go_wp2_with (first
        | (refine wpList_store_eq rfl 67 _ _ rfl _ _ rfl rfl HST.out ?_)
        | (refine wpList_store_eq rfl 32 _ _ rfl _ _ rfl rfl HST4.out ?_))
      refine bodyPost_ret (results_row_tmp rfl _ _ w.heap.size 32 _ (0, 0) _ rfl (row_set _ _ _ _ _ HXV.out) Tryz.underlying32 rfl (by kernel_rfl)) rfl ?_
      rw [HO.out]
      exact ⟨⟨none, 0, rfl, its_nil _ _ _ _⟩, HXO.out, HOK2.out, (HFIN.out _).1, (HFIN.out _).2⟩
    · rw [if_neg h5] at HO
      have e5 : (tk == 5) = false := by simpa using h5
      clear h5
      by_cases h2 : tk = 2
      · rw [if_pos h2] at HO
        subst h2
        have HIW := hide (piow_any tt V)
        have HII : Hid (∀ x, iowD tt = some x → x.Ok ∧ x.list = []) := fun x hx => by
          unfold iowD at hx
          split at hx
          · cases hx; exact ⟨⟨by decide, by decide, by decide, by decide, by decide⟩, rfl⟩
          split at hx
          · cases hx; exact ⟨⟨by decide, by decide, by decide, by decide, by decide⟩, rfl⟩
          split at hx
          · cases hx; exact ⟨⟨by decide, by decide, by decide, by decide, by decide⟩, rfl⟩
          · cases hx
        generalize iowD tt = oi at *
        obtain ⟨xi, hxi⟩ : ∃ xi, xi = oi.getD (.mk 0 0 ⟨#[]⟩ []) := ⟨_, rfl⟩
        have HXI := hide hxi
        rw [← hxi] at HIW
        obtain ⟨yi, hyi⟩ : ∃ yi, yi = oi.isSome := ⟨_, rfl⟩
        have HYI := hide hyi
        rw [← hyi] at HIW
        clear hxi hyi
        go_wp2_with (first
          | (refine wpList_store_eq rfl 67 _ _ rfl _ _ rfl rfl HST.out ?_)
          | fail)
        refine HIW.out.mono ?_
        rintro e W3 ⟨rfl, hb3⟩
        have HX3 := hide (HXV.out.below hb3)
        have HST4 := hide (store_it W3 w.heap.size _ _ _ _ xi none 0 0 HX3.out)
        have HF3 : Hid (∀ cs, RdP w0 (W3.setRow w.heap.size cs) b g (nxtD s).1 (nxtD s).2 ∧ Two b g w (W3.setRow w.heap.size cs)) := fun cs => ⟨(HRV.out.below hb3).setRow HM1.out HM3.out HH0.out cs, (HTV.out.trans (.of_below hb3)).setRow (Nat.le_refl _) cs⟩
        clear HIW hb3 HST
        go_wp2_with (first
          | (refine wpList_store_eq rfl 32 _ _ rfl _ _ rfl rfl HST4.out ?_))
        refine bodyPost_ret (results_row_tmp rfl _ _ w.heap.size 32 _ (0, 0) _ rfl (row_set _ _ _ _ _ HX3.out) Tryz.underlying32 rfl (by kernel_rfl)) rfl ?_
        rw [HO.out]
        have hx2 := HXI.out
        have hy2 := HYI.out
        cases oi with
        | none =>
          rw [hy2]
          exact ⟨⟨xi, none, 0, 0, rfl⟩, ⟨nxtD s, (HF3.out _).1⟩, (HF3.out _).2⟩
        | some x =>
          have hx3 : xi = x := hx2
          subst hx3
          rw [hy2]
          have hl := (HII.out xi rfl).2
          refine ⟨⟨none, 0, ?_, ?_⟩, (HII.out xi rfl).1, HOK2.out, (HF3.out _).1, (HF3.out _).2⟩
          · rw [hl]; rfl
          · rw [hl]; exact its_nil _ _ _ _
      · rw [if_neg h2] at HO
        have e2 : (tk == 2) = false := by simpa using h2
        clear h2
        have HZR := hide (store_it V w.heap.size _ _ _ _ (.mk 0 0 ⟨#[]⟩ []) none 0 0 HXV.out)
        by_cases hm : isM ⟨#[91]⟩ (⟨tk, tt, tn⟩, s) = true ∧ 0 < r
        · rw [if_pos hm] at HO
          obtain ⟨hm1, h0r⟩ := hm
          have hm2 : tt = ⟨#[91]⟩ ∧ tk = 7 := by simpa [isM, justB] using hm1
          obtain ⟨rfl, rfl⟩ := hm2
          have h0I : (0 : Int) < (r : Int) := by omega
          have hLC := hL (r - 1) (by omega) _ _ V HRV.out HOK2.out
          have hri : ((r - 1 : Nat) : Int) = (r : Int) - 1 := by omega
          rw [hri] at hLC
          have HLC := hide hLC
          have HXV2 := hide (store_it V w.heap.size _ _ _ _ (.mk 0 0 ⟨#[]⟩ []) none 0 0 HXV.out)
          have hvs : w.heap.size < V.heap.size := HXV.out.lt
          obtain ⟨ol, hol⟩ : ∃ ol, ol = listD (itemD (r - 1)) (nxtD s) := ⟨_, rfl⟩
          have HLC2 : Hid (Calls Tryz.prog 93 #[.pointer (some ⟨b, 0, none⟩), .int .i64 ((r : Int) - 1)] V fun e w' => ListR w0 V b g ol e w') := by rw [hol]; exact HLC.out
          rw [← hol] at HO
          clear hL hm1 hLC hri HLC hol HZR HXV2
          go_wp2_with (first
            | (refine wpList_store_eq rfl 67 _ _ rfl _ _ rfl rfl HST.out ?_)
            | fail)
          refine HLC2.out.mono ?_
          rintro e W3 hLR
          clear HLC2 HST
          cases ol with
          | none =>
            obtain ⟨rfl, ⟨u, hRu⟩, hT3⟩ := hLR
            have HX3 := hide (hT3.row HXV.out HM1.out HM3.out)
            have HST4 := hide (store_it W3 w.heap.size _ _ _ _ (.mk 5 0 ⟨#[]⟩ []) none 0 0 HX3.out)
            have HF3 : Hid (∀ cs, RdP w0 (W3.setRow w.heap.size cs) b g u.1 u.2 ∧ Two b g w (W3.setRow w.heap.size cs)) := fun cs => ⟨hRu.setRow HM1.out HM3.out HH0.out cs, (HTV.out.trans hT3).setRow (Nat.le_refl _) cs⟩
            clear hRu hT3
            go_wp2_with (first
              | (refine wpList_store_eq rfl 32 _ _ rfl _ _ rfl rfl HST4.out ?_))
            refine bodyPost_ret (results_row_tmp rfl _ _ w.heap.size 32 _ (0, 0) _ rfl (row_set _ _ _ _ _ HX3.out) Tryz.underlying32 rfl (by kernel_rfl)) rfl ?_
            rw [HO.out]
            exact ⟨⟨.mk 5 0 ⟨#[]⟩ [], none, 0, 0, rfl⟩, ⟨u, (HF3.out _).1⟩, (HF3.out _).2⟩
          | some p =>
            obtain ⟨l, u⟩ := p
            obtain ⟨⟨la, k, rfl, hIT⟩, huok, hRu, hT3⟩ := hLR
            have HX3 := hide (hT3.row HXV.out HM1.out HM3.out)
            have HST4 := hide (store_it W3 w.heap.size _ _ _ _ (.mk 5 0 ⟨#[]⟩ l) la l.length k HX3.out)
            have HF3 : Hid (∀ cs, RdP w0 (W3.setRow w.heap.size cs) b g u.1 u.2 ∧ Two b g w (W3.setRow w.heap.size cs)) := fun cs => ⟨hRu.setRow HM1.out HM3.out HH0.out cs, (HTV.out.trans hT3).setRow (Nat.le_refl _) cs⟩
            have HIT : Hid (∀ cs, ItsAt (W3.setRow w.heap.size cs) (fun k => w.heap.size ≤ k) (.slice la l.length k) l) := fun cs => (hIT.but (but_row W3 w.heap.size cs) (fun k hk e => by have := Option.some.inj e; omega)).imp fun k hk => by omega
            have HUOK := hide huok
            have HXO : Hid ((It.mk 5 0 ⟨#[]⟩ l).Ok) := ⟨by show _ ≤ (5 : Int); omega, by show (5 : Int) ≤ _; omega, by show _ ≤ (0 : Int); omega, by show (0 : Int) ≤ _; omega, by show 0 ≤ _; omega⟩
            clear hRu hT3 hIT huok
            go_wp2_with (first
              | (refine wpList_store_eq rfl 32 _ _ rfl _ _ rfl rfl HST4.out ?_))
            refine bodyPost_ret (results_row_tmp rfl _ _ w.heap.size 32 _ (0, 0) _ rfl (row_set _ _ _ _ _ HX3.out) Tryz.underlying32 rfl (by kernel_rfl)) rfl ?_
            rw [HO.out]
            exact ⟨⟨la, k, rfl, HIT.out _⟩, HXO.out, HUOK.out, (HF3.out _).1, (HF3.out _).2⟩
        · rw [if_neg hm] at HO
          have hcs : (tk == 7) = false ∨ ((tk == 7) = true ∧ (tt.toList == [91]) = false) ∨ ((tk == 7) = true ∧ (tt.toList == [91]) = true ∧ ¬ (0 : Int) < (r : Int)) := by
            by_cases h7 : tk = 7
            · right
              by_cases ht : tt = ⟨#[91]⟩
              · right
                refine ⟨by simp [h7], by rw [ht, ByteArray.toList_eq]; decide, fun hr0 => hm ⟨by simp [isM, justB, h7, ht], by omega⟩⟩
              · left
                exact ⟨by simp [h7], by have h := str_ne ht; rwa [ByteArray.toList_eq ⟨#[91]⟩] at h⟩
            · left; simpa using h7
          clear hm hL
          rcases hcs with h7 | ⟨h7, ht⟩ | ⟨h7, ht, hr0⟩
          all_goals
            go_wp2_with (first
              | (refine wpList_store_eq rfl 67 _ _ rfl _ _ rfl rfl HST.out ?_)
              | (refine wpList_store_eq rfl 32 _ _ rfl _ _ rfl rfl HZR.out ?_))
            refine bodyPost_ret (results_row_tmp rfl _ _ w.heap.size 32 _ (0, 0) _ rfl (row_set _ _ _ _ _ HXV.out) Tryz.underlying32 rfl (by kernel_rfl)) rfl ?_
            rw [HO.out]
            exact ⟨⟨.mk 0 0 ⟨#[]⟩ [], none, 0, 0, rfl⟩, ⟨nxtD s, (HFIN.out _).1⟩, (HFIN.out _).2⟩
end Go.Proofs.YtageokjobbjddaaGreatDoor

namespace Go.Proofs.YtageokjobbjddaaGreatDoor
open Go.RowKit

/-! The reader as data: how much it reads. -/
def wt (u : St) : Nat := 3 * u.2.size + u.1.text.size + (if u.1.kind = 0 then 0 else 2)
theorem pqn_sum : ∀ (l : List UInt8) (q : List UInt8 × List UInt8), pqn l = some q → q.1.length + q.2.length ≤ l.length
  | [], q, h => by simp [pqn] at h
  | [c], q, h => by
    by_cases hc : c = 96
    · simp only [pqn, if_pos hc] at h; cases h; simp
    · simp only [pqn, if_neg hc] at h; cases h
  | c :: d :: r, q, h => by
    rw [pqn] at h
    split at h
    · split at h
      · cases hp : pqn r with
        | none => rw [hp] at h; cases h
        | some p => rw [hp] at h; cases h; have := pqn_sum r p hp; simp; omega
      · cases h; simp
    · cases hp : pqn (d :: r) with
      | none => rw [hp] at h; cases h
      | some p => rw [hp] at h; cases h; have := pqn_sum (d :: r) p hp; simp at this ⊢; omega
theorem ptx_sum (m : Nat) : ∀ (l : List UInt8) (q : List UInt8 × List UInt8), l.length ≤ m → ptx l = some q → q.1.length + q.2.length ≤ l.length := by
  induction m with
  | zero =>
    intro l q hl h
    rw [List.length_eq_zero_iff.1 (Nat.le_zero.1 hl), ptx_nil] at h
    cases h
  | succ m ih =>
    intro l q hl h
    cases l with
    | nil => rw [ptx_nil] at h; cases h
    | cons c r =>
      by_cases h34 : c = 34
      · rw [h34, ptx_end] at h; cases h; simp
      · by_cases hb : (byteD (c :: r)).2 = 0
        · rw [ptx_bad c r h34 hb] at h; cases h
        · rw [ptx_step c r h34 hb] at h
          cases hp : ptx ((c :: r).drop (byteD (c :: r)).2) with
          | none => rw [hp] at h; cases h
          | some p =>
            rw [hp] at h
            cases h
            have hd : ((c :: r).drop (byteD (c :: r)).2).length ≤ m := by rw [List.length_drop]; simp only [List.length_cons] at hl ⊢; omega
            have := ih _ p hd hp
            rw [List.length_drop] at this
            simp only [List.length_cons] at this ⊢
            omega
theorem namedD_len (s : ByteArray) : (namedD s).text.size ≤ s.size := by
  unfold namedD
  split
  · exact Nat.le_refl _
  · exact Nat.zero_le _
theorem ba_size (l : List UInt8) : (⟨l.toArray⟩ : ByteArray).size = l.length := by rw [← q_len]
theorem cutD_sum (s : ByteArray) (h : 0 < s.size) : (cutD s).1.text.size + (cutD s).2.size ≤ s.size := by
  have hl0 : s.data.toList = s[0] :: s.data.toList.drop 1 := by
    have := q_drop s 0 h
    rwa [List.drop_zero] at this
  have hlen : (s.data.toList.drop 1).length = s.size - 1 := by rw [List.length_drop, q_len]
  generalize hc : s[0] = c at hl0
  generalize hr : s.data.toList.drop 1 = r at *
  have e : cutD s = (if letterB c = true then (wordD s (leadN inwB s), s.extract (leadN inwB s) s.size)
    else if c = 96 then ((quotD r).1, ⟨(quotD r).2.toArray⟩)
    else if c = 45 ∨ digitB c = true then numD s (numN s)
    else if c = 34 then ((textD r).1, ⟨(textD r).2.toArray⟩)
    else if markB c = true then (⟨7, ⟨#[c]⟩, 0⟩, s.extract 1 s.size)
    else signD s) := by
    unfold cutD
    rw [hl0]
  rw [e]
  split
  · have h0 : (wordD s (leadN inwB s)).text.size ≤ (s.extract 0 (leadN inwB s)).size := by
      unfold wordD
      split
      · exact Nat.le_refl _
      · exact namedD_len _
    have hn : leadN inwB s ≤ s.size := by
      unfold leadN
      rw [← q_len]
      exact (List.takeWhile_prefix _).length_le
    rw [ByteArray.size_extract] at h0
    show (wordD s (leadN inwB s)).text.size + (s.extract (leadN inwB s) s.size).size ≤ s.size
    rw [ByteArray.size_extract]; omega
  split
  · show (quotD r).1.text.size + (⟨(quotD r).2.toArray⟩ : ByteArray).size ≤ s.size
    rw [ba_size]
    unfold quotD
    cases hq : pqn r with
    | none => show 0 + 0 ≤ _; omega
    | some q =>
      have h1 := Nat.le_trans (namedD_len ⟨q.1.toArray⟩) (Nat.le_of_eq (ba_size q.1))
      have := pqn_sum r q hq
      show (namedD ⟨q.1.toArray⟩).text.size + q.2.length ≤ _
      omega
  split
  · unfold numD
    split
    · show 0 + 0 ≤ _; omega
    · show 0 + (s.extract (numN s) s.size).size ≤ s.size
      rw [ByteArray.size_extract]; omega
  split
  · show (textD r).1.text.size + (⟨(textD r).2.toArray⟩ : ByteArray).size ≤ s.size
    rw [ba_size]
    unfold textD
    cases hq : ptx r with
    | none => show 0 + 0 ≤ _; omega
    | some q =>
      have := ptx_sum r.length r q (Nat.le_refl _) hq
      show (⟨q.1.toArray⟩ : ByteArray).size + q.2.length ≤ _
      rw [ba_size]
      omega
  split
  · show 1 + (s.extract 1 s.size).size ≤ s.size
    rw [ByteArray.size_extract]; omega
  · unfold signD
    split
    · show 0 + 0 ≤ _; omega
    · rename_i q hq
      obtain ⟨j, h1, _⟩ := psg_le s 5 q hq
      show 0 + q.2.size ≤ s.size
      rw [h1, ByteArray.size_extract]; omega
theorem nxt_wt (s : ByteArray) : wt (nxtD s) ≤ 3 * s.size := by
  unfold nxtD
  rcases Nat.eq_zero_or_pos (trimD s).size with h0 | h0
  · rw [nil_size h0]
    have : wt (cutD ⟨#[]⟩) = 0 := by decide
    omega
  · have h1 := cutD_lt (trimD s) h0
    have h3 := cutD_sum (trimD s) h0
    have h2 := trimD_le s
    unfold wt
    split <;> omega
theorem step_wt (u : St) (h : u.1.kind ≠ 0) : wt (nxtD u.2) + u.1.text.size + 2 ≤ wt u := by
  have := nxt_wt u.2
  unfold wt at this ⊢
  rw [if_neg h]
  omega
theorem step_rk (u : St) (h : u.1.kind ≠ 0) : rk (nxtD u.2) < rk u := rk_next u.1 u.2 h
theorem isM_kind {x : ByteArray} {u : St} (h : isM x u = true) : u.1.kind ≠ 0 := by
  unfold isM justB at h
  simp only [Bool.and_eq_true, decide_eq_true_eq] at h
  omega
theorem just_kind {k : Int} {x : ByteArray} {t : Pt} (h : justB k x t = true) : t.kind = k := by
  unfold justB at h
  simp only [Bool.and_eq_true, decide_eq_true_eq] at h
  exact h.2
/-- What a part that was read has cost. -/
def Cost (c : Nat) (u v : St) : Prop := c + wt v < wt u ∧ rk v < rk u
theorem loop_cost {itm : St → Option (It × St)} (hi : ∀ u x v, itm u = some (x, v) → Cost x.cnt u v) : ∀ (n : Nat) (u : St) (l : List It) (v : St), loopD itm n u = some (l, v) → Cost (cntL l) u v
  | 0, u, l, v, h => by simp [loopD] at h
  | n + 1, u, l, v, h => by
    rw [loopD] at h
    cases hx : itm u with
    | none => rw [hx] at h; cases h
    | some p =>
      obtain ⟨x, z⟩ := p
      rw [hx] at h
      simp only at h
      have hc := hi u x z hx
      by_cases h1 : isM ⟨#[93]⟩ z = true
      · rw [if_pos h1] at h
        cases h
        have k1 := step_wt z (isM_kind h1)
        have k2 := step_rk z (isM_kind h1)
        unfold Cost at hc ⊢
        simp only [cntL]
        omega
      · rw [if_neg h1] at h
        by_cases h2 : isM ⟨#[44]⟩ z = true
        · rw [if_pos h2] at h
          cases hl : loopD itm n (nxtD z.2) with
          | none => rw [hl] at h; cases h
          | some p =>
            rw [hl] at h
            cases h
            have ih := loop_cost hi n _ _ _ hl
            have k1 := step_wt z (isM_kind h2)
            have k2 := step_rk z (isM_kind h2)
            unfold Cost at hc ih ⊢
            simp only [cntL]
            omega
        · rw [if_neg h2] at h; cases h
theorem list_cost {itm : St → Option (It × St)} (hi : ∀ u x v, itm u = some (x, v) → Cost x.cnt u v) (u : St) (l : List It) (v : St) (h : listD itm u = some (l, v)) : Cost (cntL l) u v := by
  unfold listD at h
  by_cases h1 : isM ⟨#[93]⟩ u = true
  · rw [if_pos h1] at h
    cases h
    have k1 := step_wt u (isM_kind h1)
    have k2 := step_rk u (isM_kind h1)
    unfold Cost
    simp only [cntL]
    omega
  · rw [if_neg h1] at h
    exact loop_cost hi _ _ _ _ h
theorem iow_cnt {x : ByteArray} {y : It} (h : iowD x = some y) : y.cnt = 1 := by
  unfold iowD at h
  split at h
  · cases h; rfl
  · split at h
    · cases h; rfl
    · split at h
      · cases h; rfl
      · cases h
theorem item_cost : ∀ (r : Nat) (u : St) (x : It) (v : St), itemD r u = some (x, v) → Cost x.cnt u v := by
  intro r
  induction r with
  | zero =>
    intro u x v h
    rw [item_form] at h
    split at h
    · rename_i hk
      cases h
      have k1 := step_wt u (by omega)
      have k2 := step_rk u (by omega)
      refine ⟨?_, k2⟩
      show 1 + 0 + 0 + _ < _
      omega
    split at h
    · rename_i hk
      cases h
      have k1 := step_wt u (by omega)
      have k2 := step_rk u (by omega)
      refine ⟨?_, k2⟩
      show 1 + u.1.text.size + 0 + _ < _
      omega
    split at h
    · rename_i hk
      cases hy : iowD u.1.text with
      | none => rw [hy] at h; cases h
      | some y =>
        rw [hy] at h
        cases h
        have k1 := step_wt u (by omega)
        have k2 := step_rk u (by omega)
        refine ⟨?_, k2⟩
        rw [iow_cnt hy]
        omega
    · simp at h
  | succ r ih =>
    intro u x v h
    rw [item_form] at h
    split at h
    · rename_i hk
      cases h
      have k1 := step_wt u (by omega)
      have k2 := step_rk u (by omega)
      refine ⟨?_, k2⟩
      show 1 + 0 + 0 + _ < _
      omega
    split at h
    · rename_i hk
      cases h
      have k1 := step_wt u (by omega)
      have k2 := step_rk u (by omega)
      refine ⟨?_, k2⟩
      show 1 + u.1.text.size + 0 + _ < _
      omega
    split at h
    · rename_i hk
      cases hy : iowD u.1.text with
      | none => rw [hy] at h; cases h
      | some y =>
        rw [hy] at h
        cases h
        have k1 := step_wt u (by omega)
        have k2 := step_rk u (by omega)
        refine ⟨?_, k2⟩
        rw [iow_cnt hy]
        omega
    · split at h
      · rename_i hm
        rw [Nat.add_sub_cancel] at h
        cases hl : listD (itemD r) (nxtD u.2) with
        | none => rw [hl] at h; cases h
        | some p =>
          rw [hl] at h
          cases h
          have hc := list_cost ih _ _ _ hl
          have k1 := step_wt u (isM_kind hm.1)
          have k2 := step_rk u (isM_kind hm.1)
          unfold Cost at hc ⊢
          refine ⟨?_, by omega⟩
          show 1 + 0 + cntL p.1 + _ < _
          omega
      · cases h
/-! Conditions and the query, as data of the tokens. -/
def condD (u : St) : Option (Cd × St) :=
  if u.1.kind = 3 then (if (nxtD u.2).1.kind = 6 then (itemD 4 (nxtD (nxtD u.2).2)).map fun p => (⟨u.1.text, (nxtD u.2).1.num, p.1⟩, p.2) else none) else none
def condsD : Nat → St → Option (List Cd × St)
  | 0, _ => none
  | n + 1, u => match condD u with
    | none => none
    | some (c, v) => if justB 2 ⟨#[97, 110, 100]⟩ v.1 = true then (condsD n (nxtD v.2)).map fun p => (c :: p.1, p.2) else some ([c], v)
def whereD (u : St) : Option (List Cd × St) := if justB 2 ⟨#[119, 104, 101, 114, 101]⟩ u.1 = true then condsD (rk (nxtD u.2) + 1) (nxtD u.2) else some ([], u)
def orderD (u : St) : Option ((ByteArray × Bool) × St) :=
  if justB 2 ⟨#[111, 114, 100, 101, 114]⟩ u.1 = true then (if (ordD (nxtD u.2).1 (nxtD u.2).2).1.2.2 = true then some (((ordD (nxtD u.2).1 (nxtD u.2).2).1.1, (ordD (nxtD u.2).1 (nxtD u.2).2).1.2.1), (ordD (nxtD u.2).1 (nxtD u.2).2).2) else none) else some ((⟨#[]⟩, false), u)
def limitD (u : St) : Option (Int × St) :=
  if justB 2 ⟨#[108, 105, 109, 105, 116]⟩ u.1 = true then (if limB (nxtD u.2).1 = true then some ((nxtD u.2).1.num, nxtD (nxtD u.2).2) else none) else some (0, u)
def restD (t : ByteArray) (u : St) : Option Qd :=
  match whereD u with
  | none => none
  | some (cs, v) => match orderD v with
    | none => none
    | some ((o, f), z) => match limitD z with
      | none => none
      | some (m, y) => if y.1.kind = 0 then some ⟨t, cs, o, f, m⟩ else none
def queryD (u : St) : Option Qd :=
  if justB 2 ⟨#[102, 114, 111, 109]⟩ u.1 = true then (if (nxtD u.2).1.kind = 3 then restD (nxtD u.2).1.text (nxtD (nxtD u.2).2) else none) else none
theorem cond_cost (u : St) (c : Cd) (v : St) (h : condD u = some (c, v)) : Cost (c.field.size + c.item.cnt) u v := by
  unfold condD at h
  split at h
  · rename_i h3
    split at h
    · rename_i h6
      cases hi : itemD 4 (nxtD (nxtD u.2).2) with
      | none => rw [hi] at h; cases h
      | some p =>
        rw [hi] at h
        cases h
        have k0 := item_cost 4 _ p.1 p.2 hi
        have k1 := step_wt u (by omega)
        have k2 := step_rk u (by omega)
        have k3 := step_wt (nxtD u.2) (by omega)
        have k4 := step_rk (nxtD u.2) (by omega)
        unfold Cost at k0 ⊢
        simp only
        omega
    · cases h
  · cases h
theorem conds_cost : ∀ (n : Nat) (u : St) (l : List Cd) (v : St), condsD n u = some (l, v) → Cost (cntC l) u v
  | 0, u, l, v, h => by simp [condsD] at h
  | n + 1, u, l, v, h => by
    rw [condsD] at h
    cases hx : condD u with
    | none => rw [hx] at h; cases h
    | some p =>
      obtain ⟨c, z⟩ := p
      rw [hx] at h
      simp only at h
      have hc := cond_cost u c z hx
      by_cases h1 : justB 2 ⟨#[97, 110, 100]⟩ z.1 = true
      · rw [if_pos h1] at h
        cases hl : condsD n (nxtD z.2) with
        | none => rw [hl] at h; cases h
        | some p =>
          rw [hl] at h
          cases h
          have ih := conds_cost n _ _ _ hl
          have hk := just_kind h1
          have k1 := step_wt z (by omega)
          have k2 := step_rk z (by omega)
          unfold Cost at hc ih ⊢
          simp only [cntC]
          omega
      · rw [if_neg h1] at h
        cases h
        unfold Cost at hc ⊢
        simp only [cntC]
        omega
end Go.Proofs.YtageokjobbjddaaGreatDoor
