import Derived.Test.YtkgeabljdkkonaaGreatDoorPQry
import Derived.Test.YtkgeabljdkkonaaGreatDoorPFault
import Derived.Test.YtkgeabljdkkonaaGreatDoorErrsG
import Derived.Test.YtkgeabljdkkonaaGreatDoorGI
import Derived.Test.YtkgeabljdkkonaaGreatDoorGG
namespace Go.Proofs.YtkgeabljdkkonaaGreatDoor
open Go.RowKit

/-! Parse. -/
theorem ErrsAt.two3 {A : Nat → Addr} {w : World} (h : ErrsAt 3 gAll A w) : Errs2 (A 0) (A 2) w := ⟨(h.1 0 (by decide)).1, (h.1 2 (by decide)).1⟩
structure QFit (q : Qd) : Prop where
  cnt : cntC q.cs ≤ 16777216
  t : q.table.size ≤ 140737488351232
  o : q.order.size ≤ 140737488351232
  m1 : 0 ≤ q.limit
  m2 : q.limit ≤ 9223372036854775807
theorem whereD_cost (u : St) (l : List Cd) (v : St) (h : whereD u = some (l, v)) : cntC l + wt v ≤ wt u := by
  unfold whereD at h
  split at h
  · rename_i hj
    have h1 := conds_cost _ _ _ _ h
    have hk := just_kind hj
    have h2 := step_wt u (by omega)
    unfold Cost at h1
    omega
  · cases h; simp [cntC]
theorem query_fit (s : ByteArray) (q : Qd) (hs : s.size ≤ 1000000) (h : queryD (nxtD s) = some q) : QFit q := by
  have hw := nxt_wt s
  unfold queryD at h
  split at h
  · rename_i hj
    split at h
    · have s1 : (nxtD s).2.size ≤ 1000000 := Nat.le_trans (nxtD_le _) hs
      have k1 := nxtD_ok (nxtD s).2 s1
      have hk := just_kind hj
      have w1 := step_wt (nxtD s) (by omega)
      obtain ⟨u1, hu1⟩ : ∃ u1, u1 = nxtD (nxtD s).2 := ⟨_, rfl⟩
      rw [← hu1] at h k1 w1
      rename_i hk3
      rw [← hu1] at hk3
      have w2 := step_wt u1 (by omega)
      unfold restD at h
      cases hw : whereD (nxtD u1.2) with
      | none => rw [hw] at h; cases h
      | some p =>
        obtain ⟨cs, v⟩ := p
        rw [hw] at h
        simp only at h
        have w3 := whereD_cost _ _ _ hw
        have hv2 : 3 * v.2.size ≤ wt v := by unfold wt; omega
        cases ho : orderD v with
        | none => rw [ho] at h; cases h
        | some p =>
          obtain ⟨⟨o, f⟩, z⟩ := p
          rw [ho] at h
          simp only at h
          have hos : o.size ≤ 140737488351232 := by
            unfold orderD at ho
            split at ho
            · split at ho
              · cases ho
                unfold ordD
                split
                · split
                  · exact (nxtD_ok _ (Nat.le_trans (nxtD_le _) (by omega))).t
                  · exact Nat.zero_le _
                · exact Nat.zero_le _
              · cases ho
            · cases ho; exact Nat.zero_le _
          have hzs : z.2.size ≤ 1000000 := by
            unfold orderD at ho
            split at ho
            · split at ho
              · cases ho
                have a1 := nxtD_le v.2
                have a2 := nxtD_le (nxtD v.2).2
                have a3 := nxtD_le (nxtD (nxtD v.2).2).2
                unfold ordD
                split
                · split
                  · unfold stepT
                    split
                    · have a4 := nxtD_le (nxtD (nxtD (nxtD v.2).2).2).2
                      simp only
                      omega
                    · simp only; omega
                  · simp only; omega
                · simp only; omega
              · cases ho
            · cases ho; omega
          cases hl : limitD z with
          | none => rw [hl] at h; cases h
          | some p =>
            obtain ⟨m, y⟩ := p
            rw [hl] at h
            simp only at h
            have hm : 0 ≤ m ∧ m ≤ 9223372036854775807 := by
              unfold limitD at hl
              split at hl
              · split at hl
                · rename_i hlb
                  cases hl
                  unfold limB at hlb
                  simp only [Bool.and_eq_true, decide_eq_true_eq] at hlb
                  have htk : takeT 4 (nxtD z.2).1 = (nxtD z.2).1 := by simp [takeT, hlb.1]
                  rw [htk] at hlb
                  exact ⟨by omega, (nxtD_ok _ hzs).n2⟩
                · cases hl
              · cases hl; omega
            split at h
            · cases h
              exact ⟨by show cntC cs ≤ _; omega, k1.t, hos, hm.1, hm.2⟩
            · cases h
    · cases h
  · cases h
def parD (s : ByteArray) : Option Qd := if 65536 < s.size then none else match queryD (nxtD s) with | none => none | some q => if qfaultD q = 0 then some q else none
def parF (s : ByteArray) : Nat := if 65536 < s.size then 3 else 2
abbrev qd0 : Qd := ⟨⟨#[]⟩, [], ⟨#[]⟩, false, 0⟩
/-- What Parse answers. -/
def ParR (A : Nat → Addr) (w : World) (f : Nat) (o : Option Qd) (e : Ending) (w' : World) : Prop :=
  (match o with
  | none => e = .returned (.tuple #[.agg (qV qd0 (.slice none 0 0)), errQ A f])
  | some q => ∃ la k, e = .returned (.tuple #[.agg (qV q (.slice la q.cs.length k)), .nilIface]) ∧ CsAt w' (fun j => w.heap.size ≤ j) (.slice la q.cs.length k) q.cs) ∧ Below w.heap.size w w'
set_option maxHeartbeats 4000000 in
set_option maxRecDepth 100000 in
theorem ptokens_any (s : ByteArray) (w : World) :
    Calls Tryz.prog 15 #[.string s] w fun e w' => e = .returned (nextV w.heap.size) ∧ RowAt w' w.heap.size #[.string s] 9 ∧ Below w.heap.size w w' := by
  go_enter Tryz.func15, Tryz.ntmps15
  go_wp2_with fail
  go_ret
  exact ⟨rfl, RowAt.new w _ 9, below_new w _⟩
set_option maxHeartbeats 4000000 in
set_option maxRecDepth 100000 in
theorem pnewrd_any (s : ByteArray) (w : World) (hs : s.size ≤ 1000000) (hv : TokEnv w) :
    Calls Tryz.prog 8 #[.string s] w fun e w' => ∃ b g, e = .returned (.pointer (some ⟨b, 0, none⟩)) ∧ RdP w w' b g (nxtD s).1 (nxtD s).2 := by
  have HT := hide (ptokens_any s w)
  have HV := hide hv
  clear hv
  go_enter Tryz.func8, Tryz.ntmps8
  go_wp2_with fail
  refine HT.out.mono ?_
  rintro e W1 ⟨rfl, hr, hb⟩
  have q2 := below_new W1 (.cells (rdV w.heap.size pt0) 57)
  have x2 := RowAt.new W1 (rdV w.heap.size pt0) 57
  unfold rdV pt0 nextV at q2 x2
  simp only at q2 x2
  obtain ⟨W2, hW2⟩ : ∃ W2, W1.alloc (.cells #[.func (.func 33) #[] #[.pointer (some ⟨w.heap.size, 0, none⟩)], .int .i64 0, .string ⟨#[]⟩, .int .i64 0] 57) = W2 := ⟨_, rfl⟩
  rw [hW2] at q2 x2
  have hlt := hr.lt
  have hR : RdP w W2 W1.heap.size w.heap.size pt0 s := ⟨Below.next hb q2, x2, hr.below q2, hb.size, Nat.le_refl _, by omega, hs⟩
  have HG := hide (pgoon_any w W1.heap.size w.heap.size pt0 s W2 hR HV.out)
  have HW := hide hW2
  clear hr hb q2 x2 hW2 hR HT
  go_wp2_with fail
  rw [HW.out]
  refine HG.out.mono ?_
  rintro e W3 ⟨rfl, hR3, hT3⟩
  have HR3 := hide hR3
  clear hR3 hT3 HG
  go_wp2_with fail
  go_ret
  exact ⟨_, _, rfl, HR3.out⟩
end Go.Proofs.YtkgeabljdkkonaaGreatDoor

namespace Go.Proofs.YtkgeabljdkkonaaGreatDoor
open Go.RowKit

/-! All tokens of a text. -/
theorem qnm_len : ∀ (l : List UInt8) (q : List UInt8 × Nat), qnm l = some q → q.2 ≤ l.length
  | [], q, h => by simp [qnm] at h
  | [c], q, h => by
    rw [qnm] at h
    split at h
    · cases h
    split at h
    · cases h; simp
    · cases h
  | c :: d :: r, q, h => by
    rw [qnm] at h
    split at h
    · cases h
    split at h
    · split at h
      · obtain ⟨q', hq', rfl⟩ := Option.map_eq_some_iff.1 h
        have := qnm_len r q' hq'
        simp only [List.length_cons]; omega
      · cases h; simp
    · obtain ⟨q', hq', rfl⟩ := Option.map_eq_some_iff.1 h
      have := qnm_len (d :: r) q' hq'
      simp only [List.length_cons] at this ⊢; omega
theorem qtx_len (m : Nat) : ∀ (l : List UInt8) (q : List UInt8 × Nat), l.length ≤ m → qtx l = some q → q.2 ≤ l.length := by
  induction m with
  | zero =>
    intro l q hl h
    have e := List.length_eq_zero_iff.1 (Nat.le_zero.1 hl)
    subst e
    rw [qtx] at h; cases h
  | succ m ih =>
    intro l q hl h
    cases l with
    | nil => rw [qtx] at h; cases h
    | cons c r =>
      have hle := escD_le (c :: r)
      rw [qtx] at h
      simp only [List.length_cons] at hl hle ⊢
      split at h
      · cases h; simp
      split at h
      · cases h
      split at h
      · split at h
        · cases h
        · rename_i h0
          obtain ⟨q', hq', rfl⟩ := Option.map_eq_some_iff.1 h
          have := ih _ q' (by rw [List.length_drop, List.length_cons]; omega) hq'
          rw [List.length_drop, List.length_cons] at this
          simp only; omega
      · obtain ⟨q', hq', rfl⟩ := Option.map_eq_some_iff.1 h
        have := ih r q' (by omega) hq'
        simp only; omega
theorem qnmR_len (l : List UInt8) : (qnmR l).2 ≤ l.length + 1 := by
  unfold qnmR
  split
  · simp
  · rename_i p h
    have := qnm_len l p h
    simp only; omega
theorem qtxR_len (l : List UInt8) : (qtxR l).2 ≤ l.length + 1 := by
  unfold qtxR
  split
  · simp
  · rename_i p h
    have := qtx_len _ l p (Nat.le_refl _) h
    simp only; omega
theorem oneD_len (l : List UInt8) : (oneD l).2 ≤ l.length := by
  cases l with
  | nil => simp [oneD]
  | cons c r =>
    unfold oneD
    simp only
    split
    · exact wfrom_le _ _
    split
    · exact qnmR_len r
    split
    · exact qtxR_len r
    split
    · split
      · exact numLen_le (c :: r)
      · simp
    · exact sgnLen_le (c :: r)
def toksD : List UInt8 → Option (List Tk)
  | [] => some []
  | c :: r => if c = 32 then toksD r else if _h : (oneD (c :: r)).2 = 0 then none else (toksD ((c :: r).drop (oneD (c :: r)).2)).map fun l => (oneD (c :: r)).1 :: l
termination_by l => l.length
decreasing_by
  · simp
  · rw [List.length_drop, List.length_cons]; omega
theorem Tryz.info70 : (Tryz.prog.info? 70).map (fun i => (i.zero, i.size, i.bytes)) = some (some (.agg #[.int .i64 0, .int .i64 0, .string ⟨#[]⟩]), 3, 32) := by kernel_rfl
def tcells (l : List Tk) : List Value := l.flatMap fun t => [.int .i64 t.kind, .int .i64 t.num, .string t.text]
theorem tcells_snoc (l : List Tk) (t : Tk) : tcells (l ++ [t]) = tcells l ++ [.int .i64 t.kind, .int .i64 t.num, .string t.text] := by simp [tcells]
/-- v is a list of the call's own that reads as the tokens l. -/
def TkOwn (w : World) (base : Nat) (v : Value) (l : List Tk) : Prop := w.ownsRow base 70 3 v l.length (tcells l)
/-- What Tokens answers. -/
def TokR (w w' : World) (o : Option (List Tk)) (e : Ending) : Prop := ∃ v : Value, e = .returned (.tuple #[v, .bool o.isSome]) ∧ (o = none → v = .slice none 0 0) ∧ ∀ l, o = some l → TkOwn w' w.heap.size v l
def ocat (l : List Tk) (o : Option (List Tk)) : Option (List Tk) := o.map fun m => l ++ m
theorem ocat_cons (l : List Tk) (t : Tk) (o : Option (List Tk)) : ocat l (o.map fun m => t :: m) = ocat (l ++ [t]) o := by
  cases o with
  | none => rfl
  | some m => simp [ocat]
theorem tform {w : World} {base : Nat} {v : Value} {l : List Tk} (h : TkOwn w base v l) : ∃ a c, v = .slice a l.length c := by
  rcases h.2 with ⟨h', h0⟩ | ⟨g, cap, cur, h', _⟩
  · exact ⟨none, 0, by rw [h', h0]⟩
  · exact ⟨_, cap, h'⟩
set_option maxHeartbeats 4000000 in
set_option maxRecDepth 100000 in
theorem tokens_any (s : ByteArray) (w : World) (hs : s.size ≤ 1000000) :
    Calls Tryz.prog 11 #[.string s] w fun e w' => TokR w w' (toksD s.data.toList) e ∧ Below w.heap.size w w' := by
  obtain ⟨i0, hi, hz0, hz1, hz2⟩ := info_parts Tryz.info70
  obtain ⟨R0, hR0⟩ : ∃ R0, R0 = toksD s.data.toList := ⟨_, rfl⟩
  rw [← hR0]
  have HST : Hid (R0 = ocat [] (toksD (s.data.toList.drop 0))) := by
    show _ = _
    rw [List.drop_zero, ← hR0]
    cases R0 with
    | none => rfl
    | some q => simp [ocat]
  clear hR0
  obtain ⟨Q0, hQ0⟩ : ∃ Q0 : Ending → World → Prop, Q0 = fun e w' => TokR w w' R0 e ∧ Below w.heap.size w w' := ⟨_, rfl⟩
  rw [← hQ0]
  have HQ := hide hQ0
  clear hQ0
  go_enter Tryz.func11, Tryz.ntmps11
  go_wp2_with fail
  go_loopw [4, 5, 6, 7] (fun v i _ _ wr => ∃ (I : Nat) (l : List Tk), I ≤ s.size ∧ l.length ≤ I ∧ i = .int .i64 (I : Int) ∧ Hid (R0 = ocat l (toksD (s.data.toList.drop I))) ∧ TkOwn wr w.heap.size v l ∧ Below w.heap.size w wr) (fun _ i _ _ _ => s.size - (intOf i).toNat)
  case atStart => exact ⟨0, [], Nat.zero_le _, by simp, rfl, HST, ⟨rfl, .inl ⟨rfl, rfl⟩⟩, Below.refl _ _⟩
  case round =>
    obtain ⟨I, l, hI, hlI, rfl, hq, hown, hbl⟩ := hrel
    have hbs := hbl.size
    by_cases hlt : I < s.size
    · have j0 : (0 : Int) ≤ (I : Int) := by omega
      have j1 : (I : Int) < (s.size : Int) := by omega
      have hdr := q_drop s I hlt
      have hq2 := hq.out
      rw [hdr, toksD, ← hdr] at hq2
      have HR := hide hq2
      have HON := hide (one_any s I wr hs hlt)
      have hel := oneD_len (s.data.toList.drop I)
      rw [List.length_drop, q_len] at hel
      obtain ⟨od, hod⟩ : ∃ od, od = oneD (s.data.toList.drop I) := ⟨_, rfl⟩
      rw [← hod] at HR HON hel
      obtain ⟨⟨tk, tn, tt⟩, en⟩ := od
      simp only [tkV] at HR HON hel
      obtain ⟨x, hx⟩ : ∃ x : UInt8, x = s[I] := ⟨_, rfl⟩
      have hxx : s[I] = x := hx.symm
      rw [← hx] at HR
      clear hx hq hq2 hdr hod
      by_cases h32 : x = 32
      · rw [if_pos h32] at HR
        subst h32
        have HO := hide hown
        have HB := hide hbl
        have HK : Hid (I + 1 ≤ s.size ∧ l.length ≤ I + 1) := by show _ ∧ _; omega
        clear HON hown hbl
        go_wp2_with fail
        go_roundw
        case rel => exact ⟨I + 1, l, HK.out.1, HK.out.2, by go_num, HR, HO.out, HB.out⟩
        case measure => simp [intOf]; omega
      · rw [if_neg h32] at HR
        have g32 : ((x.toNat : Int) == 32) = false := u8_ne (k := 32) (by decide) h32
        clear h32
        go_wp2_with fail
        refine HON.out.mono ?_
        rintro e w5 ⟨rfl, hb5⟩
        clear HON
        by_cases h0 : en = 0
        · subst h0
          have HE : Hid (R0 = none) := by show _ = _; rw [HR.out, dif_pos rfl]; rfl
          have q1 := below_new w5 (.cells #[.int .i64 tk, .int .i64 tn, .string tt] 70)
          have HB := hide (Below.next (Below.next hbl hb5) q1)
          clear HR hown hbl hb5 q1
          go_wp2
          rw [HQ.out]
          exact ⟨⟨.slice none 0 0, by rw [HE.out]; rfl, fun _ => rfl, fun l h => by rw [HE.out] at h; cases h⟩, HB.out⟩
        · have hnI : ((en : Int) == 0) = false := by simp [h0]
          have HN2 : Hid (R0 = ocat (l ++ [⟨tk, tn, tt⟩]) (toksD (s.data.toList.drop (I + en)))) := by
            show _ = _
            rw [HR.out, dif_neg h0, List.drop_drop, ocat_cons]
          have HK : Hid (I + en ≤ s.size ∧ l.length + 1 ≤ I + en) := by show _ ∧ _; omega
          have q1 := below_new w5 (.cells #[.int .i64 tk, .int .i64 tn, .string tt] 70)
          have x1 := RowAt.new w5 #[.int .i64 tk, .int .i64 tn, .string tt] 70
          have hbw := Below.next (Below.next hbl hb5) q1
          have hsw := hbw.size
          have d0 := x1.cell 0 (by simp)
          have d1 := x1.cell 1 (by simp)
          have d2 := x1.cell 2 (by simp)
          simp only [List.getElem_toArray, List.getElem_cons_zero, List.getElem_cons_succ] at d0 d1 d2
          have how : (w5.alloc (.cells #[.int .i64 tk, .int .i64 tn, .string tt] 70)).ownsRow w.heap.size 70 3 _ l.length (tcells l) := owns_keep hown (Below.next hb5 q1)
          have hblk := owns_blk how
          have hz : (w5.alloc (.cells #[.int .i64 tk, .int .i64 tn, .string tt] 70)).heap.size = w5.heap.size + 1 := by simp
          have hl6 : l.length ≤ 1000000 := by omega
          clear HR hown
          go_wp2_with (first
            | (at_builtin; refine wpList_append_lies _ rfl _ _ 39 rfl w.heap.size 70 i0 (.agg #[.int .i64 0, .int .i64 0, .string ⟨#[]⟩]) 3 32 Tryz.underlying39 hi hz0 hz1 hz2 rfl (by decide) _ _ _ rfl (how.alloc _) ⟨w5.heap.size + 1, 0, none⟩ 1 1 [.int .i64 tk, .int .i64 tn, .string tt] rfl rfl ?c1 ?c2 ?c3 ?c4 ?c5 ?c6 (w5.heap.size + 1 + 1) ?c7 ?_))
          case c1 => rw [← hz]; exact World.news_of_block (heap_alloc_new (w5.alloc (.cells #[.int .i64 tk, .int .i64 tn, .string tt] 70)) (.cells #[.int .i64 tk, .int .i64 tn, .string tt] 70))
          case c2 => intro u hu; simp at hu; rcases hu with rfl | rfl | rfl <;> rfl
          case c3 => decide
          case c4 => unfold maxLen; omega
          case c5 => omega
          case c6 => simp; omega
          case c7 => simp
          intro g' cap' w6 hown6 hgrow hat hlg
          have n4 := below_new (w5.alloc (.cells #[.int .i64 tk, .int .i64 tn, .string tt] 70)) (.cells #[.int .i64 tk, .int .i64 tn, .string tt] 70)
          have HB : Hid (Below w.heap.size w w6) := (Below.next hbw n4).grown hgrow (by have := (Below.next hbw n4).size; omega) (fun k hk => (hblk k hk).1)
          have HO : Hid (TkOwn w6 w.heap.size (.slice (some ⟨g', 0, none⟩) (l.length + 1) cap') (l ++ [⟨tk, tn, tt⟩])) := by
            show World.ownsRow _ _ _ _ _ _ _
            rw [List.length_append, tcells_snoc]
            exact hown6
          clear hown6 hgrow hat hlg n4 how hbw q1 x1 d0 d1 d2 hblk hb5 hbl hz
          go_wp2_with fail
          go_roundw
          case rel => exact ⟨I + en, l ++ [⟨tk, tn, tt⟩], HK.out.1, by rw [List.length_append, List.length_singleton]; exact HK.out.2, by go_num, HN2, HO.out, HB.out⟩
          case measure => simp [intOf]; omega
    · have j1 : ¬ (I : Int) < (s.size : Int) := by omega
      have HE : Hid (R0 = some l) := by show _ = _; rw [hq.out, q_drop_end s I (by omega), toksD]; simp [ocat]
      have HO := hide hown
      have HB := hide hbl
      clear hq hown hbl
      go_wp2
      rw [HQ.out]
      exact ⟨⟨_, by rw [HE.out]; rfl, fun h => (by rw [HE.out] at h; cases h), fun m h => by rw [HE.out] at h; cases h; exact HO.out⟩, HB.out⟩
end Go.Proofs.YtkgeabljdkkonaaGreatDoor

namespace Go.Proofs.YtkgeabljdkkonaaGreatDoor
open Go.RowKit

/-! What was written is read again: texts, quoted names, words (data alone). -/
theorem hex_back : ∀ n : Fin 16, hexI (hexC n.1) = (n.1 : Int) := by decide
theorem escX_back (b : UInt8) (r : List UInt8) : escX (hexC (b.toNat / 16) :: hexC (b.toNat % 16) :: r) = (b, 4) := by
  have hb := b.toNat_lt
  have h1 := hex_back ⟨b.toNat / 16, by omega⟩
  have h2 := hex_back ⟨b.toNat % 16, by omega⟩
  simp only at h1 h2
  rw [escX, h1, h2, if_neg (by omega)]
  congr 1
  apply UInt8.toNat_inj.1
  rw [UInt8.toNat_ofNat']
  omega
theorem qtx_byte (b : UInt8) (r : List UInt8) : qtx (quoB b ++ r) = (qtx r).map fun p => (b :: p.1, p.2 + (quoB b).length) := by
  unfold quoB
  by_cases h1 : b.toNat < 32 ∨ 126 < b.toNat
  · rw [if_pos h1]
    have he : escD (92 :: 120 :: hexC (b.toNat / 16) :: hexC (b.toNat % 16) :: r) = (b, 4) := by
      rw [escD, if_neg (by decide), if_pos rfl, escX_back]
    show qtx (92 :: 120 :: hexC (b.toNat / 16) :: hexC (b.toNat % 16) :: r) = _
    rw [qtx, if_neg (by decide), if_neg (by decide), if_pos rfl, he, dif_neg (by simp)]
    rfl
  · rw [if_neg h1]
    by_cases h2 : b = 34 ∨ b = 92
    · rw [if_pos h2]
      have he : escD (92 :: b :: r) = (b, 2) := by rw [escD, if_pos h2]
      show qtx (92 :: b :: r) = _
      rw [qtx, if_neg (by decide), if_neg (by decide), if_pos rfl, he, dif_neg (by simp)]
      rfl
    · rw [if_neg h2]
      show qtx (b :: r) = _
      rw [qtx, if_neg (fun e => h2 (.inl e)), if_neg h1, if_neg (fun e => h2 (.inr e))]
      rfl
theorem qtx_back (t r : List UInt8) : qtx (quoL t ++ 34 :: r) = some (t, (quoL t).length + 1) := by
  induction t with
  | nil =>
    show qtx (34 :: r) = _
    rw [qtx, if_pos rfl]; rfl
  | cons b t ih =>
    have e : quoL (b :: t) = quoB b ++ quoL t := rfl
    rw [e, List.append_assoc, qtx_byte, ih]
    simp only [Option.map_some, List.length_append]
    congr 2; omega
theorem qnm_back (t r : List UInt8) (ht : ∀ c ∈ t, ¬ (c.toNat < 33 ∨ 126 < c.toNat)) (hr : r.head? ≠ some 96) : qnm (qescL t ++ 96 :: r) = some (t, (qescL t).length + 1) := by
  induction t with
  | nil =>
    show qnm (96 :: r) = _
    rw [qnm_end r hr]; rfl
  | cons b t ih =>
    have e : qescL (b :: t) = (if b = 96 then [96, 96] else [b]) ++ qescL t := rfl
    have ih := ih fun c hc => ht c (by simp [hc])
    by_cases hb : b = 96
    · subst hb
      rw [e, if_pos rfl]
      show qnm (96 :: 96 :: (qescL t ++ 96 :: r)) = _
      rw [qnm_two, ih]
      simp only [Option.map_some, List.length_append, List.length_cons, List.length_nil]
      congr 2; omega
    · rw [e, if_neg hb]
      show qnm (b :: (qescL t ++ 96 :: r)) = _
      rw [qnm_plain _ (ht b (by simp)) hb, ih]
      simp only [Option.map_some, List.length_append, List.length_cons, List.length_nil]
      congr 2; omega
theorem wfrom_back : ∀ (z : Bool) (t r : List UInt8), wfrom z t = t.length → wfrom false r = 0 → (t = [] → wfrom z r = 0) → wfrom z (t ++ r) = t.length
  | z, [], r, _, _, h0 => h0 rfl
  | z, c :: t, r, h, hr, _ => by
    rw [wfrom] at h
    split at h
    · rename_i hc
      have h' : wfrom false t = t.length := by simpa using h
      show wfrom z (c :: (t ++ r)) = _
      rw [wfrom, if_pos hc, wfrom_back false t r h' hr (fun _ => hr)]
      rfl
    · simp at h
end Go.Proofs.YtkgeabljdkkonaaGreatDoor

namespace Go.Proofs.YtkgeabljdkkonaaGreatDoor
open Go.RowKit

/-! The tokens of what was written (data alone). -/
theorem toksD_blank (r : List UInt8) : toksD (32 :: r) = toksD r := by rw [toksD, if_pos rfl]
theorem toksD_nil : toksD [] = some [] := by rw [toksD]
/-- A chunk that is one token's. -/
theorem toksD_step {x : List UInt8} {t : Tk} (r : List UInt8) (hx : x.head? ≠ some 32) (h0 : x ≠ []) (h : oneD (x ++ r) = (t, x.length)) : toksD (x ++ r) = (toksD r).map fun l => t :: l := by
  cases x with
  | nil => exact absurd rfl h0
  | cons c x =>
    have hc : c ≠ 32 := fun e => hx (by rw [e]; rfl)
    have h' : oneD (c :: (x ++ r)) = (t, (c :: x).length) := h
    show toksD (c :: (x ++ r)) = _
    rw [toksD, if_neg hc, h', dif_neg (by simp)]
    have e : (c :: (x ++ r)).drop (t, (c :: x).length).2 = r := by
      show ((c :: x) ++ r).drop (c :: x).length = r
      exact List.drop_left
    rw [e]
theorem one_text (t r : List UInt8) : oneD (34 :: (quoL t ++ 34 :: r)) = (⟨4, 0, ⟨t.toArray⟩⟩, (quoL t).length + 2) := by
  unfold oneD
  simp only
  rw [if_neg (by decide), if_neg (by decide), if_pos trivial, qtxR, qtx_back]
theorem one_qname (t r : List UInt8) (ht : ∀ c ∈ t, ¬ (c.toNat < 33 ∨ 126 < c.toNat)) (hr : r.head? ≠ some 96) : oneD (96 :: (qescL t ++ 96 :: r)) = (⟨2, 0, ⟨t.toArray⟩⟩, (qescL t).length + 2) := by
  unfold oneD
  simp only
  rw [if_neg (by decide), if_pos trivial, qnmR, qnm_back t r ht hr]
theorem one_word (t r : List UInt8) (h0 : t ≠ []) (hw : wfrom true t = t.length) (hr : wfrom false r = 0) : oneD (t ++ r) = (⟨1, 0, ⟨t.toArray⟩⟩, t.length) := by
  have hb := wfrom_back true t r hw hr (fun e => absurd e h0)
  cases t with
  | nil => exact absurd rfl h0
  | cons c t =>
    have hc : letterB c = true := by
      rw [wfrom] at hw
      split at hw
      · rename_i h
        simpa using h
      · simp at hw
    have hb' : wfrom true (c :: (t ++ r)) = (c :: t).length := hb
    show oneD (c :: (t ++ r)) = _
    unfold oneD
    simp only
    rw [if_pos hc, hb']
    have e : (c :: (t ++ r)).take (c :: t).length = c :: t := by
      show ((c :: t) ++ r).take (c :: t).length = c :: t
      exact List.take_left
    rw [e]
theorem toks_text (t r : List UInt8) : toksD (34 :: (quoL t ++ [34]) ++ r) = (toksD r).map fun l => ⟨4, 0, ⟨t.toArray⟩⟩ :: l := by
  refine toksD_step r (by simp) (by simp) ?_
  have e : (34 :: (quoL t ++ [34])) ++ r = 34 :: (quoL t ++ 34 :: r) := by simp
  rw [e, one_text]
  simp
theorem toks_qname (t r : List UInt8) (ht : ∀ c ∈ t, ¬ (c.toNat < 33 ∨ 126 < c.toNat)) (hr : r.head? ≠ some 96) : toksD (96 :: (qescL t ++ [96]) ++ r) = (toksD r).map fun l => ⟨2, 0, ⟨t.toArray⟩⟩ :: l := by
  refine toksD_step r (by simp) (by simp) ?_
  have e : (96 :: (qescL t ++ [96])) ++ r = 96 :: (qescL t ++ 96 :: r) := by simp
  rw [e, one_qname t r ht hr]
  simp
theorem toks_word (t r : List UInt8) (h0 : t ≠ []) (hw : wfrom true t = t.length) (hr : wfrom false r = 0) : toksD (t ++ r) = (toksD r).map fun l => ⟨1, 0, ⟨t.toArray⟩⟩ :: l := by
  refine toksD_step r ?_ h0 (one_word t r h0 hw hr)
  cases t with
  | nil => simp
  | cons c t =>
    intro e
    have hc : c = 32 := by simpa using e
    subst hc
    rw [wfrom] at hw
    simp [letterB, digitB] at hw
end Go.Proofs.YtkgeabljdkkonaaGreatDoor
