import Derived.Test.YtkgeabljdkkonaaGreatDoorGO
namespace Go.Proofs.YtkgeabljdkkonaaGreatDoor
open Go.RowKit

/-! The document's item. -/
theorem Solo.two {b : Nat} {w w' : World} (h : Solo b w w') : Two b b w w' := ⟨h.os, h.tape, h.output, h.size, fun k hk hn _ => h.block k hk hn⟩
theorem Two.solo {b : Nat} {w w' : World} (h : Two b b w w') : Solo b w w' := ⟨h.os, h.tape, h.output, h.size, fun k hk hn => h.block k hk hn hn⟩
theorem RdS.fin {w V : World} {b c k k2 : Nat} {a : Option Addr} {l : List Tk} {lost lost2 : Bool} (h0 : RdS w b a c l k lost) (h : RdS V b a c l k2 lost2) (hs : Solo b w V) (H : Nat) (hH : w.heap.size ≤ H) (cs : Array Value) : RdS (V.setRow H cs) b a c l k2 lost2 ∧ Solo b w (V.setRow H cs) :=
  have hb := h0.row.lt
  have s2 := hs.row hH cs
  ⟨⟨(setRow_other _ _ _ _ (by omega)).trans h.row, h0.tk.solo s2, h.le, h.len⟩, s2⟩
def RItmR (w : World) (b : Nat) (a : Option Addr) (c : Nat) (l : List Tk) (k : Nat) (lost : Bool) (u : St) (r : Nat) (e : Ending) (w' : World) : Prop :=
  ∃ (x : It) (la : Option Addr) (cp k' : Nat) (lost' : Bool), e = .returned (.agg (itV x (.slice la x.list.length cp))) ∧ ItsAt w' (fun j => w.heap.size ≤ j) (.slice la x.list.length cp) x.list ∧ x.Ok ∧ RdS w' b a c l k' lost' ∧ Solo b w w' ∧ ItRel l k lost u r x k' lost'
def RLsR (w : World) (b : Nat) (a : Option Addr) (c : Nat) (l : List Tk) (k : Nat) (lost : Bool) (u : St) (r : Nat) (e : Ending) (w' : World) : Prop :=
  ∃ (q : List It) (la : Option Addr) (cp k' : Nat) (lost' : Bool), e = .returned (.slice la q.length cp) ∧ ItsAt w' (fun j => w.heap.size ≤ j) (.slice la q.length cp) q ∧ RdS w' b a c l k' lost' ∧ Solo b w w' ∧ LsRel l k lost u r q k' lost'
def RItemC (b : Nat) (a : Option Addr) (c : Nat) (l : List Tk) (r : Nat) : Prop := ∀ (d k : Nat) (lost : Bool) (u : St) (w : World), d + r = 4 → RdS w b a c l k lost → (lost = false → Rep u (l.drop k)) →
  Calls Tryz.prog 53 #[.pointer (some ⟨b, 0, none⟩), .int .i64 (d : Int)] w (RItmR w b a c l k lost u r)
def RListC (b : Nat) (a : Option Addr) (c : Nat) (l : List Tk) (r : Nat) : Prop := ∀ (d k : Nat) (lost : Bool) (u : St) (w : World), d + r = 4 → RdS w b a c l k lost → (lost = false → Rep u (l.drop k)) →
  Calls Tryz.prog 71 #[.pointer (some ⟨b, 0, none⟩), .int .i64 (d : Int)] w (RLsR w b a c l k lost u r)
theorem iow_ok {x : ByteArray} {y : It} (hx : iowD x = some y) : y.Ok ∧ y.list = [] := by
  unfold iowD at hx
  split at hx
  · cases hx; exact ⟨⟨by decide, by decide, by decide, by decide, by decide⟩, rfl⟩
  split at hx
  · cases hx; exact ⟨⟨by decide, by decide, by decide, by decide, by decide⟩, rfl⟩
  split at hx
  · cases hx; exact ⟨⟨by decide, by decide, by decide, by decide, by decide⟩, rfl⟩
  · cases hx
theorem tok_eq {x : ByteArray} {k : List UInt8} (h : x = ⟨k.toArray⟩) : (x.toList == k) = true := by rw [h, ByteArray.toList_eq]; simp
theorem tok_ne {x : ByteArray} {k : List UInt8} (h : ¬ x = ⟨k.toArray⟩) : (x.toList == k) = false := by
  have h2 := str_ne h
  rwa [ByteArray.toList_eq ⟨k.toArray⟩] at h2
set_option maxHeartbeats 8000000 in
set_option maxRecDepth 100000 in
theorem ritem_step (b : Nat) (a : Option Addr) (c : Nat) (l : List Tk) (r : Nat) (hl : ∀ t ∈ l, TkFine t) (hL : ∀ r', r = r' + 1 → RListC b a c l r') : RItemC b a c l r := by
  intro d k lost u w hd h hrep
  have hblt := h.row.lt
  have HM1 : Hid (w.heap.size ≠ b) := by show _ ≠ _; omega
  have q1 := below_new w (.cells #[.int .i64 0, .int .i64 0, .string ⟨#[]⟩, .slice none 0 0] 49)
  have x1 := RowAt.new w #[.int .i64 0, .int .i64 0, .string ⟨#[]⟩, .slice none 0 0] 49
  obtain ⟨W1, hW1⟩ : ∃ W1, w.alloc (.cells #[.int .i64 0, .int .i64 0, .string ⟨#[]⟩, .slice none 0 0] 49) = W1 := ⟨_, rfl⟩
  have h1 := h.below q1
  rw [hW1] at q1 x1 h1
  have HW := hide hW1
  have HNX := hide (next_any b a c l k lost W1 h1)
  have HF0 := hide h
  have h3 := fun e => ItRel.num (r := r) hrep (l := l) (k := k) (u := u) (lost := lost) e
  have h4 := fun e => ItRel.text (r := r) hrep (l := l) (k := k) (u := u) (lost := lost) e
  have hw := fun e x hx => ItRel.word (r := r) hrep (l := l) (k := k) (u := u) (lost := lost) e (x := x) hx
  have hli := fun r' (e : r = r' + 1) e1 e2 q k' lost' (hq : LsRel l (goN l k) lost (nxtD u.2) r' q k' lost') => by
    have := ItRel.list hrep (l := l) (k := k) (u := u) (lost := lost) e1 e2 hq
    rw [← e] at this
    exact this
  have hno := ItRel.none hl hrep (r := r) (l := l) (k := k) (u := u) (lost := lost)
  have hrn : nxt l k = tk0 ∨ TkFine (nxt l k) := by
    rcases Nat.lt_or_ge k l.length with hk | hk
    · rw [nxt_at hk]; exact .inr (hl _ (List.getElem_mem hk))
    · exact .inl (nxt_end hk)
  have HK : Hid ((nxt l k).kind = 5 → lost = false → Rep (nxtD u.2) (l.drop (goN l k))) := fun e hls => by
    have hk := kind_lt (l := l) (k := k) (by rw [e]; decide)
    rw [goN_at hk]
    exact (rep_at hk (hrep hls)).2
  obtain ⟨t, ht⟩ : ∃ t, t = nxt l k := ⟨_, rfl⟩
  rw [← ht] at HNX h3 h4 hw hli hno hrn HK
  obtain ⟨tk, tn, tt⟩ := t
  simp only [tkV] at HNX h3 h4 hw hli hno HK
  have HB : Hid (-9223372036854775808 ≤ tn ∧ tn ≤ 9223372036854775807 ∧ tt.size ≤ 140737488351232) := by
    rcases hrn with e | e
    · cases e; exact ⟨by decide, by decide, by decide⟩
    · exact ⟨e.n1, e.n2, by have := e.sz; simp only at this; omega⟩
  have H3 := hide h3
  have H4 := hide h4
  have HWD := hide hw
  have HLI := hide hli
  have HNO := hide hno
  clear hW1 h h1 hrep h3 h4 hw hli hno hrn ht
  go_enter Tryz.func53, Tryz.ntmps53
  go_wp2_with fail
  rw [HW.out]
  refine HNX.out.mono ?_
  rintro e W2 ⟨rfl, hR2, hT2⟩
  have hsz1 : w.heap.size < W1.heap.size := x1.lt
  have x12 : RowAt W2 w.heap.size #[.int .i64 0, .int .i64 0, .string ⟨#[]⟩, .slice none 0 0] 49 := by unfold RowAt; rw [hT2.block _ hsz1 HM1.out]; exact x1
  have x2 := RowAt.new W2 #[.int .i64 0, .int .i64 0, .string ⟨#[]⟩] 70
  have HST := hide (store_row _ W2.heap.size 70 _ #[.int .i64 tk, .int .i64 tn, .string tt] x2 (by kernel_rfl) rfl (by simp [Value.oneCell']))
  obtain ⟨V, hV⟩ : ∃ V, (W2.alloc (.cells #[.int .i64 0, .int .i64 0, .string ⟨#[]⟩] 70)).setRow W2.heap.size #[.int .i64 tk, .int .i64 tn, .string tt] = V := ⟨_, rfl⟩
  have hB : Below W2.heap.size W2 V := by rw [← hV]; exact below_setRow (below_new W2 _) (Nat.le_refl _) _
  have y2 : RowAt V W2.heap.size #[.int .i64 tk, .int .i64 tn, .string tt] 70 := by rw [← hV]; exact row_set _ _ _ _ _ x2
  rw [hV] at HST
  have d0 := y2.cell 0 (by simp)
  have d1 := y2.cell 1 (by simp)
  have d2 := y2.cell 2 (by simp)
  simp only [List.getElem_toArray, List.getElem_cons_zero, List.getElem_cons_succ] at d0 d1 d2
  have HRV := hide (hR2.below hB)
  have HXV := hide (x12.below hB)
  have HSV : Hid (Solo b w V) := ((Solo.of_below q1).trans hT2).trans (.of_below hB)
  have HFIN := hide (fun cs => HF0.out.fin HRV.out HSV.out w.heap.size (Nat.le_refl _) cs)
  clear HNX hR2 hT2 x1 x12 x2 hV hB y2 q1
  by_cases e3 : tk = 3
  · have HQ := hide (H3.out e3)
    subst e3
    have HST4 := hide (store_it V w.heap.size _ _ _ _ (.mk 3 tn ⟨#[]⟩ []) none 0 0 HXV.out)
    have HXO : Hid ((It.mk 3 tn ⟨#[]⟩ []).Ok) := ⟨by show _ ≤ (3 : Int); omega, by show (3 : Int) ≤ _; omega, HB.out.1, HB.out.2.1, by show 0 ≤ _; omega⟩
    go_wp2_with (first
      | (refine wpList_store_eq rfl 70 _ _ rfl _ _ rfl rfl HST.out ?_)
      | (refine wpList_store_eq rfl 49 _ _ rfl _ _ rfl rfl HST4.out ?_))
    refine bodyPost_ret (results_cell_row rfl _ _ w.heap.size 49 _ (0, 0) _ rfl (row_set _ _ _ _ _ HXV.out) Tryz.underlying49 rfl (by kernel_rfl)) rfl ?_
    exact ⟨_, none, 0, _, _, rfl, its_nil _ _ _ _, HXO.out, (HFIN.out _).1, (HFIN.out _).2, HQ.out⟩
  · have k3 : (tk == 3) = false := by simpa using e3
    by_cases e4 : tk = 4
    · have HQ := hide (H4.out e4)
      subst e4
      have HST4 := hide (store_it V w.heap.size _ _ _ _ (.mk 4 0 tt []) none 0 0 HXV.out)
      have HXO : Hid ((It.mk 4 0 tt []).Ok) := ⟨by show _ ≤ (4 : Int); omega, by show (4 : Int) ≤ _; omega, by show _ ≤ (0 : Int); omega, by show (0 : Int) ≤ _; omega, HB.out.2.2⟩
      go_wp2_with (first
        | (refine wpList_store_eq rfl 70 _ _ rfl _ _ rfl rfl HST.out ?_)
        | (refine wpList_store_eq rfl 49 _ _ rfl _ _ rfl rfl HST4.out ?_))
      refine bodyPost_ret (results_cell_row rfl _ _ w.heap.size 49 _ (0, 0) _ rfl (row_set _ _ _ _ _ HXV.out) Tryz.underlying49 rfl (by kernel_rfl)) rfl ?_
      exact ⟨_, none, 0, _, _, rfl, its_nil _ _ _ _, HXO.out, (HFIN.out _).1, (HFIN.out _).2, HQ.out⟩
    · have k4 : (tk == 4) = false := by simpa using e4
      have HL0 := hide HRV.out.lose
      have HSL : Hid (Solo b w (V.setCell ⟨b, 2, none⟩ (.bool true))) := HSV.out.trans (Solo.set b 2 _ _)
      have HFL := hide (fun cs => HF0.out.fin HL0.out HSL.out w.heap.size (Nat.le_refl _) cs)
      have hxl : RowAt (V.setCell ⟨b, 2, none⟩ (.bool true)) w.heap.size #[.int .i64 0, .int .i64 0, .string ⟨#[]⟩, .slice none 0 0] 49 := HXV.out.other HM1.out (.bool true) (j := 2)
      have HXL := hide hxl
      have HZR := hide (store_it (V.setCell ⟨b, 2, none⟩ (.bool true)) w.heap.size _ _ _ _ (.mk 0 0 ⟨#[]⟩ []) none 0 0 hxl)
      have HXZ : Hid ((It.mk 0 0 ⟨#[]⟩ []).Ok) := ⟨by decide, by decide, by decide, by decide, by decide⟩
      have p2 := HRV.out.row.cell 2 (by simp)
      have pf2 := HRV.out.row.free 2
      simp only [List.getElem_toArray, List.getElem_cons_zero, List.getElem_cons_succ] at p2
      clear hxl
      by_cases e1 : tk = 1
      · by_cases w1 : tt = ⟨#[110, 117, 108, 108]⟩
        · have hiw : iowD tt = some (.mk 1 0 ⟨#[]⟩ []) := by rw [w1]; rfl
          have HQ := hide (HWD.out e1 _ hiw)
          have HXO := hide (iow_ok hiw).1
          have t1 := tok_eq w1
          subst e1
          have HST4 := hide (store_it V w.heap.size _ _ _ _ (.mk 1 0 ⟨#[]⟩ []) none 0 0 HXV.out)
          clear p2 pf2 w1 hiw
          go_wp2_with (first
            | (refine wpList_store_eq rfl 70 _ _ rfl _ _ rfl rfl HST.out ?_)
            | (refine wpList_store_eq rfl 49 _ _ rfl _ _ rfl rfl HST4.out ?_))
          refine bodyPost_ret (results_cell_row rfl _ _ w.heap.size 49 _ (0, 0) _ rfl (row_set _ _ _ _ _ HXV.out) Tryz.underlying49 rfl (by kernel_rfl)) rfl ?_
          exact ⟨_, none, 0, _, _, rfl, its_nil _ _ _ _, HXO.out, (HFIN.out _).1, (HFIN.out _).2, HQ.out⟩
        · have t1 := tok_ne w1
          by_cases w2 : tt = ⟨#[102, 97, 108, 115, 101]⟩
          · have hiw : iowD tt = some (.mk 2 0 ⟨#[]⟩ []) := by rw [w2]; rfl
            have HQ := hide (HWD.out e1 _ hiw)
            have HXO := hide (iow_ok hiw).1
            have t2 := tok_eq w2
            subst e1
            have HST4 := hide (store_it V w.heap.size _ _ _ _ (.mk 2 0 ⟨#[]⟩ []) none 0 0 HXV.out)
            clear p2 pf2 w1 w2 hiw
            go_wp2_with (first
              | (refine wpList_store_eq rfl 70 _ _ rfl _ _ rfl rfl HST.out ?_)
              | (refine wpList_store_eq rfl 49 _ _ rfl _ _ rfl rfl HST4.out ?_))
            refine bodyPost_ret (results_cell_row rfl _ _ w.heap.size 49 _ (0, 0) _ rfl (row_set _ _ _ _ _ HXV.out) Tryz.underlying49 rfl (by kernel_rfl)) rfl ?_
            exact ⟨_, none, 0, _, _, rfl, its_nil _ _ _ _, HXO.out, (HFIN.out _).1, (HFIN.out _).2, HQ.out⟩
          · have t2 := tok_ne w2
            by_cases w3 : tt = ⟨#[116, 114, 117, 101]⟩
            · have hiw : iowD tt = some (.mk 2 1 ⟨#[]⟩ []) := by rw [w3]; rfl
              have HQ := hide (HWD.out e1 _ hiw)
              have HXO := hide (iow_ok hiw).1
              have t3 := tok_eq w3
              subst e1
              have HST4 := hide (store_it V w.heap.size _ _ _ _ (.mk 2 1 ⟨#[]⟩ []) none 0 0 HXV.out)
              clear p2 pf2 w1 w2 w3 hiw
              go_wp2_with (first
                | (refine wpList_store_eq rfl 70 _ _ rfl _ _ rfl rfl HST.out ?_)
                | (refine wpList_store_eq rfl 49 _ _ rfl _ _ rfl rfl HST4.out ?_))
              refine bodyPost_ret (results_cell_row rfl _ _ w.heap.size 49 _ (0, 0) _ rfl (row_set _ _ _ _ _ HXV.out) Tryz.underlying49 rfl (by kernel_rfl)) rfl ?_
              exact ⟨_, none, 0, _, _, rfl, its_nil _ _ _ _, HXO.out, (HFIN.out _).1, (HFIN.out _).2, HQ.out⟩
            · have t3 := tok_ne w3
              have hiw : iowD tt = none := by unfold iowD; rw [if_neg w1, if_neg w2, if_neg w3]
              have HQ := hide (HNO.out e3 e4 (fun _ => hiw) (fun e => by omega))
              subst e1
              clear w1 w2 w3 hiw e3 e4
              go_wp2_with (first
                | (refine wpList_store_eq rfl 70 _ _ rfl _ _ rfl rfl HST.out ?_)
                | (refine wpList_store_eq rfl 49 _ _ rfl _ _ rfl rfl HZR.out ?_))
              refine bodyPost_ret (results_cell_row rfl _ _ w.heap.size 49 _ (0, 0) _ rfl (row_set _ _ _ _ _ HXL.out) Tryz.underlying49 rfl (by kernel_rfl)) rfl ?_
              exact ⟨_, none, 0, _, _, rfl, its_nil _ _ _ _, HXZ.out, (HFL.out _).1, (HFL.out _).2, HQ.out⟩
      · have k1 : (tk == 1) = false := by simpa using e1
        by_cases e5 : tk = 5 ∧ tt = ⟨#[91]⟩ ∧ 0 < r
        · obtain ⟨e5, w1, hr0⟩ := e5
          obtain ⟨r', hr'⟩ : ∃ r', r = r' + 1 := ⟨r - 1, by omega⟩
          have hdI : (d : Int) < 4 := by omega
          have t1 := tok_eq w1
          have hLC := hL r' hr' (d + 1) (goN l k) lost (nxtD u.2) V (by omega) HRV.out (HK.out e5)
          rw [show ((d + 1 : Nat) : Int) = (d : Int) + 1 by omega] at hLC
          have HLC := hide hLC
          have HLQ := hide (HLI.out r' hr' e5 w1)
          have hvs : w.heap.size < V.heap.size := HXV.out.lt
          have hd4 : d ≤ 4 := by omega
          have HLT := hide hvs
          subst e5
          clear hL hLC p2 pf2 w1 e3 e4 e1 hvs
          go_wp2_with (first
            | (refine wpList_store_eq rfl 70 _ _ rfl _ _ rfl rfl HST.out ?_)
            | fail)
          refine HLC.out.mono ?_
          rintro e W3 ⟨q, la, cp, k', lost', rfl, hits, hR3, hS3, hq⟩
          have hx3 : RowAt W3 w.heap.size #[.int .i64 0, .int .i64 0, .string ⟨#[]⟩, .slice none 0 0] 49 := by unfold RowAt; rw [hS3.block _ HLT.out HM1.out]; exact HXV.out
          have HX3 := hide hx3
          have HST4 := hide (store_it W3 w.heap.size _ _ _ _ (.mk 5 0 ⟨#[]⟩ q) la q.length cp hx3)
          have hSS := HSV.out.trans hS3
          have HF3 := hide (fun cs => HF0.out.fin hR3 hSS w.heap.size (Nat.le_refl _) cs)
          have HIT : Hid (∀ cs, ItsAt (W3.setRow w.heap.size cs) (fun k => w.heap.size ≤ k) (.slice la q.length cp) q) := fun cs => (hits.but (but_row W3 w.heap.size cs) (fun k hk e => by have := Option.some.inj e; have := HLT.out; omega)).imp fun k hk => by have := HLT.out; omega
          have HXO : Hid ((It.mk 5 0 ⟨#[]⟩ q).Ok) := ⟨by show _ ≤ (5 : Int); omega, by show (5 : Int) ≤ _; omega, by show _ ≤ (0 : Int); omega, by show (0 : Int) ≤ _; omega, by show 0 ≤ _; omega⟩
          have HQ := hide (HLQ.out q k' lost' hq)
          clear hits hR3 hS3 hq hx3 hSS HLC HLQ
          go_wp2_with (first
            | (refine wpList_store_eq rfl 49 _ _ rfl _ _ rfl rfl HST4.out ?_))
          refine bodyPost_ret (results_cell_row rfl _ _ w.heap.size 49 _ (0, 0) _ rfl (row_set _ _ _ _ _ HX3.out) Tryz.underlying49 rfl (by kernel_rfl)) rfl ?_
          exact ⟨.mk 5 0 ⟨#[]⟩ q, la, cp, k', lost', rfl, HIT.out _, HXO.out, (HF3.out _).1, (HF3.out _).2, HQ.out⟩
        · have HQ := hide (HNO.out e3 e4 (fun e => absurd e e1) (fun e5' ew => by
            rcases Nat.eq_zero_or_pos r with h | h
            · exact h
            · exact absurd ⟨e5', ew, h⟩ e5))
          have hcs : (tk == 5) = false ∨ ((tk == 5) = true ∧ (tt.toList == [91]) = false) ∨ ((tk == 5) = true ∧ (tt.toList == [91]) = true ∧ ¬ (d : Int) < 4) := by
            by_cases h7 : tk = 5
            · right
              by_cases ht : tt = ⟨#[91]⟩
              · right
                exact ⟨by simp [h7], tok_eq ht, fun hr0 => e5 ⟨h7, ht, by omega⟩⟩
              · left
                exact ⟨by simp [h7], tok_ne ht⟩
            · left; simpa using h7
          clear e5 hL e3 e4 e1
          rcases hcs with h7 | ⟨h7, ht⟩ | ⟨h7, ht, hr0⟩
          all_goals
            go_wp2_with (first
              | (refine wpList_store_eq rfl 70 _ _ rfl _ _ rfl rfl HST.out ?_)
              | (refine wpList_store_eq rfl 49 _ _ rfl _ _ rfl rfl HZR.out ?_))
            refine bodyPost_ret (results_cell_row rfl _ _ w.heap.size 49 _ (0, 0) _ rfl (row_set _ _ _ _ _ HXL.out) Tryz.underlying49 rfl (by kernel_rfl)) rfl ?_
            exact ⟨_, none, 0, _, _, rfl, its_nil _ _ _ _, HXZ.out, (HFL.out _).1, (HFL.out _).2, HQ.out⟩
end Go.Proofs.YtkgeabljdkkonaaGreatDoor
