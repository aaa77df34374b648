import Derived.Test.YtkgeabljdkkonaaGreatDoorGP
import Derived.Test.YtkgeabljdkkonaaGreatDoorQQry
import Derived.Test.YtkgeabljdkkonaaGreatDoorPPar2
namespace Go.Proofs.YtkgeabljdkkonaaGreatDoor
open Go.RowKit

/-! The document's Parse. -/
theorem tcells_get (l : List Tk) : ∀ j (h : j < l.length), (tcells l)[j * 3]? = some (.int .i64 l[j].kind) ∧ (tcells l)[j * 3 + 1]? = some (.int .i64 l[j].num) ∧ (tcells l)[j * 3 + 2]? = some (.string l[j].text) := by
  induction l with
  | nil => intro j h; simp at h
  | cons t l ih =>
    intro j h
    have e : tcells (t :: l) = [.int .i64 t.kind, .int .i64 t.num, .string t.text] ++ tcells l := by simp [tcells]
    rw [e]
    cases j with
    | zero => simp
    | succ j =>
      obtain ⟨h1, h2, h3⟩ := ih j (by simpa using h)
      rw [show (j + 1) * 3 = (j * 3) + 1 + 1 + 1 by omega, show (j * 3) + 1 + 1 + 1 + 1 = (j * 3 + 1) + 1 + 1 + 1 by omega, show (j * 3) + 1 + 1 + 1 + 2 = (j * 3 + 2) + 1 + 1 + 1 by omega]
      simp only [List.cons_append, List.nil_append, List.getElem?_cons_succ, List.getElem_cons_succ]
      exact ⟨h1, h2, h3⟩
theorem tk_at {w : World} {base b : Nat} {a : Option Addr} {c : Nat} {l : List Tk} (h : TkOwn w base (.slice a l.length c) l) (hb : w.heap.size ≤ b) : TkAt w b a l := by
  have hh := h
  unfold TkOwn at hh
  rcases h.2 with ⟨h', h0⟩ | ⟨g, cap, cur, h', _, hg, _⟩
  · exact ⟨0, 0, fun hl => by omega, fun i hi => by omega⟩
  · have e := (Value.slice.inj h').1
    subst e
    refine ⟨g, 0, fun _ => ⟨rfl, ?_⟩, fun i hi => ?_⟩
    · have := (Array.getElem?_eq_some_iff.1 hg).1; omega
    · obtain ⟨h1, h2, h3⟩ := tcells_get l i hi
      have hc : (tcells l).length = l.length * 3 := h.1
      rw [Nat.zero_add]
      have hv : (Value.slice (some (⟨g, 0, none⟩ : Addr)) l.length c) = .slice (some ⟨g, 0, none⟩) l.length c := rfl
      exact ⟨by rw [World.ownsRow.cellAt hh _ (by omega)]; exact h1, by rw [World.ownsRow.cellAt hh _ (by omega)]; exact h2, by rw [World.ownsRow.cellAt hh _ (by omega)]; exact h3⟩
/-- What the document's Parse answers. -/
def RParR (w : World) (f : Nat) (o : Option Qd) (e : Ending) (w' : World) : Prop :=
  (match o with
  | none => e = .returned (.tuple #[.agg (qV qd0 (.slice none 0 0)), .int .i64 (f : Int)])
  | some q => ∃ la k, e = .returned (.tuple #[.agg (qV q (.slice la q.cs.length k)), .int .i64 0]) ∧ CsAt w' (fun j => w.heap.size ≤ j) (.slice la q.cs.length k) q.cs) ∧ Below w.heap.size w w'
set_option maxHeartbeats 8000000 in
set_option maxRecDepth 100000 in
theorem rparse_any (s : ByteArray) (w : World) (hs : s.size ≤ 140737488355328) : Calls Tryz.prog 5 #[.string s] w (RParR w (parF s) (parD s)) := by
  have q1 := below_new w (.cells #[.string ⟨#[]⟩, .slice none 0 0, .string ⟨#[]⟩, .bool false, .int .i64 0] 24)
  have x1 := RowAt.new w #[.string ⟨#[]⟩, .slice none 0 0, .string ⟨#[]⟩, .bool false, .int .i64 0] 24
  obtain ⟨W1, hW1⟩ : ∃ W1, w.alloc (.cells #[.string ⟨#[]⟩, .slice none 0 0, .string ⟨#[]⟩, .bool false, .int .i64 0] 24) = W1 := ⟨_, rfl⟩
  rw [hW1] at q1 x1
  have hs1 : W1.heap.size = w.heap.size + 1 := by rw [← hW1]; simp
  have HW := hide hW1
  have HX1 := hide x1
  have HB1 := hide q1
  have HS1 := hide hs1
  by_cases hl : 65536 < s.size
  · have hlI : (65536 : Int) < (s.size : Int) := by omega
    have HN : Hid (parD s = none ∧ parF s = 3) := ⟨by rw [parD, if_pos hl], by rw [parF, if_pos hl]⟩
    clear hl q1 x1 hW1 hs1
    go_enter Tryz.func5, Tryz.ntmps5
    go_wp2_with fail
    refine bodyPost_ret (results_row_tmp rfl _ _ w.heap.size 24 _ (0, 0) _ rfl (by rw [HW.out]; exact HX1.out) Tryz.underlying24 rfl (by kernel_rfl)) rfl ?_
    rw [HN.out.1, HN.out.2, HW.out]
    exact ⟨rfl, HB1.out⟩
  · have hlI : ¬ (65536 : Int) < (s.size : Int) := by omega
    have HF2 : Hid (parF s = 2) := by show _ = _; rw [parF, if_neg hl]
    have HSS : Hid (s.size ≤ 65536) := by show _ ≤ _; omega
    have HTK := hide (tokens_any s W1 (by omega))
    obtain ⟨o, ho⟩ : ∃ o, o = toksD s.data.toList := ⟨_, rfl⟩
    rw [← ho] at HTK
    have HO := hide ho
    clear hl q1 x1 hW1 hs1 ho
    go_enter Tryz.func5, Tryz.ntmps5
    go_wp2_with fail
    rw [HW.out]
    go_wp2_with fail
    refine HTK.out.mono ?_
    rintro e W2 ⟨⟨v, rfl, hvn, hvs⟩, hb2⟩
    have HX2 := hide (HX1.out.below hb2)
    have HB2 := hide (Below.next HB1.out hb2)
    have HZ2 : Hid (w.heap.size < W2.heap.size) := by have := hb2.size; have := HS1.out; show _ < _; omega
    clear HTK hb2 HX1 HB1
    cases o with
    | none =>
      have hv := hvn rfl
      subst hv
      have HN : Hid (parD s = none) := par_badq s HO.out.symm
      have HSZ := hide (store_q W2 w.heap.size _ _ _ _ _ qd0 none 0 0 HX2.out)
      clear hvn hvs
      go_wp2_with (first
        | (refine wpList_store_eq rfl 24 _ _ rfl _ _ rfl rfl HSZ.out ?_))
      refine bodyPost_ret (results_row_tmp rfl _ _ w.heap.size 24 _ (0, 0) _ rfl (row_set _ _ _ _ _ HX2.out) Tryz.underlying24 rfl (by kernel_rfl)) rfl ?_
      rw [HN.out, HF2.out]
      exact ⟨rfl, below_setRow HB2.out (Nat.le_refl _) _⟩
    | some l =>
      have hown := hvs l rfl
      obtain ⟨a, c, hvv⟩ := tform hown
      subst hvv
      have hfine := toks_fine _ _ l (Nat.le_refl _) (by rw [q_len]; have := HSS.out; omega) HO.out.symm
      rw [q_len] at hfine
      obtain ⟨b, hbb⟩ : ∃ b, b = W2.heap.size := ⟨_, rfl⟩
      obtain ⟨W3, hW3⟩ : ∃ W3, W2.alloc (.cells #[.slice a l.length c, .int .i64 0, .bool false] 44) = W3 := ⟨_, rfl⟩
      have n3 : Below W2.heap.size W2 W3 := by rw [← hW3]; exact below_new _ _
      have x3 : RowAt W3 b #[.slice a l.length c, .int .i64 0, .bool false] 44 := by rw [← hW3, hbb]; exact RowAt.new _ _ _
      have htk : TkAt W3 b a l := (tk_at hown (Nat.le_of_eq hbb.symm)).solo (.of_below n3)
      have hz3 : W3.heap.size = W2.heap.size + 1 := by rw [← hW3]; simp
      have HRQ := hide (rquery_any b a c l (nxtD s) W3 hfine.1 ⟨x3, htk, Nat.zero_le _, by have := hfine.2; have := HSS.out; omega⟩ (rep_nxt s l HO.out.symm))
      have HW3 := hide hW3
      have HX3 := hide (HX2.out.below n3)
      have HB3 := hide (Below.next HB2.out n3)
      have HZ3 : Hid (w.heap.size < b ∧ b < W3.heap.size) := by have := HZ2.out; show _ ∧ _; omega
      have hbw : W2.heap.size = b := hbb.symm
      clear hvn hvs hown hfine x3 htk hz3 hW3 n3 hbb HX2 HB2
      go_wp2_with fail
      rw [HW3.out]
      refine HRQ.out.mono ?_
      rintro e W4 ⟨q, la, cc, k', lost', rfl, hcs, hR4, hS4, hok, hno⟩
      have x4 := RowAt.new W4 #[.string ⟨#[]⟩, .slice none 0 0, .string ⟨#[]⟩, .bool false, .int .i64 0] 24
      have HSQ := hide (store_q _ W4.heap.size _ _ _ _ _ q la q.cs.length cc x4)
      obtain ⟨V, hV⟩ : ∃ V, (W4.alloc (.cells #[.string ⟨#[]⟩, .slice none 0 0, .string ⟨#[]⟩, .bool false, .int .i64 0] 24)).setRow W4.heap.size (qV q (.slice la q.cs.length cc)) = V := ⟨_, rfl⟩
      have hBv : Below W4.heap.size W4 V := by rw [← hV]; exact below_setRow (below_new W4 _) (Nat.le_refl _) _
      have y4 : RowAt V W4.heap.size (qV q (.slice la q.cs.length cc)) 24 := by rw [← hV]; exact row_set _ _ _ _ _ x4
      rw [hV] at HSQ
      have hx4 : RowAt W4 w.heap.size #[.string ⟨#[]⟩, .slice none 0 0, .string ⟨#[]⟩, .bool false, .int .i64 0] 24 := HX3.out.two hS4.two (by have := HZ3.out; omega) (by have := HZ3.out; omega)
      have hxV := hx4.below hBv
      have hb4 : Below w.heap.size w W4 := hS4.below HB3.out (by have := HZ3.out; omega)
      have HBV := hide (Below.next hb4 hBv)
      have HCV := hide (hcs.keep hBv)
      have l2 := (hR4.below hBv).row.cell 2 (by simp)
      simp only [List.getElem_toArray, List.getElem_cons_zero, List.getElem_cons_succ] at l2
      have HXV := hide hxV
      have HY4 := hide y4
      clear HRQ hcs hR4 hS4 x4 hV hBv y4 hx4 hb4 HX3 HB3
      cases lost' with
      | true =>
        have HN : Hid (parD s = none) := par_dead (hno rfl)
        have HSZ := hide (store_q V w.heap.size _ _ _ _ _ qd0 none 0 0 hxV)
        clear hok hno hxV
        go_wp2_with (first
          | (refine wpList_store_eq rfl 24 _ _ rfl _ _ rfl rfl HSQ.out ?_)
          | (refine wpList_store_eq rfl 24 _ _ rfl _ _ rfl rfl HSZ.out ?_))
        refine bodyPost_ret (results_row_tmp rfl _ _ w.heap.size 24 _ (0, 0) _ rfl (row_set _ _ _ _ _ HXV.out) Tryz.underlying24 rfl (by kernel_rfl)) rfl ?_
        rw [HN.out, HF2.out]
        exact ⟨rfl, below_setRow HBV.out (Nat.le_refl _) _⟩
      | false =>
        have HN : Hid (parD s = some q) := par_some HSS.out (hok rfl)
        have HSZ := hide (store_q V w.heap.size _ _ _ _ _ q la q.cs.length cc hxV)
        obtain ⟨z0, z1, z2, z3, z4⟩ := HY4.out.q5
        clear hok hno hxV
        go_wp2_with (first
          | (refine wpList_store_eq rfl 24 _ _ rfl _ _ rfl rfl HSQ.out ?_)
          | (refine wpList_store_eq rfl 24 _ _ rfl _ _ rfl rfl HSZ.out ?_))
        refine bodyPost_ret (results_row_tmp rfl _ _ w.heap.size 24 _ (0, 0) _ rfl (row_set _ _ _ _ _ HXV.out) Tryz.underlying24 rfl (by kernel_rfl)) rfl ?_
        rw [HN.out]
        exact ⟨⟨la, cc, rfl, (HCV.out.two (Two.row1 w.heap.size V _) (fun j hj => by have := HZ3.out; omega)).imp (fun j hj => by have := HZ3.out; omega)⟩, below_setRow HBV.out (Nat.le_refl _) _⟩
end Go.Proofs.YtkgeabljdkkonaaGreatDoor
