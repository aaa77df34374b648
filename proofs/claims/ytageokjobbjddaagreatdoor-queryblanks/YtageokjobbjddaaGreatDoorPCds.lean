import Derived.Test.YtageokjobbjddaaGreatDoorPCd
namespace Go.Proofs.YtageokjobbjddaaGreatDoor
open Go.RowKit

/-! The reader's conditions. -/
def ccat (l : List Cd) (o : Option (List Cd × St)) : Option (List Cd × St) := o.map fun p => (l ++ p.1, p.2)
theorem ccat_cons (l : List Cd) (x : Cd) (o : Option (List Cd × St)) : ccat l (o.map fun p => (x :: p.1, p.2)) = ccat (l ++ [x]) o := by
  cases o with
  | none => rfl
  | some p => simp [ccat]
theorem cds_cells1 (s : ByteArray) (a b d : Int) (t : ByteArray) (x : Option Addr) (n c : Nat) : ∀ u ∈ [Value.string s, .int .i64 a, .int .i64 b, .int .i64 d, .string t, .slice x n c], u.oneCell' = true := by
  intro u hu; simp at hu; rcases hu with rfl | rfl | rfl | rfl | rfl | rfl <;> rfl
theorem CsOwn.two {w w' : World} {b g base : Nat} {v : Value} {l : List Cd} (h : CsOwn w base v l) (hs : Two b g w w') (hb : b < base) (hg : g < base) : CsOwn w' base v l := by
  obtain ⟨us, hus, how, hok, hin⟩ := h
  refine ⟨us, hus, ⟨how.1, ?_⟩, hok, fun i h h' => ((hin i h h').two hs (fun k hk => by have := hk.1; omega)).imp fun k hk => ⟨hk.1, hk.2.1, Nat.lt_of_lt_of_le hk.2.2 hs.size⟩⟩
  rcases how.2 with h' | ⟨k, cap, cur, h', h1, hk, hr⟩
  · exact .inl h'
  · exact .inr ⟨k, cap, cur, h', h1, (hs.block k (Array.getElem?_eq_some_iff.1 hk).1 (by omega) (by omega)).trans hk, hr⟩
/-- One more condition behind a list of the call's own. -/
theorem cd_push {base : Nat} {w1 w2 w5 : World} {q : List Cd} {us : List Value} {v yv : Value} {y : Cd} {g cap H : Nat} (hb1 : base ≤ w1.heap.size) (h12 : w1.heap.size ≤ w2.heap.size) (hbk : ∀ k, v.ownBlock = some k → base ≤ k ∧ k < w1.heap.size) (hok : y.Ok)
    (hus : us.length = q.length) (hoks : ∀ i (h : i < q.length), q[i].Ok) (hins : ∀ i (h : i < q.length) (h' : i < us.length), ItsAt w2 (fun g => base ≤ g ∧ some g ≠ v.ownBlock ∧ g < w2.heap.size) us[i] q[i].item.list) (hin : ItsAt w2 (fun g => w1.heap.size ≤ g) yv y.item.list)
    {o : Obj} (hH : w2.heap.size + 1 = H)
    (hown5 : w5.ownsRow base 34 6 (.slice (some ⟨g, 0, none⟩) (q.length + 1) cap) (q.length + 1) (ccells q us ++ y.cells yv))
    (hgrow : (w2.alloc o).grownBy w5 v.ownBlock) (hat : v.ownBlock = some g ∨ g = H) : CsOwn w5 base (.slice (some ⟨g, 0, none⟩) (q.length + 1) cap) (q ++ [y]) ∧ Below base w2 w5 := by
  have n4 := below_new w2 o
  refine ⟨push_cown (w4 := w2.alloc o) (H := H) hus hoks (fun i h h' => ?_) hok ?_ hown5 hgrow hat (by simp; omega), ?_⟩
  · exact ((hins i h h').keep n4).imp fun k hk => ⟨hk.1, hk.2.1, Nat.lt_of_lt_of_le hk.2.2 n4.size⟩
  · refine (hin.keep n4).lt.imp fun k hk => ⟨by omega, fun e => ?_, hk.2⟩
    have := (hbk k e.symm).2
    omega
  · exact ((Below.refl base w2).alloc (by omega) _).grown hgrow (by simp; omega) (fun k hk => (hbk k hk).1)
def CondsR (w0 w : World) (b g : Nat) (o : Option (List Cd × St)) (e : Ending) (w' : World) : Prop :=
  match o with
  | none => (e = .returned (.tuple #[.slice none 0 0, .bool false])) ∧ (∃ u : St, RdP w0 w' b g u.1 u.2) ∧ Two b g w w'
  | some (l, u) => (∃ la k, e = .returned (.tuple #[.slice la l.length k, .bool true]) ∧ CsAt w' (fun k => w.heap.size ≤ k) (.slice la l.length k) l) ∧ TokOk u.1 ∧ RdP w0 w' b g u.1 u.2 ∧ Two b g w w'
set_option maxHeartbeats 8000000 in
set_option maxRecDepth 100000 in
theorem pconds_any (w0 : World) (b g : Nat) (t : Pt) (s : ByteArray) (w : World) (h : RdP w0 w b g t s) (hok : TokOk t) (hv : TokEnv w0) :
    Calls Tryz.prog 33 #[.pointer (some ⟨b, 0, none⟩)] w fun e w' => CondsR w0 w b g (condsD (rk (t, s) + 1) (t, s)) e w' := by
  obtain ⟨i0, hi, hz0, hz1, hz2⟩ := info_parts Tryz.info34
  have hblt := h.row.lt
  have hglt := h.rst.lt
  have HSZ : Hid (rk (t, s) ≤ 1000001) := by
    show rk (t, s) ≤ 1000001
    have := h.sz
    unfold rk
    split <;> simp only <;> omega
  have HH0 : Hid (w0.heap.size ≤ w.heap.size) := Nat.le_trans h.hb (Nat.le_of_lt hblt)
  have HV := hide hv
  obtain ⟨R0, hR0⟩ : ∃ R0, R0 = condsD (rk (t, s) + 1) (t, s) := ⟨_, rfl⟩
  rw [← hR0]
  have HOK := hide hok
  have HR1 := hide h
  have HST : Hid (R0 = ccat [] (condsD (rk (t, s) + 1) (t, s))) := by
    show _ = _
    rw [hR0]
    cases condsD (rk (t, s) + 1) (t, s) <;> simp [ccat]
  obtain ⟨K, hK⟩ : ∃ K, K = rk (t, s) := ⟨_, rfl⟩
  rw [← hK] at HSZ HST
  have HK := hide hK
  clear h hok hv hR0 hK
  go_enter Tryz.func33, Tryz.ntmps33
  go_wp2_with fail
  go_loopw [4] (fun v wr => ∃ (l : List Cd) (u : St) (a : Option Addr) (c n : Nat), v = .slice a l.length c ∧ Hid (R0 = ccat l (condsD n u)) ∧ Hid (rk u < n) ∧ Hid (l.length + rk u ≤ K) ∧ Hid (CsOwn wr w.heap.size (.slice a l.length c) l) ∧ Hid (TokOk u.1) ∧ Hid (RdP w0 wr b g u.1 u.2) ∧ Hid (Two b g w wr)) (fun v _ => K + 1 - lenS v)
  case atStart => exact ⟨[], (t, s), none, 0, K + 1, rfl, HST, by show _ < _; rw [← HK.out]; omega, by show _ ≤ _; rw [← HK.out]; simp, ⟨[], rfl, by simpa [ccells] using World.ownsRow_nil _ _ _ _, fun i h => absurd h (by simp), fun i h => absurd h (by simp)⟩, HOK.out, HR1.out, Two.refl _ _ _⟩
  case round =>
    obtain ⟨l, u, a, c, n, rfl, hq, hn, hlK, hown, huok, hR, hT⟩ := hrel
    obtain ⟨n', rfl⟩ : ∃ n', n = n' + 1 := ⟨n - 1, by have := hn.out; omega⟩
    have hbw : w.heap.size ≤ wr.heap.size := hT.out.size
    have hl1 : l.length ≤ 1000001 := by have := hlK.out; have := HSZ.out; omega
    have HIT := hide (pcond_any w0 b g u.1 u.2 wr hR.out huok.out HV.out)
    have hq2 := hq.out
    rw [condsD] at hq2
    clear hq
    obtain ⟨oi, hoi⟩ : ∃ oi, oi = condD u := ⟨_, rfl⟩
    have eu : condD (u.1, u.2) = oi := hoi.symm
    rw [eu] at HIT
    rw [← hoi] at hq2
    cases oi with
    | none =>
      simp only at hq2
      have HQ : Hid (R0 = none) := hq2
      clear hq2 hoi eu hn
      go_wp2_with fail
      refine HIT.out.mono ?_
      rintro e W2 ⟨⟨f, m, x, la, ln, k, rfl⟩, ⟨v, hRv⟩, hT2⟩
      have x2 := RowAt.new W2 #[.string ⟨#[]⟩, .int .i64 0, .int .i64 0, .int .i64 0, .string ⟨#[]⟩, .slice none 0 0] 34
      have HSX := hide (store_cd _ W2.heap.size _ _ _ _ _ _ f m x la ln k x2)
      have HB : Hid (Below W2.heap.size W2 ((W2.alloc (.cells #[.string ⟨#[]⟩, .int .i64 0, .int .i64 0, .int .i64 0, .string ⟨#[]⟩, .slice none 0 0] 34)).setRow W2.heap.size (cdV f m x (.slice la ln k)))) := below_setRow (below_new W2 _) (Nat.le_refl _) _
      have HRv := hide hRv
      have HTv : Hid (Two b g w W2) := hT.out.trans hT2
      clear HIT x2 hRv hT2
      go_wp2_with (first
        | (refine wpList_store_eq rfl 34 _ _ rfl _ _ rfl rfl HSX.out ?_))
      go_ret2
      rw [HQ.out]
      exact ⟨rfl, ⟨v, HRv.out.below HB.out⟩, HTv.out.trans (.of_below HB.out)⟩
    | some p =>
      obtain ⟨x, v⟩ := p
      simp only at hq2
      have hcost := cond_cost u x v hoi.symm
      have HRK : Hid (rk v < rk u) := hcost.2
      have HQ2 := hide hq2
      clear hq2 hoi eu hcost
      go_wp2_with fail
      refine HIT.out.mono ?_
      rintro e W2 ⟨⟨la, k, rfl, hIT⟩, hxok, hvok, hRv, hT2⟩
      have hT2s := hT2.size
      have HTv : Hid (Two b g w W2) := hT.out.trans hT2
      have x2 := RowAt.new W2 #[.string ⟨#[]⟩, .int .i64 0, .int .i64 0, .int .i64 0, .string ⟨#[]⟩, .slice none 0 0] 34
      have HSX := hide (store_cd _ W2.heap.size _ _ _ _ _ _ x.field x.sign x.item la x.item.list.length k x2)
      obtain ⟨V, hV⟩ : ∃ V, (W2.alloc (.cells #[.string ⟨#[]⟩, .int .i64 0, .int .i64 0, .int .i64 0, .string ⟨#[]⟩, .slice none 0 0] 34)).setRow W2.heap.size (cdV x.field x.sign x.item (.slice la x.item.list.length k)) = V := ⟨_, rfl⟩
      have hB : Below W2.heap.size W2 V := by rw [← hV]; exact below_setRow (below_new W2 _) (Nat.le_refl _) _
      have y2 : RowAt V W2.heap.size (cdV x.field x.sign x.item (.slice la x.item.list.length k)) 34 := by rw [← hV]; exact row_set _ _ _ _ _ x2
      rw [hV] at HSX
      have hIT3 := hIT.keep hB
      have hown3 : CsOwn V w.heap.size (.slice a l.length c) l := (hown.out.two hT2 hblt hglt).keep hB
      have hbk := hown.out.blk
      have hVs : wr.heap.size ≤ V.heap.size := Nat.le_trans hT2s hB.size
      obtain ⟨us, hus, how, hoks, hins⟩ := hown3
      have HRV := hide (hRv.below hB)
      have HTV : Hid (Two b g w V) := HTv.out.trans (.of_below hB)
      have hm1 : l.length + 1 ≤ maxLen := by unfold maxLen; omega
      have hm2 : (l.length + 1) * 80 ≤ 140737488355328 := by omega
      have HN : Hid (∀ j u, [Value.string x.field, .int .i64 x.sign, .int .i64 x.item.kind, .int .i64 x.item.num, .string x.item.text, .slice la x.item.list.length k][j]? = some u → (V.alloc (.cells #[.string x.field, .int .i64 x.sign, .int .i64 x.item.kind, .int .i64 x.item.num, .string x.item.text, .slice la x.item.list.length k] 34)).cell? ((⟨V.heap.size, 0, none⟩ : Addr).add j) = some u) := World.news_of_block (heap_alloc_new V _)
      have HX : Hid (x.Ok ∧ ItsAt V (fun g => wr.heap.size ≤ g) (.slice la x.item.list.length k) x.item.list) := ⟨hxok, hIT3⟩
      have HBK : Hid (∀ k, (Value.slice a l.length c).ownBlock = some k → w.heap.size ≤ k ∧ k < wr.heap.size) := hbk
      have HVOK := hide hvok
      obtain ⟨hc0, hc1, hc2, hc3, hc4, hc5⟩ := y2.q6
      clear HIT x2 hV y2 hB hIT hIT3 hxok hvok hRv hT2 hown hbk hR hT huok HTv
      go_wp2_with (first
        | (refine wpList_store_eq rfl 34 _ _ rfl _ _ rfl rfl HSX.out ?_)
        | (at_builtin; go_must (refine wpList_append_lies _ rfl _ _ 22 rfl w.heap.size 34 i0 (.agg #[.string ⟨#[]⟩, .int .i64 0, .int .i64 0, .int .i64 0, .string ⟨#[]⟩, .slice none 0 0]) 6 80 Tryz.underlying22 hi hz0 hz1 hz2 rfl (by decide) _ _ _ rfl (how.alloc _) ⟨V.heap.size, 0, none⟩ 1 1 [.string x.field, .int .i64 x.sign, .int .i64 x.item.kind, .int .i64 x.item.num, .string x.item.text, .slice la x.item.list.length k] rfl rfl HN.out (cds_cells1 _ _ _ _ _ _ _ _) (by decide) hm1 hm2 (by simp; omega) (V.heap.size + 1) (by simp) ?_)))
      intro g5 cap5 w5 hown5 hgrow hat hlg
      obtain ⟨HO5, HB5⟩ := cd_push hbw hVs HBK.out HX.out.1 hus hoks hins HX.out.2 rfl hown5 hgrow hat
      have HR5 : Hid (RdP w0 w5 b g v.1 v.2) := HRV.out.then HB5 HH0.out hblt hglt
      have HT5 : Hid (Two b g w w5) := HTV.out.then HB5 (Nat.le_refl _)
      have HO := hide HO5
      have HM5 := hide (pword_any w0 b g v.1 v.2 ⟨#[97, 110, 100]⟩ w5 HR5.out HV.out)
      have hle : (l ++ [x]).length = l.length + 1 := by simp
      clear hown5 hgrow hat hlg HO5 HB5 hins hoks how HX HN HRV HTV
      by_cases hm : justB 2 ⟨#[97, 110, 100]⟩ v.1 = true
      · rw [hm] at HM5
        have HQ : Hid (R0 = ccat (l ++ [x]) (condsD n' (nxtD v.2))) := by
          show _ = _
          rw [HQ2.out, if_pos hm, ccat_cons]
        have HNO := hide (nxtD_ok v.2 HR5.out.sz)
        have hsr := step_rk v (by rw [just_kind hm]; omega)
        have HRK2 : Hid (rk (nxtD v.2) < n' ∧ (l ++ [x]).length + rk (nxtD v.2) ≤ K) := by
          have h1 := HRK.out
          have h2 := hn.out
          have h3 := hlK.out
          show _ ∧ _
          rw [hle]
          omega
        clear hm HQ2 hsr hn hlK HRK
        go_wp2_with fail
        refine HM5.out.mono ?_
        rintro e W7 ⟨rfl, hR7⟩
        have HR7 := hide hR7
        have HO7 : Hid (CsOwn W7 w.heap.size (.slice (some ⟨g5, 0, none⟩) (l.length + 1) cap5) (l ++ [x])) := HO.out.two hR7.2 hblt hglt
        clear hR7 HM5 HO
        go_wp2_with fail
        go_roundw
        case rel => exact ⟨l ++ [x], nxtD v.2, some ⟨g5, 0, none⟩, cap5, n', by rw [hle], HQ, HRK2.out.1, HRK2.out.2, by rw [hle]; exact HO7, HNO, HR7.out.1, HT5.out.trans HR7.out.2⟩
        case measure =>
          have := HRK2.out.2
          rw [hle] at this
          simp [lenS]; omega
      · have hj : justB 2 ⟨#[97, 110, 100]⟩ v.1 = false := by simpa using hm
        rw [hj] at HM5
        have HS1 : Hid (stepT false v.1 v.2 = (v.1, v.2)) := rfl
        rw [HS1.out] at HM5
        have HQ : Hid (R0 = some (l ++ [x], v)) := by
          show _ = _
          rw [HQ2.out, if_neg hm]
          rfl
        clear hm hj HS1 HQ2
        go_wp2_with fail
        refine HM5.out.mono ?_
        rintro e W6 ⟨rfl, hR6⟩
        have HR6 := hide hR6
        have HO6 : Hid (CsOwn W6 w.heap.size (.slice (some ⟨g5, 0, none⟩) (l.length + 1) cap5) (l ++ [x])) := HO.out.two hR6.2 hblt hglt
        clear hR6 HM5 HO
        go_wp2_with fail
        go_ret2
        rw [HQ.out]
        refine ⟨⟨some ⟨g5, 0, none⟩, cap5, by rw [hle]; rfl, by rw [hle]; exact HO6.out.at' (by rw [hle]; omega)⟩, HVOK.out, HR6.out.1, HT5.out.trans HR6.out.2⟩
end Go.Proofs.YtageokjobbjddaaGreatDoor
