import Derived.Test.YtjlhafiaocodkaaDoorWWords
import Derived.Deep.RegionLaw
import Derived.Deep.DrawnRows
namespace Go.Proofs.YtjlhafiaocodkaaDoor
open Go.RowKit

theorem lit_row15 (w : World) (us : List Value) (t : TypeId) (n : Nat) (hn : us.length = n) (h0 : 0 < n) : RowR (w.alloc (.cells us.toArray t)) (.slice (some ⟨w.heap.size, 0, none⟩) n n) us := by
  subst hn
  refine ⟨some ⟨w.heap.size, 0, none⟩, us.length, rfl, Nat.le_refl _, (fun h => (by cases h)), fun j u hj => ⟨w.heap.size, 0, rfl, ?_⟩⟩
  have h : (w.alloc (.cells us.toArray t)).heap[w.heap.size]? = some (.cells us.toArray t (0, 0)) := heap_alloc_new w _
  rw [cell_of_row _ w.heap.size (0 + j) us.toArray t (0, 0) h, Nat.zero_add]
  simpa using hj
set_option maxHeartbeats 4000000 in
set_option maxRecDepth 100000 in
theorem isbare_any (s : ByteArray) (w : World) (hs : s.size ≤ 70368744177664) :
    Calls Tryd.prog 11 #[.string s] w fun e w' => e = .returned (.bool (bareW s.data.toList)) ∧ w = w' := by
  obtain ⟨o, ho⟩ : ∃ o, o = bareW s.data.toList := ⟨_, rfl⟩
  rw [← ho]
  have HO := hide ho
  clear ho
  by_cases h0 : 0 < s.size
  · obtain ⟨e0, e1⟩ := str_ne h0
    have h0I : (0 : Int) < (s.size : Int) := by omega
    have HL := hide (toList_first s h0)
    by_cases hc : s[0] = 35
    · have hcI : ((s[0].toNat : Int) == 35) = true := by rw [hc]; rfl
      have HE : Hid (o = false) := by
        show _ = _
        rw [HO.out, HL.out, hc]; rfl
      clear hc
      go_enter Tryd.func11, Tryd.ntmps11
      go_wp2
      go_ret
      exact ⟨by rw [HE.out]; rfl, rfl⟩
    · have hcI : ((s[0].toNat : Int) == 35) = false := u8_ne (k := 35) (by decide) hc
      have HE : Hid (o = s.data.toList.all plainB) := by
        show _ = _
        rw [HO.out]
        conv => lhs; rw [HL.out]
        show (s[0] != 35 && (s[0] :: _).all plainB) = _
        rw [← HL.out]
        have : (s[0] != 35) = true := by rw [bne_iff_ne]; exact hc
        rw [this, Bool.true_and]
      clear hc
      go_enter Tryd.func11, Tryd.ntmps11
      go_wp2
      go_loop [13] (fun v => ∃ k : Nat, v = .int .i64 (k : Int) ∧ k ≤ s.size ∧ Hid ((s.data.toList.take k).all plainB = true)) (fun v => s.size - (intOf v).toNat)
      case atStart => exact ⟨0, rfl, Nat.zero_le _, rfl⟩
      case round =>
        obtain ⟨k, rfl, hk, hall⟩ := hrel
        have k0 : (0 : Int) ≤ (k : Int) := by omega
        by_cases hlt : k < s.size
        · have hltI : (k : Int) < (s.size : Int) := by omega
          have HST := hide (stand_any s[k])
          have HS : Hid (s.data.toList.take (k + 1) = s.data.toList.take k ++ [s[k]]) := take_snoc s k hlt
          have hno : plainB s[k] = false → o = false := fun h => by
            rw [HE.out]
            cases hx : s.data.toList.all plainB with
            | false => rfl
            | true =>
              have := List.all_eq_true.1 hx s[k] (by
                show s.data.toList[k]'(by rw [bsize]; exact hlt) ∈ _
                exact List.getElem_mem _)
              rw [this] at h; cases h
          cases hb : bareB s[k] with
          | true =>
            rw [hb] at HST
            by_cases h9 : s[k] = 92
            · have h9I : ((s[k].toNat : Int) == 92) = true := by rw [h9]; rfl
              have HF := hide (hno (by unfold plainB; rw [h9]; rfl))
              clear hb h9 hno hall
              go_wp2_with (go_at_call 20; refine (HST.out _).mono ?_; rintro e w1 ⟨rfl, rfl⟩)
              go_ret
              exact ⟨by rw [HF.out]; rfl, rfl⟩
            · have h9I : ((s[k].toNat : Int) == 92) = false := u8_ne (k := 92) (by decide) h9
              have HA : Hid ((s.data.toList.take (k + 1)).all plainB = true) := by
                show _ = _
                rw [HS.out, List.all_append, hall.out]
                simp [plainB, hb, h9]
              clear hb h9 hno hall
              go_wp2_with (go_at_call 20; refine (HST.out _).mono ?_; rintro e w1 ⟨rfl, rfl⟩)
              go_round
              case rel => exact ⟨k + 1, by go_num, by omega, HA⟩
              case measure => simp [intOf]; omega
          | false =>
            rw [hb] at HST
            have HF := hide (hno (by unfold plainB; rw [hb]; rfl))
            clear hb hno hall
            go_wp2_with (go_at_call 20; refine (HST.out _).mono ?_; rintro e w1 ⟨rfl, rfl⟩)
            go_ret
            exact ⟨by rw [HF.out]; rfl, rfl⟩
        · have hltI : ¬ (k : Int) < (s.size : Int) := by omega
          have HF : Hid (o = true) := by
            show _ = _
            have h9 := hall.out
            rw [List.take_of_length_le (by rw [bsize]; omega)] at h9
            rw [HE.out, h9]
          clear hall
          go_wp2
          go_ret
          exact ⟨by rw [HF.out]; rfl, rfl⟩
  · have hs0 := str_nil h0
    subst hs0
    have HE : Hid (o = false) := HO.out
    go_enter Tryd.func11, Tryd.ntmps11
    go_wp2
    go_ret
    exact ⟨by rw [HE.out]; rfl, rfl⟩
/-- A list of bytes of the call's own that has grown. -/
def GrB (base : Nat) (l : List UInt8) (v : Value) (w : World) : Prop := ∃ a c, v = .slice a l.length c ∧ w.ownsRow base 5 1 (.slice a l.length c) l.length (u8s l)
theorem GrB.form {base : Nat} {l : List UInt8} {v : Value} {w : World} (h : GrB base l v w) : ∃ a n c, v = .slice a n c := by
  obtain ⟨a, c, h, _⟩ := h
  exact ⟨a, _, c, h⟩
theorem append_bytes {base : Nat} {w W : World} {v : Value} {acc l : List UInt8} (h : GrB base acc v w) (hbase : base ≤ w.heap.size) (hl : 0 < l.length) (hn : acc.length + l.length ≤ 70368744177664)
    (hW : Below (w.alloc (.cells (u8s l).toArray 5)).heap.size (w.alloc (.cells (u8s l).toArray 5)) W) :
    ∃ v' w', (Builtin.append_ #[33, 33] 33 #[v, .slice (some ⟨w.heap.size, 0, none⟩) l.length l.length]).run Tryd.prog W = .ok v' w' ∧ GrB base (acc ++ l) v' w' ∧ Below base w w' := by
  obtain ⟨a, c, rfl, hown⟩ := h
  have hlw : (w.alloc (.cells (u8s l).toArray 5)).heap.size = w.heap.size + 1 := by simp
  have hb0 : Below w.heap.size w W := Below.next (below_new w _) hW
  have hr := (lit_row15 w (u8s l) 5 l.length (u8s_length l) hl).below hW
  have hownW := owns_below5 hown hb0
  obtain ⟨a', c', w', hrun, ho', hg⟩ := append_row 33 5 _ 1 Tryd.info5 Tryd.underlying33 rfl base acc.length (.slice a acc.length c) (u8s acc) W hownW (.slice (some ⟨w.heap.size, 0, none⟩) l.length l.length) (u8s l) hr (u8s_one l) (by rw [u8s_length]; omega) (by decide) (by have := hb0.size; omega)
  rw [u8s_length] at hrun ho'
  refine ⟨_, w', hrun, ⟨a', c', by rw [List.length_append], by rw [List.length_append, u8s_append]; exact ho'⟩, ?_⟩
  exact (hb0.mono hbase).grown hg (by have := hb0.size; omega) (fun j hj => (hownW.lt j hj).1)
theorem step_append_P {ops : Array Oper} {o : Oper} {a : Act} {w : World} {K : Act → World → Prop} {Q : Exit → Act → World → Prop} {E : Prop} (t : TypeId) (hgd : o.guard = none) (d x : Operand)
    (ho : o.op = .call { callee := .builtin .append, args := #[d, x], argTypes := #[t, t] }) (hty : o.type = t) (vd vx : Value) (hd : a.eval d = vd) (hx : a.eval x = vx) (Pq : Value → World → Prop)
    (hrun : ∃ v w', (Builtin.append_ #[t, t] t #[vd, vx]).run Tryd.prog w = .ok v w' ∧ Pq v w') (h : ∀ v w', Pq v w' → K (a.put o.dst v) w') : if Region.wanted o (yielded ops a.tmps) = true then Oper.wp Tryd.prog o a w K Q else E := by
  obtain ⟨v, w', hrun, hp⟩ := hrun
  have hw : Region.wanted o (yielded ops a.tmps) = true := by simp [Region.wanted, hgd]
  rw [if_pos hw]
  unfold Oper.wp
  simp [execOp, ho, resolve, invoke, builtin, hd, hx, hty, hrun, Result.andThen]
  exact h _ _ hp
theorem step_append_run15 {ops : Array Oper} {o : Oper} {a : Act} {w : World} {K : Act → World → Prop} {Q : Exit → Act → World → Prop} {E : Prop} (t : TypeId) (hgd : o.guard = none) (d x : Operand)
    (ho : o.op = .call { callee := .builtin .append, args := #[d, x], argTypes := #[t, t] }) (hty : o.type = t) (vd vx : Value) (hd : a.eval d = vd) (hx : a.eval x = vx) (v : Value) (w' : World)
    (hrun : (Builtin.append_ #[t, t] t #[vd, vx]).run Tryd.prog w = .ok v w') (h : K (a.put o.dst v) w') : if Region.wanted o (yielded ops a.tmps) = true then Oper.wp Tryd.prog o a w K Q else E := by
  have hw : Region.wanted o (yielded ops a.tmps) = true := by simp [Region.wanted, hgd]
  rw [if_pos hw]
  unfold Oper.wp
  simp [execOp, ho, resolve, invoke, builtin, hd, hx, hty, hrun, Result.andThen]
  exact h
theorem wpList_append_P {ops : Array Oper} {rest : List Oper} {o : Oper} {a : Act} {w : World} {Q : Exit → Act → World → Prop} (t : TypeId) (hgd : o.guard = none) (d x : Operand)
    (ho : o.op = .call { callee := .builtin .append, args := #[d, x], argTypes := #[t, t] }) (hty : o.type = t) (vd vx : Value) (hd : a.eval d = vd) (hx : a.eval x = vx) (Pq : Value → World → Prop)
    (hrun : ∃ v w', (Builtin.append_ #[t, t] t #[vd, vx]).run Tryd.prog w = .ok v w' ∧ Pq v w') (h : ∀ v w', Pq v w' → wpList Tryd.prog ops Q rest (a.put o.dst v) w') : wpList Tryd.prog ops Q (o :: rest) a w := by
  obtain ⟨v, w', hrun, hp⟩ := hrun
  exact wpList_append_run t hgd d x ho hty vd vx hd hx v w' hrun (h _ _ hp)
theorem and15 : ∀ b : Fin 256, bits BinOp.and IntKind.u8 (b.1 : Int) 15 = ((b.1 % 16 : Nat) : Int) := by decide +kernel
def digB : ByteArray := ⟨#[48, 49, 50, 51, 52, 53, 54, 55, 56, 57, 97, 98, 99, 100, 101, 102]⟩
theorem dig_hex : ∀ n : Fin 16, digB[n.1]'n.2 = hexC n.1 := by decide
set_option maxHeartbeats 4000000 in
set_option maxRecDepth 100000 in
theorem appq_any (base : Nat) (v : Value) (acc : List UInt8) (b : UInt8) (w : World) (h : GrB base acc v w) (hbase : base ≤ w.heap.size) (hn : acc.length ≤ 35184372088832) :
    Calls Tryd.prog 13 #[v, .int .u8 (b.toNat : Int)] w fun e w' => ∃ v', e = .returned v' ∧ GrB base (acc ++ quoB b) v' w' ∧ Below base w w' := by
  obtain ⟨a, c, hvf, _⟩ := id h
  have HS := hide (seen_any b)
  have HA : Hid (∀ l : List UInt8, 0 < l.length → l.length ≤ 4 → ∀ W, Below (w.alloc (.cells (u8s l).toArray 5)).heap.size (w.alloc (.cells (u8s l).toArray 5)) W → ∃ v' w', (Builtin.append_ #[33, 33] 33 #[v, .slice (some ⟨w.heap.size, 0, none⟩) l.length l.length]).run Tryd.prog W = .ok v' w' ∧ GrB base (acc ++ l) v' w' ∧ Below base w w') := fun l h0 h4 W hW => append_bytes h hbase h0 (by omega) hW
  clear h
  generalize hN : acc.length = N at *
  have HN := hide hN
  clear hN
  subst hvf
  cases hs : seenB b with
  | false =>
    rw [hs] at HS
    obtain ⟨hi, hhi⟩ : ∃ hi, hi = b.toNat / 16 := ⟨_, rfl⟩
    obtain ⟨lo, hlo⟩ : ∃ lo, lo = b.toNat % 16 := ⟨_, rfl⟩
    have hb := b.toNat_lt
    have hsh : (b.toNat : Int) / 16 = (hi : Int) := by omega
    have han : bits BinOp.and IntKind.u8 (b.toNat : Int) 15 = (lo : Int) := by rw [hlo]; exact and15 ⟨b.toNat, hb⟩
    have i1 : hi < 16 := by omega
    have i2 : lo < 16 := by omega
    have i1I : (hi : Int) < 16 := by omega
    have i2I : (lo : Int) < 16 := by omega
    have i10 : (0 : Int) ≤ (hi : Int) := by omega
    have i20 : (0 : Int) ≤ (lo : Int) := by omega
    have hq : quoB b = [92, 120, digB[hi]'i1, digB[lo]'i2] := by
      unfold quoB
      rw [if_pos hs, ← hhi, ← hlo, dig_hex ⟨hi, i1⟩, dig_hex ⟨lo, i2⟩]
    have HR := hide (HA.out (quoB b) (by rw [hq]; simp) (by rw [hq]; simp))
    rw [hq] at HR
    have HQ := hide hq
    clear hs hq hhi hlo hb
    go_enter Tryd.func13, Tryd.ntmps13
    go_wp2_with (go_at_call 22; refine (HS.out _).mono ?_; rintro e w1 ⟨rfl, rfl⟩)
    obtain ⟨v2, w2, hrun, hg2, hb2⟩ := HR.out (w.alloc (.cells (u8s [92, 120, digB[hi]'i1, digB[lo]'i2]).toArray 5)).drew (Below.refl _ _).drew
    have hrun' : (Builtin.append_ #[33, 33] 33 #[.slice a N c, .slice (some ⟨w.heap.size, 0, none⟩) 4 4]).run Tryd.prog (w.alloc (.cells #[.int .u8 92, .int .u8 120, .int .u8 ((({ data := #[48, 49, 50, 51, 52, 53, 54, 55, 56, 57, 97, 98, 99, 100, 101, 102] } : ByteArray)[hi]'i1).toNat : Int), .int .u8 ((({ data := #[48, 49, 50, 51, 52, 53, 54, 55, 56, 57, 97, 98, 99, 100, 101, 102] } : ByteArray)[lo]'i2).toNat : Int)] 5)).drew = .ok v2 w2 := hrun
    have HRUN := hide hrun'
    have G : Hid (GrB base (acc ++ quoB b) v2 w2 ∧ Below base w w2) := ⟨by rw [HQ.out]; exact hg2, hb2⟩
    obtain ⟨ga, gn, gc, gf⟩ := hg2.form
    subst gf
    clear hrun hrun' hg2 hb2
    go_region_law (refine step_append_run15 33 rfl (.tmp 9) (.tmp 16) rfl rfl _ _ rfl rfl _ _ HRUN.out ?_)
    all_goals
      go_wp2
      go_ret
      exact ⟨_, rfl, G.out.1, G.out.2⟩
  | true =>
    rw [hs] at HS
    have HNE := hide (needs_any b)
    cases hn2 : needB b with
    | true =>
      rw [hn2] at HNE
      have hq : quoB b = [92, b] := by
        unfold quoB
        rw [if_neg (by rw [hs]; decide), if_pos ((need_iff b).1 hn2)]
      have HR := hide (HA.out [92, b] (by simp) (by simp))
      have HQ := hide hq
      clear hs hq hn2
      go_enter Tryd.func13, Tryd.ntmps13
      go_wp2_with (first | (go_at_call 22; refine (HS.out _).mono ?_; rintro e w1 ⟨rfl, rfl⟩) | (go_at_call 23; refine (HNE.out _).mono ?_; rintro e w1 ⟨rfl, rfl⟩) | (at_builtin; refine wpList_append_P 33 rfl (.tmp 21) (.tmp 23) rfl rfl _ _ rfl rfl (fun v' w' => GrB base (acc ++ [92, b]) v' w' ∧ Below base w w') (HR.out _ (Below.refl _ _)) ?_; rintro v' w' ⟨g1, g2⟩; have G := hide (And.intro g1 g2); obtain ⟨ga, gn, gc, gf⟩ := g1.form; subst gf; clear g1 g2))
      go_ret
      exact ⟨_, rfl, by rw [HQ.out]; exact G.out.1, G.out.2⟩
    | false =>
      rw [hn2] at HNE
      have hq : quoB b = [b] := by
        unfold quoB
        rw [if_neg (by rw [hs]; decide), if_neg (fun e => by rw [(need_iff b).2 e] at hn2; cases hn2)]
      have HR := hide (HA.out [b] (by simp) (by simp))
      have HQ := hide hq
      clear hs hq hn2
      go_enter Tryd.func13, Tryd.ntmps13
      go_wp2_with (first | (go_at_call 22; refine (HS.out _).mono ?_; rintro e w1 ⟨rfl, rfl⟩) | (go_at_call 23; refine (HNE.out _).mono ?_; rintro e w1 ⟨rfl, rfl⟩) | (at_builtin; refine wpList_append_P 33 rfl (.tmp 25) (.tmp 27) rfl rfl _ _ rfl rfl (fun v' w' => GrB base (acc ++ [b]) v' w' ∧ Below base w w') (HR.out _ (Below.refl _ _)) ?_; rintro v' w' ⟨g1, g2⟩; have G := hide (And.intro g1 g2); obtain ⟨ga, gn, gc, gf⟩ := g1.form; subst gf; clear g1 g2))
      go_ret
      exact ⟨_, rfl, by rw [HQ.out]; exact G.out.1, G.out.2⟩
end Go.Proofs.YtjlhafiaocodkaaDoor
