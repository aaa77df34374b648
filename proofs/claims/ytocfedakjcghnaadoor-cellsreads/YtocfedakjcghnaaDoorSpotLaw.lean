import Derived.Test.YtocfedakjcghnaaDoorBackLaw6
import Derived.Lib.AppendStr
import Derived.Laws.BitsAllLaws
namespace Go.Proofs.YtocfedakjcghnaaDoor
open Go.RowKit

theorem pow_lt_256 (s : Nat) (h : s < 8) : 2 ^ s < 256 := Nat.pow_lt_pow_right (m := s) (n := 8) (by decide) h
theorem xor_u8_toNat (c p : Nat) (hc : c < 256) (hp : p < 256) : (UInt8.ofNat (c ^^^ p)).toNat = c ^^^ p := by
  have : c ^^^ p < 2 ^ 8 := Nat.xor_lt_two_pow hc hp
  simp only [UInt8.toNat_ofNat']
  omega
theorem xor_u8 (c s : Nat) (hc : c < 256) (hp : 2 ^ s < 256) : bits BinOp.xor IntKind.u8 (c : Int) (2 ^ s % 256) = ((UInt8.ofNat (c ^^^ 2 ^ s)).toNat : Int) := by
  have h := u8_xor_nat c (2 ^ s) hc hp
  have e : ((2 ^ s : Nat) : Int) = 2 ^ s % 256 := by
    have e2 : ((2 ^ s : Nat) : Int) = (2 : Int) ^ s := by simp
    rw [← e2]
    exact (Int.emod_eq_of_lt (Int.natCast_nonneg _) (Int.ofNat_lt.2 hp)).symm
  rw [← e, h, xor_u8_toNat c _ hc hp]
theorem xor_ne (c : UInt8) (s : Nat) (h : s < 8) : UInt8.ofNat (c.toNat ^^^ 2 ^ s) ≠ c := by
  intro he
  have h1 := congrArg UInt8.toNat he
  rw [xor_u8_toNat _ _ c.toNat_lt (pow_lt_256 s h)] at h1
  have h2 : c.toNat ^^^ (c.toNat ^^^ 2 ^ s) = c.toNat ^^^ c.toNat := by rw [h1]
  rw [← Nat.xor_assoc, Nat.xor_self, Nat.zero_xor] at h2
  have := Nat.two_pow_pos s
  omega
theorem strCells_eq (s : ByteArray) : Lib.strCells s = u8s s.data.toList := by
  simp [Lib.strCells, u8s]

set_option maxHeartbeats 400000 in
theorem wpList_append_run2 {ops : Array Oper} {rest : List Oper} {o : Oper} {a : Act} {w : World} {Q : Exit → Act → World → Prop} (t u : TypeId) (hgd : o.guard = none) (d x : Operand)
    (ho : o.op = .call { callee := .builtin .append, args := #[d, x], argTypes := #[t, u] }) (hty : o.type = t) (vd vx : Value) (hd : a.eval d = vd) (hx : a.eval x = vx) (v : Value) (w' : World)
    (hrun : (Builtin.append_ #[t, u] t #[vd, vx]).run Tryd.prog w = .ok v w') (h : wpList Tryd.prog ops Q rest (a.put o.dst v) w') : wpList Tryd.prog ops Q (o :: rest) a w :=
  wpList_plain hgd fun _ hK => by
    unfold Oper.wp
    simp [execOp, ho, resolve, invoke, builtin, hd, hx, hty, hrun, Result.andThen]
    exact hK _ _ h
theorem append_str (base : Nat) (n : Nat) (v : Value) (xs : List UInt8) (w : World) (hown : w.ownsRow base 5 1 v n (u8s xs)) (s : ByteArray) (hb : n + s.size ≤ 140737488355328) (hbase : base ≤ w.heap.size) :
    ∃ a' cap' w', (Builtin.append_ #[46, 9] 46 #[v, .string s]).run Tryd.prog w = .ok (.slice a' (n + s.size) cap') w' ∧ w'.ownsRow base 5 1 (.slice a' (n + s.size) cap') (n + s.size) (u8s (xs ++ s.data.toList)) ∧ w.grownBy w' v.ownBlock := by
  obtain ⟨i0, hi, hz, hsz, hby⟩ := info_parts Tryd.info5
  obtain ⟨v', w', hr, ho, hg, _⟩ := Lib.run_append_own_string (P := Tryd.prog) w base 46 9 46 5 i0 Tryd.underlying46 Tryd.underlying9 hi hz hsz hby v n _ hown s (by unfold maxLen; omega) hb hbase
  have hf : ∃ a' c', v' = .slice a' (n + s.size) c' := by
    rcases ho.2 with ⟨rfl, h0⟩ | ⟨g, cap, cur, rfl, _⟩
    · exact ⟨none, 0, by rw [h0]⟩
    · exact ⟨_, _, rfl⟩
  obtain ⟨a', c', rfl⟩ := hf
  exact ⟨a', c', w', hr, by rw [u8s_append, ← strCells_eq]; exact ho, hg⟩

set_option maxRecDepth 100000 in
set_option maxHeartbeats 8000000 in
theorem spot_any (A : Nat → Addr) (a : Option Addr) (n c : Nat) (ax bx : Int) (l : List ByteArray) (w : World) (hn : n = l.length) (hm : n ≤ 1048576) (hs : sizeL l ≤ 1152921504606846976) (hr : RowR w (.slice a n c) (strs l)) (hE : ErrsG 4 gAll A w) :
    Calls Tryd.prog 7 #[.agg #[.slice a n c, .int .i64 ax, .int .i64 bx]] w fun e w' => e = .returned (.bool true) ∧ Below w.heap.size w w' := by
  have HER := hide hE
  have HX := hide (boxed_new w #[.slice a n c, .int .i64 ax, .int .i64 bx] 45)
  have HB := hide (below_new w (.cells #[.slice a n c, .int .i64 ax, .int .i64 bx] 45))
  have HR := hide (hr.below HB.out)
  have HN := hide hn
  have HS := hide hs
  clear hE hr hn hs
  go_enter Tryd.func7, Tryd.ntmps7
  go_wp2_with fail
  obtain ⟨bb, hbb⟩ : ∃ bb, bb = w.heap.size := ⟨_, rfl⟩
  have HBB := hide hbb
  rw [← hbb] at HX ⊢
  generalize w.alloc (.cells #[.slice a n c, .int .i64 ax, .int .i64 bx] 45) = W0 at *
  clear hbb
  refine (begun_any A W0 (ErrsG.keep HER.out HB.out)).mono ?_
  rintro e w1 ⟨rfl, hb1⟩
  have hx1 := HX.out.below hb1
  have c0 := hx1.2 0 (by simp)
  simp only [List.getElem_cons_zero] at c0
  have HX1 := hide hx1
  have HB1 := hide (Below.next HB.out hb1)
  have HR1 := hide (HR.out.below hb1)
  clear hb1 HB HX HR hx1
  go_wp2_with fail
  refine (texts_any _ l w1 (by rw [← HN.out]; omega) HR1.out).mono ?_
  rintro e w2 ⟨a2, c2, rfl, ho2, hb2⟩
  have HB2 := hide (Below.next HB1.out hb2)
  have HX2 := hide (HX1.out.below hb2)
  have HR2 := hide (HR1.out.below hb2)
  have HLA := hide (lay_any A _ l w2 HS.out (rowR_of_owns ho2).strs (errs_below HER.out HB2.out))
  clear ho2 hb2 HB1 HX1 HR1 c0
  go_wp2_with fail
  refine HLA.out.mono ?_
  rintro e w3 ⟨hv, hb3⟩
  have hx3 := HX2.out.below hb3
  have c0 := hx3.2 0 (by simp)
  have c1 := hx3.2 1 (by simp)
  have c2' := hx3.2 2 (by simp)
  simp only [List.getElem_cons_zero, List.getElem_cons_succ] at c0 c1 c2'
  have HX3 := hide hx3
  have HB3 := hide (Below.next HB2.out hb3)
  have HR3 := hide (HR2.out.below hb3)
  clear hb3 HB2 HX2 HR2 HLA hx3
  rcases hv with ⟨hfit, rfl⟩ | ⟨hfit, rfl⟩
  · have hs4 := lay_bytes l hfit
    obtain ⟨s, hsd⟩ : ∃ s, s = (⟨(layL l).toArray⟩ : ByteArray) := ⟨_, rfl⟩
    have hst : s.data.toList = layL l := by rw [hsd]
    rw [← hsd] at hs4 ⊢
    have HST := hide hst
    clear hsd hst
    by_cases h1 : ax < 0
    · clear hs4
      go_wp2
      go_ret
      exact ⟨rfl, HB3.out⟩
    · by_cases h2 : 4072 ≤ ax
      · clear hs4
        go_wp2
        go_ret
        exact ⟨rfl, HB3.out⟩
      · by_cases h3 : bx < 0
        · clear hs4
          go_wp2
          go_ret
          exact ⟨rfl, HB3.out⟩
        · by_cases h4 : 7 < bx
          · clear hs4
            go_wp2
            go_ret
            exact ⟨rfl, HB3.out⟩
          · obtain ⟨at0, rfl⟩ := Int.eq_ofNat_of_zero_le (show 0 ≤ ax by omega)
            obtain ⟨sh, rfl⟩ := Int.eq_ofNat_of_zero_le (show 0 ≤ bx by omega)
            obtain ⟨a4, c4, w4, hrun4, ho4, hg4⟩ := append_str w3.heap.size 0 (.slice none 0 0) [] w3 (World.ownsRow_nil _ _ _ _) s (by rw [hs4]; decide) (Nat.le_refl _)
            rw [Nat.zero_add, hs4] at hrun4 ho4
            rw [List.nil_append, HST.out] at ho4
            have hb4 : Below w3.heap.size w3 w4 := (Below.refl _ _).grown hg4 (Nat.le_refl _) (fun j hj => by cases hj)
            obtain ⟨g4, c4', he4, hgb4, hgl4⟩ := ho4.form (by decide)
            cases he4
            have hin : at0 < (layL l).length := by rw [layL_len l hfit]; omega
            obtain ⟨cu, hcu⟩ : ∃ cu, cu = (layL l)[at0] := ⟨_, rfl⟩
            have hcell : w4.cell? ⟨g4, at0, none⟩ = some (.int .u8 (cu.toNat : Int)) := by
              rw [ho4.cellAt at0 (by omega), u8s_get _ _ hin, hcu]
            have hfr := ho4.frozenAt at0
            have HNE := hide (xor_ne cu sh (by omega))
            have e1 := xor_u8 cu.toNat sh cu.toNat_lt (pow_lt_256 sh (by omega))
            obtain ⟨d, hd⟩ : ∃ d, d = UInt8.ofNat (cu.toNat ^^^ 2 ^ sh) := ⟨_, rfl⟩
            rw [← hd] at HNE e1
            have ho5 := (ho4.stored at0 (.int .u8 (d.toNat : Int))).1
            rw [show (u8s (layL l)).set at0 (.int .u8 (d.toNat : Int)) = u8s ((layL l).set at0 d) from u8s_set _ _ _] at ho5
            obtain ⟨q, hq⟩ : ∃ q, q = (layL l).set at0 d := ⟨_, rfl⟩
            rw [← hq] at ho5
            have hql : q.length = 4072 := by rw [hq, List.length_set]; exact layL_len l hfit
            have HQN : Hid (¬ q = layL l) := fun h => by
              have h2 : q[at0]? = (layL l)[at0]? := by rw [h]
              rw [hq, List.getElem?_set_self hin, List.getElem?_eq_getElem hin, ← hcu] at h2
              exact HNE.out (Option.some.inj h2)
            have HO5 := hide ho5
            have HQL := hide hql
            have HB4 := hide (Below.next HB3.out hb4)
            have HR4 := hide (HR3.out.below hb4)
            have hx4 := HX3.out.below hb4
            have d0 := hx4.2 0 (by simp)
            have d1 := hx4.2 1 (by simp)
            have d2 := hx4.2 2 (by simp)
            simp only [List.getElem_cons_zero, List.getElem_cons_succ] at d0 d1 d2
            have HG4 : Hid (w3.heap.size ≤ g4 ∧ bb < w3.heap.size) := ⟨hgb4, HX3.out.1⟩
            have n1 : ¬ bb = g4 := by have := HG4.out; omega
            have n2 : ¬ g4 = bb := by have := HG4.out; omega
            obtain ⟨y, hy⟩ : ∃ y : Nat, y = cu.toNat := ⟨_, rfl⟩
            rw [← hy] at hcell e1
            obtain ⟨z, hz⟩ : ∃ z : Nat, z = d.toNat := ⟨_, rfl⟩
            rw [← hz] at HO5 e1
            have hwu : IntKind.u64.wrap (sh : Int) = (sh : Int) := by rw [IntKind.wrap_u64]; omega
            have i1 : (at0 : Int) < 4072 := by omega
            have i2 : at0 < 4072 := by omega
            have i3 : (sh : Int) < 8 := by omega
            have i4 : sh < 8 := by omega
            have hfitH := hide hfit
            clear hy hz hcu hd hq hql ho4 ho5 hb4 hg4 hgb4 hgl4 hin hfit hs4 hx4
            go_wp2_with (first | (at_builtin; refine wpList_append_run2 46 9 rfl (.tmp 45) (.tmp 46) rfl rfl _ _ rfl rfl _ _ hrun4 ?_))
            clear hrun4 c0 c1 c2'
            go_region
            have hbw : Below w.heap.size w (w4.setCell ⟨g4, at0, none⟩ (.int .u8 (z : Int))).drew := (HB4.out.setCell (by show w.heap.size ≤ g4; have := HG4.out; have := HBB.out; omega) _).drew
            have how : ((w4.setCell ⟨g4, at0, none⟩ (.int .u8 (z : Int))).drew).ownsRow w3.heap.size 5 1 (.slice (some ⟨g4, 0, none⟩) 4072 c4) 4072 (u8s q) := HO5.out
            have hb4s : Below w4.heap.size w4 w4 := Below.refl _ _
            have hrw : RowR (w4.setCell ⟨g4, at0, none⟩ (.int .u8 (z : Int))).drew (.slice a n c) (strs l) := by
              obtain ⟨a', c', he, hle, hnl, hcc⟩ := HR4.out
              obtain ⟨a3, c3, he3, _, _, hc3⟩ := HR3.out
              cases he
              refine ⟨a, c, rfl, hle, hnl, fun j u hj => ?_⟩
              obtain ⟨g, o, ha, hcell⟩ := hcc j u hj
              refine ⟨g, o, ha, ?_⟩
              cases he3
              obtain ⟨g', o', ha', hcell'⟩ := hc3 j u hj
              rw [ha] at ha'
              cases ha'
              have hl3 : g < w3.heap.size := World.block_lt_of_cell? w3 _ hcell'
              exact (World.cell?_of_block (a := ⟨g, o + j, none⟩) (Below.heap_setCell w4 ⟨g4, at0, none⟩ _ g (by have := HG4.out; show g ≠ g4; omega))).trans hcell
            have hdc : (w4.setCell ⟨g4, at0, none⟩ (.int .u8 (z : Int))).drew.cell? ⟨bb, 0, none⟩ = some (.slice a n c) := (World.cell?_of_block (a := ⟨bb, 0, none⟩) (Below.heap_setCell w4 ⟨g4, at0, none⟩ _ bb (by show bb ≠ g4; exact n1))).trans d0
            have hqs : (⟨q.toArray⟩ : ByteArray).size = 4072 := by show q.toArray.size = 4072; rw [List.size_toArray]; exact HQL.out
            obtain ⟨W5, hW5⟩ : ∃ W5, W5 = (w4.setCell ⟨g4, at0, none⟩ (.int .u8 (z : Int))).drew := ⟨_, rfl⟩
            rw [← hW5] at hbw how hrw hdc ⊢
            have hcv := run_str W5 (.slice (some ⟨g4, 0, none⟩) 4072 c4) q ⟨some ⟨g4, 0, none⟩, c4, by rw [HQL.out], fun j hj => ⟨g4, 0, rfl, by rw [Nat.zero_add, how.cellAt j (by rw [HQL.out] at hj; omega), u8s_get q j hj]⟩⟩ (by rw [HQL.out]; decide)
            have HBW := hide hbw
            have HRW := hide hrw
            clear hW5 hbw how hrw hb4s HO5 HB4 HR4 HR3 HX3 HB3 d0 d1 d2 e1 hcell hfr n1 n2 hwu
            obtain ⟨qs, hqq⟩ : ∃ qs : ByteArray, qs = ⟨q.toArray⟩ := ⟨_, rfl⟩
            rw [← hqq] at hcv hqs
            have HQQ : Hid (qs.data.toList = q) := by show _ = _; rw [hqq]
            clear hqq
            go_wp2_with fail
            refine (read_any A (n : Int) qs W5 (errs_below HER.out HBW.out)).mono ?_
            rintro e w6 ⟨hv, hb6⟩
            have HB6 := hide (Below.next HBW.out hb6)
            have HR6 := hide (HRW.out.below hb6)
            have hd6 := (hb6.cell (World.block_lt_of_cell? W5 _ hdc)).trans hdc
            clear hb6 HBW HRW hcv hdc
            rcases hv with ⟨_, hok, g6, rfl, hown⟩ | ⟨_, rfl⟩
            · rw [Int.toNat_natCast] at hok hown ⊢
              have hne : ¬ cellsB qs.data.toList n = l := fun h => by
                have h2 := lay_cells hok
                rw [h, HQQ.out] at h2
                exact HQN.out h2.symm
              have HSN := hide (sames_not _ _ _ _ w6 (by rw [cellsB_len]; omega) (rowR_of_owns hown).strs HR6.out.strs hne)
              clear hok hown hne
              go_wp2_with fail
              refine HSN.out.mono ?_
              rintro e w7 ⟨rfl, hb7⟩
              have HB7 := hide (Below.next HB6.out hb7)
              clear hb7
              go_wp2
              go_ret
              exact ⟨rfl, HB7.out⟩
            · have hE6 := errs_below HER.out HB6.out
              have g0 : w6.cell? ⟨0, 0, none⟩ = some (.iface 86 (.pointer (some (A 1)))) := (hE6.1 1 (by decide)).1
              have q0 := eq_same A 1
              clear hE6 HR6
              go_wp2
              go_ret
              exact ⟨rfl, HB6.out⟩
  · clear HR3
    have q0 := eq_same A 2
    go_wp2
    go_ret
    exact ⟨rfl, HB3.out⟩

end Go.Proofs.YtocfedakjcghnaaDoor
