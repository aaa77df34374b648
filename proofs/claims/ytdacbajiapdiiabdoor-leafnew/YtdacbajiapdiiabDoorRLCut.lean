import Derived.Test.YtdacbajiapdiiabDoorLCut
import Derived.Test.YtdacbajiapdiiabDoorRCut
import Derived.Deep.RegionHeld3
namespace Go.Proofs.YtdacbajiapdiiabDoor
open Go.RowKit

/-- One int more on a list of the call's own. -/
theorem push_int (base : Nat) (v : Value) (xs : List Int) (x : Int) (t : TypeId) (w w0 : World) (B n : Nat) (hn : xs.length = n) (hown : w.ownsRow base 3 1 v n (ints xs)) (hb : (n + 1) * 8 ≤ 140737488355328) (hbase : base ≤ w.heap.size) (hB : B ≤ base) (h0 : Below B w0 w) :
    ∃ a' cap' w', (Builtin.append_ #[76, 76] 76 #[v, .slice (some ⟨w.heap.size, 0, none⟩) 1 1]).run Tryd.prog (w.alloc (.cells #[.int .i64 x] t)) = .ok (.slice a' (n + 1) cap') w' ∧ w'.ownsRow base 3 1 (.slice a' (n + 1) cap') (n + 1) (ints (xs ++ [x])) ∧ Below B w0 w' ∧ w.heap.size ≤ w'.heap.size := by
  subst hn
  have hr : RowR (w.alloc (.cells #[.int .i64 x] t)) (.slice (some ⟨w.heap.size, 0, none⟩) 1 1) [.int .i64 x] := by
    have hbx := boxed_new w #[.int .i64 x] t
    refine ⟨_, _, rfl, Nat.le_refl _, fun h => (by cases h), fun j u hj => ⟨_, _, rfl, ?_⟩⟩
    have hj0 : j = 0 := by
      have := (List.getElem?_eq_some_iff.1 hj).1
      simpa using this
    subst hj0
    cases hj
    exact hbx.2 0 (by simp)
  obtain ⟨a', cap', w', hrun, hown', hg⟩ := append_row 76 3 _ 8 info3 Tryd.underlying76 rfl base xs.length v (ints xs) _ (World.ownsRow.alloc hown _) _ _ hr (fun u hu => by simp at hu; subst hu; rfl) (by simpa using hb) (by decide) (by simp; omega)
  refine ⟨a', cap', w', hrun, by rw [ints_append]; exact hown', ?_, ?_⟩
  · exact (h0.alloc (Nat.le_trans hB hbase) _).grown hg (by simp; omega) (fun k hk => Nat.le_trans hB (World.ownsRow.lt hown k hk).1)
  · have := hg.size
    simp at this
    omega
theorem own_form {w : World} {base e n : Nat} {v : Value} {xs : List Value} (h : w.ownsRow base e 1 v n xs) : ∃ a c, v = .slice a n c := by
  rcases h.2 with ⟨rfl, rfl⟩ | ⟨g, cap, cur, rfl, _⟩
  · exact ⟨_, _, rfl⟩
  · exact ⟨_, _, rfl⟩

/-- An append whose run is known, as one step of a region that draws. -/
theorem step_append_run {ops : Array Oper} {o : Oper} {a : Act} {w : World} {K : Act → World → Prop} {Q : Exit → Act → World → Prop} {E : Prop} (t : TypeId) (hgd : o.guard = none) (d x : Operand)
    (ho : o.op = .call { callee := .builtin .append, args := #[d, x], argTypes := #[t, t] }) (hty : o.type = t) (vd vx : Value) (hd : a.eval d = vd) (hx : a.eval x = vx) (v : Value) (w' : World)
    (hrun : (Builtin.append_ #[t, t] t #[vd, vx]).run Tryd.prog w = .ok v w') (h : K (a.put o.dst v) w') : if Region.wanted o (yielded ops a.tmps) = true then Oper.wp Tryd.prog o a w K Q else E := by
  have hw : Region.wanted o (yielded ops a.tmps) = true := by simp [Region.wanted, hgd]
  rw [if_pos hw]
  unfold Oper.wp
  simp [execOp, ho, resolve, invoke, builtin, hd, hx, hty, hrun, Result.andThen]
  exact h
theorem below_drew {B : Nat} {a w : World} (h : Below B a w) : Below B a w.drew := ⟨h.os, h.tape, h.output, h.size, h.block⟩

/-- What the document's Cut answers. -/
def RCutV (base : Nat) (l : List Pr) (e : Ending) (w : World) : Prop :=
  ∃ (i c : Nat) (u1 u2 : Value), e = .returned (.tuple #[u1, u2, .int .i64 (c : Int)]) ∧ CutN 2 (gapC (szs l)) (szs l) i c ∧
    ((c = 0 ∧ PrO w base u1 (l.take i) ∧ PrO w base u2 (l.drop i)) ∨ (c ≠ 0 ∧ u1 = .slice none 0 0 ∧ u2 = .slice none 0 0))
/-- Two lists of the call's own, in blocks of their own. -/
theorem push_other {w w' : World} {base : Nat} {u : Value} {l : List Pr} {row : Option Nat} (h : PrO w base u l) (hg : (w.grownBy w' row)) (hne : u.ownBlock = none ∨ u.ownBlock ≠ row) : PrO w' base u l := World.ownsRow.kept h hg hne

set_option maxRecDepth 20000 in
set_option maxHeartbeats 4000000 in
theorem rlcut_any (v : Value) (l : List Pr) (w : World) (hok : OkL l) (hm : l.length ≤ 4398046511104) (hr : PrR w v l) :
    Calls Tryd.prog 39 #[v] w fun e w' => RCutV w.heap.size l e w' ∧ Below w.heap.size w w' := by
  obtain ⟨a, cap, rfl, hcap, _, hc⟩ := hr
  have HC := hide hc
  have HOK := hide hok
  obtain ⟨n, hn⟩ : ∃ n, n = l.length := ⟨_, rfl⟩
  rw [← hn] at hm ⊢
  have HN := hide hn
  clear hc hn hcap hok
  go_enter Tryd.func39, Tryd.ntmps39
  go_wp2
  go_loopw [5, 6] (fun u i wr => ∃ k : Nat, k ≤ n ∧ i = .int .i64 k ∧ wr.ownsRow w.heap.size 3 1 u k (ints (szs (l.take k))) ∧ Below w.heap.size w wr) (fun _ i _ => n - (intOf i).toNat)
  case atStart => exact ⟨0, Nat.zero_le _, rfl, World.ownsRow_nil _ _ _ _, Below.refl _ _⟩
  case round =>
    obtain ⟨k, hk, rfl, hown, hbw⟩ := hrel
    have htk : (szs (l.take k)).length = k := by rw [szs_len, List.length_take]; have := HN.out; omega
    obtain ⟨ua, uc, hu⟩ := own_form hown
    subst hu
    by_cases hlt : k < n
    · have hkl : k < l.length := by have := HN.out; omega
      obtain ⟨g, o, rfl, f1, f2⟩ := HC.out k hkl
      have c1 : wr.cell? ⟨g, o + k * 2, none⟩ = some (.string l[k].1) := (hbw.cell (p := ⟨g, o + k * 2, none⟩) (World.block_lt_of_cell? w _ f1)).trans f1
      have c2 : wr.cell? ⟨g, o + k * 2 + 1, none⟩ = some (.string l[k].2) := (hbw.cell (p := ⟨g, o + k * 2 + 1, none⟩) (World.block_lt_of_cell? w _ f2)).trans f2
      have hp0 := HOK.out l[k] (List.getElem_mem _)
      obtain ⟨x, hx⟩ : ∃ x : Int, x = (szP l[k] : Int) := ⟨_, rfl⟩
      have e1 : IntKind.i64.wrap (5 + (l[k].1.size : Int)) = 5 + (l[k].1.size : Int) := by rw [IntKind.wrap_i64]; omega
      have e2 : IntKind.i64.wrap (5 + (l[k].1.size : Int) + (l[k].2.size : Int)) = x := by rw [hx, IntKind.wrap_i64]; unfold szP; omega
      have HS := hide (szs_take_succ l k hkl)
      rw [← hx] at HS
      generalize l[k].1 = s1 at *
      generalize l[k].2 = s2 at *
      have hltI : (k : Int) < (n : Int) := by omega
      have j0 : (0 : Int) ≤ (k : Int) := by omega
      obtain ⟨a1, cp1, w1, hrun, hown1, hb1, _⟩ := push_int w.heap.size _ _ x 3 wr.drew w w.heap.size k htk hown (by omega) hbw.size (Nat.le_refl _) (below_drew hbw)
      rw [← HS.out] at hown1
      have HO := hide hown1
      have HB := hide hb1
      have q1 : w1.cell? ⟨g, o + k * 2, none⟩ = some (.string s1) := (hb1.cell (p := ⟨g, o + k * 2, none⟩) (World.block_lt_of_cell? w _ f1)).trans f1
      have q2 : w1.cell? ⟨g, o + k * 2 + 1, none⟩ = some (.string s2) := (hb1.cell (p := ⟨g, o + k * 2 + 1, none⟩) (World.block_lt_of_cell? w _ f2)).trans f2
      have HRUN := hide hrun
      have b1 : ¬ g = wr.heap.size := fun h => by
        have := World.block_lt_of_cell? wr _ c1
        simp only at this
        omega
      clear hx HC f1 f2 hp0 hown hown1 hb1 hbw HS htk hrun
      go_wp2_with fail
      go_region_held3 (fun w' => w'.cell? ⟨g, o + k * 2, none⟩ = some (.string s1) ∧ w'.cell? ⟨g, o + k * 2 + 1, none⟩ = some (.string s2)) (go_keep)
        (first | (refine step_append_run 76 rfl (.tmp 18) (.tmp 33) rfl rfl _ _ rfl rfl _ _ HRUN.out ?_))
      clear HRUN q1 q2 c1 c2 b1
      go_wp2
      go_roundw
      case rel => exact ⟨k + 1, by omega, by go_num, HO.out, HB.out⟩
      case measure => simp [intOf]; omega
    · have hkn : k = n := by omega
      subst hkn
      have hall : l.take k = l := by rw [List.take_of_length_le]; have := HN.out; omega
      rw [hall] at hown
      have hint := (rowR_of_owns hown).ints
      have HRC := hide (rcut_any _ (szs l) wr (by rw [szs_len, ← HN.out]; omega) hint)
      have HBW := hide hbw
      have hltI : ¬ (k : Int) < (k : Int) := by omega
      clear hown hint hbw hall htk hlt hk
      go_wp2_with fail
      refine HRC.out.mono ?_
      rintro e w1 ⟨i, c, rfl, hcn, rfl⟩
      have HCN := hide hcn
      clear HRC
      by_cases hc : c = 0
      · subst hc
        obtain ⟨hi1, hi2⟩ := hcn.bound
        rw [szs_len, ← HN.out] at hi2
        clear hcn
        have hd0 : (((0 : Nat) : Int) != 0) = false := by simp
        go_wp2
        go_loopw [9, 10, 11] (fun u1 u2 j wl => ∃ (m : Nat) (wi : World), m ≤ k ∧ j = .int .i64 m ∧ Below w.heap.size w wi ∧ PrO wi w.heap.size u1 (l.take (min m i)) ∧ PrO wl wi.heap.size u2 ((l.drop i).take (m - i)) ∧ Below wi.heap.size wi wl ∧ (m ≤ i → wi = wl ∧ u2 = .slice none 0 0)) (fun _ _ j _ => k - (intOf j).toNat)
        case atStart => exact ⟨0, wr, Nat.zero_le _, rfl, HBW.out, by simpa using PrO.nil wr w.heap.size, by simpa using PrO.nil wr wr.heap.size, Below.refl _ _, fun _ => ⟨rfl, rfl⟩⟩
        case round =>
          obtain ⟨m, wi, hmk, rfl, hbi, ho1, ho2, hbl, hph⟩ := hrel
          clear HBW
          by_cases hlt : m < k
          · have hkl : m < l.length := by have := HN.out; omega
            have hltI2 : (m : Int) < (k : Int) := by omega
            have j0 : (0 : Int) ≤ (m : Int) := by omega
            obtain ⟨g, o, rfl, f1, f2⟩ := HC.out m hkl
            have hbwl := Below.next hbi hbl
            have c1 : wr.cell? ⟨g, o + m * 2, none⟩ = some (.string l[m].1) := (hbwl.cell (p := ⟨g, o + m * 2, none⟩) (World.block_lt_of_cell? w _ f1)).trans f1
            have c2 : wr.cell? ⟨g, o + m * 2 + 1, none⟩ = some (.string l[m].2) := (hbwl.cell (p := ⟨g, o + m * 2 + 1, none⟩) (World.block_lt_of_cell? w _ f2)).trans f2
            have HS := hide (List.take_succ_eq_append_getElem hkl)
            have HD : Hid (i ≤ m → (l.drop i).take (m + 1 - i) = (l.drop i).take (m - i) ++ [l[m]]) := fun h => by
              rw [show m + 1 - i = m - i + 1 by omega, List.take_succ_eq_append_getElem (by rw [List.length_drop]; omega), List.getElem_drop]
              simp only [show i + (m - i) = m by omega]
            obtain ⟨p, hp⟩ : ∃ p, p = l[m] := ⟨_, rfl⟩
            rw [← hp] at c1 c2 HS HD
            by_cases hmi : m < i
            · obtain ⟨rfl, rfl⟩ := hph (by omega)
              have hln : (l.take (min m i)).length = m := by rw [List.length_take]; omega
              obtain ⟨ua, uc, hu⟩ := ho1.form
              rw [hln] at hu
              subst hu
              obtain ⟨a1, cp1, w2, hrun, hown1, hb2, _⟩ := push_prs w.heap.size _ _ p 45 wi w w.heap.size m hln ho1 (by omega) hbi.size (Nat.le_refl _) hbi
              rw [show min m i = m by omega, ← HS.out] at hown1
              have HO := hide hown1
              have HB := hide hb2
              have hmiI : (m : Int) < (i : Int) := by omega
              clear hp HC f1 f2 hown1 hb2 HS HD ho1 ho2 hbl hph hbi hbwl hln
              go_wp2_with (first | (at_builtin; refine wpList_append_run 24 rfl (.tmp 52) (.tmp 57) rfl rfl _ _ rfl rfl _ _ hrun ?_))
              clear hrun
              go_wp2
              go_roundw
              case rel => exact ⟨m + 1, w2, by omega, by go_num, HB.out, by rw [show min (m + 1) i = m + 1 by omega]; exact HO.out, by rw [show m + 1 - i = 0 by omega]; exact PrO.nil _ _, Below.refl _ _, fun _ => ⟨rfl, rfl⟩⟩
              case measure => simp [intOf]; omega
            · have hln : ((l.drop i).take (m - i)).length = m - i := by rw [List.length_take, List.length_drop]; have := HN.out; omega
              obtain ⟨ua, uc, hu⟩ := ho2.form
              rw [hln] at hu
              subst hu
              obtain ⟨ua1, uc1, hu1⟩ := ho1.form
              have hl1 : (l.take (min m i)).length = i := by rw [List.length_take]; have := HN.out; omega
              rw [hl1] at hu1
              subst hu1
              obtain ⟨a1, cp1, w2, hrun, hown1, hb2, _⟩ := push_prs wi.heap.size _ _ p 45 wr wi wi.heap.size (m - i) hln ho2 (by omega) hbl.size (Nat.le_refl _) hbl
              rw [← HD.out (by omega)] at hown1
              rw [show min m i = i by omega] at ho1
              have HO := hide hown1
              have HB := hide hb2
              have HO1 := hide ho1
              have HBI := hide hbi
              have hmiI : ¬ (m : Int) < (i : Int) := by omega
              obtain ⟨d, hd⟩ : ∃ d, d = m - i := ⟨_, rfl⟩
              rw [← hd] at hrun ⊢
              obtain ⟨d1, hd1⟩ : ∃ d1, d1 = d + 1 := ⟨_, rfl⟩
              rw [← hd1] at hrun
              have HDD : Hid (m - i + 1 = d1) := by show m - i + 1 = d1; omega
              rw [HDD.out] at HO
              clear hp HC f1 f2 hown1 hb2 HS HD ho1 ho2 hbl hph hbi hbwl hln hl1 hd hd1
              go_wp2_with (first | (at_builtin; refine wpList_append_run 24 rfl (.tmp 59) (.tmp 64) rfl rfl _ _ rfl rfl _ _ hrun ?_))
              clear hrun
              go_wp2
              go_roundw
              case rel => exact ⟨m + 1, wi, by omega, by go_num, HBI.out, by rw [show min (m + 1) i = i by omega]; exact HO1.out, HO.out, HB.out, fun h => absurd h (by omega)⟩
              case measure => simp [intOf]; omega
          · have hmk2 : m = k := by omega
            rw [show min m i = i by omega] at ho1
            have hfull : (l.drop i).take (m - i) = l.drop i := by rw [List.take_of_length_le]; rw [List.length_drop]; have := HN.out; omega
            rw [hfull] at ho2
            have HO1 := hide (ho1.below hbl)
            have HO2 := hide (ho2.mono hbi.size)
            have HB := hide (Below.next hbi hbl)
            have hltI2 : ¬ (m : Int) < (k : Int) := by omega
            clear ho1 ho2 hbl hbi hph hfull HC hmk2
            go_wp2
            go_ret3
            exact ⟨⟨i, 0, _, _, rfl, HCN.out, .inl ⟨rfl, HO1.out, HO2.out⟩⟩, HB.out⟩
      · have HCZ := hide hc
        have hd0 : ((c : Int) != 0) = true := by rw [bne_iff_ne]; omega
        clear hcn hc HC
        go_wp2
        go_ret3
        exact ⟨⟨i, c, _, _, rfl, HCN.out, .inr ⟨HCZ.out, rfl, rfl⟩⟩, HBW.out⟩

end Go.Proofs.YtdacbajiapdiiabDoor
