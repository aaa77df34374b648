import Derived.Test.YtdacbajiapdiiabDoorSet2
import Derived.Test.YtdacbajiapdiiabDoorLSize
import Derived.Test.YtdacbajiapdiiabDoorLErr
import Derived.Test.YtdacbajiapdiiabDoorCut2
namespace Go.Proofs.YtdacbajiapdiiabDoor
open Go.RowKit

def szs (l : List Pr) : List Int := l.map fun p => (szP p : Int)
theorem szs_len (l : List Pr) : (szs l).length = l.length := by simp [szs]
theorem szs_get (l : List Pr) (j : Nat) (h : j < (szs l).length) : (szs l)[j] = (szP (l[j]'(by rw [szs_len] at h; exact h)) : Int) := by simp [szs]
theorem szs_take_succ (l : List Pr) (k : Nat) (h : k < l.length) : szs (l.take (k + 1)) = szs (l.take k) ++ [(szP l[k] : Int)] := by
  unfold szs
  rw [List.take_succ_eq_append_getElem h, List.map_append]; rfl
/-- What the list of sizes holds when k are laid. -/
def szAt (l : List Pr) (k : Nat) : List Value := ints (szs (l.take k)) ++ List.replicate (l.length - k) (.int .i64 0)
theorem szAt_set (l : List Pr) (k : Nat) (h : k < l.length) : (szAt l k).set k (.int .i64 (szP l[k] : Int)) = szAt l (k + 1) := by
  have hl : (ints (szs (l.take k))).length = k := by rw [ints_length, szs_len, List.length_take]; omega
  unfold szAt
  rw [List.set_append_right _ _ (by omega), hl, Nat.sub_self, szs_take_succ l k h, ints_append, show l.length - k = l.length - (k + 1) + 1 by omega, List.replicate_succ, List.set_cons_zero, List.append_assoc]
  rfl
theorem szAt_len (l : List Pr) (k : Nat) (h : k ≤ l.length) : (szAt l k).length = l.length := by
  unfold szAt; rw [List.length_append, ints_length, szs_len, List.length_take, List.length_replicate]; omega
theorem szAt_zero (l : List Pr) : szAt l 0 = List.replicate l.length (.int .i64 0) := by simp [szAt, ints, szs]
theorem szAt_all (l : List Pr) : szAt l l.length = ints (szs l) := by simp [szAt]
theorem own_below {w w' : World} {base e n : Nat} {v : Value} {xs : List Value} (h : w.ownsRow base e 1 v n xs) (hb : Below w.heap.size w w') : w'.ownsRow base e 1 v n xs := by
  refine ⟨h.1, ?_⟩
  rcases h.2 with h' | ⟨g, cap, cur, h', h1, h2, hr⟩
  · exact .inl h'
  · refine .inr ⟨g, cap, cur, h', h1, ?_, hr⟩
    have hg : g < w.heap.size := by
      rcases Nat.lt_or_ge g w.heap.size with h' | h'
      · exact h'
      · rw [Array.getElem?_eq_none h'] at h2; cases h2
    rw [hb.block g hg]; exact h2

set_option maxHeartbeats 1000000 in
theorem sizesOf_any (v : Value) (l : List Pr) (w : World) (hok : OkL l) (hm : l.length ≤ 4398046511104) (hr : PrR w v l) :
    Calls Tryd.prog 44 #[v] w fun e w' => ∃ u, e = .returned u ∧ IntR w' u (szs l) ∧ Below w.heap.size w w' := by
  obtain ⟨i0, hi, hz, hsz, hby⟩ := info_parts info3
  obtain ⟨a, cap, rfl, hcap, _, hc⟩ := hr
  have HC := hide hc
  have HOK := hide hok
  obtain ⟨wm, hmk, hown0, hg0⟩ := run_make_full (P := Tryd.prog) w w.heap.size 76 3 i0 _ 1 Tryd.underlying76 hi hz hsz .i64 .i64 l.length (by rw [hby]; omega) (by unfold maxLen; omega) (Nat.le_refl _)
  have hz0 : (madeCells (Value.int .i64 0).cells (l.length * 1)).toList = szAt l 0 := by
    rw [szAt_zero, Nat.mul_one]; exact toList_madeCells_one _ _
  rw [hz0] at hown0
  have hbm : Below w.heap.size w wm := (Below.refl _ _).grown hg0 (Nat.le_refl _) (fun j hj => by cases hj)
  obtain ⟨n, hn⟩ : ∃ n, n = l.length := ⟨_, rfl⟩
  obtain ⟨b, hb⟩ : ∃ b, b = w.heap.size := ⟨_, rfl⟩
  rw [← hn] at hm hmk hown0 ⊢
  rw [← hb] at hmk hown0
  have HN := hide hn
  have HB := hide hb
  have HO := hide hown0
  have HBM := hide hbm
  clear hc hn hcap hok hb hown0 hbm hg0 hi hz hsz hby hz0
  go_enter Tryd.func44, Tryd.ntmps44
  go_wp2
  clear hmk
  go_loopw [11] (fun i wr => ∃ k : Nat, k ≤ n ∧ i = .int .i64 k ∧ wr.ownsRow b 3 1 (.slice (some ⟨b, 0, none⟩) n n) n (szAt l k) ∧ Below w.heap.size w wr) (fun i _ => n - (intOf i).toNat)
  case atStart => exact ⟨0, Nat.zero_le _, rfl, HO.out, HBM.out⟩
  case round =>
    obtain ⟨k, hk, rfl, hown, hbw⟩ := hrel
    clear HO HBM
    by_cases hlt : k < n
    · have hkl : k < l.length := by have := HN.out; omega
      obtain ⟨g, o, rfl, f1, f2⟩ := HC.out k hkl
      have c1 : wr.cell? ⟨g, o + k * 2, none⟩ = some (.string l[k].1) := (hbw.cell (p := ⟨g, o + k * 2, none⟩) (World.block_lt_of_cell? w _ f1)).trans f1
      have c2 : wr.cell? ⟨g, o + k * 2 + 1, none⟩ = some (.string l[k].2) := (hbw.cell (p := ⟨g, o + k * 2 + 1, none⟩) (World.block_lt_of_cell? w _ f2)).trans f2
      have hp0 := HOK.out l[k] (List.getElem_mem _)
      have HSET := hide (szAt_set l k hkl)
      have hbn := below_new wr (.cells #[.string l[k].1, .string l[k].2] 45)
      have HO1 := hide (own_below hown hbn)
      have HB1 := hide (Below.next hbw hbn)
      have HZ := hide (fun W => lsizeOf_any l[k] W hp0.1 hp0.2)
      obtain ⟨p, hp⟩ : ∃ p, p = l[k] := ⟨_, rfl⟩
      rw [← hp] at c1 c2 HSET HO1 HB1 HZ
      have HLEN := hide (szAt_len l k (by omega))
      have hltI : (k : Int) < (n : Int) := by omega
      have j0 : (0 : Int) ≤ (k : Int) := by omega
      clear hp HC f1 f2 hbw hown hp0 hbn
      go_wp2_with fail
      refine (HZ.out _).mono ?_
      rintro e w1 ⟨rfl, hb1⟩
      have ho1 := own_below HO1.out hb1
      have q1 : ∃ u, w1.cell? ⟨b, k, none⟩ = some u := by
        rw [World.ownsRow.cellAt ho1 k (by omega)]
        exact ⟨_, List.getElem?_eq_getElem (by rw [HLEN.out]; exact hkl)⟩
      obtain ⟨u, q1⟩ := q1
      have z1 : w1.frozen? ⟨b, k, none⟩ = false := World.ownsRow.frozenAt ho1 k
      obtain ⟨z, hz⟩ : ∃ z, z = szP p := ⟨_, rfl⟩
      rw [← hz] at HSET ⊢
      have hst := (World.ownsRow.stored ho1 k (.int .i64 (z : Int))).1
      rw [HSET.out] at hst
      have HO2 := hide hst
      have HB2 : Hid (Below w.heap.size w (w1.setCell ⟨b, k, none⟩ (.int .i64 (z : Int)))) := (Below.next HB1.out hb1).setCell (by rw [HB.out]; exact Nat.le_refl _) _
      clear hb1 HB1 HZ c1 c2 ho1 hst hz HSET HO1
      go_wp2
      go_roundw
      case rel => exact ⟨k + 1, by omega, by go_num, HO2.out, HB2.out⟩
      case measure => simp [intOf]; omega
    · have hkn : k = l.length := by have := HN.out; omega
      rw [hkn, szAt_all] at hown
      have HI := hide (rowR_of_owns hown).ints
      have HBW := hide hbw
      have hltI : ¬ (k : Int) < (n : Int) := by have := HN.out; omega
      have HKN := hide hkn
      clear HC hbw hown hkn
      go_wp2
      go_ret
      exact ⟨_, rfl, HI.out, HBW.out⟩

set_option maxHeartbeats 1000000 in
theorem clonep_any (ad : Addr) (n cap : Nat) (l : List Pr) (w : World) (hm : l.length ≤ 4398046511104) (hn : l.length = n) (hr : PrR w (.slice (some ad) n cap) l) :
    Calls Tryd.prog 45 #[.slice (some ad) n cap] w fun e w' => ∃ u, e = .returned u ∧ PrO w' w.heap.size u l ∧ Below w.heap.size w w' := by
  have hnil : ∀ w, (binOp .eql 24 (.slice (some ad) n cap) (.slice none 0 0)).run Tryd.prog w = .ok (.bool false) w := fun w => by
    have h2 : ∀ d : Nat, (Op.equalIn (d + 1) 24 (.slice (some ad) n cap) (.slice none 0 0)).run Tryd.prog w = .ok false w := fun d => by
      simp [Op.equalIn, run_underlying Tryd.underlying24]
    simp only [binOp]
    simp [Op.equal, Op.maxDepth, h2 9999]
  have hbn := below_new w (.cells #[] 45)
  have ho : PrO (w.alloc (.cells #[] 45)) w.heap.size (.slice (some ⟨w.heap.size, 0, none⟩) 0 0) [] := World.ownsRow_lit w #[] 0 (Nat.le_refl _) (Nat.zero_le _) rfl
  obtain ⟨a1, c1, w1, hrun, hown, hg⟩ := append_prs w.heap.size _ _ [] l _ ho (hr.below hbn) (by simp; omega) (by simp)
  rw [List.length_nil, Nat.zero_add, hn] at hrun hown
  rw [List.nil_append] at hown
  have hb1 : Below w.heap.size w w1 := hbn.grown hg (by simp) (fun k hk => by simp [Value.ownBlock] at hk; omega)
  have HO := hide hown
  have HB := hide hb1
  clear hr hbn ho hown hg hb1
  go_enter Tryd.func45, Tryd.ntmps45
  go_wp2_with (first | (at_builtin; refine wpList_append_run 24 rfl (.tmp 5) (.tmp 6) rfl rfl _ _ rfl rfl _ _ hrun ?_))
  clear hrun
  go_ret
  exact ⟨_, rfl, HO.out, HB.out⟩

/-- What the leaf's Cut answers. -/
def LCutV (A : Nat → Addr) (base : Nat) (l : List Pr) (e : Ending) (w : World) : Prop :=
  ∃ (i c : Nat) (u1 u2 ev : Value), e = .returned (.tuple #[u1, u2, ev]) ∧ CutN 2 (gapC (szs l)) (szs l) i c ∧ NumOf A ev c ∧
    ((c = 0 ∧ PrO w base u1 (l.take i) ∧ PrO w base u2 (l.drop i) ∧ ∀ k, u1.ownBlock = some k → u2.ownBlock ≠ some k) ∨ (c ≠ 0 ∧ u1 = .slice none 0 0 ∧ u2 = .slice none 0 0))
theorem CutN.bound {l : List Int} {i : Nat} (h : CutN 2 (gapC l) l i 0) : 1 ≤ i ∧ i + 1 ≤ l.length := by
  rcases h with ⟨_, _, h⟩ | ⟨_, _, _, h⟩ | ⟨h1, _, h2, _⟩
  · omega
  · omega
  · have := h2.1; omega
theorem undrewC {a b : World} (h : Below a.drew.heap.size a.drew b) : Below a.heap.size a b := ⟨h.os, h.tape, h.output, h.size, h.block⟩

theorem numOf_nil {A : Nat → Addr} {ev : Value} (h : NumOf A ev 0) : ev = .nilIface := by
  rcases h with ⟨h, _⟩ | ⟨_, h⟩ | ⟨_, h⟩ | ⟨_, h⟩ | ⟨_, h⟩
  · exact h
  all_goals omega
theorem numOf_err {A : Nat → Addr} {ev : Value} {c : Nat} (h : NumOf A ev c) (hc : c ≠ 0) : ∃ k, ev = .iface 128 (.pointer (some (A k))) := by
  rcases h with ⟨_, h⟩ | ⟨h, _⟩ | ⟨h, _⟩ | ⟨h, _⟩ | ⟨h, _⟩
  · omega
  all_goals exact ⟨_, h⟩

set_option maxRecDepth 20000 in
set_option maxHeartbeats 2000000 in
theorem lcut_any (A : Nat → Addr) (v : Value) (l : List Pr) (w : World) (hok : OkL l) (hm : l.length ≤ 4398046511104) (hr : PrR w v l) (hE : ErrC A w) :
    Calls Tryd.prog 19 #[v] w fun e w' => LCutV A w.heap.size l e w' ∧ Below w.heap.size w w' := by
  have HS := hide (sizesOf_any v l w hok hm hr)
  have HE := hide hE
  have HR := hide hr
  obtain ⟨a, cap, hv⟩ := hr.form
  subst hv
  have hcap : l.length ≤ cap := by obtain ⟨_, _, he, h, _⟩ := hr; cases he; exact h
  have HM := hide hm
  clear hr hE hm hok
  go_enter Tryd.func19, Tryd.ntmps19
  go_wp2_with fail
  refine HS.out.mono ?_
  rintro e w1 ⟨u, rfl, hint, hb1⟩
  have HC := hide (cut_any A u (szs l) w1 (by rw [szs_len]; have := HM.out; omega) hint (HE.out.below hb1).1)
  have HB1 := hide hb1
  clear hint hb1 HS
  go_wp2_with fail
  refine HC.out.mono ?_
  rintro e w2 ⟨hv, hb2⟩
  obtain ⟨i, c, ev, rfl, hcn, hno⟩ := hv.num
  have HB2 := hide (Below.next HB1.out hb2)
  have HCN := hide hcn
  have HNO := hide hno
  clear hv hb2 HC HB1
  by_cases hc : c = 0
  · subst hc
    have hev := numOf_nil hno
    subst hev
    obtain ⟨hi1, hi2⟩ := hcn.bound
    rw [szs_len] at hi2
    have hr2 := HR.out.below HB2.out
    have hnn : ∃ ad, a = some ad := by
      obtain ⟨a', c', he, _, _, hcc⟩ := hr2
      cases he
      obtain ⟨g, o, ha, _⟩ := hcc 0 (by omega)
      exact ⟨_, ha⟩
    obtain ⟨ad, rfl⟩ := hnn
    have hsl1 := fun W => slTo W (some ad) l.length cap i (by omega)
    obtain ⟨a2, hrd, hsl2⟩ := hr2.drop (m := i) (by omega)
    have hrt := hr2.take (m := i) (by omega)
    have hnd : ∃ ad2, a2 = some ad2 := by
      obtain ⟨a', c', he, _, _, hcc⟩ := hrd
      simp only [Value.slice.injEq] at he
      obtain ⟨rfl, _⟩ := he
      obtain ⟨g, o, ha, _⟩ := hcc 0 (by rw [List.length_drop]; omega)
      exact ⟨_, ha⟩
    obtain ⟨ad2, rfl⟩ := hnd
    have HC1 : Hid (∀ W, Below w2.heap.size w2 W → Calls Tryd.prog 45 #[.slice (some ad) i cap] W fun e w' => ∃ u, e = .returned u ∧ PrO w' W.heap.size u (l.take i) ∧ Below W.heap.size W w') := fun W h => clonep_any ad i cap (l.take i) W (by rw [List.length_take]; have := HM.out; omega) (by rw [List.length_take]; omega) (hrt.below h)
    have HC2 : Hid (∀ W, Below w2.heap.size w2 W → Calls Tryd.prog 45 #[.slice (some ad2) (l.length - i) (cap - i)] W fun e w' => ∃ u, e = .returned u ∧ PrO w' W.heap.size u (l.drop i) ∧ Below W.heap.size W w') := fun W h => clonep_any ad2 (l.length - i) (cap - i) (l.drop i) W (by rw [List.length_drop]; have := HM.out; omega) (by rw [List.length_drop]) (hrd.below h)
    clear hr2 hrd hrt hcn hno
    go_wp2_with fail
    go_region_held3 (fun w' => True) (go_keep)
      (first
        | (go_at_call 45; refine (HC1.out _ ?_).mono ?_; (first | exact HBW2.out | exact (Below.refl _ _).drew); rintro e W1 ⟨u1, rfl, ho1, hb1⟩; have HO1 := hide ho1; have HBS1 := hide hb1; have HBW1 : Hid (Below w2.heap.size w2 W1) := (by first | exact Below.next HBW2.out hb1 | exact undrewC hb1); clear ho1 hb1)
        | (go_at_call 45; refine (HC2.out _ ?_).mono ?_; (first | exact HBW1.out | exact (Below.refl _ _).drew); rintro e W2 ⟨u2, rfl, ho2, hb2⟩; have HO2 := hide ho2; have HBS2 := hide hb2; have HBW2 : Hid (Below w2.heap.size w2 W2) := (by first | exact Below.next HBW1.out hb2 | exact undrewC hb2); clear ho2 hb2))
    all_goals
      clear HC1 HC2 hsl1 hsl2
      go_wp2
      go_ret3
    · refine ⟨⟨i, 0, u1, u2, .nilIface, rfl, HCN.out, .inl ⟨rfl, rfl⟩, .inl ⟨rfl, (HO1.out.below HBS2.out).mono HB2.out.size, HO2.out.mono HBW1.out.size |>.mono HB2.out.size, fun k h1 h2 => ?_⟩⟩, Below.next HB2.out HBW2.out⟩
      have a1 := HO1.out.blk k h1
      have a2 := HO2.out.blk k h2
      omega
  · obtain ⟨k, rfl⟩ := numOf_err hno hc
    have hnn := fun W => iface_ne_nil (some (A k)) W
    have HCZ := hide hc
    clear hcn hno hc
    go_wp2
    go_ret3
    exact ⟨⟨i, c, _, _, _, rfl, HCN.out, HNO.out, .inr ⟨HCZ.out, rfl, rfl⟩⟩, HB2.out⟩

end Go.Proofs.YtdacbajiapdiiabDoor
