import Derived.Test.YtagldlchamlpdabDoorBas2
import Derived.Test.YtagldlchamlpdabDoorCutAns
import Derived.Deep.RegionHeld3
namespace Go.Proofs.YtagldlchamlpdabDoor
open Go.RowKit

set_option maxHeartbeats 400000 in
theorem bsizeOf_any (p : Lk) (w : World) (h1 : p.1.size ≤ 140737488355328) :
    Calls Tryd.prog 51 #[.agg #[.string p.1, .int .i64 p.2]] w fun e w' => e = .returned (.int .i64 (szK p : Int)) ∧ Below w.heap.size w w' := by
  have hbn := below_new w (.cells #[.string p.1, .int .i64 p.2] 54)
  have hw1 : IntKind.i64.wrap (7 + (p.1.size : Int)) = (szK p : Int) := by rw [IntKind.wrap_i64]; unfold szK; omega
  go_enter Tryd.func51, Tryd.ntmps51
  go_wp2
  go_ret
  exact ⟨rfl, hbn⟩

def szsK (l : List Lk) : List Int := l.map fun p => (szK p : Int)
theorem szsK_len (l : List Lk) : (szsK l).length = l.length := by simp [szsK]
theorem szsK_get (l : List Lk) (j : Nat) (h : j < (szsK l).length) : (szsK l)[j] = (szK (l[j]'(by rw [szsK_len] at h; exact h)) : Int) := by simp [szsK]
theorem szsK_take_succ (l : List Lk) (k : Nat) (h : k < l.length) : szsK (l.take (k + 1)) = szsK (l.take k) ++ [(szK l[k] : Int)] := by
  unfold szsK
  rw [List.take_succ_eq_append_getElem h, List.map_append]; rfl
/-- What the list of sizes holds when k are laid. -/
def szAtK (l : List Lk) (k : Nat) : List Value := ints (szsK (l.take k)) ++ List.replicate (l.length - k) (.int .i64 0)
theorem szAtK_set (l : List Lk) (k : Nat) (h : k < l.length) : (szAtK l k).set k (.int .i64 (szK l[k] : Int)) = szAtK l (k + 1) := by
  have hl : (ints (szsK (l.take k))).length = k := by rw [ints_length, szsK_len, List.length_take]; omega
  unfold szAtK
  rw [List.set_append_right _ _ (by omega), hl, Nat.sub_self, szsK_take_succ l k h, ints_append, show l.length - k = l.length - (k + 1) + 1 by omega, List.replicate_succ, List.set_cons_zero, List.append_assoc]
  rfl
theorem szAtK_len (l : List Lk) (k : Nat) (h : k ≤ l.length) : (szAtK l k).length = l.length := by
  unfold szAtK; rw [List.length_append, ints_length, szsK_len, List.length_take, List.length_replicate]; omega
theorem szAtK_zero (l : List Lk) : szAtK l 0 = List.replicate l.length (.int .i64 0) := by simp [szAtK, ints, szsK]
theorem szAtK_all (l : List Lk) : szAtK l l.length = ints (szsK l) := by simp [szAtK]
theorem own_below {w w' : World} {base e n : Nat} {v : Value} {xs : List Value} (h : w.ownsRow base e 1 v n xs) (hb : Below w.heap.size w w') : w'.ownsRow base e 1 v n xs := by
  refine ⟨h.1, ?_⟩
  rcases h.2 with h' | ⟨g, cap, cur, h', h1, h2, hr⟩
  · exact .inl h'
  · refine .inr ⟨g, cap, cur, h', h1, ?_, hr⟩
    have hg : g < w.heap.size := by
      rcases Nat.lt_or_ge g w.heap.size with h' | h'
      · exact h'
      · rw [Array.getElem?_eq_none h'] at h2; cases h2
    rw [hb.block g hg]; exact h2

set_option maxHeartbeats 1000000 in
theorem bsizes_any (v : Value) (l : List Lk) (w : World) (hok : OkK l) (hm : l.length ≤ 5864062014805) (hr : LkR w v l) :
    Calls Tryd.prog 42 #[v] w fun e w' => ∃ u, e = .returned u ∧ IntR w' u (szsK l) ∧ Below w.heap.size w w' := by
  obtain ⟨i0, hi, hz, hsz, hby⟩ := info_parts info3
  obtain ⟨a, cap, rfl, hcap, _, hc⟩ := hr
  have HC := hide hc
  have HOK := hide hok
  obtain ⟨wm, hmk, hown0, hg0⟩ := run_make_full (P := Tryd.prog) w w.heap.size 75 3 i0 _ 1 Tryd.underlying75 hi hz hsz .i64 .i64 l.length (by rw [hby]; omega) (by unfold maxLen; omega) (Nat.le_refl _)
  have hz0 : (madeCells (Value.int .i64 0).cells (l.length * 1)).toList = szAtK l 0 := by
    rw [szAtK_zero, Nat.mul_one]; exact toList_madeCells_one _ _
  rw [hz0] at hown0
  have hbm : Below w.heap.size w wm := (Below.refl _ _).grown hg0 (Nat.le_refl _) (fun j hj => by cases hj)
  obtain ⟨n, hn⟩ : ∃ n, n = l.length := ⟨_, rfl⟩
  obtain ⟨b, hb⟩ : ∃ b, b = w.heap.size := ⟨_, rfl⟩
  rw [← hn] at hm hmk hown0 ⊢
  rw [← hb] at hmk hown0
  have HN := hide hn
  have HB := hide hb
  have HO := hide hown0
  have HBM := hide hbm
  clear hc hn hcap hok hb hown0 hbm hg0 hi hz hsz hby hz0
  go_enter Tryd.func42, Tryd.ntmps42
  go_wp2
  clear hmk
  go_loopw [11] (fun i wr => ∃ k : Nat, k ≤ n ∧ i = .int .i64 k ∧ wr.ownsRow b 3 1 (.slice (some ⟨b, 0, none⟩) n n) n (szAtK l k) ∧ Below w.heap.size w wr) (fun i _ => n - (intOf i).toNat)
  case atStart => exact ⟨0, Nat.zero_le _, rfl, HO.out, HBM.out⟩
  case round =>
    obtain ⟨k, hk, rfl, hown, hbw⟩ := hrel
    clear HO HBM
    by_cases hlt : k < n
    · have hkl : k < l.length := by have := HN.out; omega
      obtain ⟨g, o, rfl, f1, f2⟩ := HC.out k hkl
      have c1 : wr.cell? ⟨g, o + k * 2, none⟩ = some (.string l[k].1) := (hbw.cell (p := ⟨g, o + k * 2, none⟩) (World.block_lt_of_cell? w _ f1)).trans f1
      have c2 : wr.cell? ⟨g, o + k * 2 + 1, none⟩ = some (.int .i64 l[k].2) := (hbw.cell (p := ⟨g, o + k * 2 + 1, none⟩) (World.block_lt_of_cell? w _ f2)).trans f2
      have hp0 := HOK.out l[k] (List.getElem_mem _)
      have HSET := hide (szAtK_set l k hkl)
      have hbn := below_new wr (.cells #[.string l[k].1, .int .i64 l[k].2] 54)
      have HO1 := hide (own_below hown hbn)
      have HB1 := hide (Below.next hbw hbn)
      have HZ := hide (fun W => bsizeOf_any l[k] W hp0)
      obtain ⟨p, hp⟩ : ∃ p, p = l[k] := ⟨_, rfl⟩
      rw [← hp] at c1 c2 HSET HO1 HB1 HZ
      have HLEN := hide (szAtK_len l k (by omega))
      have hltI : (k : Int) < (n : Int) := by omega
      have j0 : (0 : Int) ≤ (k : Int) := by omega
      clear hp HC f1 f2 hbw hown hp0 hbn
      go_wp2_with fail
      refine (HZ.out _).mono ?_
      rintro e w1 ⟨rfl, hb1⟩
      have ho1 := own_below HO1.out hb1
      have q1 : ∃ u, w1.cell? ⟨b, k, none⟩ = some u := by
        rw [World.ownsRow.cellAt ho1 k (by omega)]
        exact ⟨_, List.getElem?_eq_getElem (by rw [HLEN.out]; exact hkl)⟩
      obtain ⟨u, q1⟩ := q1
      have z1 : w1.frozen? ⟨b, k, none⟩ = false := World.ownsRow.frozenAt ho1 k
      obtain ⟨z, hz⟩ : ∃ z, z = szK p := ⟨_, rfl⟩
      rw [← hz] at HSET ⊢
      have hst := (World.ownsRow.stored ho1 k (.int .i64 (z : Int))).1
      rw [HSET.out] at hst
      have HO2 := hide hst
      have HB2 : Hid (Below w.heap.size w (w1.setCell ⟨b, k, none⟩ (.int .i64 (z : Int)))) := (Below.next HB1.out hb1).setCell (by rw [HB.out]; exact Nat.le_refl _) _
      clear hb1 HB1 HZ c1 c2 ho1 hst hz HSET HO1
      go_wp2
      go_roundw
      case rel => exact ⟨k + 1, by omega, by go_num, HO2.out, HB2.out⟩
      case measure => simp [intOf]; omega
    · have hkn : k = l.length := by have := HN.out; omega
      rw [hkn, szAtK_all] at hown
      have HI := hide (rowR_of_owns hown).ints
      have HBW := hide hbw
      have hltI : ¬ (k : Int) < (n : Int) := by have := HN.out; omega
      have HKN := hide hkn
      clear HC hbw hown hkn
      go_wp2
      go_ret
      exact ⟨_, rfl, HI.out, HBW.out⟩

set_option maxHeartbeats 1000000 in
theorem kclone_some (ad : Addr) (n cap : Nat) (l : List Lk) (w : World) (hm : l.length ≤ 5864062014805) (hn : l.length = n) (hr : LkR w (.slice (some ad) n cap) l) :
    Calls Tryd.prog 43 #[.slice (some ad) n cap] w fun e w' => ∃ u, e = .returned u ∧ LkO w' w.heap.size u l ∧ Below w.heap.size w w' := by
  have hnil : ∀ w, (binOp .eql 28 (.slice (some ad) n cap) (.slice none 0 0)).run Tryd.prog w = .ok (.bool false) w := fun w => by
    have h2 : ∀ d : Nat, (Op.equalIn (d + 1) 28 (.slice (some ad) n cap) (.slice none 0 0)).run Tryd.prog w = .ok false w := fun d => by
      simp [Op.equalIn, run_underlying Tryd.underlying28]
    simp only [binOp]
    simp [Op.equal, Op.maxDepth, h2 9999]
  have hbn := below_new w (.cells #[] 54)
  have ho : LkO (w.alloc (.cells #[] 54)) w.heap.size (.slice (some ⟨w.heap.size, 0, none⟩) 0 0) [] := World.ownsRow_lit w #[] 0 (Nat.le_refl _) (Nat.zero_le _) rfl
  obtain ⟨a1, c1, w1, hrun, hown, hg⟩ := append_lks w.heap.size _ _ [] l _ ho (hr.below hbn) (by simp; omega) (by simp)
  rw [List.length_nil, Nat.zero_add, hn] at hrun hown
  rw [List.nil_append] at hown
  have hb1 : Below w.heap.size w w1 := hbn.grown hg (by simp) (fun k hk => by simp [Value.ownBlock] at hk; omega)
  have HO := hide hown
  have HB := hide hb1
  clear hr hbn ho hown hg hb1
  go_enter Tryd.func43, Tryd.ntmps43
  go_wp2_with (first | (at_builtin; refine wpList_append_run 28 rfl (.tmp 5) (.tmp 6) rfl rfl _ _ rfl rfl _ _ hrun ?_))
  clear hrun
  go_ret
  exact ⟨_, rfl, HO.out, HB.out⟩


theorem kclone_any (v : Value) (l : List Lk) (w : World) (hm : l.length ≤ 5864062014805) (hr : LkR w v l) :
    Calls Tryd.prog 43 #[v] w fun e w' => ∃ u, e = .returned u ∧ LkO w' w.heap.size u l ∧ Below w.heap.size w w' := by
  obtain ⟨a, c, hv⟩ := hr.form
  subst hv
  cases a with
  | some ad => exact kclone_some ad l.length c l w hm rfl hr
  | none =>
    have h0 : l = [] ∧ c = 0 := by
      obtain ⟨a', c', he, _, hn, hc⟩ := hr
      cases he
      refine ⟨?_, hn rfl⟩
      cases l with
      | nil => rfl
      | cons p r => obtain ⟨g, o, he, _⟩ := hc 0 (by simp); cases he
    obtain ⟨rfl, rfl⟩ := h0
    have hnil : ∀ w, (binOp .eql 28 (.slice none 0 0) (.slice none 0 0)).run Tryd.prog w = .ok (.bool true) w := fun w => by
      have h2 : ∀ d : Nat, (Op.equalIn (d + 1) 28 (.slice none 0 0) (.slice none 0 0)).run Tryd.prog w = .ok true w := fun d => by
        simp [Op.equalIn, run_underlying Tryd.underlying28]
      simp only [binOp]
      simp [Op.equal, Op.maxDepth, h2 9999]
    clear hr
    rw [List.length_nil]
    go_enter Tryd.func43, Tryd.ntmps43
    go_wp2
    go_ret
    exact ⟨_, rfl, LkO.nil _ _, Below.refl _ _⟩

end Go.Proofs.YtagldlchamlpdabDoor
