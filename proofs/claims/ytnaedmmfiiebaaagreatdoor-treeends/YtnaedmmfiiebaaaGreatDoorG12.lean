import Derived.Test.YtnaedmmfiiebaaaGreatDoorG11
import Derived.Test.YtnaedmmfiiebaaaGreatDoorG10
import Derived.Deep.RegionHeld3
import Derived.Test.YtnaedmmfiiebaaaGreatDoorG00
import Derived.Test.YtnaedmmfiiebaaaGreatDoorG07
import Derived.Test.YtnaedmmfiiebaaaGreatDoorG02
import Derived.Test.YtnaedmmfiiebaaaGreatDoorG05
namespace Go.Proofs.YtnaedmmfiiebaaaGreatDoor
open Go.RowKit

set_option maxRecDepth 20000 in
theorem slTo (w : World) (a : Option Addr) (n cap m : Nat) (hm : m ≤ cap) : (Instr.sliceAt 63 (.slice a n cap) none (some (.int .i64 (m : Int))) none).run Tryz.prog w = .ok (.slice a m cap) w := by
  rw [run_sliceAt_slice (h := Tryz.underlying63), run_slice_h (ht := Tryz.underlying63) (h0 := by omega) (h2 := by omega)]
  have hz : (sizeOf (Tryz.prog.elem 63)).run Tryz.prog w = .ok 2 w := by kernel_rfl
  rw [hz]
  simp [Result.andThen, sliced, Addr.add]
set_option maxRecDepth 20000 in
theorem PrR.drop {w : World} {a : Option Addr} {n m cap : Nat} {l : List Pr} (h : PrR w (.slice a n cap) l) (hm : m ≤ n) :
    ∃ a', PrR w (.slice a' (n - m) (cap - m)) (l.drop m) ∧ ∀ w', (Instr.sliceAt 63 (.slice a n cap) (some (.int .i64 (m : Int))) none none).run Tryz.prog w' = .ok (.slice a' (n - m) (cap - m)) w' := by
  obtain ⟨a', cap', he, hle, hn, hc⟩ := h
  cases he
  refine ⟨if cap = m then a else a.map (·.add (m * 2)), ⟨_, _, by rw [List.length_drop], by rw [List.length_drop]; omega, fun ha => ?_, fun j hj => ?_⟩, fun w' => ?_⟩
  · split at ha
    · omega
    · cases a with
      | none => have := hn rfl; omega
      | some x => cases ha
  · rw [List.length_drop] at hj
    obtain ⟨g, o, ha, h1, h2⟩ := hc (m + j) (by omega)
    subst ha
    refine ⟨g, o + m * 2, ?_, ?_, ?_⟩
    · rw [if_neg (by omega)]; simp [add_plain']
    · rw [List.getElem_drop, show o + m * 2 + j * 2 = o + (m + j) * 2 by omega]; exact h1
    · rw [List.getElem_drop, show o + m * 2 + j * 2 + 1 = o + (m + j) * 2 + 1 by omega]; exact h2
  · rw [run_sliceAt_slice (h := Tryz.underlying63), run_slice_l (ht := Tryz.underlying63) (h0 := by omega) (h1 := by omega)]
    have hz : (sizeOf (Tryz.prog.elem 63)).run Tryz.prog w' = .ok 2 w' := by kernel_rfl
    rw [hz]
    simp [Result.andThen, sliced]

set_option maxHeartbeats 1000000 in
theorem lset_any (v : Value) (l : List Pr) (key value : ByteArray) (w : World) (hm : l.length ≤ 4398046511000) (hr : PrR w v l) :
    Calls Tryz.prog 48 #[v, .string key, .string value] w fun e w' => ∃ u, e = .returned u ∧ PrO w' w.heap.size u (setL l key value) ∧ Below w.heap.size w w' := by
  have HF := hide (lfind_any v l key w (by omega) hr)
  have HR := hide hr
  obtain ⟨a, cap, hv⟩ := hr.form
  subst hv
  have hfl := findN_le l key
  have hbl := behindN_le l key
  have hqr := behindN_ge l key
  have hcap : l.length ≤ cap := by obtain ⟨_, _, he, h, _⟩ := hr; cases he; exact h
  obtain ⟨q, hq⟩ : ∃ q, q = findN l key := ⟨_, rfl⟩
  obtain ⟨r, hrr⟩ : ∃ r, r = behindN l key := ⟨_, rfl⟩
  obtain ⟨fb, hfb⟩ : ∃ fb, fb = foundB l key := ⟨_, rfl⟩
  have hbe : (if fb then q + 1 else q : Nat) = r := by rw [hrr, hq, hfb]; rfl
  have HBE := hide (fun W => behind_any q fb W (by omega))
  rw [hbe] at HBE
  rw [← hq, ← hfb] at HF
  rw [← hq] at hfl
  rw [← hrr] at hbl
  rw [← hq, ← hrr] at hqr
  obtain ⟨a2, hr2, hsl2⟩ := hr.drop hbl
  have hsl1 := fun W => slTo W a l.length cap q (by omega)
  have HR1 := hide (hr.take hfl)
  have HR2 := hide hr2
  have HL : Hid (setL l key value = [l.take q, [(key, value)], l.drop r].flatten) := by show _ = _; unfold setL; rw [← hq, ← hrr]; simp
  clear hr hr2 hq hrr hfb hbe
  go_enter Tryz.func48, Tryz.ntmps48
  go_wp2_with fail
  refine HF.out.mono ?_
  rintro e w1 ⟨rfl, hb1⟩
  have HB1 := hide hb1
  clear hb1 HF
  have HCC : Hid (∀ W, Below ((w1.alloc (.cells #[.string key, .string value] 52)).alloc (.cells #[.slice a q cap, .slice (some ⟨w1.heap.size, 0, none⟩) 1 1, .slice a2 (l.length - r) (cap - r)] 63)).heap.size ((w1.alloc (.cells #[.string key, .string value] 52)).alloc (.cells #[.slice a q cap, .slice (some ⟨w1.heap.size, 0, none⟩) 1 1, .slice a2 (l.length - r) (cap - r)] 63)) W →
      Calls Tryz.prog 84 #[.slice (some ⟨w1.heap.size + 1, 0, none⟩) 3 3] W fun e w' => ∃ u, e = .returned u ∧ PrO w' w.heap.size u (setL l key value) ∧ Below w.heap.size w w') := fun W hW => by
    have hbA := below_new w1 (.cells #[.string key, .string value] 52)
    have hsA : (w1.alloc (.cells #[.string key, .string value] 52)).heap.size = w1.heap.size + 1 := by simp
    have hlit := prR_lit w1 (key, value) 52
    generalize w1.alloc (.cells #[.string key, .string value] 52) = WA at *
    have hbB := below_new WA (.cells #[.slice a q cap, .slice (some ⟨w1.heap.size, 0, none⟩) 1 1, .slice a2 (l.length - r) (cap - r)] 63)
    have hBx := (boxed_new WA #[.slice a q cap, .slice (some ⟨w1.heap.size, 0, none⟩) 1 1, .slice a2 (l.length - r) (cap - r)] 63).below hW
    rw [hsA] at hBx
    have h1W := Below.next (Below.next HB1.out hbA) (Below.next hbB hW)
    rw [HL.out]
    refine (concat_any (w1.heap.size + 1) 3 3 [.slice a q cap, .slice (some ⟨w1.heap.size, 0, none⟩) 1 1, .slice a2 (l.length - r) (cap - r)] [l.take q, [(key, value)], l.drop r] W rfl (by decide) rfl ?_ (fun j h => hBx.2 j h) ?_).mono ?_
    · simp; omega
    · intro j h h'
      have hj : j < 3 := h
      match j, hj with
      | 0, _ => exact HR1.out.below h1W
      | 1, _ => exact hlit.below (Below.next hbB hW)
      | 2, _ => exact HR2.out.below h1W
    · rintro e w' ⟨u, rfl, ho, hb⟩
      exact ⟨u, rfl, ho.mono h1W.size, Below.next h1W hb⟩
  clear HR HR1 HR2 HL HB1
  go_wp2_with fail
  go_region_held3 (fun w' => True) (go_keep)
    (first
      | (go_at_call 85; refine (HBE.out _).mono ?_; rintro e w2 ⟨rfl, rfl⟩)
      | (go_at_call 84; refine (HCC.out _ ?_).mono ?_; (exact (Below.refl _ _).drew); rintro e w3 ⟨u, rfl, ho, hb⟩; have HO := hide ho; have HB := hide hb; clear ho hb))
  all_goals
    clear HCC HBE hsl1 hsl2
    go_wp2
    go_ret
    exact ⟨_, rfl, HO.out, HB.out⟩

set_option maxRecDepth 20000 in
set_option maxHeartbeats 1000000 in
theorem ldrop_any (v : Value) (l : List Pr) (key : ByteArray) (w : World) (hm : l.length ≤ 4398046511000) (hr : PrR w v l) :
    Calls Tryz.prog 51 #[v, .string key] w fun e w' => ∃ u, e = .returned (.tuple #[u, .bool (foundB l key)]) ∧ PrO w' w.heap.size u (dropL l key) ∧ Below w.heap.size w w' := by
  have HF := hide (lfind_any v l key w (by omega) hr)
  have HR := hide hr
  obtain ⟨a, cap, hv⟩ := hr.form
  subst hv
  have hfl := findN_le l key
  have hbl := behindN_le l key
  have hqr := behindN_ge l key
  have hcap : l.length ≤ cap := by obtain ⟨_, _, he, h, _⟩ := hr; cases he; exact h
  obtain ⟨q, hq⟩ : ∃ q, q = findN l key := ⟨_, rfl⟩
  obtain ⟨r, hrr⟩ : ∃ r, r = behindN l key := ⟨_, rfl⟩
  obtain ⟨fb, hfb⟩ : ∃ fb, fb = foundB l key := ⟨_, rfl⟩
  have hbe : (if fb then q + 1 else q : Nat) = r := by rw [hrr, hq, hfb]; rfl
  have HBE := hide (fun W => behind_any q fb W (by omega))
  rw [hbe] at HBE
  rw [← hq, ← hfb] at HF
  rw [← hfb]
  rw [← hq] at hfl
  rw [← hrr] at hbl
  rw [← hq, ← hrr] at hqr
  obtain ⟨a2, hr2, hsl2⟩ := hr.drop hbl
  have hsl1 := fun W => slTo W a l.length cap q (by omega)
  have HR1 := hide (hr.take hfl)
  have HR2 := hide hr2
  have HL : Hid (dropL l key = [l.take q, l.drop r].flatten) := by show _ = _; unfold dropL; rw [← hq, ← hrr]; simp
  clear hr hr2 hq hrr hfb hbe
  go_enter Tryz.func51, Tryz.ntmps51
  go_wp2_with fail
  refine HF.out.mono ?_
  rintro e w1 ⟨rfl, hb1⟩
  have HB1 := hide hb1
  clear hb1 HF
  have HCC : Hid (∀ W, Below (w1.alloc (.cells #[.slice a q cap, .slice a2 (l.length - r) (cap - r)] 63)).heap.size (w1.alloc (.cells #[.slice a q cap, .slice a2 (l.length - r) (cap - r)] 63)) W →
      Calls Tryz.prog 84 #[.slice (some ⟨w1.heap.size, 0, none⟩) 2 2] W fun e w' => ∃ u, e = .returned u ∧ PrO w' w.heap.size u (dropL l key) ∧ Below w.heap.size w w') := fun W hW => by
    have hbB := below_new w1 (.cells #[.slice a q cap, .slice a2 (l.length - r) (cap - r)] 63)
    have hBx := (boxed_new w1 #[.slice a q cap, .slice a2 (l.length - r) (cap - r)] 63).below hW
    have h1W := Below.next HB1.out (Below.next hbB hW)
    rw [HL.out]
    refine (concat_any w1.heap.size 2 2 [.slice a q cap, .slice a2 (l.length - r) (cap - r)] [l.take q, l.drop r] W rfl (by decide) rfl ?_ (fun j h => hBx.2 j h) ?_).mono ?_
    · simp; omega
    · intro j h h'
      have hj : j < 2 := h
      match j, hj with
      | 0, _ => exact HR1.out.below h1W
      | 1, _ => exact HR2.out.below h1W
    · rintro e w' ⟨u, rfl, ho, hb⟩
      exact ⟨u, rfl, ho.mono h1W.size, Below.next h1W hb⟩
  clear HR HR1 HR2 HL HB1
  go_wp2_with fail
  go_region_held3 (fun w' => True) (go_keep)
    (first
      | (go_at_call 85; refine (HBE.out _).mono ?_; rintro e w2 ⟨rfl, rfl⟩)
      | (go_at_call 84; refine (HCC.out _ ?_).mono ?_; (exact (Below.refl _ _).drew); rintro e w3 ⟨u, rfl, ho, hb⟩; have HO := hide ho; have HB := hide hb; clear ho hb))
  all_goals
    clear HCC HBE hsl1 hsl2
    go_wp2
    go_ret2
    exact ⟨_, rfl, HO.out, HB.out⟩

end Go.Proofs.YtnaedmmfiiebaaaGreatDoor

namespace Go.Proofs.YtnaedmmfiiebaaaGreatDoor
open Go.RowKit

def szs (l : List Pr) : List Int := l.map fun p => (szP p : Int)
theorem szs_len (l : List Pr) : (szs l).length = l.length := by simp [szs]
theorem szs_take_succ (l : List Pr) (k : Nat) (h : k < l.length) : szs (l.take (k + 1)) = szs (l.take k) ++ [(szP l[k] : Int)] := by
  unfold szs
  rw [List.take_succ_eq_append_getElem h, List.map_append]; rfl
/-- What the list of sizes holds when k are laid. -/
def szAt (l : List Pr) (k : Nat) : List Value := ints (szs (l.take k)) ++ List.replicate (l.length - k) (.int .i64 0)
theorem szAt_set (l : List Pr) (k : Nat) (h : k < l.length) : (szAt l k).set k (.int .i64 (szP l[k] : Int)) = szAt l (k + 1) := by
  have hl : (ints (szs (l.take k))).length = k := by rw [ints_length, szs_len, List.length_take]; omega
  unfold szAt
  rw [List.set_append_right _ _ (by omega), hl, Nat.sub_self, szs_take_succ l k h, ints_append, show l.length - k = l.length - (k + 1) + 1 by omega, List.replicate_succ, List.set_cons_zero, List.append_assoc]
  rfl
theorem szAt_len (l : List Pr) (k : Nat) (h : k ≤ l.length) : (szAt l k).length = l.length := by
  unfold szAt; rw [List.length_append, ints_length, szs_len, List.length_take, List.length_replicate]; omega
theorem szAt_zero (l : List Pr) : szAt l 0 = List.replicate l.length (.int .i64 0) := by simp [szAt, ints, szs]
theorem szAt_all (l : List Pr) : szAt l l.length = ints (szs l) := by simp [szAt]
theorem own_below {w w' : World} {base e n : Nat} {v : Value} {xs : List Value} (h : w.ownsRow base e 1 v n xs) (hb : Below w.heap.size w w') : w'.ownsRow base e 1 v n xs := by
  refine ⟨h.1, ?_⟩
  rcases h.2 with h' | ⟨g, cap, cur, h', h1, h2, hr⟩
  · exact .inl h'
  · refine .inr ⟨g, cap, cur, h', h1, ?_, hr⟩
    have hg : g < w.heap.size := by
      rcases Nat.lt_or_ge g w.heap.size with h' | h'
      · exact h'
      · rw [Array.getElem?_eq_none h'] at h2; cases h2
    rw [hb.block g hg]; exact h2

set_option maxHeartbeats 1000000 in
theorem sizesOf_any (v : Value) (l : List Pr) (w : World) (hok : OkL l) (hm : l.length ≤ 4398046511104) (hr : PrR w v l) :
    Calls Tryz.prog 211 #[v] w fun e w' => ∃ u, e = .returned u ∧ IntR w' u (szs l) ∧ Below w.heap.size w w' := by
  obtain ⟨i0, hi, hz, hsz, hby⟩ := info_parts info3
  obtain ⟨a, cap, rfl, hcap, _, hc⟩ := hr
  have HC := hide hc
  have HOK := hide hok
  obtain ⟨wm, hmk, hown0, hg0⟩ := run_make_full (P := Tryz.prog) w w.heap.size 69 3 i0 _ 1 Tryz.underlying69 hi hz hsz .i64 .i64 l.length (by rw [hby]; omega) (by unfold maxLen; omega) (Nat.le_refl _)
  have hz0 : (madeCells (Value.int .i64 0).cells (l.length * 1)).toList = szAt l 0 := by
    rw [szAt_zero, Nat.mul_one]; exact toList_madeCells_one _ _
  rw [hz0] at hown0
  have hbm : Below w.heap.size w wm := (Below.refl _ _).grown hg0 (Nat.le_refl _) (fun j hj => by cases hj)
  obtain ⟨n, hn⟩ : ∃ n, n = l.length := ⟨_, rfl⟩
  obtain ⟨b, hb⟩ : ∃ b, b = w.heap.size := ⟨_, rfl⟩
  rw [← hn] at hm hmk hown0 ⊢
  rw [← hb] at hmk hown0
  have HN := hide hn
  have HB := hide hb
  have HO := hide hown0
  have HBM := hide hbm
  clear hc hn hcap hok hb hown0 hbm hg0 hi hz hsz hby hz0
  go_enter Tryz.func211, Tryz.ntmps211
  go_wp2
  clear hmk
  go_loopw [11] (fun i wr => ∃ k : Nat, k ≤ n ∧ i = .int .i64 k ∧ wr.ownsRow b 3 1 (.slice (some ⟨b, 0, none⟩) n n) n (szAt l k) ∧ Below w.heap.size w wr) (fun i _ => n - (intOf i).toNat)
  case atStart => exact ⟨0, Nat.zero_le _, rfl, HO.out, HBM.out⟩
  case round =>
    obtain ⟨k, hk, rfl, hown, hbw⟩ := hrel
    clear HO HBM
    by_cases hlt : k < n
    · have hkl : k < l.length := by have := HN.out; omega
      obtain ⟨g, o, rfl, f1, f2⟩ := HC.out k hkl
      have c1 : wr.cell? ⟨g, o + k * 2, none⟩ = some (.string l[k].1) := (hbw.cell (p := ⟨g, o + k * 2, none⟩) (World.block_lt_of_cell? w _ f1)).trans f1
      have c2 : wr.cell? ⟨g, o + k * 2 + 1, none⟩ = some (.string l[k].2) := (hbw.cell (p := ⟨g, o + k * 2 + 1, none⟩) (World.block_lt_of_cell? w _ f2)).trans f2
      have hp0 := HOK.out l[k] (List.getElem_mem _)
      have HSET := hide (szAt_set l k hkl)
      have hbn := below_new wr (.cells #[.string l[k].1, .string l[k].2] 52)
      have HO1 := hide (own_below hown hbn)
      have HB1 := hide (Below.next hbw hbn)
      have HZ := hide (fun W => lsizeOf_any l[k] W hp0.1 hp0.2)
      obtain ⟨p, hp⟩ : ∃ p, p = l[k] := ⟨_, rfl⟩
      rw [← hp] at c1 c2 HSET HO1 HB1 HZ
      have HLEN := hide (szAt_len l k (by omega))
      have hltI : (k : Int) < (n : Int) := by omega
      have j0 : (0 : Int) ≤ (k : Int) := by omega
      clear hp HC f1 f2 hbw hown hp0 hbn
      go_wp2_with fail
      refine (HZ.out _).mono ?_
      rintro e w1 ⟨rfl, hb1⟩
      have ho1 := own_below HO1.out hb1
      have q1 : ∃ u, w1.cell? ⟨b, k, none⟩ = some u := by
        rw [World.ownsRow.cellAt ho1 k (by omega)]
        exact ⟨_, List.getElem?_eq_getElem (by rw [HLEN.out]; exact hkl)⟩
      obtain ⟨u, q1⟩ := q1
      have z1 : w1.frozen? ⟨b, k, none⟩ = false := World.ownsRow.frozenAt ho1 k
      obtain ⟨z, hz⟩ : ∃ z, z = szP p := ⟨_, rfl⟩
      rw [← hz] at HSET ⊢
      have hst := (World.ownsRow.stored ho1 k (.int .i64 (z : Int))).1
      rw [HSET.out] at hst
      have HO2 := hide hst
      have HB2 : Hid (Below w.heap.size w (w1.setCell ⟨b, k, none⟩ (.int .i64 (z : Int)))) := (Below.next HB1.out hb1).setCell (by rw [HB.out]; exact Nat.le_refl _) _
      clear hb1 HB1 HZ c1 c2 ho1 hst hz HSET HO1
      go_wp2
      go_roundw
      case rel => exact ⟨k + 1, by omega, by go_num, HO2.out, HB2.out⟩
      case measure => simp [intOf]; omega
    · have hkn : k = l.length := by have := HN.out; omega
      rw [hkn, szAt_all] at hown
      have HI := hide (rowR_of_owns hown).ints
      have HBW := hide hbw
      have hltI : ¬ (k : Int) < (n : Int) := by have := HN.out; omega
      have HKN := hide hkn
      clear HC hbw hown hkn
      go_wp2
      go_ret
      exact ⟨_, rfl, HI.out, HBW.out⟩

set_option maxHeartbeats 1000000 in
theorem clonep_any (ad : Addr) (n cap : Nat) (l : List Pr) (w : World) (hm : l.length ≤ 4398046511104) (hn : l.length = n) (hr : PrR w (.slice (some ad) n cap) l) :
    Calls Tryz.prog 212 #[.slice (some ad) n cap] w fun e w' => ∃ u, e = .returned u ∧ PrO w' w.heap.size u l ∧ Below w.heap.size w w' := by
  have hnil : ∀ w, (binOp .eql 63 (.slice (some ad) n cap) (.slice none 0 0)).run Tryz.prog w = .ok (.bool false) w := fun w => by
    have h2 : ∀ d : Nat, (Op.equalIn (d + 1) 63 (.slice (some ad) n cap) (.slice none 0 0)).run Tryz.prog w = .ok false w := fun d => by
      simp [Op.equalIn, run_underlying Tryz.underlying63]
    simp only [binOp]
    simp [Op.equal, Op.maxDepth, h2 9999]
  have hbn := below_new w (.cells #[] 52)
  have ho : PrO (w.alloc (.cells #[] 52)) w.heap.size (.slice (some ⟨w.heap.size, 0, none⟩) 0 0) [] := World.ownsRow_lit w #[] 0 (Nat.le_refl _) (Nat.zero_le _) rfl
  obtain ⟨a1, c1, w1, hrun, hown, hg⟩ := append_prs w.heap.size _ _ [] l _ ho (hr.below hbn) (by simp; omega) (by simp)
  rw [List.length_nil, Nat.zero_add, hn] at hrun hown
  rw [List.nil_append] at hown
  have hb1 : Below w.heap.size w w1 := hbn.grown hg (by simp) (fun k hk => by simp [Value.ownBlock] at hk; omega)
  have HO := hide hown
  have HB := hide hb1
  clear hr hbn ho hown hg hb1
  go_enter Tryz.func212, Tryz.ntmps212
  go_wp2_with (first | (at_builtin; refine wpList_append_run 63 rfl (.tmp 5) (.tmp 6) rfl rfl _ _ rfl rfl _ _ hrun ?_))
  clear hrun
  go_ret
  exact ⟨_, rfl, HO.out, HB.out⟩

/-- What the leaf's Cut answers. -/
def LCutV (A : Nat → Addr) (base : Nat) (l : List Pr) (e : Ending) (w : World) : Prop :=
  ∃ (i c : Nat) (u1 u2 ev : Value), e = .returned (.tuple #[u1, u2, ev]) ∧ CutN 2 (gapC (szs l)) (szs l) i c ∧ NumOf A ev c ∧
    ((c = 0 ∧ PrO w base u1 (l.take i) ∧ PrO w base u2 (l.drop i) ∧ ∀ k, u1.ownBlock = some k → u2.ownBlock ≠ some k) ∨ (c ≠ 0 ∧ u1 = .slice none 0 0 ∧ u2 = .slice none 0 0))
theorem CutN.bound {l : List Int} {i : Nat} (h : CutN 2 (gapC l) l i 0) : 1 ≤ i ∧ i + 1 ≤ l.length := by
  rcases h with ⟨_, _, h⟩ | ⟨_, _, _, h⟩ | ⟨h1, _, h2, _⟩
  · omega
  · omega
  · have := h2.1; omega
theorem undrewC {a b : World} (h : Below a.drew.heap.size a.drew b) : Below a.heap.size a b := ⟨h.os, h.tape, h.output, h.size, h.block⟩

theorem numOf_nil {A : Nat → Addr} {ev : Value} (h : NumOf A ev 0) : ev = .nilIface := by
  rcases h with ⟨h, _⟩ | ⟨_, h⟩ | ⟨_, h⟩ | ⟨_, h⟩ | ⟨_, h⟩
  · exact h
  all_goals omega
theorem numOf_err {A : Nat → Addr} {ev : Value} {c : Nat} (h : NumOf A ev c) (hc : c ≠ 0) : ∃ k, ev = .iface 360 (.pointer (some (A k))) := by
  rcases h with ⟨_, h⟩ | ⟨h, _⟩ | ⟨h, _⟩ | ⟨h, _⟩ | ⟨h, _⟩
  · omega
  all_goals exact ⟨_, h⟩

set_option maxRecDepth 20000 in
set_option maxHeartbeats 2000000 in
theorem lcut_any (A : Nat → Addr) (v : Value) (l : List Pr) (w : World) (hok : OkL l) (hm : l.length ≤ 4398046511104) (hr : PrR w v l) (hE : ErrC A w) :
    Calls Tryz.prog 169 #[v] w fun e w' => LCutV A w.heap.size l e w' ∧ Below w.heap.size w w' := by
  have HS := hide (sizesOf_any v l w hok hm hr)
  have HE := hide hE
  have HR := hide hr
  obtain ⟨a, cap, hv⟩ := hr.form
  subst hv
  have hcap : l.length ≤ cap := by obtain ⟨_, _, he, h, _⟩ := hr; cases he; exact h
  have HM := hide hm
  clear hr hE hm hok
  go_enter Tryz.func169, Tryz.ntmps169
  go_wp2_with fail
  refine HS.out.mono ?_
  rintro e w1 ⟨u, rfl, hint, hb1⟩
  have HC := hide (cut_any A u (szs l) w1 (by rw [szs_len]; have := HM.out; omega) hint (HE.out.below hb1).1)
  have HB1 := hide hb1
  clear hint hb1 HS
  go_wp2_with fail
  refine HC.out.mono ?_
  rintro e w2 ⟨hv, hb2⟩
  obtain ⟨i, c, ev, rfl, hcn, hno⟩ := hv.num
  have HB2 := hide (Below.next HB1.out hb2)
  have HCN := hide hcn
  have HNO := hide hno
  clear hv hb2 HC HB1
  by_cases hc : c = 0
  · subst hc
    have hev := numOf_nil hno
    subst hev
    obtain ⟨hi1, hi2⟩ := hcn.bound
    rw [szs_len] at hi2
    have hr2 := HR.out.below HB2.out
    have hnn : ∃ ad, a = some ad := by
      obtain ⟨a', c', he, _, _, hcc⟩ := hr2
      cases he
      obtain ⟨g, o, ha, _⟩ := hcc 0 (by omega)
      exact ⟨_, ha⟩
    obtain ⟨ad, rfl⟩ := hnn
    have hsl1 := fun W => slTo W (some ad) l.length cap i (by omega)
    obtain ⟨a2, hrd, hsl2⟩ := hr2.drop (m := i) (by omega)
    have hrt := hr2.take (m := i) (by omega)
    have hnd : ∃ ad2, a2 = some ad2 := by
      obtain ⟨a', c', he, _, _, hcc⟩ := hrd
      simp only [Value.slice.injEq] at he
      obtain ⟨rfl, _⟩ := he
      obtain ⟨g, o, ha, _⟩ := hcc 0 (by rw [List.length_drop]; omega)
      exact ⟨_, ha⟩
    obtain ⟨ad2, rfl⟩ := hnd
    have HC1 : Hid (∀ W, Below w2.heap.size w2 W → Calls Tryz.prog 212 #[.slice (some ad) i cap] W fun e w' => ∃ u, e = .returned u ∧ PrO w' W.heap.size u (l.take i) ∧ Below W.heap.size W w') := fun W h => clonep_any ad i cap (l.take i) W (by rw [List.length_take]; have := HM.out; omega) (by rw [List.length_take]; omega) (hrt.below h)
    have HC2 : Hid (∀ W, Below w2.heap.size w2 W → Calls Tryz.prog 212 #[.slice (some ad2) (l.length - i) (cap - i)] W fun e w' => ∃ u, e = .returned u ∧ PrO w' W.heap.size u (l.drop i) ∧ Below W.heap.size W w') := fun W h => clonep_any ad2 (l.length - i) (cap - i) (l.drop i) W (by rw [List.length_drop]; have := HM.out; omega) (by rw [List.length_drop]) (hrd.below h)
    clear hr2 hrd hrt hcn hno
    go_wp2_with fail
    go_region_held3 (fun w' => True) (go_keep)
      (first
        | (go_at_call 212; refine (HC1.out _ ?_).mono ?_; (first | exact HBW2.out | exact (Below.refl _ _).drew); rintro e W1 ⟨u1, rfl, ho1, hb1⟩; have HO1 := hide ho1; have HBS1 := hide hb1; have HBW1 : Hid (Below w2.heap.size w2 W1) := (by first | exact Below.next HBW2.out hb1 | exact undrewC hb1); clear ho1 hb1)
        | (go_at_call 212; refine (HC2.out _ ?_).mono ?_; (first | exact HBW1.out | exact (Below.refl _ _).drew); rintro e W2 ⟨u2, rfl, ho2, hb2⟩; have HO2 := hide ho2; have HBS2 := hide hb2; have HBW2 : Hid (Below w2.heap.size w2 W2) := (by first | exact Below.next HBW1.out hb2 | exact undrewC hb2); clear ho2 hb2))
    all_goals
      clear HC1 HC2 hsl1 hsl2
      go_wp2
      go_ret3
    · refine ⟨⟨i, 0, u1, u2, .nilIface, rfl, HCN.out, .inl ⟨rfl, rfl⟩, .inl ⟨rfl, (HO1.out.below HBS2.out).mono HB2.out.size, HO2.out.mono HBW1.out.size |>.mono HB2.out.size, fun k h1 h2 => ?_⟩⟩, Below.next HB2.out HBW2.out⟩
      have a1 := HO1.out.blk k h1
      have a2 := HO2.out.blk k h2
      omega
  · obtain ⟨k, rfl⟩ := numOf_err hno hc
    have hnn := fun W => iface_ne_nil (some (A k)) W
    have HCZ := hide hc
    clear hcn hno hc
    go_wp2
    go_ret3
    exact ⟨⟨i, c, _, _, _, rfl, HCN.out, HNO.out, .inr ⟨HCZ.out, rfl, rfl⟩⟩, HB2.out⟩

end Go.Proofs.YtnaedmmfiiebaaaGreatDoor

namespace Go.Proofs.YtnaedmmfiiebaaaGreatDoor.T
open Go.RowKit

/-- Two new nodes, and a key between them. -/
def New2 (w : World) (a : SN) (key : ByteArray) (b : SN) (e : Ending) (w' : World) : Prop := ∃ ba bb pa la ca pb lb cb, e = .returned (.tuple #[.pointer (some ⟨ba, 0, none⟩), .string key, .pointer (some ⟨bb, 0, none⟩)]) ∧ SNR w' ba a pa la ca ∧ SNR w' bb b pb lb cb ∧ Below w.heap.size w w'
theorem New2.drew {w : World} {a b : SN} {key : ByteArray} {e : Ending} {w' : World} (h : New2 w a key b e w') : New2 w a key b e w'.drew := by
  obtain ⟨ba, bb, pa, la, ca, pb, lb, cb, h1, h2, h3, h4⟩ := h
  exact ⟨ba, bb, pa, la, ca, pb, lb, cb, h1, ⟨h2.row, h2.prs, h2.lks, h2.kids, h2.fine⟩, ⟨h3.row, h3.prs, h3.lks, h3.kids, h3.fine⟩, B.below_drewB h4⟩
set_option maxRecDepth 20000 in
set_option maxHeartbeats 4000000 in
theorem ncut_leaf (A : Nat → Addr) (b : Nat) (n : SN) (pv lv cv : Value) (w : World) (h : SNR w b n pv lv cv) (h0 : n.us.length = 0) (h2 : 2 ≤ n.ps.length) (hE : ErrC A w) :
    Calls Tryz.prog 129 #[.pointer (some ⟨b, 0, none⟩)] w fun e w' => ∃ (i : Nat) (k v : ByteArray), IsBest (gapC (szsN n.ps)) ((szsN n.ps).length - 1) i ∧ n.ps[i]? = some (k, v) ∧ New2 w ⟨n.ps.take i, 0, [], []⟩ k ⟨n.ps.drop i, 0, [], []⟩ e w' := by
  have HL := hide (isleaf_any b n pv lv cv w h)
  rw [show decide (n.us.length = 0) = true by simp [h0]] at HL
  have HCUT : Hid (Calls Tryz.prog 169 #[pv] w fun e w' => ∃ (i : Nat) (u1a u2a : Option Addr) (u1c u2c : Nat), e = .returned (.tuple #[.slice u1a (n.ps.take i).length u1c, .slice u2a (n.ps.drop i).length u2c, .nilIface]) ∧ IsBest (gapC (szsN n.ps)) ((szsN n.ps).length - 1) i ∧ PrR w' (.slice u1a (n.ps.take i).length u1c) (n.ps.take i) ∧ PrR w' (.slice u2a (n.ps.drop i).length u2c) (n.ps.drop i) ∧ Below w.heap.size w w') := by
    refine (lcut_any A pv n.ps w h.okL (by have := h.fine.2.1; omega) h.prs hE).mono fun e w' hh => ?_
    obtain ⟨⟨i, cc, u1, u2, ev, h1, hcn, hno, h3⟩, hb⟩ := hh
    have hfine : FineL (szs n.ps) := fun j hj => by
      have hj' : j < n.ps.length := by simpa [szs] using hj
      have := may_parts' (h.fine.1 n.ps[j] (List.getElem_mem hj'))
      simp only [szs, List.getElem_map]; unfold szP; omega
    have hlen : (szs n.ps).length = n.ps.length := by simp [szs]
    rcases hcn with ⟨g1, _, _⟩ | ⟨_, g1, _⟩ | ⟨_, _, hbest, hc0⟩
    · rw [hlen] at g1; omega
    · exact absurd hfine g1
    · subst hc0
      rcases h3 with ⟨_, o1, o2, _⟩ | ⟨hne, _⟩
      · have hev := numOf_nil hno
        subst hev
        obtain ⟨a1, c1, e1⟩ := o1.form
        obtain ⟨a2, c2, e2⟩ := o2.form
        subst e1 e2
        exact ⟨i, a1, a2, c1, c2, h1, hbest, o1.at, o2.at, hb⟩
      · exact absurd rfl hne
  have p0 := h.c0
  have HF := hide h.fine
  clear h h0 hE
  go_enter Tryz.func129, Tryz.ntmps129
  go_wp2_with fail
  refine HL.out.mono ?_
  rintro e w1 ⟨rfl, rfl⟩
  clear HL
  go_wp2_with fail
  refine HCUT.out.mono ?_
  rintro e w2 ⟨i, u1a, u2a, u1c, u2c, rfl, hbest, hr1, hr2, hb2⟩
  have hib := hbest.1
  have hsl : (szsN n.ps).length = n.ps.length := by simp [szsN]
  rw [hsl] at hib
  have hdl : 0 < (n.ps.drop i).length := by rw [List.length_drop]; omega
  have HR2' := hr2
  obtain ⟨a2', c2', he2, _, _, hcell⟩ := hr2
  obtain ⟨g, o, hg, c1, _⟩ := hcell 0 hdl
  cases he2
  subst hg
  obtain ⟨k, v, hkv⟩ : ∃ k v, n.ps[i]? = some (k, v) := ⟨_, _, List.getElem?_eq_getElem (show i < n.ps.length by omega)⟩
  have hk0 : ((n.ps.drop i)[0]'hdl).1 = k := by
    have e1 : (n.ps.drop i)[0]? = some (k, v) := by rw [List.getElem?_drop, Nat.add_zero]; exact hkv
    rw [List.getElem?_eq_getElem hdl] at e1
    rw [Option.some.inj e1]
  rw [hk0, Nat.zero_mul, Nat.add_zero] at c1
  obtain ⟨N1, hN1⟩ : ∃ N, N = (n.ps.take i).length := ⟨_, rfl⟩
  obtain ⟨N2, hN2⟩ : ∃ N, N = (n.ps.drop i).length := ⟨_, rfl⟩
  have hr2 : PrR w2 (.slice (some ⟨g, o, none⟩) (n.ps.drop i).length u2c) (n.ps.drop i) := HR2'
  rw [← hN1] at hr1 ⊢
  rw [← hN2] at hr2 hdl ⊢
  have HR1 := hide hr1
  have HR2 := hide hr2
  have HB2 := hide hb2
  have HBEST := hide hbest
  have HKV := hide hkv
  have hn2 : (0 : Int) < (N2 : Int) := by omega
  have HFF : Hid (((∀ p ∈ n.ps.take i, mayP p = true) ∧ (n.ps.take i).length ≤ 4000 ∧ (∀ p ∈ n.ps.drop i, mayP p = true) ∧ (n.ps.drop i).length ≤ 4000)) := ⟨fun p hp => HF.out.1 p (List.mem_of_mem_take hp), by rw [List.length_take]; have := HF.out.2.1; omega, fun p hp => HF.out.1 p (List.mem_of_mem_drop hp), by rw [List.length_drop]; have := HF.out.2.1; omega⟩
  have hgw := World.block_lt_of_cell? w2 _ c1
  have t1 := ((below_new w2 (.cells #[.slice u1a N1 u1c, .int .i64 0, .slice none 0 0, .slice none 0 0] 155)).cell (p := ⟨g, o, none⟩) hgw).trans c1
  have t2 := ((below_new w2 (.cells #[.slice (some ⟨g, o, none⟩) N2 u2c, .int .i64 0, .slice none 0 0, .slice none 0 0] 155)).cell (p := ⟨g, o, none⟩) hgw).trans c1
  have t3 := ((below_new (w2.alloc (.cells #[.slice u1a N1 u1c, .int .i64 0, .slice none 0 0, .slice none 0 0] 155)) (.cells #[.slice (some ⟨g, o, none⟩) N2 u2c, .int .i64 0, .slice none 0 0, .slice none 0 0] 155)).cell (p := ⟨g, o, none⟩) (World.block_lt_of_cell? _ _ t1)).trans t1
  have t4 := ((below_new (w2.alloc (.cells #[.slice (some ⟨g, o, none⟩) N2 u2c, .int .i64 0, .slice none 0 0, .slice none 0 0] 155)) (.cells #[.slice u1a N1 u1c, .int .i64 0, .slice none 0 0, .slice none 0 0] 155)).cell (p := ⟨g, o, none⟩) (World.block_lt_of_cell? _ _ t2)).trans t2
  clear HCUT hr1 hr2 hb2 hbest hkv hib hsl hcell hk0 hN1 hN2 p0
  go_wp2_with fail
  go_region
  all_goals first
    | (have qa := below_new w2 (.cells #[.slice u1a N1 u1c, .int .i64 0, .slice none 0 0, .slice none 0 0] 155)
       have qb := below_new (w2.alloc (.cells #[.slice u1a N1 u1c, .int .i64 0, .slice none 0 0, .slice none 0 0] 155)) (.cells #[.slice (some ⟨g, o, none⟩) N2 u2c, .int .i64 0, .slice none 0 0, .slice none 0 0] 155)
       have xa := (B.RowAt.new w2 #[.slice u1a N1 u1c, .int .i64 0, .slice none 0 0, .slice none 0 0] 155).below qb
       have xb := B.RowAt.new (w2.alloc (.cells #[.slice u1a N1 u1c, .int .i64 0, .slice none 0 0, .slice none 0 0] 155)) #[.slice (some ⟨g, o, none⟩) N2 u2c, .int .i64 0, .slice none 0 0, .slice none 0 0] 155
       have sa : (w2.alloc (.cells #[.slice u1a N1 u1c, .int .i64 0, .slice none 0 0, .slice none 0 0] 155)).heap.size = w2.heap.size + 1 := by simp
       rw [sa] at xb
       have HN2 : Hid (New2 w ⟨n.ps.take i, 0, [], []⟩ k ⟨n.ps.drop i, 0, [], []⟩ (.returned (.tuple #[.pointer (some ⟨w2.heap.size, 0, none⟩), .string k, .pointer (some ⟨w2.heap.size + 1, 0, none⟩)])) ((w2.alloc (.cells #[.slice u1a N1 u1c, .int .i64 0, .slice none 0 0, .slice none 0 0] 155)).alloc (.cells #[.slice (some ⟨g, o, none⟩) N2 u2c, .int .i64 0, .slice none 0 0, .slice none 0 0] 155))) := ⟨_, _, _, _, _, _, _, _, rfl, ⟨xa, (HR1.out.below qa).below qb, B.LkR.nil _, (C.LkO.nil _ 0).at, HFF.out.1, HFF.out.2.1, (fun p hp => by simp at hp), by simp, by simp⟩, ⟨xb, (HR2.out.below qa).below qb, B.LkR.nil _, (C.LkO.nil _ 0).at, HFF.out.2.2.1, HFF.out.2.2.2, (fun p hp => by simp at hp), by simp, by simp⟩, Below.next (Below.next HB2.out qa) qb⟩
       clear qa qb xa xb sa
       go_wp2
       go_ret3
       exact ⟨i, k, v, HBEST.out, HKV.out, HN2.out.drew⟩)
    | (have qa := below_new w2 (.cells #[.slice (some ⟨g, o, none⟩) N2 u2c, .int .i64 0, .slice none 0 0, .slice none 0 0] 155)
       have qb := below_new (w2.alloc (.cells #[.slice (some ⟨g, o, none⟩) N2 u2c, .int .i64 0, .slice none 0 0, .slice none 0 0] 155)) (.cells #[.slice u1a N1 u1c, .int .i64 0, .slice none 0 0, .slice none 0 0] 155)
       have xa := (B.RowAt.new w2 #[.slice (some ⟨g, o, none⟩) N2 u2c, .int .i64 0, .slice none 0 0, .slice none 0 0] 155).below qb
       have xb := B.RowAt.new (w2.alloc (.cells #[.slice (some ⟨g, o, none⟩) N2 u2c, .int .i64 0, .slice none 0 0, .slice none 0 0] 155)) #[.slice u1a N1 u1c, .int .i64 0, .slice none 0 0, .slice none 0 0] 155
       have sa : (w2.alloc (.cells #[.slice (some ⟨g, o, none⟩) N2 u2c, .int .i64 0, .slice none 0 0, .slice none 0 0] 155)).heap.size = w2.heap.size + 1 := by simp
       rw [sa] at xb
       have HN2 : Hid (New2 w ⟨n.ps.take i, 0, [], []⟩ k ⟨n.ps.drop i, 0, [], []⟩ (.returned (.tuple #[.pointer (some ⟨w2.heap.size + 1, 0, none⟩), .string k, .pointer (some ⟨w2.heap.size, 0, none⟩)])) ((w2.alloc (.cells #[.slice (some ⟨g, o, none⟩) N2 u2c, .int .i64 0, .slice none 0 0, .slice none 0 0] 155)).alloc (.cells #[.slice u1a N1 u1c, .int .i64 0, .slice none 0 0, .slice none 0 0] 155))) := ⟨_, _, _, _, _, _, _, _, rfl, ⟨xb, (HR1.out.below qa).below qb, B.LkR.nil _, (C.LkO.nil _ 0).at, HFF.out.1, HFF.out.2.1, (fun p hp => by simp at hp), by simp, by simp⟩, ⟨xa, (HR2.out.below qa).below qb, B.LkR.nil _, (C.LkO.nil _ 0).at, HFF.out.2.2.1, HFF.out.2.2.2, (fun p hp => by simp at hp), by simp, by simp⟩, Below.next (Below.next HB2.out qa) qb⟩
       clear qa qb xa xb sa
       go_wp2
       go_ret3
       exact ⟨i, k, v, HBEST.out, HKV.out, HN2.out.drew⟩)

end Go.Proofs.YtnaedmmfiiebaaaGreatDoor.T

namespace Go.Proofs.YtnaedmmfiiebaaaGreatDoor.C
open Go.RowKit

theorem LkR.take {w : World} {a : Option Addr} {n m cap : Nat} {l : List Lk} (h : LkR w (.slice a n cap) l) (hm : m ≤ n) : LkR w (.slice a m cap) (l.take m) := by
  unfold LkR at *
  rw [lks_tk]
  exact RowR.take h hm
set_option maxRecDepth 20000 in
theorem slToC (w : World) (a : Option Addr) (n cap m : Nat) (hm : m ≤ cap) : (Instr.sliceAt 153 (.slice a n cap) none (some (.int .i64 (m : Int))) none).run Tryz.prog w = .ok (.slice a m cap) w := by
  rw [run_sliceAt_slice (h := Tryz.underlying153), run_slice_h (ht := Tryz.underlying153) (h0 := by omega) (h2 := by omega)]
  have hz : (sizeOf (Tryz.prog.elem 153)).run Tryz.prog w = .ok 1 w := by kernel_rfl
  rw [hz]
  simp [Result.andThen, sliced, Addr.add]
set_option maxRecDepth 20000 in
theorem LkR.drop {w : World} {a : Option Addr} {n m cap : Nat} {l : List Lk} (h : LkR w (.slice a n cap) l) (hm : m ≤ n) :
    ∃ a', LkR w (.slice a' (n - m) (cap - m)) (l.drop m) ∧ ∀ w', (Instr.sliceAt 153 (.slice a n cap) (some (.int .i64 (m : Int))) none none).run Tryz.prog w' = .ok (.slice a' (n - m) (cap - m)) w' := by
  obtain ⟨a', cap', he, hle, hn, hc⟩ := h
  cases he
  have hll : (lks l).length = l.length := lks_len l
  refine ⟨if cap = m then a else a.map (·.add m), ⟨_, _, by rw [show (lks (l.drop m)).length = l.length - m by rw [lks_len, List.length_drop], hll], by rw [lks_len, List.length_drop]; omega, fun ha => ?_, fun j u hj => ?_⟩, fun w' => ?_⟩
  · split at ha
    · omega
    · cases a with
      | none => have := hn rfl; omega
      | some x => cases ha
  · rw [lks_dr, List.getElem?_drop] at hj
    have hlt := (List.getElem?_eq_some_iff.1 hj).1
    obtain ⟨g, o, ha, h1⟩ := hc (m + j) u hj
    subst ha
    refine ⟨g, o + m, ?_, ?_⟩
    · rw [if_neg (show ¬ cap = m by omega)]; simp [add_plain']
    · rw [show o + m + j = o + (m + j) by omega]; exact h1
  · rw [run_sliceAt_slice (h := Tryz.underlying153), run_slice_l (ht := Tryz.underlying153) (h0 := by omega) (h1 := by omega)]
    have hz : (sizeOf (Tryz.prog.elem 153)).run Tryz.prog w' = .ok 1 w' := by kernel_rfl
    rw [hz]
    simp [Result.andThen, sliced]

end Go.Proofs.YtnaedmmfiiebaaaGreatDoor.C
