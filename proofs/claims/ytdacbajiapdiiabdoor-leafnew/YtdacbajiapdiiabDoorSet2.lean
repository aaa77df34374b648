import Derived.Test.YtdacbajiapdiiabDoorBase
import Derived.Deep.RegionHeld3
namespace Go.Proofs.YtdacbajiapdiiabDoor
open Go.RowKit

theorem beq_text (x y : ByteArray) : (x.toList == y.toList) = decide (x = y) := by
  rw [Bool.eq_iff_iff, beq_iff_eq, decide_eq_true_eq, ByteArray.toList_eq, ByteArray.toList_eq]
  exact ⟨fun h => ba_ext' h, fun h => by rw [h]⟩

set_option maxHeartbeats 400000 in
theorem findf_any (p : Pr) (key : ByteArray) (b : Nat) (w : World) (hc : w.cell? ⟨b, 0, none⟩ = some (.string key)) :
    Calls Tryd.prog 58 #[.agg #[.string p.1, .string p.2], .pointer (some ⟨b, 0, none⟩)] w fun e w' => e = .returned (.bool (!ltK p.1 key)) ∧ Below w.heap.size w w' := by
  have hbn := below_new w (.cells #[.string p.1, .string p.2] 45)
  have hc1 : (w.alloc (.cells #[.string p.1, .string p.2] 45)).cell? ⟨b, 0, none⟩ = some (.string key) := (hbn.cell (p := ⟨b, 0, none⟩) (World.block_lt_of_cell? w _ hc)).trans hc
  go_enter Tryd.func58, Tryd.ntmps58
  go_wp2
  go_ret
  exact ⟨rfl, hbn⟩

set_option maxHeartbeats 1000000 in
theorem idxf_any (v : Value) (l : List Pr) (key : ByteArray) (b : Nat) (w : World) (hm : l.length ≤ 140737488355328) (hr : PrR w v l) (hk : w.cell? ⟨b, 0, none⟩ = some (.string key)) :
    Calls Tryd.prog 57 #[v, .func (.func 58) #[] #[.pointer (some ⟨b, 0, none⟩)]] w fun e w' => ((findN l key < l.length ∧ e = .returned (.int .i64 (findN l key : Int))) ∨ (¬ findN l key < l.length ∧ e = .returned (.int .i64 (-1)))) ∧ Below w.heap.size w w' := by
  obtain ⟨a, cap, rfl, hcap, _, hc⟩ := hr
  have HC := hide hc
  obtain ⟨n, hn⟩ : ∃ n, n = l.length := ⟨_, rfl⟩
  rw [← hn] at hm ⊢
  have HN := hide hn
  have HK := hide hk
  have HKB := hide (World.block_lt_of_cell? w _ hk)
  obtain ⟨Q, hQ⟩ : ∃ Q : Ending → World → Prop, Q = fun e w' => ((findN l key < n ∧ e = .returned (.int .i64 (findN l key : Int))) ∨ (¬ findN l key < n ∧ e = .returned (.int .i64 (-1)))) ∧ Below w.heap.size w w' := ⟨_, rfl⟩
  rw [← hQ]
  have HQ := hide hQ
  clear hc hn hcap hk hQ
  go_enter Tryd.func57, Tryd.ntmps57
  go_wp2
  go_loopw [8] (fun i wr => ∃ k : Nat, k ≤ n ∧ i = .int .i64 k ∧ (∀ j (h : j < l.length), j < k → ltK l[j].1 key = true) ∧ Below w.heap.size w wr) (fun i _ => n - (intOf i).toNat)
  case atStart => exact ⟨0, Nat.zero_le _, rfl, fun j _ h => absurd h (Nat.not_lt_zero _), Below.refl _ _⟩
  case round =>
    obtain ⟨k, hk, rfl, hpre, hbw⟩ := hrel
    have HP := hide hpre
    clear hpre
    by_cases hlt : k < n
    · have hkl : k < l.length := by have := HN.out; omega
      obtain ⟨g, o, rfl, f1, f2⟩ := HC.out k hkl
      have c1 : wr.cell? ⟨g, o + k * 2, none⟩ = some (.string l[k].1) := (hbw.cell (p := ⟨g, o + k * 2, none⟩) (World.block_lt_of_cell? w _ f1)).trans f1
      have c2 : wr.cell? ⟨g, o + k * 2 + 1, none⟩ = some (.string l[k].2) := (hbw.cell (p := ⟨g, o + k * 2 + 1, none⟩) (World.block_lt_of_cell? w _ f2)).trans f2
      have HF := hide (findf_any l[k] key b wr ((hbw.cell (p := ⟨b, 0, none⟩) HKB.out).trans HK.out))
      have HNX : Hid (ltK l[k].1 key = true → ∀ j (h : j < l.length), j < k + 1 → ltK l[j].1 key = true) := fun hl j h hj => by
        by_cases he : j = k
        · subst he; exact hl
        · exact HP.out j h (by omega)
      have HAT : Hid (ltK l[k].1 key = false → findN l key = k) := fun hl => findN_eq hkl (fun j hj => HP.out j (by omega) hj) hl
      obtain ⟨p, hp⟩ : ∃ p, p = l[k] := ⟨_, rfl⟩
      rw [← hp] at c1 c2 HF HNX HAT
      have hltI : (k : Int) < (n : Int) := by omega
      have HB := hide hbw
      clear hp HC f1 f2 hbw
      cases hb : ltK p.1 key with
      | true =>
        rw [hb] at HF
        have HNX2 := hide (HNX.out hb)
        clear hb HNX HAT
        go_wp2_with fail
        refine HF.out.mono ?_
        rintro e w1 ⟨rfl, hb1⟩
        have HB1 := hide (Below.next HB.out hb1)
        clear hb1 HB HF c1 c2
        go_wp2
        go_roundw
        case rel => exact ⟨k + 1, by omega, by go_num, HNX2.out, HB1.out⟩
        case measure => simp [intOf]; omega
      | false =>
        rw [hb] at HF
        have HAT2 := hide (HAT.out hb)
        clear hb HNX HAT
        go_wp2_with fail
        refine HF.out.mono ?_
        rintro e w1 ⟨rfl, hb1⟩
        have HB1 := hide (Below.next HB.out hb1)
        clear hb1 HB HF c1 c2
        go_wp2
        rw [HQ.out]
        exact ⟨.inl ⟨by rw [HAT2.out]; exact hlt, by rw [HAT2.out]; rfl⟩, HB1.out⟩
    · have HB := hide hbw
      have hltI : ¬ (k : Int) < (n : Int) := by omega
      have HNO : Hid (¬ findN l key < n) := by
        have h := findN_none (l := l) (key := key) (fun j hj => HP.out j hj (by have := HN.out; omega))
        have := HN.out
        intro h'; omega
      clear HC hbw HP
      go_wp2
      rw [HQ.out]
      exact ⟨.inr ⟨HNO.out, rfl⟩, HB.out⟩

set_option maxHeartbeats 1000000 in
theorem lfind_any (v : Value) (l : List Pr) (key : ByteArray) (w : World) (hm : l.length ≤ 140737488355328) (hr : PrR w v l) :
    Calls Tryd.prog 33 #[v, .string key] w fun e w' => e = .returned (.tuple #[.int .i64 (findN l key : Int), .bool (foundB l key)]) ∧ Below w.heap.size w w' := by
  have hmf : ∀ (fn : Fn) (first cap : Array Value) (w : World), (Instr.makeFunc fn first cap).run Tryd.prog w = .ok (.func fn first cap) w := fun _ _ _ _ => rfl
  have hbn := below_new w (.cells #[.string key] 9)
  have hx := boxed_new w #[.string key] 9
  have hr1 := hr.below hbn
  have HI := hide (idxf_any v l key w.heap.size _ hm hr1 (hx.2 0 (by simp)))
  have HR := hide hr1
  have HX := hide hx
  have HBN := hide hbn
  obtain ⟨a, c, rfl⟩ := hr.form
  have HFL := hide (findN_le l key)
  obtain ⟨q, hq⟩ : ∃ q, q = findN l key := ⟨_, rfl⟩
  have HAT : Hid (∀ (h : q < l.length), foundB l key = decide (l[q].1 = key)) := by subst hq; exact fun h => foundB_at h
  have HNO : Hid (¬ q < l.length → foundB l key = false) := by subst hq; exact fun h => foundB_none h
  rw [← hq] at HI HFL ⊢
  clear hq hr hr1 hbn hx
  go_enter Tryd.func33, Tryd.ntmps33
  go_wp2_with fail
  refine HI.out.mono ?_
  rintro e w1 ⟨⟨hlt, rfl⟩ | ⟨hlt, rfl⟩, hb1⟩
  · have hr1 := HR.out.below hb1
    have k0 : w1.cell? ⟨w.heap.size, 0, none⟩ = some (.string key) := (HX.out.below hb1).2 0 (by simp)
    obtain ⟨a', c', he, _, _, hc⟩ := hr1
    cases he
    obtain ⟨g, o, rfl, f1, f2⟩ := hc q hlt
    have HFD := hide (HAT.out hlt)
    have HB := hide (Below.next HBN.out hb1)
    have hd0 : decide ((q : Int) < 0) = false := decide_eq_false (by omega)
    have j0 : (0 : Int) ≤ (q : Int) := by omega
    have j1 : (q : Int) < (l.length : Int) := by omega
    generalize l[q].1 = x at *
    clear hc hb1 HI HR HX HBN HAT HNO f2
    go_wp2
    go_quiet (fail)
    go_wp2
    go_ret2
    refine ⟨?_, below_drewN' HB.out _⟩
    rw [HFD.out, ← beq_text]
    rfl
  · have HB := hide (Below.next HBN.out hb1)
    have HFD := hide (HNO.out hlt)
    have HQL : Hid (q = l.length) := by have := HFL.out; show q = l.length; omega
    clear hb1 HI HR HX HBN HAT HNO hlt
    go_wp2
    go_ret2
    exact ⟨by rw [HFD.out, HQL.out]; rfl, HB.out⟩

end Go.Proofs.YtdacbajiapdiiabDoor

namespace Go.Proofs.YtdacbajiapdiiabDoor
open Go.RowKit

theorem zeroP_cells (n : Nat) : (Builtin.zeroCells (Value.agg #[.string ByteArray.empty, .string ByteArray.empty]).cells n).size = n * 2 := by
  simp [Builtin.zeroCells, Value.cells]

set_option maxHeartbeats 1000000 in
theorem grow_any (n : Nat) (w : World) (hn : n * 32 ≤ 140737488355328) :
    Calls Tryd.prog 59 #[.slice none 0 0, .int .i64 (n : Int)] w fun e w' => ∃ u, e = .returned u ∧ PrO w' w.heap.size u [] ∧ Below w.heap.size w w' := by
  obtain ⟨i0, hi, hz, hsz, hby⟩ := info_parts infoP
  have hd0 : decide ((n : Int) < 0) = false := decide_eq_false (by omega)
  by_cases h0 : 0 < n
  · have hrun := Lib.run_append_nil_zeros (P := Tryd.prog) w 24 3 24 45 i0 _ .i64 .i64 Tryd.underlying24 Tryd.underlying3 hi hz n h0 (by omega) (by omega) (by rw [hby]; omega)
    have hpos : (0 : Int) < (n : Int) := by omega
    have hw : IntKind.i64.wrap ((n : Int)) = (n : Int) := by rw [IntKind.wrap_i64]; omega
    generalize hcap : grownCap w n 0 45 = cap at *
    have hle : n ≤ cap := by rw [← hcap]; exact grownCap_ge _ _ _ _
    have hmx : cap ≤ maxLen := by rw [← hcap]; exact grownCap_le_maxLen _ _ _ _ (by unfold maxLen; omega)
    generalize hcs : Builtin.zeroCells _ n ++ Builtin.zeroCells _ (cap - n) = cs at hrun
    have hcsz : cs.size = cap * 2 := by rw [← hcs, Array.size_append, zeroP_cells, zeroP_cells]; omega
    have HO : Hid (PrO (w.drew.alloc (.cells cs 45)) w.heap.size (.slice (some ⟨w.heap.size, 0, none⟩) 0 cap) []) :=
      ⟨by simp [prs], .inr ⟨w.heap.size, cap, cs, rfl, Nat.le_refl _, heap_alloc_new w.drew _, Nat.zero_le _, hmx, hcsz, by simp [prs]⟩⟩
    have HB : Hid (Below w.heap.size w (w.drew.alloc (.cells cs 45))) := ((Below.refl _ _).drew).alloc (Nat.le_refl _) _
    clear hcs hcap hi hz hsz hby hcsz
    go_enter Tryd.func59, Tryd.ntmps59
    go_wp2_with (first | (at_builtin; refine Lib.wpList_append_run _ rfl (.tmp 20) (.tmp 21) 24 3 rfl _ _ rfl rfl _ _ hrun ?_))
    go_ret
    exact ⟨_, rfl, HO.out, HB.out⟩
  · obtain rfl : n = 0 := by omega
    go_enter Tryd.func59, Tryd.ntmps59
    go_wp2
    go_ret
    exact ⟨_, rfl, PrO.nil _ _, Below.refl _ _⟩

/-- How many pairs the first k lists have. -/
def lensTo (LL : List (List Pr)) (k : Nat) : Nat := ((LL.take k).flatten).length
theorem lensTo_succ (LL : List (List Pr)) (k : Nat) (h : k < LL.length) : lensTo LL (k + 1) = lensTo LL k + LL[k].length := by
  unfold lensTo
  rw [List.take_succ_eq_append_getElem h, List.flatten_append, List.length_append]; simp
theorem lensTo_le (LL : List (List Pr)) (k : Nat) : lensTo LL k ≤ LL.flatten.length := by
  unfold lensTo
  conv => rhs; rw [← List.take_append_drop k LL, List.flatten_append, List.length_append]
  omega

set_option maxHeartbeats 2000000 in
theorem concat_any (B m cap : Nat) (svs : List Value) (LL : List (List Pr)) (w : World) (hm : LL.length = m) (hmb : m ≤ 3) (hs : svs.length = m) (hbig : LL.flatten.length * 32 ≤ 140737488355328)
    (hc : ∀ j (h : j < svs.length), w.cell? ⟨B, j, none⟩ = some svs[j]) (hr : ∀ j (h : j < LL.length) (h' : j < svs.length), PrR w svs[j] LL[j]) :
    Calls Tryd.prog 34 #[.slice (some ⟨B, 0, none⟩) m cap] w fun e w' => ∃ u, e = .returned u ∧ PrO w' w.heap.size u LL.flatten ∧ Below w.heap.size w w' := by
  have HM := hide hm
  have HS := hide hs
  have HC := hide hc
  have HR := hide hr
  have HBIG := hide hbig
  obtain ⟨T, hT⟩ : ∃ T, T = LL.flatten.length := ⟨_, rfl⟩
  have HT := hide hT
  have hTb : T * 32 ≤ 140737488355328 := by rw [hT]; exact hbig
  have HL0 : Hid (lensTo LL 0 = 0) := by show _ = _; simp [lensTo]
  clear hm hs hc hr hbig hT
  go_enter Tryd.func34, Tryd.ntmps34
  go_wp2
  go_loop [3, 11] (fun r i => ∃ k : Nat, k ≤ m ∧ i = .int .i64 k ∧ r = .int .i64 (lensTo LL k : Int)) (fun _ i => m - (intOf i).toNat)
  case atStart => exact ⟨0, Nat.zero_le _, rfl, by rw [HL0.out]; rfl⟩
  case round =>
    obtain ⟨k, hk, rfl, rfl⟩ := hrel
    by_cases hlt : k < m
    · have hk1 : k < svs.length := by have := HS.out; omega
      have hk2 : k < LL.length := by have := HM.out; omega
      have c1 := HC.out k hk1
      obtain ⟨a, c, hf⟩ := (HR.out k hk2 hk1).form
      rw [hf] at c1
      have HSU := hide (lensTo_succ LL k hk2)
      have HLE := hide (lensTo_le LL (k + 1))
      obtain ⟨x, hx⟩ : ∃ x, x = lensTo LL k := ⟨_, rfl⟩
      obtain ⟨y, hy⟩ : ∃ y, y = lensTo LL (k + 1) := ⟨_, rfl⟩
      obtain ⟨z, hz⟩ : ∃ z, z = LL[k].length := ⟨_, rfl⟩
      rw [← hx, ← hy, ← hz] at HSU
      rw [← hy, ← HT.out] at HLE
      rw [← hx]
      rw [← hz] at c1
      have HY := hide hy
      have hw : IntKind.i64.wrap ((x : Int) + (z : Int)) = (y : Int) := by rw [IntKind.wrap_i64]; have := HSU.out; have := HLE.out; omega
      have hd0 : decide ((y : Int) < 0) = false := decide_eq_false (by omega)
      have hltI : (k : Int) < (m : Int) := by omega
      clear hx hy hz hf HC HR
      go_wp2
      go_round
      case rel => exact ⟨k + 1, by omega, by go_num, by rw [← HY.out]⟩
      case measure => simp [intOf]; omega
    · have hkm : k = m := by omega
      subst hkm
      have hall : lensTo LL k = T := by
        rw [HT.out]; unfold lensTo; rw [List.take_of_length_le (by rw [HM.out]; exact Nat.le_refl _)]
      rw [hall]
      have hltI : ¬ (k : Int) < (k : Int) := by omega
      have HG := hide (grow_any T w hTb)
      clear hall hlt hk
      go_wp2_with fail
      refine HG.out.mono ?_
      rintro e w1 ⟨u, rfl, hown, hb1⟩
      have HO := hide hown
      have HB1 := hide hb1
      clear hown hb1 HG
      go_wp2
      go_loopw [6, 27] (fun u i wr => ∃ j : Nat, j ≤ k ∧ i = .int .i64 j ∧ PrO wr w.heap.size u ((LL.take j).flatten) ∧ Below w.heap.size w wr) (fun _ i _ => k - (intOf i).toNat)
      case atStart => exact ⟨0, Nat.zero_le _, rfl, by simpa using HO.out, HB1.out⟩
      case round =>
        obtain ⟨j, hj, rfl, hown, hbw⟩ := hrel
        clear HO HB1
        by_cases hlt : j < k
        · have hk1 : j < svs.length := by have := HS.out; omega
          have hk2 : j < LL.length := by have := HM.out; omega
          have c0 := HC.out j hk1
          have c1 : wr.cell? ⟨B, j, none⟩ = some svs[j] := (hbw.cell (p := ⟨B, j, none⟩) (World.block_lt_of_cell? w _ c0)).trans c0
          have hr1 := (HR.out j hk2 hk1).below hbw
          have hle := lensTo_le LL (j + 1)
          rw [lensTo_succ LL j hk2, ← HT.out] at hle
          unfold lensTo at hle
          obtain ⟨a1, cp1, w2, hrun, hown1, hg1⟩ := append_prs w.heap.size _ _ _ _ wr hown hr1 (by omega) hbw.size
          have hb2 : Below w.heap.size w w2 := hbw.grown hg1 hbw.size (fun q hq => (hown.blk q hq).1)
          obtain ⟨a, c, hf⟩ := hr1.form
          obtain ⟨ua, uc, hu⟩ := hown.form
          subst hu
          rw [hf] at c1 hrun
          have hfl : (LL.take j).flatten ++ LL[j] = (LL.take (j + 1)).flatten := by
            rw [List.take_succ_eq_append_getElem hk2, List.flatten_append]; simp
          rw [hfl] at hown1
          generalize ((LL.take j).flatten).length = L1 at *
          generalize LL[j].length = L2 at *
          have HO2 := hide hown1
          have HB2 := hide hb2
          have hltI : (j : Int) < (k : Int) := by omega
          clear hf HC HR hown hown1 hbw hb2 hg1 hr1 c0 hle
          go_wp2_with (first | (at_builtin; refine wpList_append_run 24 rfl (.tmp 31) (.tmp 32) rfl rfl _ _ rfl rfl _ _ hrun ?_))
          clear hrun
          go_wp2
          go_roundw
          case rel => exact ⟨j + 1, by omega, by go_num, HO2.out, HB2.out⟩
          case measure => simp [intOf]; omega
        · have hall : LL.take j = LL := by rw [List.take_of_length_le]; have := HM.out; omega
          rw [hall] at hown
          have HO := hide hown
          have HB := hide hbw
          have hltI : ¬ (j : Int) < (k : Int) := by omega
          clear hown hbw hall HC HR
          go_wp2
          go_ret
          exact ⟨_, rfl, HO.out, HB.out⟩

set_option maxHeartbeats 400000 in
theorem behind_any (n : Nat) (b : Bool) (w : World) (hn : n ≤ 140737488355328) :
    Calls Tryd.prog 35 #[.int .i64 (n : Int), .bool b] w fun e w' => e = .returned (.int .i64 ((if b then n + 1 else n : Nat) : Int)) ∧ w = w' := by
  cases b with
  | true =>
    go_enter Tryd.func35, Tryd.ntmps35
    go_wp2
    go_ret
    exact ⟨by go_num, rfl⟩
  | false =>
    go_enter Tryd.func35, Tryd.ntmps35
    go_wp2
    go_ret
    exact ⟨rfl, rfl⟩

end Go.Proofs.YtdacbajiapdiiabDoor

namespace Go.Proofs.YtdacbajiapdiiabDoor
open Go.RowKit

set_option maxRecDepth 20000 in
theorem slTo (w : World) (a : Option Addr) (n cap m : Nat) (hm : m ≤ cap) : (Instr.sliceAt 24 (.slice a n cap) none (some (.int .i64 (m : Int))) none).run Tryd.prog w = .ok (.slice a m cap) w := by
  rw [run_sliceAt_slice (h := Tryd.underlying24), run_slice_h (ht := Tryd.underlying24) (h0 := by omega) (h2 := by omega)]
  have hz : (sizeOf (Tryd.prog.elem 24)).run Tryd.prog w = .ok 2 w := by kernel_rfl
  rw [hz]
  simp [Result.andThen, sliced, Addr.add]
set_option maxRecDepth 20000 in
theorem PrR.drop {w : World} {a : Option Addr} {n m cap : Nat} {l : List Pr} (h : PrR w (.slice a n cap) l) (hm : m ≤ n) :
    ∃ a', PrR w (.slice a' (n - m) (cap - m)) (l.drop m) ∧ ∀ w', (Instr.sliceAt 24 (.slice a n cap) (some (.int .i64 (m : Int))) none none).run Tryd.prog w' = .ok (.slice a' (n - m) (cap - m)) w' := by
  obtain ⟨a', cap', he, hle, hn, hc⟩ := h
  cases he
  refine ⟨if cap = m then a else a.map (·.add (m * 2)), ⟨_, _, by rw [List.length_drop], by rw [List.length_drop]; omega, fun ha => ?_, fun j hj => ?_⟩, fun w' => ?_⟩
  · split at ha
    · omega
    · cases a with
      | none => have := hn rfl; omega
      | some x => cases ha
  · rw [List.length_drop] at hj
    obtain ⟨g, o, ha, h1, h2⟩ := hc (m + j) (by omega)
    subst ha
    refine ⟨g, o + m * 2, ?_, ?_, ?_⟩
    · rw [if_neg (by omega)]; simp [add_plain']
    · rw [List.getElem_drop, show o + m * 2 + j * 2 = o + (m + j) * 2 by omega]; exact h1
    · rw [List.getElem_drop, show o + m * 2 + j * 2 + 1 = o + (m + j) * 2 + 1 by omega]; exact h2
  · rw [run_sliceAt_slice (h := Tryd.underlying24), run_slice_l (ht := Tryd.underlying24) (h0 := by omega) (h1 := by omega)]
    have hz : (sizeOf (Tryd.prog.elem 24)).run Tryd.prog w' = .ok 2 w' := by kernel_rfl
    rw [hz]
    simp [Result.andThen, sliced]

set_option maxHeartbeats 1000000 in
theorem lset_any (v : Value) (l : List Pr) (key value : ByteArray) (w : World) (hm : l.length ≤ 4398046511000) (hr : PrR w v l) :
    Calls Tryd.prog 15 #[v, .string key, .string value] w fun e w' => ∃ u, e = .returned u ∧ PrO w' w.heap.size u (setL l key value) ∧ Below w.heap.size w w' := by
  have HF := hide (lfind_any v l key w (by omega) hr)
  have HR := hide hr
  obtain ⟨a, cap, hv⟩ := hr.form
  subst hv
  have hfl := findN_le l key
  have hbl := behindN_le l key
  have hqr := behindN_ge l key
  have hcap : l.length ≤ cap := by obtain ⟨_, _, he, h, _⟩ := hr; cases he; exact h
  obtain ⟨q, hq⟩ : ∃ q, q = findN l key := ⟨_, rfl⟩
  obtain ⟨r, hrr⟩ : ∃ r, r = behindN l key := ⟨_, rfl⟩
  obtain ⟨fb, hfb⟩ : ∃ fb, fb = foundB l key := ⟨_, rfl⟩
  have hbe : (if fb then q + 1 else q : Nat) = r := by rw [hrr, hq, hfb]; rfl
  have HBE := hide (fun W => behind_any q fb W (by omega))
  rw [hbe] at HBE
  rw [← hq, ← hfb] at HF
  rw [← hq] at hfl
  rw [← hrr] at hbl
  rw [← hq, ← hrr] at hqr
  obtain ⟨a2, hr2, hsl2⟩ := hr.drop hbl
  have hsl1 := fun W => slTo W a l.length cap q (by omega)
  have HR1 := hide (hr.take hfl)
  have HR2 := hide hr2
  have HL : Hid (setL l key value = [l.take q, [(key, value)], l.drop r].flatten) := by show _ = _; unfold setL; rw [← hq, ← hrr]; simp
  clear hr hr2 hq hrr hfb hbe
  go_enter Tryd.func15, Tryd.ntmps15
  go_wp2_with fail
  refine HF.out.mono ?_
  rintro e w1 ⟨rfl, hb1⟩
  have HB1 := hide hb1
  clear hb1 HF
  have HCC : Hid (∀ W, Below ((w1.alloc (.cells #[.string key, .string value] 45)).alloc (.cells #[.slice a q cap, .slice (some ⟨w1.heap.size, 0, none⟩) 1 1, .slice a2 (l.length - r) (cap - r)] 24)).heap.size ((w1.alloc (.cells #[.string key, .string value] 45)).alloc (.cells #[.slice a q cap, .slice (some ⟨w1.heap.size, 0, none⟩) 1 1, .slice a2 (l.length - r) (cap - r)] 24)) W →
      Calls Tryd.prog 34 #[.slice (some ⟨w1.heap.size + 1, 0, none⟩) 3 3] W fun e w' => ∃ u, e = .returned u ∧ PrO w' w.heap.size u (setL l key value) ∧ Below w.heap.size w w') := fun W hW => by
    have hbA := below_new w1 (.cells #[.string key, .string value] 45)
    have hsA : (w1.alloc (.cells #[.string key, .string value] 45)).heap.size = w1.heap.size + 1 := by simp
    have hlit := prR_lit w1 (key, value) 45
    generalize w1.alloc (.cells #[.string key, .string value] 45) = WA at *
    have hbB := below_new WA (.cells #[.slice a q cap, .slice (some ⟨w1.heap.size, 0, none⟩) 1 1, .slice a2 (l.length - r) (cap - r)] 24)
    have hBx := (boxed_new WA #[.slice a q cap, .slice (some ⟨w1.heap.size, 0, none⟩) 1 1, .slice a2 (l.length - r) (cap - r)] 24).below hW
    rw [hsA] at hBx
    have h1W := Below.next (Below.next HB1.out hbA) (Below.next hbB hW)
    rw [HL.out]
    refine (concat_any (w1.heap.size + 1) 3 3 [.slice a q cap, .slice (some ⟨w1.heap.size, 0, none⟩) 1 1, .slice a2 (l.length - r) (cap - r)] [l.take q, [(key, value)], l.drop r] W rfl (by decide) rfl ?_ (fun j h => hBx.2 j h) ?_).mono ?_
    · simp; omega
    · intro j h h'
      have hj : j < 3 := h
      match j, hj with
      | 0, _ => exact HR1.out.below h1W
      | 1, _ => exact hlit.below (Below.next hbB hW)
      | 2, _ => exact HR2.out.below h1W
    · rintro e w' ⟨u, rfl, ho, hb⟩
      exact ⟨u, rfl, ho.mono h1W.size, Below.next h1W hb⟩
  clear HR HR1 HR2 HL HB1
  go_wp2_with fail
  go_region_held3 (fun w' => True) (go_keep)
    (first
      | (go_at_call 35; refine (HBE.out _).mono ?_; rintro e w2 ⟨rfl, rfl⟩)
      | (go_at_call 34; refine (HCC.out _ ?_).mono ?_; (exact (Below.refl _ _).drew); rintro e w3 ⟨u, rfl, ho, hb⟩; have HO := hide ho; have HB := hide hb; clear ho hb))
  all_goals
    clear HCC HBE hsl1 hsl2
    go_wp2
    go_ret
    exact ⟨_, rfl, HO.out, HB.out⟩

set_option maxRecDepth 20000 in
set_option maxHeartbeats 1000000 in
theorem ldrop_any (v : Value) (l : List Pr) (key : ByteArray) (w : World) (hm : l.length ≤ 4398046511000) (hr : PrR w v l) :
    Calls Tryd.prog 18 #[v, .string key] w fun e w' => ∃ u, e = .returned (.tuple #[u, .bool (foundB l key)]) ∧ PrO w' w.heap.size u (dropL l key) ∧ Below w.heap.size w w' := by
  have HF := hide (lfind_any v l key w (by omega) hr)
  have HR := hide hr
  obtain ⟨a, cap, hv⟩ := hr.form
  subst hv
  have hfl := findN_le l key
  have hbl := behindN_le l key
  have hqr := behindN_ge l key
  have hcap : l.length ≤ cap := by obtain ⟨_, _, he, h, _⟩ := hr; cases he; exact h
  obtain ⟨q, hq⟩ : ∃ q, q = findN l key := ⟨_, rfl⟩
  obtain ⟨r, hrr⟩ : ∃ r, r = behindN l key := ⟨_, rfl⟩
  obtain ⟨fb, hfb⟩ : ∃ fb, fb = foundB l key := ⟨_, rfl⟩
  have hbe : (if fb then q + 1 else q : Nat) = r := by rw [hrr, hq, hfb]; rfl
  have HBE := hide (fun W => behind_any q fb W (by omega))
  rw [hbe] at HBE
  rw [← hq, ← hfb] at HF
  rw [← hfb]
  rw [← hq] at hfl
  rw [← hrr] at hbl
  rw [← hq, ← hrr] at hqr
  obtain ⟨a2, hr2, hsl2⟩ := hr.drop hbl
  have hsl1 := fun W => slTo W a l.length cap q (by omega)
  have HR1 := hide (hr.take hfl)
  have HR2 := hide hr2
  have HL : Hid (dropL l key = [l.take q, l.drop r].flatten) := by show _ = _; unfold dropL; rw [← hq, ← hrr]; simp
  clear hr hr2 hq hrr hfb hbe
  go_enter Tryd.func18, Tryd.ntmps18
  go_wp2_with fail
  refine HF.out.mono ?_
  rintro e w1 ⟨rfl, hb1⟩
  have HB1 := hide hb1
  clear hb1 HF
  have HCC : Hid (∀ W, Below (w1.alloc (.cells #[.slice a q cap, .slice a2 (l.length - r) (cap - r)] 24)).heap.size (w1.alloc (.cells #[.slice a q cap, .slice a2 (l.length - r) (cap - r)] 24)) W →
      Calls Tryd.prog 34 #[.slice (some ⟨w1.heap.size, 0, none⟩) 2 2] W fun e w' => ∃ u, e = .returned u ∧ PrO w' w.heap.size u (dropL l key) ∧ Below w.heap.size w w') := fun W hW => by
    have hbB := below_new w1 (.cells #[.slice a q cap, .slice a2 (l.length - r) (cap - r)] 24)
    have hBx := (boxed_new w1 #[.slice a q cap, .slice a2 (l.length - r) (cap - r)] 24).below hW
    have h1W := Below.next HB1.out (Below.next hbB hW)
    rw [HL.out]
    refine (concat_any w1.heap.size 2 2 [.slice a q cap, .slice a2 (l.length - r) (cap - r)] [l.take q, l.drop r] W rfl (by decide) rfl ?_ (fun j h => hBx.2 j h) ?_).mono ?_
    · simp; omega
    · intro j h h'
      have hj : j < 2 := h
      match j, hj with
      | 0, _ => exact HR1.out.below h1W
      | 1, _ => exact HR2.out.below h1W
    · rintro e w' ⟨u, rfl, ho, hb⟩
      exact ⟨u, rfl, ho.mono h1W.size, Below.next h1W hb⟩
  clear HR HR1 HR2 HL HB1
  go_wp2_with fail
  go_region_held3 (fun w' => True) (go_keep)
    (first
      | (go_at_call 35; refine (HBE.out _).mono ?_; rintro e w2 ⟨rfl, rfl⟩)
      | (go_at_call 34; refine (HCC.out _ ?_).mono ?_; (exact (Below.refl _ _).drew); rintro e w3 ⟨u, rfl, ho, hb⟩; have HO := hide ho; have HB := hide hb; clear ho hb))
  all_goals
    clear HCC HBE hsl1 hsl2
    go_wp2
    go_ret2
    exact ⟨_, rfl, HO.out, HB.out⟩

end Go.Proofs.YtdacbajiapdiiabDoor
