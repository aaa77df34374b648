import Derived.Test.YtnaedmmfiiebaaaGreatDoorG00
import Derived.Lib.AppendZeros
import Derived.Shelf.Spec.SlicesInsertGrow
import Derived.Laws.CopyRow
import Derived.Laws.CopyOwn
namespace Go.Proofs.YtnaedmmfiiebaaaGreatDoor.C
open Go.RowKit Go.Lib

/-- A child of a branch: a page, or a node in memory. -/
inductive Ch where
  | pg (id : Int)
  | nd (b : Nat)
def Ch.val : Ch → Value
  | .pg id => .iface 146 (.int .i64 id)
  | .nd b => .iface 152 (.pointer (some ⟨b, 0, none⟩))
abbrev Lk := Ch
def lks (l : List Lk) : List Value := l.map Ch.val
theorem lks_cons (p : Lk) (l : List Lk) : lks (p :: l) = p.val :: lks l := rfl
theorem lks_append (a b : List Lk) : lks (a ++ b) = lks a ++ lks b := by simp [lks]
theorem lks_length (l : List Lk) : (lks l).length = l.length * 1 := by simp [lks]
theorem lks_get (l : List Lk) (j : Nat) (h : j < l.length) : (lks l)[j]? = some l[j].val := by simp [lks, h]
theorem val_one (p : Ch) : p.val.oneCell' = true := by cases p <;> rfl
theorem lks_one (l : List Lk) : ∀ u ∈ lks l, u.oneCell' = true := by
  intro u hu
  simp only [lks, List.mem_map] at hu
  obtain ⟨p, _, rfl⟩ := hu
  exact val_one p
theorem lks_take (l : List Lk) (i : Nat) : lks (l.take i) = (lks l).take (i * 1) := by simp [lks, List.map_take]
theorem lks_drop (l : List Lk) (i : Nat) : lks (l.drop i) = (lks l).drop (i * 1) := by simp [lks, List.map_drop]
theorem infoK : (Tryz.prog.info? 97).map (fun i => (i.zero, i.size, i.bytes)) = some (some .nilIface, 1, 16) := by kernel_rfl
def insL (l : List Lk) (i : Nat) (p : Lk) : List Lk := l.take i ++ p :: l.drop i
def remL (l : List Lk) (i : Nat) : List Lk := l.take i ++ l.drop (i + 1)
/-- The slice value v reads as these children. -/
def LkR (w : World) (v : Value) (l : List Lk) : Prop := RowR w v (lks l)
theorem LkR.below {w w' : World} {v : Value} {l : List Lk} (h : LkR w v l) (hb : Below w.heap.size w w') : LkR w' v l := RowR.below h hb
theorem LkR.form {w : World} {v : Value} {l : List Lk} (h : LkR w v l) : ∃ a c, v = .slice a l.length c := by
  obtain ⟨a, c, rfl, _⟩ := h
  exact ⟨a, c, by rw [lks_length, Nat.mul_one]⟩
def LkO (w : World) (base : Nat) (v : Value) (l : List Lk) : Prop := w.ownsRow base 97 1 v l.length (lks l)
theorem LkO.at {w : World} {base : Nat} {v : Value} {l : List Lk} (h : LkO w base v l) : LkR w v l := rowR_of_owns h
theorem LkO.form {w : World} {base : Nat} {v : Value} {l : List Lk} (h : LkO w base v l) : ∃ a c, v = .slice a l.length c := h.at.form
theorem LkO.below {w w' : World} {base : Nat} {v : Value} {l : List Lk} (h : LkO w base v l) (hb : Below w.heap.size w w') : LkO w' base v l := by
  refine ⟨h.1, ?_⟩
  rcases h.2 with h' | ⟨g, cap, cur, h', h1, h2, hr⟩
  · exact .inl h'
  · refine .inr ⟨g, cap, cur, h', h1, ?_, hr⟩
    have hg : g < w.heap.size := (Array.getElem?_eq_some_iff.1 h2).1
    rw [hb.block g hg]; exact h2
theorem LkO.nil (w : World) (base : Nat) : LkO w base (.slice none 0 0) [] := World.ownsRow_nil _ _ _ _
theorem LkO.blk {w : World} {base : Nat} {v : Value} {l : List Lk} (h : LkO w base v l) : ∀ k, v.ownBlock = some k → base ≤ k ∧ k < w.heap.size := World.ownsRow.lt h
theorem append_lks (base : Nat) (v s : Value) (xs us : List Lk) (w : World) (hown : LkO w base v xs) (hs : LkR w s us) (hb : (xs.length + us.length) * 16 ≤ 140737488355328) (hbase : base ≤ w.heap.size) :
    ∃ a' cap' w', (Builtin.append_ #[153, 153] 153 #[v, s]).run Tryz.prog w = .ok (.slice a' (xs.length + us.length) cap') w' ∧ LkO w' base (.slice a' (xs.length + us.length) cap') (xs ++ us) ∧ w.grownBy w' v.ownBlock := by
  obtain ⟨a', c', w', h1, h2, h3⟩ := append_row 153 97 .nilIface 16 infoK Tryz.underlying153 rfl base xs.length v (lks xs) w hown s (lks us) hs (lks_one us) (by rw [lks_length]; omega) (by decide) hbase
  have e : (lks us).length = us.length := by rw [lks_length, Nat.mul_one]
  rw [e] at h1 h2
  refine ⟨a', c', w', h1, ?_, h3⟩
  unfold LkO
  rw [List.length_append, lks_append]
  exact h2
set_option maxHeartbeats 1000000 in
theorem kclone_some (ad : Addr) (n cap : Nat) (l : List Lk) (w : World) (hm : l.length ≤ 1000000) (hn : l.length = n) (hr : LkR w (.slice (some ad) n cap) l) :
    Calls Tryz.prog 164 #[.slice (some ad) n cap] w fun e w' => ∃ u, e = .returned u ∧ LkO w' w.heap.size u l ∧ Below w.heap.size w w' := by
  have hnil : ∀ w, (binOp .eql 153 (.slice (some ad) n cap) (.slice none 0 0)).run Tryz.prog w = .ok (.bool false) w := fun w => by
    have h2 : ∀ d : Nat, (Op.equalIn (d + 1) 153 (.slice (some ad) n cap) (.slice none 0 0)).run Tryz.prog w = .ok false w := fun d => by
      simp [Op.equalIn, run_underlying Tryz.underlying153]
    simp only [binOp]
    simp [Op.equal, Op.maxDepth, h2 9999]
  have hbn := below_new w (.cells #[] 97)
  have ho : LkO (w.alloc (.cells #[] 97)) w.heap.size (.slice (some ⟨w.heap.size, 0, none⟩) 0 0) [] := World.ownsRow_lit w #[] 0 (Nat.le_refl _) (Nat.zero_le _) rfl
  obtain ⟨a1, c1, w1, hrun, hown, hg⟩ := append_lks w.heap.size _ _ [] l _ ho (hr.below hbn) (by simp; omega) (by simp)
  rw [List.length_nil, Nat.zero_add, hn] at hrun hown
  rw [List.nil_append] at hown
  have hb1 : Below w.heap.size w w1 := hbn.grown hg (by simp) (fun k hk => by simp [Value.ownBlock] at hk; omega)
  have HO := hide hown
  have HB := hide hb1
  clear hr hbn ho hown hg hb1
  go_enter Tryz.func164, Tryz.ntmps164
  go_wp2_with (first | (at_builtin; refine wpList_append_run 153 rfl (.tmp 5) (.tmp 6) rfl rfl _ _ rfl rfl _ _ hrun ?_))
  clear hrun
  go_ret
  exact ⟨_, rfl, HO.out, HB.out⟩
theorem kclone_any (v : Value) (l : List Lk) (w : World) (hm : l.length ≤ 1000000) (hr : LkR w v l) :
    Calls Tryz.prog 164 #[v] w fun e w' => ∃ u, e = .returned u ∧ LkO w' w.heap.size u l ∧ Below w.heap.size w w' := by
  obtain ⟨a, c, hv⟩ := hr.form
  subst hv
  cases a with
  | some ad => exact kclone_some ad l.length c l w hm rfl hr
  | none =>
    have h0 : l = [] ∧ c = 0 := by
      obtain ⟨a', c', he, _, hn, hc⟩ := hr
      simp only [Value.slice.injEq] at he
      obtain ⟨rfl, -, rfl⟩ := he
      refine ⟨?_, hn rfl⟩
      cases l with
      | nil => rfl
      | cons p r => obtain ⟨g, o, he, _⟩ := hc 0 p.val rfl; cases he
    obtain ⟨rfl, rfl⟩ := h0
    have hnil : ∀ w, (binOp .eql 153 (.slice none 0 0) (.slice none 0 0)).run Tryz.prog w = .ok (.bool true) w := fun w => by
      have h2 : ∀ d : Nat, (Op.equalIn (d + 1) 153 (.slice none 0 0) (.slice none 0 0)).run Tryz.prog w = .ok true w := fun d => by
        simp [Op.equalIn, run_underlying Tryz.underlying153]
      simp only [binOp]
      simp [Op.equal, Op.maxDepth, h2 9999]
    clear hr
    rw [List.length_nil]
    go_enter Tryz.func164, Tryz.ntmps164
    go_wp2
    go_ret
    exact ⟨_, rfl, LkO.nil _ _, Below.refl _ _⟩

end Go.Proofs.YtnaedmmfiiebaaaGreatDoor.C

namespace Go.Proofs.YtnaedmmfiiebaaaGreatDoor.C
open Go.RowKit

theorem zeroK_cells (n : Nat) : (Builtin.zeroCells (Value.nilIface).cells n).size = n * 1 := by
  simp [Builtin.zeroCells, Value.cells]

set_option maxHeartbeats 1000000 in
theorem kgrow_any (n : Nat) (w : World) (hn : n * 16 ≤ 140737488355328) :
    Calls Tryz.prog 206 #[.slice none 0 0, .int .i64 (n : Int)] w fun e w' => ∃ u, e = .returned u ∧ LkO w' w.heap.size u [] ∧ Below w.heap.size w w' := by
  obtain ⟨i0, hi, hz, hsz, hby⟩ := info_parts infoK
  have hd0 : decide ((n : Int) < 0) = false := decide_eq_false (by omega)
  by_cases h0 : 0 < n
  · have hrun := Lib.run_append_nil_zeros (P := Tryz.prog) w 153 3 153 97 i0 _ .i64 .i64 Tryz.underlying153 Tryz.underlying3 hi hz n h0 (by omega) (by omega) (by rw [hby]; omega)
    have hpos : (0 : Int) < (n : Int) := by omega
    have hw : IntKind.i64.wrap ((n : Int)) = (n : Int) := by rw [IntKind.wrap_i64]; omega
    generalize hcap : grownCap w n 0 97 = cap at *
    have hle : n ≤ cap := by rw [← hcap]; exact grownCap_ge _ _ _ _
    have hmx : cap ≤ maxLen := by rw [← hcap]; exact grownCap_le_maxLen _ _ _ _ (by unfold maxLen; omega)
    generalize hcs : Builtin.zeroCells _ n ++ Builtin.zeroCells _ (cap - n) = cs at hrun
    have hcsz : cs.size = cap * 1 := by rw [← hcs, Array.size_append, zeroK_cells, zeroK_cells]; omega
    have HO : Hid (LkO (w.drew.alloc (.cells cs 97)) w.heap.size (.slice (some ⟨w.heap.size, 0, none⟩) 0 cap) []) :=
      ⟨by simp [lks], .inr ⟨w.heap.size, cap, cs, rfl, Nat.le_refl _, heap_alloc_new w.drew _, Nat.zero_le _, hmx, hcsz, by simp [lks]⟩⟩
    have HB : Hid (Below w.heap.size w (w.drew.alloc (.cells cs 97))) := ((Below.refl _ _).drew).alloc (Nat.le_refl _) _
    clear hcs hcap hi hz hsz hby hcsz
    go_enter Tryz.func206, Tryz.ntmps206
    go_wp2_with (first | (at_builtin; refine Lib.wpList_append_run _ rfl (.tmp 20) (.tmp 21) 153 3 rfl _ _ rfl rfl _ _ hrun ?_))
    go_ret
    exact ⟨_, rfl, HO.out, HB.out⟩
  · obtain rfl : n = 0 := by omega
    go_enter Tryz.func206, Tryz.ntmps206
    go_wp2
    go_ret
    exact ⟨_, rfl, LkO.nil _ _, Below.refl _ _⟩

/-- How many links the first k lists have. -/
def lensToK (LL : List (List Lk)) (k : Nat) : Nat := ((LL.take k).flatten).length
theorem lensToK_succ (LL : List (List Lk)) (k : Nat) (h : k < LL.length) : lensToK LL (k + 1) = lensToK LL k + LL[k].length := by
  unfold lensToK
  rw [List.take_succ_eq_append_getElem h, List.flatten_append, List.length_append]; simp
theorem lensToK_le (LL : List (List Lk)) (k : Nat) : lensToK LL k ≤ LL.flatten.length := by
  unfold lensToK
  conv => rhs; rw [← List.take_append_drop k LL, List.flatten_append, List.length_append]
  omega

set_option maxHeartbeats 2000000 in
theorem kconcat_any (B m cap : Nat) (svs : List Value) (LL : List (List Lk)) (w : World) (hm : LL.length = m) (hmb : m ≤ 3) (hs : svs.length = m) (hbig : LL.flatten.length * 16 ≤ 140737488355328)
    (hc : ∀ j (h : j < svs.length), w.cell? ⟨B, j, none⟩ = some svs[j]) (hr : ∀ j (h : j < LL.length) (h' : j < svs.length), LkR w svs[j] LL[j]) :
    Calls Tryz.prog 166 #[.slice (some ⟨B, 0, none⟩) m cap] w fun e w' => ∃ u, e = .returned u ∧ LkO w' w.heap.size u LL.flatten ∧ Below w.heap.size w w' := by
  have HM := hide hm
  have HS := hide hs
  have HC := hide hc
  have HR := hide hr
  have HBIG := hide hbig
  obtain ⟨T, hT⟩ : ∃ T, T = LL.flatten.length := ⟨_, rfl⟩
  have HT := hide hT
  have hTb : T * 16 ≤ 140737488355328 := by rw [hT]; exact hbig
  have HL0 : Hid (lensToK LL 0 = 0) := by show _ = _; simp [lensToK]
  clear hm hs hc hr hbig hT
  go_enter Tryz.func166, Tryz.ntmps166
  go_wp2
  go_loop [3, 11] (fun r i => ∃ k : Nat, k ≤ m ∧ i = .int .i64 k ∧ r = .int .i64 (lensToK LL k : Int)) (fun _ i => m - (intOf i).toNat)
  case atStart => exact ⟨0, Nat.zero_le _, rfl, by rw [HL0.out]; rfl⟩
  case round =>
    obtain ⟨k, hk, rfl, rfl⟩ := hrel
    by_cases hlt : k < m
    · have hk1 : k < svs.length := by have := HS.out; omega
      have hk2 : k < LL.length := by have := HM.out; omega
      have c1 := HC.out k hk1
      obtain ⟨a, c, hf⟩ := (HR.out k hk2 hk1).form
      rw [hf] at c1
      have HSU := hide (lensToK_succ LL k hk2)
      have HLE := hide (lensToK_le LL (k + 1))
      obtain ⟨x, hx⟩ : ∃ x, x = lensToK LL k := ⟨_, rfl⟩
      obtain ⟨y, hy⟩ : ∃ y, y = lensToK LL (k + 1) := ⟨_, rfl⟩
      obtain ⟨z, hz⟩ : ∃ z, z = LL[k].length := ⟨_, rfl⟩
      rw [← hx, ← hy, ← hz] at HSU
      rw [← hy, ← HT.out] at HLE
      rw [← hx]
      rw [← hz] at c1
      have HY := hide hy
      have hw : IntKind.i64.wrap ((x : Int) + (z : Int)) = (y : Int) := by rw [IntKind.wrap_i64]; have := HSU.out; have := HLE.out; omega
      have hd0 : decide ((y : Int) < 0) = false := decide_eq_false (by omega)
      have hltI : (k : Int) < (m : Int) := by omega
      clear hx hy hz hf HC HR
      go_wp2
      go_round
      case rel => exact ⟨k + 1, by omega, by go_num, by rw [← HY.out]⟩
      case measure => simp [intOf]; omega
    · have hkm : k = m := by omega
      subst hkm
      have hall : lensToK LL k = T := by
        rw [HT.out]; unfold lensToK; rw [List.take_of_length_le (by rw [HM.out]; exact Nat.le_refl _)]
      rw [hall]
      have hltI : ¬ (k : Int) < (k : Int) := by omega
      have HG := hide (kgrow_any T w hTb)
      clear hall hlt hk
      go_wp2_with fail
      refine HG.out.mono ?_
      rintro e w1 ⟨u, rfl, hown, hb1⟩
      have HO := hide hown
      have HB1 := hide hb1
      clear hown hb1 HG
      go_wp2
      go_loopw [6, 27] (fun u i wr => ∃ j : Nat, j ≤ k ∧ i = .int .i64 j ∧ LkO wr w.heap.size u ((LL.take j).flatten) ∧ Below w.heap.size w wr) (fun _ i _ => k - (intOf i).toNat)
      case atStart => exact ⟨0, Nat.zero_le _, rfl, by simpa using HO.out, HB1.out⟩
      case round =>
        obtain ⟨j, hj, rfl, hown, hbw⟩ := hrel
        clear HO HB1
        by_cases hlt : j < k
        · have hk1 : j < svs.length := by have := HS.out; omega
          have hk2 : j < LL.length := by have := HM.out; omega
          have c0 := HC.out j hk1
          have c1 : wr.cell? ⟨B, j, none⟩ = some svs[j] := (hbw.cell (p := ⟨B, j, none⟩) (World.block_lt_of_cell? w _ c0)).trans c0
          have hr1 := (HR.out j hk2 hk1).below hbw
          have hle := lensToK_le LL (j + 1)
          rw [lensToK_succ LL j hk2, ← HT.out] at hle
          unfold lensToK at hle
          obtain ⟨a1, cp1, w2, hrun, hown1, hg1⟩ := append_lks w.heap.size _ _ _ _ wr hown hr1 (by omega) hbw.size
          have hb2 : Below w.heap.size w w2 := hbw.grown hg1 hbw.size (fun q hq => (hown.blk q hq).1)
          obtain ⟨a, c, hf⟩ := hr1.form
          obtain ⟨ua, uc, hu⟩ := hown.form
          subst hu
          rw [hf] at c1 hrun
          have hfl : (LL.take j).flatten ++ LL[j] = (LL.take (j + 1)).flatten := by
            rw [List.take_succ_eq_append_getElem hk2, List.flatten_append]; simp
          rw [hfl] at hown1
          generalize ((LL.take j).flatten).length = L1 at *
          generalize LL[j].length = L2 at *
          have HO2 := hide hown1
          have HB2 := hide hb2
          have hltI : (j : Int) < (k : Int) := by omega
          clear hf HC HR hown hown1 hbw hb2 hg1 hr1 c0 hle
          go_wp2_with (first | (at_builtin; refine wpList_append_run 153 rfl (.tmp 31) (.tmp 32) rfl rfl _ _ rfl rfl _ _ hrun ?_))
          clear hrun
          go_wp2
          go_roundw
          case rel => exact ⟨j + 1, by omega, by go_num, HO2.out, HB2.out⟩
          case measure => simp [intOf]; omega
        · have hall : LL.take j = LL := by rw [List.take_of_length_le]; have := HM.out; omega
          rw [hall] at hown
          have HO := hide hown
          have HB := hide hbw
          have hltI : ¬ (j : Int) < (k : Int) := by omega
          clear hown hbw hall HC HR
          go_wp2
          go_ret
          exact ⟨_, rfl, HO.out, HB.out⟩

end Go.Proofs.YtnaedmmfiiebaaaGreatDoor.C

namespace Go.Proofs.YtnaedmmfiiebaaaGreatDoor.C
open Go.RowKit Go.Lib

/-- copy, of elements of two cells, into a row. -/
theorem run_copy_row2 {P : Program} (w : World) (dT sT ty elem : TypeId) (g o dLen dCap : Nat) (a : Addr) (sLen sCap : Nat) (cur : Array Value) (t : TypeId) (cs : List Value)
    (hu : P.underlying dT = some (.slice elem)) (hs : (P.info? elem).map (·.size) = some 1)
    (hg : w.heap[g]? = some (.cells cur t (0, 0))) (hn : cs.length = Nat.min sLen dLen * 1)
    (hsrc : ∀ j v, cs[j]? = some v → w.cell? (a.add j) = some v) (hfit : o + cs.length ≤ cur.size) (h1 : ∀ v ∈ cs, v.oneCell' = true) :
    (Builtin.copy_ #[dT, sT] ty #[.slice (some ⟨g, o, none⟩) dLen dCap, .slice (some a) sLen sCap]).run P w =
      .ok (goInt (Nat.min sLen dLen)) (w.setRow g (cur.toList.take o ++ cs ++ cur.toList.drop (o + cs.length)).toArray) := by
  have hl := run_loadCells_list (P := P) w a cs hsrc
  have hst := run_storeCells_at P g o t cs 0 cur w hg (by simpa using hfit) h1
  cases hq : P.info? elem with
  | none => simp [hq] at hs
  | some i =>
    have hi : i.size = 1 := by simpa [hq] using hs
    simp [Builtin.copy_, run_underlying hu, Builtin.lenOf, Builtin.firstCells, sizeOf, typeInfo, hq, hi, ← hn, hl, hst]

/-- clear, of one element of one cell. -/
theorem run_clear_row2 {P : Program} (w : World) (t e ty : TypeId) (x : Value) (ht : P.underlying t = some (.slice e)) (hv : ∀ w, (zeroValue e).run P w = .ok x w) (hx : x.oneCell' = true) (hxc : x.cells = #[x]) (g o c : Nat) (cur : Array Value) (tt : TypeId)
    (hg : w.heap[g]? = some (.cells cur tt (0, 0))) (hfit : o + 1 ≤ cur.size) :
    (Builtin.clear_ #[t] ty #[.slice (some ⟨g, o, none⟩) 1 c]).run P w = .ok (.tuple #[]) (w.setRow g (cur.toList.take o ++ [x] ++ cur.toList.drop (o + 1)).toArray) := by
  have hzc : (Builtin.zeroCells x.cells 1).toList = [x] := by
    rw [hxc]
    simp [Builtin.zeroCells, Array.range]
  have hst := run_storeCells_at P g o tt [x] 0 cur w hg (by simpa using hfit) (by intro v hv'; simp at hv'; subst hv'; exact hx)
  simp [Builtin.clear_, run_underlying ht, hv, hzc, hst]

end Go.Proofs.YtnaedmmfiiebaaaGreatDoor.C
