import Derived.Test.YtnaedmmfiiebaaaGreatDoorG01
import Derived.Test.YtnaedmmfiiebaaaGreatDoorG02
import Derived.Deep.RegionHeld3
import Derived.WalkMore
import Derived.Test.YtnaedmmfiiebaaaGreatDoorG00
namespace Go.Proofs.YtnaedmmfiiebaaaGreatDoor.B
open Go.RowKit

set_option maxHeartbeats 400000 in
theorem bsizeOf_any (p : Lk) (w : World) (h1 : p.1.size ≤ 140737488355328) :
    Calls Tryz.prog 194 #[.agg #[.string p.1, .int .i64 p.2]] w fun e w' => e = .returned (.int .i64 (szK p : Int)) ∧ Below w.heap.size w w' := by
  have hbn := below_new w (.cells #[.string p.1, .int .i64 p.2] 179)
  have hw1 : IntKind.i64.wrap (7 + (p.1.size : Int)) = (szK p : Int) := by rw [IntKind.wrap_i64]; unfold szK; omega
  go_enter Tryz.func194, Tryz.ntmps194
  go_wp2
  go_ret
  exact ⟨rfl, hbn⟩

def szsK (l : List Lk) : List Int := l.map fun p => (szK p : Int)
theorem szsK_len (l : List Lk) : (szsK l).length = l.length := by simp [szsK]
theorem szsK_take_succ (l : List Lk) (k : Nat) (h : k < l.length) : szsK (l.take (k + 1)) = szsK (l.take k) ++ [(szK l[k] : Int)] := by
  unfold szsK
  rw [List.take_succ_eq_append_getElem h, List.map_append]; rfl
/-- What the list of sizes holds when k are laid. -/
def szAtK (l : List Lk) (k : Nat) : List Value := ints (szsK (l.take k)) ++ List.replicate (l.length - k) (.int .i64 0)
theorem szAtK_set (l : List Lk) (k : Nat) (h : k < l.length) : (szAtK l k).set k (.int .i64 (szK l[k] : Int)) = szAtK l (k + 1) := by
  have hl : (ints (szsK (l.take k))).length = k := by rw [ints_length, szsK_len, List.length_take]; omega
  unfold szAtK
  rw [List.set_append_right _ _ (by omega), hl, Nat.sub_self, szsK_take_succ l k h, ints_append, show l.length - k = l.length - (k + 1) + 1 by omega, List.replicate_succ, List.set_cons_zero, List.append_assoc]
  rfl
theorem szAtK_len (l : List Lk) (k : Nat) (h : k ≤ l.length) : (szAtK l k).length = l.length := by
  unfold szAtK; rw [List.length_append, ints_length, szsK_len, List.length_take, List.length_replicate]; omega
theorem szAtK_zero (l : List Lk) : szAtK l 0 = List.replicate l.length (.int .i64 0) := by simp [szAtK, ints, szsK]
theorem szAtK_all (l : List Lk) : szAtK l l.length = ints (szsK l) := by simp [szAtK]
theorem own_below {w w' : World} {base e n : Nat} {v : Value} {xs : List Value} (h : w.ownsRow base e 1 v n xs) (hb : Below w.heap.size w w') : w'.ownsRow base e 1 v n xs := by
  refine ⟨h.1, ?_⟩
  rcases h.2 with h' | ⟨g, cap, cur, h', h1, h2, hr⟩
  · exact .inl h'
  · refine .inr ⟨g, cap, cur, h', h1, ?_, hr⟩
    have hg : g < w.heap.size := by
      rcases Nat.lt_or_ge g w.heap.size with h' | h'
      · exact h'
      · rw [Array.getElem?_eq_none h'] at h2; cases h2
    rw [hb.block g hg]; exact h2

set_option maxHeartbeats 1000000 in
theorem bsizes_any (v : Value) (l : List Lk) (w : World) (hok : OkK l) (hm : l.length ≤ 5864062014805) (hr : LkR w v l) :
    Calls Tryz.prog 214 #[v] w fun e w' => ∃ u, e = .returned u ∧ IntR w' u (szsK l) ∧ Below w.heap.size w w' := by
  obtain ⟨i0, hi, hz, hsz, hby⟩ := info_parts info3
  obtain ⟨a, cap, rfl, hcap, _, hc⟩ := hr
  have HC := hide hc
  have HOK := hide hok
  obtain ⟨wm, hmk, hown0, hg0⟩ := run_make_full (P := Tryz.prog) w w.heap.size 69 3 i0 _ 1 Tryz.underlying69 hi hz hsz .i64 .i64 l.length (by rw [hby]; omega) (by unfold maxLen; omega) (Nat.le_refl _)
  have hz0 : (madeCells (Value.int .i64 0).cells (l.length * 1)).toList = szAtK l 0 := by
    rw [szAtK_zero, Nat.mul_one]; exact toList_madeCells_one _ _
  rw [hz0] at hown0
  have hbm : Below w.heap.size w wm := (Below.refl _ _).grown hg0 (Nat.le_refl _) (fun j hj => by cases hj)
  obtain ⟨n, hn⟩ : ∃ n, n = l.length := ⟨_, rfl⟩
  obtain ⟨b, hb⟩ : ∃ b, b = w.heap.size := ⟨_, rfl⟩
  rw [← hn] at hm hmk hown0 ⊢
  rw [← hb] at hmk hown0
  have HN := hide hn
  have HB := hide hb
  have HO := hide hown0
  have HBM := hide hbm
  clear hc hn hcap hok hb hown0 hbm hg0 hi hz hsz hby hz0
  go_enter Tryz.func214, Tryz.ntmps214
  go_wp2
  clear hmk
  go_loopw [11] (fun i wr => ∃ k : Nat, k ≤ n ∧ i = .int .i64 k ∧ wr.ownsRow b 3 1 (.slice (some ⟨b, 0, none⟩) n n) n (szAtK l k) ∧ Below w.heap.size w wr) (fun i _ => n - (intOf i).toNat)
  case atStart => exact ⟨0, Nat.zero_le _, rfl, HO.out, HBM.out⟩
  case round =>
    obtain ⟨k, hk, rfl, hown, hbw⟩ := hrel
    clear HO HBM
    by_cases hlt : k < n
    · have hkl : k < l.length := by have := HN.out; omega
      obtain ⟨g, o, rfl, f1, f2⟩ := HC.out k hkl
      have c1 : wr.cell? ⟨g, o + k * 2, none⟩ = some (.string l[k].1) := (hbw.cell (p := ⟨g, o + k * 2, none⟩) (World.block_lt_of_cell? w _ f1)).trans f1
      have c2 : wr.cell? ⟨g, o + k * 2 + 1, none⟩ = some (.int .i64 l[k].2) := (hbw.cell (p := ⟨g, o + k * 2 + 1, none⟩) (World.block_lt_of_cell? w _ f2)).trans f2
      have hp0 := HOK.out l[k] (List.getElem_mem _)
      have HSET := hide (szAtK_set l k hkl)
      have hbn := below_new wr (.cells #[.string l[k].1, .int .i64 l[k].2] 179)
      have HO1 := hide (own_below hown hbn)
      have HB1 := hide (Below.next hbw hbn)
      have HZ := hide (fun W => bsizeOf_any l[k] W hp0)
      obtain ⟨p, hp⟩ : ∃ p, p = l[k] := ⟨_, rfl⟩
      rw [← hp] at c1 c2 HSET HO1 HB1 HZ
      have HLEN := hide (szAtK_len l k (by omega))
      have hltI : (k : Int) < (n : Int) := by omega
      have j0 : (0 : Int) ≤ (k : Int) := by omega
      clear hp HC f1 f2 hbw hown hp0 hbn
      go_wp2_with fail
      refine (HZ.out _).mono ?_
      rintro e w1 ⟨rfl, hb1⟩
      have ho1 := own_below HO1.out hb1
      have q1 : ∃ u, w1.cell? ⟨b, k, none⟩ = some u := by
        rw [World.ownsRow.cellAt ho1 k (by omega)]
        exact ⟨_, List.getElem?_eq_getElem (by rw [HLEN.out]; exact hkl)⟩
      obtain ⟨u, q1⟩ := q1
      have z1 : w1.frozen? ⟨b, k, none⟩ = false := World.ownsRow.frozenAt ho1 k
      obtain ⟨z, hz⟩ : ∃ z, z = szK p := ⟨_, rfl⟩
      rw [← hz] at HSET ⊢
      have hst := (World.ownsRow.stored ho1 k (.int .i64 (z : Int))).1
      rw [HSET.out] at hst
      have HO2 := hide hst
      have HB2 : Hid (Below w.heap.size w (w1.setCell ⟨b, k, none⟩ (.int .i64 (z : Int)))) := (Below.next HB1.out hb1).setCell (by rw [HB.out]; exact Nat.le_refl _) _
      clear hb1 HB1 HZ c1 c2 ho1 hst hz HSET HO1
      go_wp2
      go_roundw
      case rel => exact ⟨k + 1, by omega, by go_num, HO2.out, HB2.out⟩
      case measure => simp [intOf]; omega
    · have hkn : k = l.length := by have := HN.out; omega
      rw [hkn, szAtK_all] at hown
      have HI := hide (rowR_of_owns hown).ints
      have HBW := hide hbw
      have hltI : ¬ (k : Int) < (n : Int) := by have := HN.out; omega
      have HKN := hide hkn
      clear HC hbw hown hkn
      go_wp2
      go_ret
      exact ⟨_, rfl, HI.out, HBW.out⟩

set_option maxHeartbeats 1000000 in
theorem kclone_some (ad : Addr) (n cap : Nat) (l : List Lk) (w : World) (hm : l.length ≤ 5864062014805) (hn : l.length = n) (hr : LkR w (.slice (some ad) n cap) l) :
    Calls Tryz.prog 209 #[.slice (some ad) n cap] w fun e w' => ∃ u, e = .returned u ∧ LkO w' w.heap.size u l ∧ Below w.heap.size w w' := by
  have hnil : ∀ w, (binOp .eql 148 (.slice (some ad) n cap) (.slice none 0 0)).run Tryz.prog w = .ok (.bool false) w := fun w => by
    have h2 : ∀ d : Nat, (Op.equalIn (d + 1) 148 (.slice (some ad) n cap) (.slice none 0 0)).run Tryz.prog w = .ok false w := fun d => by
      simp [Op.equalIn, run_underlying Tryz.underlying148]
    simp only [binOp]
    simp [Op.equal, Op.maxDepth, h2 9999]
  have hbn := below_new w (.cells #[] 179)
  have ho : LkO (w.alloc (.cells #[] 179)) w.heap.size (.slice (some ⟨w.heap.size, 0, none⟩) 0 0) [] := World.ownsRow_lit w #[] 0 (Nat.le_refl _) (Nat.zero_le _) rfl
  obtain ⟨a1, c1, w1, hrun, hown, hg⟩ := append_lks w.heap.size _ _ [] l _ ho (hr.below hbn) (by simp; omega) (by simp)
  rw [List.length_nil, Nat.zero_add, hn] at hrun hown
  rw [List.nil_append] at hown
  have hb1 : Below w.heap.size w w1 := hbn.grown hg (by simp) (fun k hk => by simp [Value.ownBlock] at hk; omega)
  have HO := hide hown
  have HB := hide hb1
  clear hr hbn ho hown hg hb1
  go_enter Tryz.func209, Tryz.ntmps209
  go_wp2_with (first | (at_builtin; refine wpList_append_run 148 rfl (.tmp 5) (.tmp 6) rfl rfl _ _ rfl rfl _ _ hrun ?_))
  clear hrun
  go_ret
  exact ⟨_, rfl, HO.out, HB.out⟩


theorem kclone_any (v : Value) (l : List Lk) (w : World) (hm : l.length ≤ 5864062014805) (hr : LkR w v l) :
    Calls Tryz.prog 209 #[v] w fun e w' => ∃ u, e = .returned u ∧ LkO w' w.heap.size u l ∧ Below w.heap.size w w' := by
  obtain ⟨a, c, hv⟩ := hr.form
  subst hv
  cases a with
  | some ad => exact kclone_some ad l.length c l w hm rfl hr
  | none =>
    have h0 : l = [] ∧ c = 0 := by
      obtain ⟨a', c', he, _, hn, hc⟩ := hr
      cases he
      refine ⟨?_, hn rfl⟩
      cases l with
      | nil => rfl
      | cons p r => obtain ⟨g, o, he, _⟩ := hc 0 (by simp); cases he
    obtain ⟨rfl, rfl⟩ := h0
    have hnil : ∀ w, (binOp .eql 148 (.slice none 0 0) (.slice none 0 0)).run Tryz.prog w = .ok (.bool true) w := fun w => by
      have h2 : ∀ d : Nat, (Op.equalIn (d + 1) 148 (.slice none 0 0) (.slice none 0 0)).run Tryz.prog w = .ok true w := fun d => by
        simp [Op.equalIn, run_underlying Tryz.underlying148]
      simp only [binOp]
      simp [Op.equal, Op.maxDepth, h2 9999]
    clear hr
    rw [List.length_nil]
    go_enter Tryz.func209, Tryz.ntmps209
    go_wp2
    go_ret
    exact ⟨_, rfl, LkO.nil _ _, Below.refl _ _⟩

end Go.Proofs.YtnaedmmfiiebaaaGreatDoor.B

namespace Go.Proofs.YtnaedmmfiiebaaaGreatDoor.B
open Go.RowKit

/-- What a machine's word keeps of a size. -/
def wsz (n : Nat) : Int := IntKind.i64.wrap (n : Int)
theorem wsz_add (a b : Nat) : IntKind.i64.wrap (wsz a + (b : Int)) = wsz (a + b) := by
  unfold wsz; rw [IntKind.wrap_i64, IntKind.wrap_i64, IntKind.wrap_i64]; omega
theorem wsz_small {n : Nat} (h : n ≤ 4611686018427387904) : wsz n = (n : Int) := by
  unfold wsz; rw [IntKind.wrap_i64]; omega

set_option maxHeartbeats 1000000 in
theorem bsize_any (f : Int) (v : Value) (l : List Lk) (w : World) (hok : OkK l) (hm : l.length ≤ 140737488355328) (hr : LkR w v l) :
    Calls Tryz.prog 156 #[.agg #[.int .i64 f, v]] w fun e w' => e = .returned (.int .i64 (wsz (szB l))) ∧ Below w.heap.size w w' := by
  obtain ⟨a, cap, hv⟩ := hr.form
  subst hv
  obtain ⟨n, hn⟩ : ∃ n, n = l.length := ⟨_, rfl⟩
  rw [← hn] at hr hm ⊢
  have q0 := below_new w (.cells #[.int .i64 f, .slice a n cap] 150)
  have x0 := RowAt.new w #[.int .i64 f, .slice a n cap] 150
  generalize hW0 : w.alloc (.cells #[.int .i64 f, .slice a n cap] 150) = W0 at *
  have p1 := x0.c1
  have HR := hide (hr.below q0)
  have HN := hide hn
  have HOK := hide hok
  have HQ := hide q0
  have H0 : Hid (wsz (szB (l.take 0)) = 6) := by show _ = _; simp [szB_nil, wsz_small]
  clear hn hok hr q0 x0
  go_enter Tryz.func156, Tryz.ntmps156
  go_wp2
  clear p1
  go_loopw [3, 9] (fun r i wr => ∃ k : Nat, k ≤ n ∧ i = .int .i64 k ∧ r = .int .i64 (wsz (szB (l.take k))) ∧ Below W0.heap.size W0 wr) (fun _ i _ => n - (intOf i).toNat)
  case atStart => exact ⟨0, Nat.zero_le _, rfl, by rw [H0.out], Below.refl _ _⟩
  case round =>
    obtain ⟨k, hk, rfl, rfl, hbw⟩ := hrel
    by_cases hlt : k < n
    · have hkl : k < l.length := by have := HN.out; omega
      obtain ⟨g, o, rfl, c1, c2⟩ := (HR.out.below hbw).spot k hkl
      have hp0 := HOK.out l[k] (List.getElem_mem _)
      have hws : IntKind.i64.wrap (wsz (szB (l.take k)) + (szK l[k] : Int)) = wsz (szB (l.take (k + 1))) := by rw [wsz_add, ← szB_take_succ l k hkl]
      obtain ⟨p, hp⟩ : ∃ p, p = l[k] := ⟨_, rfl⟩
      rw [← hp] at c1 c2 hws hp0
      have HZ := hide (fun W => bsizeOf_any p W hp0)
      obtain ⟨x, hx⟩ : ∃ x, x = wsz (szB (l.take k)) := ⟨_, rfl⟩
      obtain ⟨y, hy⟩ : ∃ y, y = wsz (szB (l.take (k + 1))) := ⟨_, rfl⟩
      obtain ⟨z, hz⟩ : ∃ z, z = szK p := ⟨_, rfl⟩
      rw [← hx, ← hy, ← hz] at hws
      rw [← hx]
      rw [← hz] at HZ
      have HY := hide hy
      have hltI : (k : Int) < (n : Int) := by omega
      have HB := hide (Below.next hbw (below_new wr (.cells #[.string p.1, .int .i64 p.2] 179)))
      clear hp hx hy hz hbw hp0
      go_wp2_with fail
      refine (HZ.out _).mono ?_
      rintro e w1 ⟨rfl, hb1⟩
      have HB1 := hide (Below.next HB.out hb1)
      clear hb1 HB HZ c1 c2
      go_wp2
      go_roundw
      case rel => exact ⟨k + 1, by omega, by go_num, by rw [← HY.out], HB1.out⟩
      case measure => simp [intOf]; omega
    · have hall : l.take k = l := by rw [List.take_of_length_le]; have := HN.out; omega
      rw [hall]
      have HB := hide (Below.next HQ.out hbw)
      have hltI : ¬ (k : Int) < (n : Int) := by omega
      obtain ⟨x, hx⟩ : ∃ x, x = wsz (szB l) := ⟨_, rfl⟩
      rw [← hx]
      have HX := hide hx
      clear hbw hall hx
      go_wp2
      go_ret
      exact ⟨by rw [← HX.out]; rfl, HB.out⟩

set_option maxHeartbeats 400000 in
theorem mayc_any (n : Int) (w : World) : Calls Tryz.prog 195 #[.int .i64 n] w fun e w' => e = .returned (.bool (childB n)) ∧ w = w' := by
  by_cases h1 : 2 ≤ n
  · by_cases h2 : n < 1048576
    · have hm : childB n = true := decide_eq_true ⟨h1, h2⟩
      rw [hm]; clear hm
      go_enter Tryz.func195, Tryz.ntmps195
      go_wp2
      go_ret
      exact ⟨rfl, rfl⟩
    · have hm : childB n = false := decide_eq_false (fun h => h2 h.2)
      rw [hm]; clear hm
      go_enter Tryz.func195, Tryz.ntmps195
      go_wp2
      go_ret
      exact ⟨rfl, rfl⟩
  · have hm : childB n = false := decide_eq_false (fun h => h1 h.1)
    rw [hm]; clear hm
    go_enter Tryz.func195, Tryz.ntmps195
    go_wp2
    go_ret
    exact ⟨rfl, rfl⟩

set_option maxHeartbeats 800000 in
theorem may_any (p : Lk) (w : World) :
    Calls Tryz.prog 198 #[.agg #[.string p.1, .int .i64 p.2]] w fun e w' => e = .returned (.bool (mayK p)) ∧ Below w.heap.size w w' := by
  have HB := hide (below_new w (.cells #[.string p.1, .int .i64 p.2] 179))
  by_cases h1 : 1 ≤ p.1.size
  · have i1 : (1 : Int) ≤ (p.1.size : Int) := by omega
    by_cases h2 : p.1.size ≤ 255
    · have i2 : (p.1.size : Int) ≤ 255 := by omega
      have hm : mayK p = childB p.2 := by
        unfold mayK childB
        congr 1
        apply propext
        exact ⟨fun h => h.2.2, fun h => ⟨h1, h2, h⟩⟩
      rw [hm]
      have HC := hide (fun W => mayc_any p.2 W)
      generalize childB p.2 = cb at *
      clear hm
      go_enter Tryz.func198, Tryz.ntmps198
      go_wp2_with fail
      refine (HC.out _).mono ?_
      rintro e w1 ⟨rfl, rfl⟩
      go_wp2
      go_ret
      exact ⟨rfl, HB.out⟩
    · have i2 : ¬ (p.1.size : Int) ≤ 255 := by omega
      have hm : mayK p = false := decide_eq_false (fun h => h2 h.2.1)
      rw [hm]; clear hm
      go_enter Tryz.func198, Tryz.ntmps198
      go_wp2
      go_ret
      exact ⟨rfl, HB.out⟩
  · have i1 : ¬ (1 : Int) ≤ (p.1.size : Int) := by omega
    have hm : mayK p = false := decide_eq_false (fun h => h1 h.1)
    rw [hm]; clear hm
    go_enter Tryz.func198, Tryz.ntmps198
    go_wp2
    go_ret
    exact ⟨rfl, HB.out⟩

set_option maxHeartbeats 400000 in
theorem allf_any (p : Lk) (w : World) :
    Calls Tryz.prog 197 #[.agg #[.string p.1, .int .i64 p.2]] w fun e w' => e = .returned (.bool (!mayK p)) ∧ Below w.heap.size w w' := by
  have HB := hide (below_new w (.cells #[.string p.1, .int .i64 p.2] 179))
  have HC := hide (fun W => may_any p W)
  generalize mayK p = cb at *
  go_enter Tryz.func197, Tryz.ntmps197
  go_wp2_with fail
  refine (HC.out _).mono ?_
  rintro e w1 ⟨rfl, hb1⟩
  have HB1 := hide (Below.next HB.out hb1)
  clear hb1
  go_wp2
  go_ret
  exact ⟨rfl, HB1.out⟩

set_option maxHeartbeats 1000000 in
theorem kidxf_any (v : Value) (l : List Lk) (w : World) (hm : l.length ≤ 140737488355328) (hr : LkR w v l) :
    Calls Tryz.prog 230 #[v, .func (.func 197) #[] #[]] w fun e w' => ((l.all mayK = true ∧ e = .returned (.int .i64 (-1))) ∨ (l.all mayK = false ∧ ∃ k : Nat, e = .returned (.int .i64 (k : Int)))) ∧ Below w.heap.size w w' := by
  obtain ⟨a, cap, hv⟩ := hr.form
  subst hv
  obtain ⟨n, hn⟩ : ∃ n, n = l.length := ⟨_, rfl⟩
  rw [← hn] at hr hm ⊢
  have HR := hide hr
  have HN := hide hn
  obtain ⟨Q, hQ⟩ : ∃ Q : Ending → World → Prop, Q = fun e w' => ((l.all mayK = true ∧ e = .returned (.int .i64 (-1))) ∨ (l.all mayK = false ∧ ∃ k : Nat, e = .returned (.int .i64 (k : Int)))) ∧ Below w.heap.size w w' := ⟨_, rfl⟩
  rw [← hQ]
  have HQ := hide hQ
  clear hn hr hQ
  go_enter Tryz.func230, Tryz.ntmps230
  go_wp2
  go_loopw [8] (fun i wr => ∃ k : Nat, k ≤ n ∧ i = .int .i64 k ∧ (∀ j (h : j < l.length), j < k → mayK l[j] = true) ∧ Below w.heap.size w wr) (fun i _ => n - (intOf i).toNat)
  case atStart => exact ⟨0, Nat.zero_le _, rfl, fun j _ h => absurd h (Nat.not_lt_zero _), Below.refl _ _⟩
  case round =>
    obtain ⟨k, hk, rfl, hpre, hbw⟩ := hrel
    have HP := hide hpre
    clear hpre
    by_cases hlt : k < n
    · have hkl : k < l.length := by have := HN.out; omega
      obtain ⟨g, o, rfl, c1, c2⟩ := (HR.out.below hbw).spot k hkl
      have HF := hide (fun W => allf_any l[k] W)
      have HNX : Hid (mayK l[k] = true → ∀ j (h : j < l.length), j < k + 1 → mayK l[j] = true) := fun hl j h hj => by
        by_cases he : j = k
        · subst he; exact hl
        · exact HP.out j h (by omega)
      have HAT : Hid (mayK l[k] = false → l.all mayK = false) := fun hl => by rw [List.all_eq_false]; exact ⟨l[k], List.getElem_mem _, by simp [hl]⟩
      obtain ⟨p, hp⟩ : ∃ p, p = l[k] := ⟨_, rfl⟩
      rw [← hp] at c1 c2 HF HNX HAT
      have hltI : (k : Int) < (n : Int) := by omega
      have j0 : (0 : Int) ≤ (k : Int) := by omega
      have HB := hide hbw
      clear hp hbw
      cases hb : mayK p with
      | true =>
        rw [hb] at HF
        have HNX2 := hide (HNX.out hb)
        clear HNX HAT hb
        go_wp2_with fail
        refine (HF.out _).mono ?_
        rintro e w1 ⟨rfl, hb1⟩
        have HB1 := hide (Below.next HB.out hb1)
        clear hb1 HB HF c1 c2
        go_wp2
        go_roundw
        case rel => exact ⟨k + 1, by omega, by go_num, HNX2.out, HB1.out⟩
        case measure => simp [intOf]; omega
      | false =>
        rw [hb] at HF
        have HAT2 := hide (HAT.out hb)
        clear HNX HAT hb
        go_wp2_with fail
        refine (HF.out _).mono ?_
        rintro e w1 ⟨rfl, hb1⟩
        have HB1 := hide (Below.next HB.out hb1)
        clear hb1 HB HF c1 c2
        go_wp2
        rw [HQ.out]
        exact ⟨.inr ⟨HAT2.out, k, rfl⟩, HB1.out⟩
    · have hltI : ¬ (k : Int) < (n : Int) := by omega
      have HALL : Hid (l.all mayK = true) := List.all_eq_true.2 (fun p hp => by
        obtain ⟨i, hi, rfl⟩ := List.getElem_of_mem hp
        exact HP.out i hi (by have := HN.out; omega))
      have HB := hide hbw
      clear hbw HP
      go_wp2
      rw [HQ.out]
      exact ⟨.inl ⟨HALL.out, rfl⟩, HB.out⟩

set_option maxHeartbeats 400000 in
theorem kcontf_any (v : Value) (l : List Lk) (w : World) (hm : l.length ≤ 140737488355328) (hr : LkR w v l) :
    Calls Tryz.prog 196 #[v, .func (.func 197) #[] #[]] w fun e w' => e = .returned (.bool (!l.all mayK)) ∧ Below w.heap.size w w' := by
  have HI := hide (kidxf_any v l w hm hr)
  obtain ⟨a, cap, hv⟩ := hr.form
  subst hv
  clear hr
  go_enter Tryz.func196, Tryz.ntmps196
  go_wp2_with fail
  refine HI.out.mono ?_
  rintro e w1 ⟨⟨hall, rfl⟩ | ⟨hall, k, rfl⟩, hb1⟩
  · have HB := hide hb1
    have HA := hide hall
    clear hb1 hall HI
    go_wp2
    go_ret
    exact ⟨by rw [HA.out]; rfl, HB.out⟩
  · have HB := hide hb1
    have HA := hide hall
    have hk : (0 : Int) ≤ (k : Int) := by omega
    clear hb1 hall HI
    go_wp2
    go_ret
    exact ⟨by rw [HA.out]; rfl, HB.out⟩

set_option maxHeartbeats 800000 in
theorem allmay_any (f : Int) (v : Value) (l : List Lk) (w : World) (hm : l.length ≤ 140737488355328) (hr : LkR w v l) :
    Calls Tryz.prog 157 #[.agg #[.int .i64 f, v]] w fun e w' => e = .returned (.bool (childB f && l.all mayK)) ∧ Below w.heap.size w w' := by
  obtain ⟨a, cap, hv⟩ := hr.form
  subst hv
  have q0 := below_new w (.cells #[.int .i64 f, .slice a l.length cap] 150)
  have x0 := RowAt.new w #[.int .i64 f, .slice a l.length cap] 150
  generalize hW0 : w.alloc (.cells #[.int .i64 f, .slice a l.length cap] 150) = W0 at *
  have p0 := x0.c0
  have p1 := x0.c1
  have HK := hide (kcontf_any _ l W0 hm (hr.below q0))
  have HC := hide (mayc_any f W0)
  have HQ := hide q0
  generalize l.length = n at *
  generalize l.all mayK = lb at *
  clear q0 x0 hr
  cases hc : childB f with
  | true =>
    rw [hc] at HC
    clear hc
    go_enter Tryz.func157, Tryz.ntmps157
    go_wp2_with fail
    refine HC.out.mono ?_
    rintro e w1 ⟨rfl, rfl⟩
    go_wp2_with fail
    refine HK.out.mono ?_
    rintro e w2 ⟨rfl, hb2⟩
    have HB := hide (Below.next HQ.out hb2)
    clear hb2 HK HC p0 p1
    go_wp2
    go_ret
    exact ⟨by cases lb <;> rfl, HB.out⟩
  | false =>
    rw [hc] at HC
    clear hc
    go_enter Tryz.func157, Tryz.ntmps157
    go_wp2_with fail
    refine HC.out.mono ?_
    rintro e w1 ⟨rfl, rfl⟩
    clear HC HK
    go_wp2
    go_ret
    exact ⟨by cases lb <;> rfl, HQ.out⟩

end Go.Proofs.YtnaedmmfiiebaaaGreatDoor.B

namespace Go.Proofs.YtnaedmmfiiebaaaGreatDoor

theorem found_eq {l : List Pr} {key : ByteArray} (h : foundB l key = true) : (l[findN l key]'(foundB_lt h)).1 = key := by
  have := foundB_at (foundB_lt h)
  rw [h] at this
  exact of_decide_eq_true this.symm
theorem found_not {l : List Pr} {key : ByteArray} (h : foundB l key = false) (hl : findN l key < l.length) : ¬ (l[findN l key]).1 = key := by
  have := foundB_at hl
  rw [h] at this
  exact of_decide_eq_false this.symm
theorem behind_eq (l : List Pr) (key : ByteArray) : behindN l key = findN l key + (if foundB l key then 1 else 0) := by
  unfold behindN; split <;> rfl
/-- Behind the place all keys are above. -/
theorem behind_above {l : List Pr} {key : ByteArray} (hr : Rise l) (j : Nat) (hj : j < l.length) (hb : behindN l key ≤ j) : ltK key l[j].1 = true := by
  have hq : findN l key < l.length := by have := behindN_ge l key; omega
  cases hf : foundB l key with
  | true =>
    have he := found_eq hf
    have hlt : findN l key < j := by rw [behind_eq, hf] at hb; simp at hb; omega
    have := hr.lt (findN l key) j hj hlt
    rw [he] at this
    exact this
  | false =>
    have hne := found_not hf hq
    have hge := findN_at l key hq
    have hlt : ltK key (l[findN l key]).1 = true := by
      cases h : ltK key (l[findN l key]).1 with
      | true => rfl
      | false => exact absurd (ltK_total hge h) hne
    by_cases he : j = findN l key
    · subst he; exact hlt
    · have : findN l key < j := by have := behindN_ge l key; omega
      exact ltK_trans hlt (hr.lt (findN l key) j hj this)
theorem dropL_len (l : List Pr) (key : ByteArray) : (dropL l key).length = findN l key + (l.length - behindN l key) := by
  have := findN_le l key
  simp only [dropL, List.length_append, List.length_take, List.length_drop]; omega
theorem dropL_get {l : List Pr} {key : ByteArray} (j : Nat) (h : j < (dropL l key).length) : (j < findN l key ∧ ∃ hj : j < l.length, (dropL l key)[j] = l[j]) ∨ (findN l key ≤ j ∧ ∃ hj : behindN l key + (j - findN l key) < l.length, (dropL l key)[j] = l[behindN l key + (j - findN l key)]) := by
  have hq := findN_le l key
  have hln := dropL_len l key
  by_cases hj : j < findN l key
  · refine .inl ⟨hj, by omega, ?_⟩
    have : (dropL l key)[j]? = some (l[j]'(by omega)) := by
      unfold dropL
      rw [List.getElem?_append_left (by rw [List.length_take]; omega), List.getElem?_take, if_pos hj, List.getElem?_eq_getElem]
    rw [List.getElem?_eq_getElem h] at this
    exact Option.some.inj this
  · have hb : behindN l key + (j - findN l key) < l.length := by omega
    refine .inr ⟨by omega, hb, ?_⟩
    have : (dropL l key)[j]? = some l[behindN l key + (j - findN l key)] := by
      unfold dropL
      rw [List.getElem?_append_right (by rw [List.length_take]; omega), List.length_take, show min (findN l key) l.length = findN l key by omega, List.getElem?_drop, List.getElem?_eq_getElem]
    rw [List.getElem?_eq_getElem h] at this
    exact Option.some.inj this
/-- The key is not in what is left. -/
theorem drop_find {l : List Pr} {key : ByteArray} (hr : Rise l) : foundB (dropL l key) key = false := by
  cases hf : foundB (dropL l key) key with
  | false => rfl
  | true =>
    exfalso
    have he := found_eq hf
    rcases dropL_get _ (foundB_lt hf) with ⟨h1, h2, h3⟩ | ⟨h1, h2, h3⟩
    · rw [h3] at he
      have := findN_below l key _ h1 h2
      rw [he, ltK_irrefl] at this; cases this
    · rw [h3] at he
      have := behind_above (key := key) hr _ h2 (by omega)
      rw [he, ltK_irrefl] at this; cases this
theorem drop_drop {l : List Pr} {key : ByteArray} (hr : Rise l) : dropL (dropL l key) key = dropL l key := by
  have h := drop_find (l := l) (key := key) hr
  have hb : behindN (dropL l key) key = findN (dropL l key) key := by rw [behind_eq, h]; rfl
  have e : ∀ m : List Pr, dropL m key = m.take (findN m key) ++ m.drop (behindN m key) := fun _ => rfl
  rw [e (dropL l key), hb, List.take_append_drop]
end Go.Proofs.YtnaedmmfiiebaaaGreatDoor

namespace Go.Proofs.YtnaedmmfiiebaaaGreatDoor

/-! The tree, as data: all leaves of a tree of height h lie h below its root; 0 for a node's page: it is changed. -/

theorem lt_le {a b c : ByteArray} (h1 : ltK a b = true) (h2 : ltK c b = false) : ltK a c = true := by
  cases h : ltK b c
  · rw [← ltK_total h h2]; exact h1
  · exact ltK_trans h1 h
theorem le_le {a b c : ByteArray} (h1 : ltK b a = false) (h2 : ltK c b = false) : ltK c a = false := by
  cases h : ltK c a
  · rfl
  · rw [lt_le h h1] at h2; cases h2

/-- At or above the low end, and below the high one; none: there is no such end. -/
def geB (lo : Option ByteArray) (k : ByteArray) : Prop := ∀ l, lo = some l → ltK k l = false
def ltB (k : ByteArray) (hi : Option ByteArray) : Prop := ∀ u, hi = some u → ltK k u = true
def In (lo hi : Option ByteArray) (k : ByteArray) : Prop := geB lo k ∧ ltB k hi
def mayKey (k : ByteArray) : Prop := 1 ≤ k.size ∧ k.size ≤ 255
/-- Of the key of a link: above the low end. -/
def gtB (lo : Option ByteArray) (k : ByteArray) : Prop := ∀ l, lo = some l → ltK l k = true
def InK (lo hi : Option ByteArray) (k : ByteArray) : Prop := gtB lo k ∧ ltB k hi

def Nd : Nat → Type
  | 0 => Nat × List Pr
  | h + 1 => Nat × List ByteArray × List (Nd h)
def szKs (ks : List ByteArray) : Nat := 6 + (ks.map fun k => 7 + k.size).sum
def szN : (h : Nat) → Nd h → Nat
  | 0, t => szL t.2
  | _ + 1, t => szKs t.2.1
def minN : Nat → Nat
  | 0 => 1556
  | _ + 1 => 1777
def Full (h : Nat) (t : Nd h) : Prop := minN h ≤ szN h t ∧ szN h t ≤ 4072

/-- The children of a branch, each between its keys; P says what a child is besides. -/
def OkC {α : Type} (P : α → Option ByteArray → Option ByteArray → Prop) : Option ByteArray → Option ByteArray → List ByteArray → List α → Prop
  | lo, hi, [], [c] => P c lo hi
  | lo, hi, k :: ks, c :: cs => InK lo hi k ∧ mayKey k ∧ P c lo (some k) ∧ OkC P (some k) hi ks cs
  | _, _, _, _ => False
/-- What a tree is, whatever the size of its root. -/
def Ok : (h : Nat) → Nd h → Option ByteArray → Option ByteArray → Prop
  | 0, t, lo, hi => Rise t.2 ∧ ∀ p ∈ t.2, mayP p = true ∧ In lo hi p.1
  | h + 1, t, lo, hi => OkC (fun c lo hi => Ok h c lo hi ∧ Full h c) lo hi t.2.1 t.2.2
section lists
variable {α : Type} {P : α → Option ByteArray → Option ByteArray → Prop}
end lists

end Go.Proofs.YtnaedmmfiiebaaaGreatDoor

namespace Go.Proofs.YtnaedmmfiiebaaaGreatDoor

theorem In.mono {lo hi lo2 hi2 : Option ByteArray} {k : ByteArray} (h : In lo hi k) (h1 : ∀ l, lo2 = some l → ∃ l1, lo = some l1 ∧ ltK l1 l = false) (h2 : ∀ u, hi2 = some u → ∃ u1, hi = some u1 ∧ ltK u u1 = false) : In lo2 hi2 k := by
  refine ⟨fun l hl => ?_, fun u hu => ?_⟩
  · obtain ⟨l1, e, h3⟩ := h1 l hl
    exact le_le h3 (h.1 l1 e)
  · obtain ⟨u1, e, h3⟩ := h2 u hu
    exact lt_le (h.2 u1 e) h3
theorem szKs_append (a b : List ByteArray) : szKs (a ++ b) + 6 = szKs a + szKs b := by simp [szKs]; omega
theorem szKs_cons (k : ByteArray) (b : List ByteArray) : szKs (k :: b) = 7 + k.size + szKs b := by simp [szKs]; omega
theorem szKs_six (a : List ByteArray) : 6 ≤ szKs a := by simp [szKs]
/-- A node in two, with the key between them. -/
def szsN (l : List Pr) : List Int := l.map fun p => (szP p : Int)
def szsKs (ks : List ByteArray) : List Int := ks.map fun k => ((7 + k.size : Nat) : Int)
def CutAt : (h : Nat) → Nd h → Nat → Prop
  | 0, t, i => IsBest (gapC (szsN t.2)) ((szsN t.2).length - 1) i
  | _ + 1, t, i => IsBest (gapP (szsKs t.2.1)) ((szsKs t.2.1).length - 2) i
def CutN3 : (h : Nat) → Nd h → Nat → Nd h → ByteArray → Nd h → Prop
  | 0, t, i, a, k, b => a = (0, t.2.take i) ∧ b = (0, t.2.drop i) ∧ ∃ v, t.2[i]? = some (k, v)
  | _ + 1, t, i, a, k, b => a = (0, t.2.1.take i, t.2.2.take (i + 1)) ∧ b = (0, t.2.1.drop (i + 1), t.2.2.drop (i + 1)) ∧ t.2.1[i]? = some k
def Cut (h : Nat) (t a : Nd h) (k : ByteArray) (b : Nd h) : Prop := ∃ i, CutAt h t i ∧ CutN3 h t i a k b
theorem pre_szsN (l : List Pr) (i : Nat) : pre (szsN l) i = (szL (l.take i) : Int) := by
  unfold pre szsN szL
  rw [← List.map_take]
  induction l.take i with
  | nil => rfl
  | cons p r ih => simp only [List.map_cons, List.sum_cons, ih]; omega
theorem pre_szsKs (l : List ByteArray) (i : Nat) : 6 + pre (szsKs l) i = (szKs (l.take i) : Int) := by
  unfold pre szsKs szKs
  rw [← List.map_take]
  induction l.take i with
  | nil => rfl
  | cons p r ih => simp only [List.map_cons, List.sum_cons]; omega
theorem szL_max {l : List Pr} (h : ∀ p ∈ l, mayP p = true) : szL l ≤ 960 * l.length := by
  induction l with
  | nil => simp [szL]
  | cons p l ih =>
    have a := ih fun q hq => h q (List.mem_cons_of_mem _ hq)
    have b := may_parts' (h p List.mem_cons_self)
    rw [szL_cons, List.length_cons]; unfold szP; omega
theorem szKs_max {l : List ByteArray} (h : ∀ k ∈ l, mayKey k) : szKs l ≤ 262 * l.length + 6 := by
  induction l with
  | nil => simp [szKs]
  | cons p l ih =>
    have a := ih fun q hq => h q (List.mem_cons_of_mem _ hq)
    have b := (h p List.mem_cons_self).2
    rw [szKs_cons, List.length_cons]; omega
end Go.Proofs.YtnaedmmfiiebaaaGreatDoor

namespace Go.Proofs.YtnaedmmfiiebaaaGreatDoor

def big (h : Nat) (t : Nd h) : Prop := 4072 < szN h t
def small (h : Nat) (t : Nd h) : Prop := szN h t < minN h
/-- What f does to a list of pairs it does at the key alone. -/
structure Fit (key : ByteArray) (f : List Pr → List Pr) : Prop where
  loc : ∀ X Y Z : List Pr, (∀ p ∈ X, ltK p.1 key = true) → (∀ p ∈ Z, ltK key p.1 = true) → f (X ++ (Y ++ Z)) = X ++ (f Y ++ Z)
  rise : ∀ l, Rise l → Rise (f l)
  mem : ∀ l p, p ∈ f l → p ∈ l ∨ (p.1 = key ∧ mayP p = true)
  size : ∀ l, szL (f l) ≤ szL l + 960
end Go.Proofs.YtnaedmmfiiebaaaGreatDoor

namespace Go.Proofs.YtnaedmmfiiebaaaGreatDoor

/-- The leaf in which a key belongs. -/
def Way (key : ByteArray) : (h : Nat) → Nd h → List Pr → Prop
  | 0, t, l => l = t.2
  | h + 1, t, l => ∃ (A B : List ByteArray) (C1 : List (Nd h)) (c : Nd h) (C2 : List (Nd h)), t.2.1 = A ++ B ∧ t.2.2 = C1 ++ c :: C2 ∧ A.length = C1.length ∧ (∀ k ∈ A, ltK key k = false) ∧ (∀ k, B.head? = some k → ltK key k = true) ∧ Way key h c l
end Go.Proofs.YtnaedmmfiiebaaaGreatDoor
