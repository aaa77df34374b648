import Derived.Test.YtagldlchamlpdabDoorBSizes
import Derived.Test.YtagldlchamlpdabDoorSortLay
import Derived.Sort.OwnSortedInts
import Derived.Deep.RegionHeld3
namespace Go.Proofs.YtagldlchamlpdabDoor
open Go.RowKit

/-- One int more on a list of the call's own. -/
theorem push_intB (base : Nat) (v : Value) (xs : List Int) (x : Int) (t : TypeId) (w w0 : World) (B n : Nat) (hn : xs.length = n) (hown : w.ownsRow base 3 1 v n (ints xs)) (hb : (n + 1) * 8 ≤ 140737488355328) (hbase : base ≤ w.heap.size) (hB : B ≤ base) (h0 : Below B w0 w) :
    ∃ a' cap' w', (Builtin.append_ #[75, 75] 75 #[v, .slice (some ⟨w.heap.size, 0, none⟩) 1 1]).run Tryd.prog (w.alloc (.cells #[.int .i64 x] t)) = .ok (.slice a' (n + 1) cap') w' ∧ w'.ownsRow base 3 1 (.slice a' (n + 1) cap') (n + 1) (ints (xs ++ [x])) ∧ Below B w0 w' ∧ w.heap.size ≤ w'.heap.size := by
  subst hn
  have hr : RowR (w.alloc (.cells #[.int .i64 x] t)) (.slice (some ⟨w.heap.size, 0, none⟩) 1 1) [.int .i64 x] := by
    have hbx := boxed_new w #[.int .i64 x] t
    refine ⟨_, _, rfl, Nat.le_refl _, fun h => (by cases h), fun j u hj => ⟨_, _, rfl, ?_⟩⟩
    have hj0 : j = 0 := by
      have := (List.getElem?_eq_some_iff.1 hj).1
      simpa using this
    subst hj0
    cases hj
    exact hbx.2 0 (by simp)
  obtain ⟨a', cap', w', hrun, hown', hg⟩ := append_row 75 3 _ 8 info3 Tryd.underlying75 rfl base xs.length v (ints xs) _ (World.ownsRow.alloc hown _) _ _ hr (fun u hu => by simp at hu; subst hu; rfl) (by simpa using hb) (by decide) (by simp; omega)
  refine ⟨a', cap', w', hrun, by rw [ints_append]; exact hown', ?_, ?_⟩
  · exact (h0.alloc (Nat.le_trans hB hbase) _).grown hg (by simp; omega) (fun k hk => Nat.le_trans hB (World.ownsRow.lt hown k hk).1)
  · have := hg.size
    simp at this
    omega
theorem kids_take_succ (f : Int) (l : List Lk) (k : Nat) (h : k < l.length) : kids f (l.take (k + 1)) = kids f (l.take k) ++ [l[k].2] := by
  unfold kids
  rw [List.take_succ_eq_append_getElem h, List.map_append]; rfl
theorem own_formB {w : World} {base e n : Nat} {v : Value} {xs : List Value} (h : w.ownsRow base e 1 v n xs) : ∃ a c, v = .slice a n c := by
  rcases h.2 with ⟨rfl, rfl⟩ | ⟨g, cap, cur, rfl, _⟩
  · exact ⟨_, _, rfl⟩
  · exact ⟨_, _, rfl⟩

theorem own_mono {w : World} {b b2 e n : Nat} {v : Value} {xs : List Value} (h : w.ownsRow b e 1 v n xs) (hb : b2 ≤ b) : w.ownsRow b2 e 1 v n xs := by
  refine ⟨h.1, ?_⟩
  rcases h.2 with h' | ⟨g, cap, cur, h', h1, hr⟩
  · exact .inl h'
  · exact .inr ⟨g, cap, cur, h', Nat.le_trans hb h1, hr⟩

set_option maxHeartbeats 1000000 in
theorem kids_any (f : Int) (v : Value) (l : List Lk) (w : World) (hm : l.length ≤ 5864062014805) (hr : LkR w v l) :
    Calls Tryd.prog 60 #[.agg #[.int .i64 f, v]] w fun e w' => ∃ u, e = .returned u ∧ w'.ownsRow w.heap.size 3 1 u (l.length + 1) (ints (kids f l)) ∧ Below w.heap.size w w' := by
  obtain ⟨a, cap, hv⟩ := hr.form
  subst hv
  obtain ⟨n, hn⟩ : ∃ n, n = l.length := ⟨_, rfl⟩
  rw [← hn] at hr hm ⊢
  have q0 := below_new w (.cells #[.int .i64 f, .slice a n cap] 30)
  have x0 := RowAt.new w #[.int .i64 f, .slice a n cap] 30
  generalize hW0 : w.alloc (.cells #[.int .i64 f, .slice a n cap] 30) = W0 at *
  have q1 := below_new W0 (.cells #[.int .i64 f] 3)
  have o1 : (W0.alloc (.cells #[.int .i64 f] 3)).ownsRow W0.heap.size 3 1 (.slice (some ⟨W0.heap.size, 0, none⟩) 1 1) 1 (ints [f]) := World.ownsRow_lit W0 #[.int .i64 f] 1 (Nat.le_refl _) (by decide) rfl
  generalize hW1 : W0.alloc (.cells #[.int .i64 f] 3) = W1 at *
  have p0 := x0.c0
  have p1 := (x0.below q1).c1
  have HR := hide (hr.below q0)
  have HN := hide hn
  have HQ := hide (Below.next q0 q1)
  have HQ0 := hide q0
  have HQ1 := hide q1
  have HO1 := hide o1
  clear hn hr q0 x0 q1 o1
  go_enter Tryd.func60, Tryd.ntmps60
  go_wp2
  clear p0 p1
  go_loopw [3, 12] (fun u i wr => ∃ k : Nat, k ≤ n ∧ i = .int .i64 k ∧ wr.ownsRow W0.heap.size 3 1 u (k + 1) (ints (kids f (l.take k))) ∧ Below W0.heap.size W0 wr) (fun _ i _ => n - (intOf i).toNat)
  case atStart => exact ⟨0, Nat.zero_le _, rfl, by simpa [kids] using HO1.out, HQ1.out⟩
  case round =>
    obtain ⟨k, hk, rfl, hown, hbw⟩ := hrel
    have htk : (kids f (l.take k)).length = k + 1 := by rw [kids_len, List.length_take]; have := HN.out; omega
    obtain ⟨ua, uc, hu⟩ := own_formB hown
    subst hu
    by_cases hlt : k < n
    · have hkl : k < l.length := by have := HN.out; omega
      obtain ⟨g, o, rfl, c1, c2⟩ := (HR.out.below hbw).spot k hkl
      have HS := hide (kids_take_succ f l k hkl)
      have q2 := below_new wr (.cells #[.string l[k].1, .int .i64 l[k].2] 54)
      have hx := RowAt.new wr #[.string l[k].1, .int .i64 l[k].2] 54
      obtain ⟨a3, cp3, w2, hrun, hown1, hb1, _⟩ := push_intB W0.heap.size _ _ l[k].2 3 _ W0 W0.heap.size (k + 1) htk (own_below hown q2) (by omega) (Nat.le_trans hbw.size q2.size) (Nat.le_refl _) (Below.next hbw q2)
      rw [← HS.out] at hown1
      generalize l[k].1 = s1 at *
      generalize l[k].2 = s2 at *
      have b1 := hx.c1
      have HO := hide hown1
      have HB := hide hb1
      have hltI : (k : Int) < (n : Int) := by omega
      have hz : (wr.alloc (.cells #[.string s1, .int .i64 s2] 54)).heap.size = wr.heap.size + 1 := by simp
      rw [hz] at hrun
      clear hown hown1 hb1 hbw HS htk q2 hx hz
      go_wp2_with (first | (at_builtin; have h0 := hrun; clear hrun; refine wpList_append_run 75 rfl (.tmp 16) (.tmp 19) rfl rfl _ _ rfl rfl _ _ h0 ?_; clear h0))
      go_wp2
      go_roundw
      case rel => exact ⟨k + 1, by omega, by go_num, HO.out, HB.out⟩
      case measure => simp [intOf]; omega
    · have hkn : k = n := by omega
      have hall : l.take k = l := by rw [List.take_of_length_le]; have := HN.out; omega
      rw [hall] at hown
      have HO := hide hown
      have HB := hide (Below.next HQ0.out hbw)
      have hltI : ¬ (k : Int) < (n : Int) := by omega
      clear hown hbw hall htk
      go_wp2
      go_ret
      refine ⟨_, rfl, ?_, HB.out⟩
      rw [← hkn]
      exact own_mono HO.out HQ0.out.size

end Go.Proofs.YtagldlchamlpdabDoor

namespace Go.Proofs.YtagldlchamlpdabDoor
open Go.RowKit Go.Sort

/-- Of a list that rises, those that stay are all just if no two are the same. -/
theorem filter_len {α : Type} (p : α → Bool) : ∀ l : List α, (l.filter p).length ≤ l.length ∧ ((l.filter p).length = l.length ↔ ∀ x ∈ l, p x = true)
  | [] => by simp
  | x :: r => by
    obtain ⟨h1, h2⟩ := filter_len p r
    cases hx : p x with
    | true =>
      rw [List.filter_cons_of_pos hx]
      refine ⟨by simp; omega, ?_⟩
      simp only [List.length_cons, List.mem_cons, forall_eq_or_imp, hx, true_and]
      rw [← h2]; omega
    | false =>
      rw [List.filter_cons_of_neg (by simp [hx])]
      refine ⟨by simp; omega, ?_⟩
      simp only [List.length_cons, List.mem_cons, forall_eq_or_imp, hx]
      constructor
      · intro h; omega
      · rintro ⟨h, _⟩; cases h
theorem compact_len (zs : List Int) (hs : zs.Pairwise (· ≤ ·)) : (Lib.compact zs).length = zs.length ↔ zs.Nodup := by
  unfold Lib.compact Lib.compactUpTo
  rw [List.length_map]
  have h := (filter_len (Lib.keeps zs.toArray) (List.range zs.length)).2
  rw [List.length_range] at h
  rw [h]
  constructor
  · intro hk
    rw [List.nodup_iff_pairwise_ne]
    rw [List.pairwise_iff_getElem] at hs ⊢
    intro i j hi hj hij he
    have hj1 := hk j (List.mem_range.2 hj)
    unfold Lib.keeps at hj1
    rcases of_decide_eq_true hj1 with h0 | h0
    · omega
    · apply h0
      have e1 : zs.toArray[j]! = zs[j] := by simp [hj]
      have hj' : j - 1 < zs.length := by omega
      have e2 : zs.toArray[j - 1]! = zs[j - 1] := by simp [hj']
      rw [e1, e2]
      have hle1 : zs[j - 1] ≤ zs[j] := hs (j - 1) j hj' hj (by omega)
      have hle2 : zs[i] ≤ zs[j - 1] := by
        by_cases hij' : i = j - 1
        · subst hij'; exact Int.le_refl _
        · exact hs i (j - 1) hi hj' (by omega)
      omega
  · intro hn j hj
    have hj := List.mem_range.1 hj
    unfold Lib.keeps
    apply decide_eq_true
    by_cases h0 : j = 0
    · exact .inl h0
    · refine .inr (fun he => ?_)
      have hj' : j - 1 < zs.length := by omega
      have e1 : zs.toArray[j]! = zs[j] := by simp [hj]
      have e2 : zs.toArray[j - 1]! = zs[j - 1] := by simp [hj']
      rw [e1, e2] at he
      rw [List.nodup_iff_pairwise_ne, List.pairwise_iff_getElem] at hn
      exact hn (j - 1) j hj' hj (by omega) he.symm
theorem compact_le (zs : List Int) : (Lib.compact zs).length ≤ zs.length := by
  unfold Lib.compact Lib.compactUpTo
  rw [List.length_map]
  have := (filter_len (Lib.keeps zs.toArray) (List.range zs.length)).1
  rwa [List.length_range] at this
/-- The list of the children, sorted. -/
def kidS (f : Int) (l : List Lk) : List Int := (kids f l).mergeSort fun x y => decide (x ≤ y)
theorem kidS_len (f : Int) (l : List Lk) : (kidS f l).length = l.length + 1 := by unfold kidS; rw [List.length_mergeSort, kids_len]
theorem kidS_compact (f : Int) (l : List Lk) : decide ((Lib.compact (kidS f l)).length ≤ l.length) = decide (¬ (kids f l).Nodup) := by
  have hs : (kidS f l).Pairwise (· ≤ ·) := by
    have := List.pairwise_mergeSort (le := fun x y : Int => decide (x ≤ y)) (fun a b c h1 h2 => by simp at *; omega) (fun a b => by simp; omega) (kids f l)
    exact this.imp (fun h => by simpa using h)
  have hp : (kidS f l).Perm (kids f l) := List.mergeSort_perm _ _
  have h1 := compact_len (kidS f l) hs
  have h2 := compact_le (kidS f l)
  rw [kidS_len] at h1 h2
  have hnd : (kidS f l).Nodup ↔ (kids f l).Nodup := hp.nodup_iff
  congr 1
  apply propext
  rw [← hnd, ← h1]
  omega

theorem sorti_any (g cap : Nat) (zs : List Int) (w : World) (hH : Holds (Value.int .i64) w g 0 zs.toArray) (hg : g < w.heap.size) (hz : zs.length < 4611686018427387904) :
    Calls Tryd.prog 61 #[.slice (some ⟨g, 0, none⟩) zs.length cap] w fun e w' => e = .returned (.tuple #[]) ∧ ∃ n os, w' = grow (putRow (Value.int .i64) (Sort.ahead w n) g 0 (zs.mergeSort fun x y => decide (x ≤ y)).toArray) os :=
  Any.slices_Sort_int Tryd.lays189 g 0 cap zs w hH hg hz
theorem compi_any (g cap : Nat) (zs : List Int) (w : World) (hH : Holds (Value.int .i64) w g 0 zs.toArray) (hz : zs.length ≤ 9223372036854775807) (hc : zs.length ≤ cap) :
    Calls Tryd.prog 62 #[.slice (some ⟨g, 0, none⟩) zs.length cap] w fun e w' => e = .returned (.slice (some ⟨g, 0, none⟩) (Lib.compact zs).length cap) ∧ ∃ q, w' = putRow (Value.int .i64) (Sort.ahead w q) g 0 (Lib.compact zs ++ List.replicate (zs.length - (Lib.compact zs).length) 0).toArray :=
  Any.slices_Compact_int Tryd.lays20 g 0 cap zs w hH hz hc
theorem grownBy_putI {w : World} {g n : Nat} (d : Array Int) : w.grownBy (putRow (Value.int .i64) (Sort.ahead w n) g 0 d) (some g) := by
  refine ⟨rfl, rfl, rfl, by simp, fun k hk hne => ?_⟩
  have : g ≠ k := fun e => hne (by rw [e])
  simp [putRow, mapBlock, Sort.ahead, Array.getElem?_modify, this]

set_option maxRecDepth 20000 in
set_option maxHeartbeats 2000000 in
theorem twins_any (f : Int) (v : Value) (l : List Lk) (w : World) (hm : l.length ≤ 5864062014805) (hr : LkR w v l) :
    Calls Tryd.prog 32 #[.agg #[.int .i64 f, v]] w fun e w' => e = .returned (.bool (decide (¬ (kids f l).Nodup))) ∧ Below w.heap.size w w' := by
  rw [← kidS_compact]
  obtain ⟨cl, hcl⟩ : ∃ c, c = (Lib.compact (kidS f l)).length := ⟨_, rfl⟩
  rw [← hcl]
  have HCL0 := hide hcl
  clear hcl
  obtain ⟨a, cap, hv⟩ := hr.form
  subst hv
  obtain ⟨n, hn⟩ : ∃ n, n = l.length := ⟨_, rfl⟩
  rw [← hn] at hr hm ⊢
  have q0 := below_new w (.cells #[.int .i64 f, .slice a n cap] 30)
  have x0 := RowAt.new w #[.int .i64 f, .slice a n cap] 30
  have s0 : (w.alloc (.cells #[.int .i64 f, .slice a n cap] 30)).heap.size = w.heap.size + 1 := by simp
  generalize hW0 : w.alloc (.cells #[.int .i64 f, .slice a n cap] 30) = W0 at *
  have p0 := x0.c0
  have p1 := x0.c1
  have HK := hide (kids_any f _ l W0 (by omega) (hr.below q0))
  have HN := hide hn
  have HX := hide x0
  have HQ := hide q0
  have HS0 := hide s0
  have HSL := hide (kidS_len f l)
  clear hn hr q0 x0 s0
  go_enter Tryd.func32, Tryd.ntmps32
  go_wp2_with fail
  refine HK.out.mono ?_
  rintro e w1 ⟨u, rfl, hown, hb1⟩
  rw [← HN.out] at hown
  obtain ⟨g, gc, cur, hv3, hbase, hb, h1, h2, h3, h4⟩ : ∃ g gc cur, u = Value.slice (some ⟨g, 0, none⟩) (n + 1) gc ∧ W0.heap.size ≤ g ∧ w1.heap[g]? = some (.cells cur 3 (0, 0)) ∧ n + 1 ≤ gc ∧ gc ≤ maxLen ∧ cur.size = gc * 1 ∧ cur.toList.take ((n + 1) * 1) = (kids f l).map (Value.int .i64) := by
    rcases hown.2 with ⟨_, h0⟩ | h
    · omega
    · exact h
  subst hv3
  have hkl : (kids f l).length = n + 1 := by rw [kids_len, ← HN.out]
  have hH : Holds (Value.int .i64) w1 g 0 (kids f l).toArray := holds_of_blockI hb (by rw [hkl]; simpa using h4)
  have hgl : g < w1.heap.size := (Array.getElem?_eq_some_iff.1 hb).1
  have HSC : Hid (Calls Tryd.prog 61 #[.slice (some ⟨g, 0, none⟩) (n + 1) gc] w1 fun e w' => e = .returned (.tuple #[]) ∧ w'.ownsRow W0.heap.size 3 1 (.slice (some ⟨g, 0, none⟩) (n + 1) gc) (n + 1) ((kidS f l).map (Value.int .i64)) ∧ Below W0.heap.size W0 w') := by
    have hc := sorti_any g gc (kids f l) w1 hH hgl (by omega)
    rw [hkl] at hc
    refine hc.mono ?_
    rintro e w' ⟨rfl, q, os, rfl⟩
    refine ⟨rfl, ?_, hb1.grown (grownBy_sortedI _) hb1.size (fun j hj => by cases hj; exact hbase)⟩
    have := ownsRow_sortedI (w := w1) (base := W0.heap.size) (n := q) (os := os) (ss := kids f l) (ts := kidS f l) (by rw [HSL.out, kids_len]) hbase hb (by omega) h2 h3
    rwa [hkl] at this
  clear hown hb h1 h3 h4 hkl hH hgl HK hb1 p0 p1
  go_wp2_with fail
  refine HSC.out.mono ?_
  rintro e w2 ⟨rfl, ho2, hb2⟩
  have p1 := (HX.out.below hb2).c1
  have HCC : Hid (∀ W, Below w2.heap.size w2 W → Calls Tryd.prog 62 #[.slice (some ⟨g, 0, none⟩) (n + 1) gc] W fun e w' => e = .returned (.slice (some ⟨g, 0, none⟩) cl gc) ∧ Below W0.heap.size W0 w') := fun W hW => by
    rw [HCL0.out]
    obtain ⟨g', gc', cur, hv3, hbase', hb, h1, h2, h3, h4⟩ : ∃ g' gc' cur, Value.slice (some ⟨g, 0, none⟩) (n + 1) gc = Value.slice (some ⟨g', 0, none⟩) (n + 1) gc' ∧ W0.heap.size ≤ g' ∧ w2.heap[g']? = some (.cells cur 3 (0, 0)) ∧ n + 1 ≤ gc' ∧ gc' ≤ maxLen ∧ cur.size = gc' * 1 ∧ cur.toList.take ((n + 1) * 1) = (kidS f l).map (Value.int .i64) := by
      rcases ho2.2 with ⟨_, h0⟩ | h
      · omega
      · exact h
    cases hv3
    have hsl : (kidS f l).length = n + 1 := by rw [HSL.out, ← HN.out]
    have hgl : g < w2.heap.size := (Array.getElem?_eq_some_iff.1 hb).1
    have hbW : W.heap[g]? = some (.cells cur 3 (0, 0)) := by rw [hW.block g hgl]; exact hb
    have hH : Holds (Value.int .i64) W g 0 (kidS f l).toArray := holds_of_blockI hbW (by rw [hsl]; simpa using h4)
    have hc := compi_any g gc (kidS f l) W hH (by omega) (by omega)
    rw [hsl] at hc
    refine hc.mono ?_
    rintro e w' ⟨rfl, q, rfl⟩
    exact ⟨rfl, (Below.next hb2 hW).grown (grownBy_putI _) (Nat.le_trans hb2.size hW.size) (fun j hj => by cases hj; exact hbase)⟩
  have HCL : Hid (cl ≤ n + 1) := by
    have := compact_le (kidS f l)
    rw [HSL.out, ← HN.out, ← HCL0.out] at this
    exact this
  have HB2 := hide hb2
  clear ho2 hb2 HSC h2 hbase
  have hclb : cl ≤ 140737488355328 := by have : cl ≤ n + 1 := HCL.out; omega
  go_wp2_with fail
  go_region_held3 (fun w' => w'.cell? ⟨w.heap.size, 1, none⟩ = some (.slice a n cap)) (go_keep)
    (first
      | (go_at_call 62; refine (HCC.out _ ?_).mono ?_; (exact (Below.refl _ _).drew); rintro e w3 ⟨rfl, hb3⟩; have HB3 := hide hb3; have m1 : w3.cell? ⟨w.heap.size, 1, none⟩ = some (.slice a n cap) := (HX.out.below hb3).c1; clear hb3))
  all_goals
    clear HCC p1 m1
    go_wp2
    go_ret
    exact ⟨by simp, Below.next HQ.out HB3.out⟩

end Go.Proofs.YtagldlchamlpdabDoor
