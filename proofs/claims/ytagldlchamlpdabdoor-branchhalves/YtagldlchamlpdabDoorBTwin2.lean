import Derived.Test.YtagldlchamlpdabDoorBTwin
import Derived.Deep.RegionHeld3
namespace Go.Proofs.YtagldlchamlpdabDoor
open Go.RowKit Go.Sort

/-- Of a list that rises, those that stay are all just if no two are the same. -/
theorem filter_len {α : Type} (p : α → Bool) : ∀ l : List α, (l.filter p).length ≤ l.length ∧ ((l.filter p).length = l.length ↔ ∀ x ∈ l, p x = true)
  | [] => by simp
  | x :: r => by
    obtain ⟨h1, h2⟩ := filter_len p r
    cases hx : p x with
    | true =>
      rw [List.filter_cons_of_pos hx]
      refine ⟨by simp; omega, ?_⟩
      simp only [List.length_cons, List.mem_cons, forall_eq_or_imp, hx, true_and]
      rw [← h2]; omega
    | false =>
      rw [List.filter_cons_of_neg (by simp [hx])]
      refine ⟨by simp; omega, ?_⟩
      simp only [List.length_cons, List.mem_cons, forall_eq_or_imp, hx]
      constructor
      · intro h; omega
      · rintro ⟨h, _⟩; cases h
theorem compact_len (zs : List Int) (hs : zs.Pairwise (· ≤ ·)) : (Lib.compact zs).length = zs.length ↔ zs.Nodup := by
  unfold Lib.compact Lib.compactUpTo
  rw [List.length_map]
  have h := (filter_len (Lib.keeps zs.toArray) (List.range zs.length)).2
  rw [List.length_range] at h
  rw [h]
  constructor
  · intro hk
    rw [List.nodup_iff_pairwise_ne]
    rw [List.pairwise_iff_getElem] at hs ⊢
    intro i j hi hj hij he
    have hj1 := hk j (List.mem_range.2 hj)
    unfold Lib.keeps at hj1
    rcases of_decide_eq_true hj1 with h0 | h0
    · omega
    · apply h0
      have e1 : zs.toArray[j]! = zs[j] := by simp [hj]
      have hj' : j - 1 < zs.length := by omega
      have e2 : zs.toArray[j - 1]! = zs[j - 1] := by simp [hj']
      rw [e1, e2]
      have hle1 : zs[j - 1] ≤ zs[j] := hs (j - 1) j hj' hj (by omega)
      have hle2 : zs[i] ≤ zs[j - 1] := by
        by_cases hij' : i = j - 1
        · subst hij'; exact Int.le_refl _
        · exact hs i (j - 1) hi hj' (by omega)
      omega
  · intro hn j hj
    have hj := List.mem_range.1 hj
    unfold Lib.keeps
    apply decide_eq_true
    by_cases h0 : j = 0
    · exact .inl h0
    · refine .inr (fun he => ?_)
      have hj' : j - 1 < zs.length := by omega
      have e1 : zs.toArray[j]! = zs[j] := by simp [hj]
      have e2 : zs.toArray[j - 1]! = zs[j - 1] := by simp [hj']
      rw [e1, e2] at he
      rw [List.nodup_iff_pairwise_ne, List.pairwise_iff_getElem] at hn
      exact hn (j - 1) j hj' hj (by omega) he.symm
theorem compact_le (zs : List Int) : (Lib.compact zs).length ≤ zs.length := by
  unfold Lib.compact Lib.compactUpTo
  rw [List.length_map]
  have := (filter_len (Lib.keeps zs.toArray) (List.range zs.length)).1
  rwa [List.length_range] at this
/-- The list of the children, sorted. -/
def kidS (f : Int) (l : List Lk) : List Int := (kids f l).mergeSort fun x y => decide (x ≤ y)
theorem kidS_len (f : Int) (l : List Lk) : (kidS f l).length = l.length + 1 := by unfold kidS; rw [List.length_mergeSort, kids_len]
theorem kidS_compact (f : Int) (l : List Lk) : decide ((Lib.compact (kidS f l)).length ≤ l.length) = decide (¬ (kids f l).Nodup) := by
  have hs : (kidS f l).Pairwise (· ≤ ·) := by
    have := List.pairwise_mergeSort (le := fun x y : Int => decide (x ≤ y)) (fun a b c h1 h2 => by simp at *; omega) (fun a b => by simp; omega) (kids f l)
    exact this.imp (fun h => by simpa using h)
  have hp : (kidS f l).Perm (kids f l) := List.mergeSort_perm _ _
  have h1 := compact_len (kidS f l) hs
  have h2 := compact_le (kidS f l)
  rw [kidS_len] at h1 h2
  have hnd : (kidS f l).Nodup ↔ (kids f l).Nodup := hp.nodup_iff
  congr 1
  apply propext
  rw [← hnd, ← h1]
  omega

theorem sorti_any (g cap : Nat) (zs : List Int) (w : World) (hH : Holds (Value.int .i64) w g 0 zs.toArray) (hg : g < w.heap.size) (hz : zs.length < 4611686018427387904) :
    Calls Tryd.prog 61 #[.slice (some ⟨g, 0, none⟩) zs.length cap] w fun e w' => e = .returned (.tuple #[]) ∧ ∃ n os, w' = grow (putRow (Value.int .i64) (Sort.ahead w n) g 0 (zs.mergeSort fun x y => decide (x ≤ y)).toArray) os :=
  Any.slices_Sort_int Tryd.lays189 g 0 cap zs w hH hg hz
theorem compi_any (g cap : Nat) (zs : List Int) (w : World) (hH : Holds (Value.int .i64) w g 0 zs.toArray) (hz : zs.length ≤ 9223372036854775807) (hc : zs.length ≤ cap) :
    Calls Tryd.prog 62 #[.slice (some ⟨g, 0, none⟩) zs.length cap] w fun e w' => e = .returned (.slice (some ⟨g, 0, none⟩) (Lib.compact zs).length cap) ∧ ∃ q, w' = putRow (Value.int .i64) (Sort.ahead w q) g 0 (Lib.compact zs ++ List.replicate (zs.length - (Lib.compact zs).length) 0).toArray :=
  Any.slices_Compact_int Tryd.lays20 g 0 cap zs w hH hz hc
theorem grownBy_putI {w : World} {g n : Nat} (d : Array Int) : w.grownBy (putRow (Value.int .i64) (Sort.ahead w n) g 0 d) (some g) := by
  refine ⟨rfl, rfl, rfl, by simp, fun k hk hne => ?_⟩
  have : g ≠ k := fun e => hne (by rw [e])
  simp [putRow, mapBlock, Sort.ahead, Array.getElem?_modify, this]

set_option maxRecDepth 20000 in
set_option maxHeartbeats 2000000 in
theorem twins_any (f : Int) (v : Value) (l : List Lk) (w : World) (hm : l.length ≤ 5864062014805) (hr : LkR w v l) :
    Calls Tryd.prog 32 #[.agg #[.int .i64 f, v]] w fun e w' => e = .returned (.bool (decide (¬ (kids f l).Nodup))) ∧ Below w.heap.size w w' := by
  rw [← kidS_compact]
  obtain ⟨cl, hcl⟩ : ∃ c, c = (Lib.compact (kidS f l)).length := ⟨_, rfl⟩
  rw [← hcl]
  have HCL0 := hide hcl
  clear hcl
  obtain ⟨a, cap, hv⟩ := hr.form
  subst hv
  obtain ⟨n, hn⟩ : ∃ n, n = l.length := ⟨_, rfl⟩
  rw [← hn] at hr hm ⊢
  have q0 := below_new w (.cells #[.int .i64 f, .slice a n cap] 30)
  have x0 := RowAt.new w #[.int .i64 f, .slice a n cap] 30
  have s0 : (w.alloc (.cells #[.int .i64 f, .slice a n cap] 30)).heap.size = w.heap.size + 1 := by simp
  generalize hW0 : w.alloc (.cells #[.int .i64 f, .slice a n cap] 30) = W0 at *
  have p0 := x0.c0
  have p1 := x0.c1
  have HK := hide (kids_any f _ l W0 (by omega) (hr.below q0))
  have HN := hide hn
  have HX := hide x0
  have HQ := hide q0
  have HS0 := hide s0
  have HSL := hide (kidS_len f l)
  clear hn hr q0 x0 s0
  go_enter Tryd.func32, Tryd.ntmps32
  go_wp2_with fail
  refine HK.out.mono ?_
  rintro e w1 ⟨u, rfl, hown, hb1⟩
  rw [← HN.out] at hown
  obtain ⟨g, gc, cur, hv3, hbase, hb, h1, h2, h3, h4⟩ : ∃ g gc cur, u = Value.slice (some ⟨g, 0, none⟩) (n + 1) gc ∧ W0.heap.size ≤ g ∧ w1.heap[g]? = some (.cells cur 3 (0, 0)) ∧ n + 1 ≤ gc ∧ gc ≤ maxLen ∧ cur.size = gc * 1 ∧ cur.toList.take ((n + 1) * 1) = (kids f l).map (Value.int .i64) := by
    rcases hown.2 with ⟨_, h0⟩ | h
    · omega
    · exact h
  subst hv3
  have hkl : (kids f l).length = n + 1 := by rw [kids_len, ← HN.out]
  have hH : Holds (Value.int .i64) w1 g 0 (kids f l).toArray := holds_of_blockI hb (by rw [hkl]; simpa using h4)
  have hgl : g < w1.heap.size := (Array.getElem?_eq_some_iff.1 hb).1
  have HSC : Hid (Calls Tryd.prog 61 #[.slice (some ⟨g, 0, none⟩) (n + 1) gc] w1 fun e w' => e = .returned (.tuple #[]) ∧ w'.ownsRow W0.heap.size 3 1 (.slice (some ⟨g, 0, none⟩) (n + 1) gc) (n + 1) ((kidS f l).map (Value.int .i64)) ∧ Below W0.heap.size W0 w') := by
    have hc := sorti_any g gc (kids f l) w1 hH hgl (by omega)
    rw [hkl] at hc
    refine hc.mono ?_
    rintro e w' ⟨rfl, q, os, rfl⟩
    refine ⟨rfl, ?_, hb1.grown (grownBy_sortedI _) hb1.size (fun j hj => by cases hj; exact hbase)⟩
    have := ownsRow_sortedI (w := w1) (base := W0.heap.size) (n := q) (os := os) (ss := kids f l) (ts := kidS f l) (by rw [HSL.out, kids_len]) hbase hb (by omega) h2 h3
    rwa [hkl] at this
  clear hown hb h1 h3 h4 hkl hH hgl HK hb1 p0 p1
  go_wp2_with fail
  refine HSC.out.mono ?_
  rintro e w2 ⟨rfl, ho2, hb2⟩
  have p1 := (HX.out.below hb2).c1
  have HCC : Hid (∀ W, Below w2.heap.size w2 W → Calls Tryd.prog 62 #[.slice (some ⟨g, 0, none⟩) (n + 1) gc] W fun e w' => e = .returned (.slice (some ⟨g, 0, none⟩) cl gc) ∧ Below W0.heap.size W0 w') := fun W hW => by
    rw [HCL0.out]
    obtain ⟨g', gc', cur, hv3, hbase', hb, h1, h2, h3, h4⟩ : ∃ g' gc' cur, Value.slice (some ⟨g, 0, none⟩) (n + 1) gc = Value.slice (some ⟨g', 0, none⟩) (n + 1) gc' ∧ W0.heap.size ≤ g' ∧ w2.heap[g']? = some (.cells cur 3 (0, 0)) ∧ n + 1 ≤ gc' ∧ gc' ≤ maxLen ∧ cur.size = gc' * 1 ∧ cur.toList.take ((n + 1) * 1) = (kidS f l).map (Value.int .i64) := by
      rcases ho2.2 with ⟨_, h0⟩ | h
      · omega
      · exact h
    cases hv3
    have hsl : (kidS f l).length = n + 1 := by rw [HSL.out, ← HN.out]
    have hgl : g < w2.heap.size := (Array.getElem?_eq_some_iff.1 hb).1
    have hbW : W.heap[g]? = some (.cells cur 3 (0, 0)) := by rw [hW.block g hgl]; exact hb
    have hH : Holds (Value.int .i64) W g 0 (kidS f l).toArray := holds_of_blockI hbW (by rw [hsl]; simpa using h4)
    have hc := compi_any g gc (kidS f l) W hH (by omega) (by omega)
    rw [hsl] at hc
    refine hc.mono ?_
    rintro e w' ⟨rfl, q, rfl⟩
    exact ⟨rfl, (Below.next hb2 hW).grown (grownBy_putI _) (Nat.le_trans hb2.size hW.size) (fun j hj => by cases hj; exact hbase)⟩
  have HCL : Hid (cl ≤ n + 1) := by
    have := compact_le (kidS f l)
    rw [HSL.out, ← HN.out, ← HCL0.out] at this
    exact this
  have HB2 := hide hb2
  clear ho2 hb2 HSC h2 hbase
  have hclb : cl ≤ 140737488355328 := by have : cl ≤ n + 1 := HCL.out; omega
  go_wp2_with fail
  go_region_held3 (fun w' => w'.cell? ⟨w.heap.size, 1, none⟩ = some (.slice a n cap)) (go_keep)
    (first
      | (go_at_call 62; refine (HCC.out _ ?_).mono ?_; (exact (Below.refl _ _).drew); rintro e w3 ⟨rfl, hb3⟩; have HB3 := hide hb3; have m1 : w3.cell? ⟨w.heap.size, 1, none⟩ = some (.slice a n cap) := (HX.out.below hb3).c1; clear hb3))
  all_goals
    clear HCC p1 m1
    go_wp2
    go_ret
    exact ⟨by simp, Below.next HQ.out HB3.out⟩

end Go.Proofs.YtagldlchamlpdabDoor
