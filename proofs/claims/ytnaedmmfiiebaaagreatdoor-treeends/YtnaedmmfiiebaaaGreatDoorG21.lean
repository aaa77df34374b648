import Derived.Test.YtnaedmmfiiebaaaGreatDoorProg
import Derived.Shelf.Sort.Plain
import Derived.Shelf.Slices.CompactI
import Derived.KernelRfl
import Derived.Test.YtnaedmmfiiebaaaGreatDoorG03
import Derived.Sort.OwnSortedInts
import Derived.Deep.RegionHeld3
import Derived.Test.YtnaedmmfiiebaaaGreatDoorG20
import Derived.Test.YtnaedmmfiiebaaaGreatDoorG07
namespace Go.Proofs
open Go.Shelf
def Tryz.lays189_ren : Go.Shelf.Ren := ⟨fun | 125 => 106 | 128 => 145 | 129 => 146 | 189 => 68 | 215 => 181 | 216 => 142 | 257 => 105 | 294 => 136 | 295 => 137 | 296 => 138 | 297 => 139 | 298 => 140 | 299 => 141 | 300 => 143 | 301 => 144 | 328 => 176 | 329 => 177 | 330 => 178 | 331 => 179 | 332 => 180 | 343 => 221 | n => n, fun | 0 => 0 | 3 => 3 | 4 => 4 | 5 => 5 | 9 => 9 | 28 => 69 | 46 => 183 | 51 => 225 | 53 => 40 | 131 => 72 | 182 => 218 | 183 => 219 | 218 => 260 | 222 => 264 | 228 => 306 | 229 => 307 | n => n, fun | n => n⟩
theorem Tryz.lays189 : Go.Proofs.Lays.n189 Tryz.prog Tryz.lays189_ren := {
  mixed := by kernel_rfl
  f125 := Tryz.func106.trans (congrArg some (by kernel_rfl))
  f128 := Tryz.func145.trans (congrArg some (by kernel_rfl))
  f129 := Tryz.func146.trans (congrArg some (by kernel_rfl))
  f189 := Tryz.func68.trans (congrArg some (by kernel_rfl))
  f215 := Tryz.func181.trans (congrArg some (by kernel_rfl))
  f216 := Tryz.func142.trans (congrArg some (by kernel_rfl))
  f257 := Tryz.func105.trans (congrArg some (by kernel_rfl))
  f294 := Tryz.func136.trans (congrArg some (by kernel_rfl))
  f295 := Tryz.func137.trans (congrArg some (by kernel_rfl))
  f296 := Tryz.func138.trans (congrArg some (by kernel_rfl))
  f297 := Tryz.func139.trans (congrArg some (by kernel_rfl))
  f298 := Tryz.func140.trans (congrArg some (by kernel_rfl))
  f299 := Tryz.func141.trans (congrArg some (by kernel_rfl))
  f300 := Tryz.func143.trans (congrArg some (by kernel_rfl))
  f301 := Tryz.func144.trans (congrArg some (by kernel_rfl))
  f328 := Tryz.func176.trans (congrArg some (by kernel_rfl))
  f329 := Tryz.func177.trans (congrArg some (by kernel_rfl))
  f330 := Tryz.func178.trans (congrArg some (by kernel_rfl))
  f331 := Tryz.func179.trans (congrArg some (by kernel_rfl))
  f332 := Tryz.func180.trans (congrArg some (by kernel_rfl))
  f343 := Tryz.func221.trans (congrArg some (by kernel_rfl))
  t0 := Tryz.underlying0
  a0 := Tryz.isAgg0
  z0 := Tryz.sizeOf0
  v0 := Tryz.zeroValue0
  t3 := Tryz.underlying3
  a3 := Tryz.isAgg3
  z3 := Tryz.sizeOf3
  v3 := Tryz.zeroValue3
  t4 := Tryz.underlying4
  a4 := Tryz.isAgg4
  z4 := Tryz.sizeOf4
  v4 := Tryz.zeroValue4
  t5 := Tryz.underlying5
  a5 := Tryz.isAgg5
  z5 := Tryz.sizeOf5
  v5 := Tryz.zeroValue5
  t9 := Tryz.underlying9
  a9 := Tryz.isAgg9
  z9 := Tryz.sizeOf9
  v9 := Tryz.zeroValue9
  t28 := Tryz.underlying69
  a28 := Tryz.isAgg69
  z28 := Tryz.sizeOf69
  v28 := Tryz.zeroValue69
  t46 := Tryz.underlying183
  a46 := Tryz.isAgg183
  z46 := Tryz.sizeOf183
  v46 := Tryz.zeroValue183
  t51 := Tryz.underlying225
  a51 := Tryz.isAgg225
  z51 := Tryz.sizeOf225
  v51 := Tryz.zeroValue225
  t53 := Tryz.underlying40
  a53 := Tryz.isAgg40
  z53 := Tryz.sizeOf40
  v53 := Tryz.zeroValue40
  t131 := Tryz.underlying72
  a131 := Tryz.isAgg72
  z131 := Tryz.sizeOf72
  v131 := Tryz.zeroValue72
  t182 := Tryz.underlying218
  a182 := Tryz.isAgg218
  z182 := Tryz.sizeOf218
  v182 := Tryz.zeroValue218
  t183 := Tryz.underlying219
  a183 := Tryz.isAgg219
  z183 := Tryz.sizeOf219
  v183 := Tryz.zeroValue219
  t218 := Tryz.underlying260
  a218 := Tryz.isAgg260
  z218 := Tryz.sizeOf260
  v218 := Tryz.zeroValue260
  t222 := Tryz.underlying264
  a222 := Tryz.isAgg264
  z222 := Tryz.sizeOf264
  v222 := Tryz.zeroValue264
  t228 := Tryz.underlying306
  a228 := Tryz.isAgg306
  z228 := Tryz.sizeOf306
  v228 := Tryz.zeroValue306
  t229 := Tryz.underlying307
  a229 := Tryz.isAgg307
  z229 := Tryz.sizeOf307
  v229 := Tryz.zeroValue307 }
def Tryz.lays20_ren : Go.Shelf.Ren := ⟨fun | 20 => 200 | n => n, fun | 0 => 0 | 3 => 3 | 4 => 4 | 22 => 69 | n => n, fun | n => n⟩
theorem Tryz.lays20 : Go.Proofs.Lays2.n20 Tryz.prog Tryz.lays20_ren := {
  mixed := by kernel_rfl
  f20 := Tryz.func200.trans (congrArg some (by kernel_rfl))
  t0 := Tryz.underlying0
  a0 := Tryz.isAgg0
  z0 := Tryz.sizeOf0
  v0 := Tryz.zeroValue0
  t3 := Tryz.underlying3
  a3 := Tryz.isAgg3
  z3 := Tryz.sizeOf3
  v3 := Tryz.zeroValue3
  t4 := Tryz.underlying4
  a4 := Tryz.isAgg4
  z4 := Tryz.sizeOf4
  v4 := Tryz.zeroValue4
  t22 := Tryz.underlying69
  a22 := Tryz.isAgg69
  z22 := Tryz.sizeOf69
  v22 := Tryz.zeroValue69
  i3 := by kernel_rfl }
end Go.Proofs

namespace Go.Proofs.YtnaedmmfiiebaaaGreatDoor.B
open Go.RowKit

/-- One int more on a list of the call's own. -/
theorem push_intB (base : Nat) (v : Value) (xs : List Int) (x : Int) (t : TypeId) (w w0 : World) (B n : Nat) (hn : xs.length = n) (hown : w.ownsRow base 3 1 v n (ints xs)) (hb : (n + 1) * 8 ≤ 140737488355328) (hbase : base ≤ w.heap.size) (hB : B ≤ base) (h0 : Below B w0 w) :
    ∃ a' cap' w', (Builtin.append_ #[69, 69] 69 #[v, .slice (some ⟨w.heap.size, 0, none⟩) 1 1]).run Tryz.prog (w.alloc (.cells #[.int .i64 x] t)) = .ok (.slice a' (n + 1) cap') w' ∧ w'.ownsRow base 3 1 (.slice a' (n + 1) cap') (n + 1) (ints (xs ++ [x])) ∧ Below B w0 w' ∧ w.heap.size ≤ w'.heap.size := by
  subst hn
  have hr : RowR (w.alloc (.cells #[.int .i64 x] t)) (.slice (some ⟨w.heap.size, 0, none⟩) 1 1) [.int .i64 x] := by
    have hbx := boxed_new w #[.int .i64 x] t
    refine ⟨_, _, rfl, Nat.le_refl _, fun h => (by cases h), fun j u hj => ⟨_, _, rfl, ?_⟩⟩
    have hj0 : j = 0 := by
      have := (List.getElem?_eq_some_iff.1 hj).1
      simpa using this
    subst hj0
    cases hj
    exact hbx.2 0 (by simp)
  obtain ⟨a', cap', w', hrun, hown', hg⟩ := append_row 69 3 _ 8 info3 Tryz.underlying69 rfl base xs.length v (ints xs) _ (World.ownsRow.alloc hown _) _ _ hr (fun u hu => by simp at hu; subst hu; rfl) (by simpa using hb) (by decide) (by simp; omega)
  refine ⟨a', cap', w', hrun, by rw [ints_append]; exact hown', ?_, ?_⟩
  · exact (h0.alloc (Nat.le_trans hB hbase) _).grown hg (by simp; omega) (fun k hk => Nat.le_trans hB (World.ownsRow.lt hown k hk).1)
  · have := hg.size
    simp at this
    omega
theorem kids_take_succ (f : Int) (l : List Lk) (k : Nat) (h : k < l.length) : kids f (l.take (k + 1)) = kids f (l.take k) ++ [l[k].2] := by
  unfold kids
  rw [List.take_succ_eq_append_getElem h, List.map_append]; rfl
theorem own_formB {w : World} {base e n : Nat} {v : Value} {xs : List Value} (h : w.ownsRow base e 1 v n xs) : ∃ a c, v = .slice a n c := by
  rcases h.2 with ⟨rfl, rfl⟩ | ⟨g, cap, cur, rfl, _⟩
  · exact ⟨_, _, rfl⟩
  · exact ⟨_, _, rfl⟩

theorem own_mono {w : World} {b b2 e n : Nat} {v : Value} {xs : List Value} (h : w.ownsRow b e 1 v n xs) (hb : b2 ≤ b) : w.ownsRow b2 e 1 v n xs := by
  refine ⟨h.1, ?_⟩
  rcases h.2 with h' | ⟨g, cap, cur, h', h1, hr⟩
  · exact .inl h'
  · exact .inr ⟨g, cap, cur, h', Nat.le_trans hb h1, hr⟩

set_option maxHeartbeats 1000000 in
theorem kids_any (f : Int) (v : Value) (l : List Lk) (w : World) (hm : l.length ≤ 5864062014805) (hr : LkR w v l) :
    Calls Tryz.prog 199 #[.agg #[.int .i64 f, v]] w fun e w' => ∃ u, e = .returned u ∧ w'.ownsRow w.heap.size 3 1 u (l.length + 1) (ints (kids f l)) ∧ Below w.heap.size w w' := by
  obtain ⟨a, cap, hv⟩ := hr.form
  subst hv
  obtain ⟨n, hn⟩ : ∃ n, n = l.length := ⟨_, rfl⟩
  rw [← hn] at hr hm ⊢
  have q0 := below_new w (.cells #[.int .i64 f, .slice a n cap] 150)
  have x0 := RowAt.new w #[.int .i64 f, .slice a n cap] 150
  generalize hW0 : w.alloc (.cells #[.int .i64 f, .slice a n cap] 150) = W0 at *
  have q1 := below_new W0 (.cells #[.int .i64 f] 3)
  have o1 : (W0.alloc (.cells #[.int .i64 f] 3)).ownsRow W0.heap.size 3 1 (.slice (some ⟨W0.heap.size, 0, none⟩) 1 1) 1 (ints [f]) := World.ownsRow_lit W0 #[.int .i64 f] 1 (Nat.le_refl _) (by decide) rfl
  generalize hW1 : W0.alloc (.cells #[.int .i64 f] 3) = W1 at *
  have p0 := x0.c0
  have p1 := (x0.below q1).c1
  have HR := hide (hr.below q0)
  have HN := hide hn
  have HQ := hide (Below.next q0 q1)
  have HQ0 := hide q0
  have HQ1 := hide q1
  have HO1 := hide o1
  clear hn hr q0 x0 q1 o1
  go_enter Tryz.func199, Tryz.ntmps199
  go_wp2
  clear p0 p1
  go_loopw [3, 12] (fun u i wr => ∃ k : Nat, k ≤ n ∧ i = .int .i64 k ∧ wr.ownsRow W0.heap.size 3 1 u (k + 1) (ints (kids f (l.take k))) ∧ Below W0.heap.size W0 wr) (fun _ i _ => n - (intOf i).toNat)
  case atStart => exact ⟨0, Nat.zero_le _, rfl, by simpa [kids] using HO1.out, HQ1.out⟩
  case round =>
    obtain ⟨k, hk, rfl, hown, hbw⟩ := hrel
    have htk : (kids f (l.take k)).length = k + 1 := by rw [kids_len, List.length_take]; have := HN.out; omega
    obtain ⟨ua, uc, hu⟩ := own_formB hown
    subst hu
    by_cases hlt : k < n
    · have hkl : k < l.length := by have := HN.out; omega
      obtain ⟨g, o, rfl, c1, c2⟩ := (HR.out.below hbw).spot k hkl
      have HS := hide (kids_take_succ f l k hkl)
      have q2 := below_new wr (.cells #[.string l[k].1, .int .i64 l[k].2] 179)
      have hx := RowAt.new wr #[.string l[k].1, .int .i64 l[k].2] 179
      obtain ⟨a3, cp3, w2, hrun, hown1, hb1, _⟩ := push_intB W0.heap.size _ _ l[k].2 3 _ W0 W0.heap.size (k + 1) htk (own_below hown q2) (by omega) (Nat.le_trans hbw.size q2.size) (Nat.le_refl _) (Below.next hbw q2)
      rw [← HS.out] at hown1
      generalize l[k].1 = s1 at *
      generalize l[k].2 = s2 at *
      have b1 := hx.c1
      have HO := hide hown1
      have HB := hide hb1
      have hltI : (k : Int) < (n : Int) := by omega
      have hz : (wr.alloc (.cells #[.string s1, .int .i64 s2] 179)).heap.size = wr.heap.size + 1 := by simp
      rw [hz] at hrun
      clear hown hown1 hb1 hbw HS htk q2 hx hz
      go_wp2_with (first | (at_builtin; have h0 := hrun; clear hrun; refine wpList_append_run 69 rfl (.tmp 16) (.tmp 19) rfl rfl _ _ rfl rfl _ _ h0 ?_; clear h0))
      go_wp2
      go_roundw
      case rel => exact ⟨k + 1, by omega, by go_num, HO.out, HB.out⟩
      case measure => simp [intOf]; omega
    · have hkn : k = n := by omega
      have hall : l.take k = l := by rw [List.take_of_length_le]; have := HN.out; omega
      rw [hall] at hown
      have HO := hide hown
      have HB := hide (Below.next HQ0.out hbw)
      have hltI : ¬ (k : Int) < (n : Int) := by omega
      clear hown hbw hall htk
      go_wp2
      go_ret
      refine ⟨_, rfl, ?_, HB.out⟩
      rw [← hkn]
      exact own_mono HO.out HQ0.out.size

end Go.Proofs.YtnaedmmfiiebaaaGreatDoor.B

namespace Go.Proofs.YtnaedmmfiiebaaaGreatDoor.B
open Go.RowKit Go.Sort

/-- Of a list that rises, those that stay are all just if no two are the same. -/
theorem filter_len {α : Type} (p : α → Bool) : ∀ l : List α, (l.filter p).length ≤ l.length ∧ ((l.filter p).length = l.length ↔ ∀ x ∈ l, p x = true)
  | [] => by simp
  | x :: r => by
    obtain ⟨h1, h2⟩ := filter_len p r
    cases hx : p x with
    | true =>
      rw [List.filter_cons_of_pos hx]
      refine ⟨by simp; omega, ?_⟩
      simp only [List.length_cons, List.mem_cons, forall_eq_or_imp, hx, true_and]
      rw [← h2]; omega
    | false =>
      rw [List.filter_cons_of_neg (by simp [hx])]
      refine ⟨by simp; omega, ?_⟩
      simp only [List.length_cons, List.mem_cons, forall_eq_or_imp, hx]
      constructor
      · intro h; omega
      · rintro ⟨h, _⟩; cases h
theorem compact_len (zs : List Int) (hs : zs.Pairwise (· ≤ ·)) : (Lib.compact zs).length = zs.length ↔ zs.Nodup := by
  unfold Lib.compact Lib.compactUpTo
  rw [List.length_map]
  have h := (filter_len (Lib.keeps zs.toArray) (List.range zs.length)).2
  rw [List.length_range] at h
  rw [h]
  constructor
  · intro hk
    rw [List.nodup_iff_pairwise_ne]
    rw [List.pairwise_iff_getElem] at hs ⊢
    intro i j hi hj hij he
    have hj1 := hk j (List.mem_range.2 hj)
    unfold Lib.keeps at hj1
    rcases of_decide_eq_true hj1 with h0 | h0
    · omega
    · apply h0
      have e1 : zs.toArray[j]! = zs[j] := by simp [hj]
      have hj' : j - 1 < zs.length := by omega
      have e2 : zs.toArray[j - 1]! = zs[j - 1] := by simp [hj']
      rw [e1, e2]
      have hle1 : zs[j - 1] ≤ zs[j] := hs (j - 1) j hj' hj (by omega)
      have hle2 : zs[i] ≤ zs[j - 1] := by
        by_cases hij' : i = j - 1
        · subst hij'; exact Int.le_refl _
        · exact hs i (j - 1) hi hj' (by omega)
      omega
  · intro hn j hj
    have hj := List.mem_range.1 hj
    unfold Lib.keeps
    apply decide_eq_true
    by_cases h0 : j = 0
    · exact .inl h0
    · refine .inr (fun he => ?_)
      have hj' : j - 1 < zs.length := by omega
      have e1 : zs.toArray[j]! = zs[j] := by simp [hj]
      have e2 : zs.toArray[j - 1]! = zs[j - 1] := by simp [hj']
      rw [e1, e2] at he
      rw [List.nodup_iff_pairwise_ne, List.pairwise_iff_getElem] at hn
      exact hn (j - 1) j hj' hj (by omega) he.symm
theorem compact_le (zs : List Int) : (Lib.compact zs).length ≤ zs.length := by
  unfold Lib.compact Lib.compactUpTo
  rw [List.length_map]
  have := (filter_len (Lib.keeps zs.toArray) (List.range zs.length)).1
  rwa [List.length_range] at this
/-- The list of the children, sorted. -/
def kidS (f : Int) (l : List Lk) : List Int := (kids f l).mergeSort fun x y => decide (x ≤ y)
theorem kidS_len (f : Int) (l : List Lk) : (kidS f l).length = l.length + 1 := by unfold kidS; rw [List.length_mergeSort, kids_len]
theorem kidS_compact (f : Int) (l : List Lk) : decide ((Lib.compact (kidS f l)).length ≤ l.length) = decide (¬ (kids f l).Nodup) := by
  have hs : (kidS f l).Pairwise (· ≤ ·) := by
    have := List.pairwise_mergeSort (le := fun x y : Int => decide (x ≤ y)) (fun a b c h1 h2 => by simp at *; omega) (fun a b => by simp; omega) (kids f l)
    exact this.imp (fun h => by simpa using h)
  have hp : (kidS f l).Perm (kids f l) := List.mergeSort_perm _ _
  have h1 := compact_len (kidS f l) hs
  have h2 := compact_le (kidS f l)
  rw [kidS_len] at h1 h2
  have hnd : (kidS f l).Nodup ↔ (kids f l).Nodup := hp.nodup_iff
  congr 1
  apply propext
  rw [← hnd, ← h1]
  omega

theorem sorti_any (g cap : Nat) (zs : List Int) (w : World) (hH : Holds (Value.int .i64) w g 0 zs.toArray) (hg : g < w.heap.size) (hz : zs.length < 4611686018427387904) :
    Calls Tryz.prog 68 #[.slice (some ⟨g, 0, none⟩) zs.length cap] w fun e w' => e = .returned (.tuple #[]) ∧ ∃ n os, w' = grow (putRow (Value.int .i64) (Sort.ahead w n) g 0 (zs.mergeSort fun x y => decide (x ≤ y)).toArray) os :=
  Any.slices_Sort_int Tryz.lays189 g 0 cap zs w hH hg hz
theorem compi_any (g cap : Nat) (zs : List Int) (w : World) (hH : Holds (Value.int .i64) w g 0 zs.toArray) (hz : zs.length ≤ 9223372036854775807) (hc : zs.length ≤ cap) :
    Calls Tryz.prog 200 #[.slice (some ⟨g, 0, none⟩) zs.length cap] w fun e w' => e = .returned (.slice (some ⟨g, 0, none⟩) (Lib.compact zs).length cap) ∧ ∃ q, w' = putRow (Value.int .i64) (Sort.ahead w q) g 0 (Lib.compact zs ++ List.replicate (zs.length - (Lib.compact zs).length) 0).toArray :=
  Any.slices_Compact_int Tryz.lays20 g 0 cap zs w hH hz hc
theorem grownBy_putI {w : World} {g n : Nat} (d : Array Int) : w.grownBy (putRow (Value.int .i64) (Sort.ahead w n) g 0 d) (some g) := by
  refine ⟨rfl, rfl, rfl, by simp, fun k hk hne => ?_⟩
  have : g ≠ k := fun e => hne (by rw [e])
  simp [putRow, mapBlock, Sort.ahead, Array.getElem?_modify, this]

set_option maxRecDepth 20000 in
set_option maxHeartbeats 2000000 in
theorem twins_any (f : Int) (v : Value) (l : List Lk) (w : World) (hm : l.length ≤ 5864062014805) (hr : LkR w v l) :
    Calls Tryz.prog 159 #[.agg #[.int .i64 f, v]] w fun e w' => e = .returned (.bool (decide (¬ (kids f l).Nodup))) ∧ Below w.heap.size w w' := by
  rw [← kidS_compact]
  obtain ⟨cl, hcl⟩ : ∃ c, c = (Lib.compact (kidS f l)).length := ⟨_, rfl⟩
  rw [← hcl]
  have HCL0 := hide hcl
  clear hcl
  obtain ⟨a, cap, hv⟩ := hr.form
  subst hv
  obtain ⟨n, hn⟩ : ∃ n, n = l.length := ⟨_, rfl⟩
  rw [← hn] at hr hm ⊢
  have q0 := below_new w (.cells #[.int .i64 f, .slice a n cap] 150)
  have x0 := RowAt.new w #[.int .i64 f, .slice a n cap] 150
  have s0 : (w.alloc (.cells #[.int .i64 f, .slice a n cap] 150)).heap.size = w.heap.size + 1 := by simp
  generalize hW0 : w.alloc (.cells #[.int .i64 f, .slice a n cap] 150) = W0 at *
  have p0 := x0.c0
  have p1 := x0.c1
  have HK := hide (kids_any f _ l W0 (by omega) (hr.below q0))
  have HN := hide hn
  have HX := hide x0
  have HQ := hide q0
  have HS0 := hide s0
  have HSL := hide (kidS_len f l)
  clear hn hr q0 x0 s0
  go_enter Tryz.func159, Tryz.ntmps159
  go_wp2_with fail
  refine HK.out.mono ?_
  rintro e w1 ⟨u, rfl, hown, hb1⟩
  rw [← HN.out] at hown
  obtain ⟨g, gc, cur, hv3, hbase, hb, h1, h2, h3, h4⟩ : ∃ g gc cur, u = Value.slice (some ⟨g, 0, none⟩) (n + 1) gc ∧ W0.heap.size ≤ g ∧ w1.heap[g]? = some (.cells cur 3 (0, 0)) ∧ n + 1 ≤ gc ∧ gc ≤ maxLen ∧ cur.size = gc * 1 ∧ cur.toList.take ((n + 1) * 1) = (kids f l).map (Value.int .i64) := by
    rcases hown.2 with ⟨_, h0⟩ | h
    · omega
    · exact h
  subst hv3
  have hkl : (kids f l).length = n + 1 := by rw [kids_len, ← HN.out]
  have hH : Holds (Value.int .i64) w1 g 0 (kids f l).toArray := holds_of_blockI hb (by rw [hkl]; simpa using h4)
  have hgl : g < w1.heap.size := (Array.getElem?_eq_some_iff.1 hb).1
  have HSC : Hid (Calls Tryz.prog 68 #[.slice (some ⟨g, 0, none⟩) (n + 1) gc] w1 fun e w' => e = .returned (.tuple #[]) ∧ w'.ownsRow W0.heap.size 3 1 (.slice (some ⟨g, 0, none⟩) (n + 1) gc) (n + 1) ((kidS f l).map (Value.int .i64)) ∧ Below W0.heap.size W0 w') := by
    have hc := sorti_any g gc (kids f l) w1 hH hgl (by omega)
    rw [hkl] at hc
    refine hc.mono ?_
    rintro e w' ⟨rfl, q, os, rfl⟩
    refine ⟨rfl, ?_, hb1.grown (grownBy_sortedI _) hb1.size (fun j hj => by cases hj; exact hbase)⟩
    have := ownsRow_sortedI (w := w1) (base := W0.heap.size) (n := q) (os := os) (ss := kids f l) (ts := kidS f l) (by rw [HSL.out, kids_len]) hbase hb (by omega) h2 h3
    rwa [hkl] at this
  clear hown hb h1 h3 h4 hkl hH hgl HK hb1 p0 p1
  go_wp2_with fail
  refine HSC.out.mono ?_
  rintro e w2 ⟨rfl, ho2, hb2⟩
  have p1 := (HX.out.below hb2).c1
  have HCC : Hid (∀ W, Below w2.heap.size w2 W → Calls Tryz.prog 200 #[.slice (some ⟨g, 0, none⟩) (n + 1) gc] W fun e w' => e = .returned (.slice (some ⟨g, 0, none⟩) cl gc) ∧ Below W0.heap.size W0 w') := fun W hW => by
    rw [HCL0.out]
    obtain ⟨g', gc', cur, hv3, hbase', hb, h1, h2, h3, h4⟩ : ∃ g' gc' cur, Value.slice (some ⟨g, 0, none⟩) (n + 1) gc = Value.slice (some ⟨g', 0, none⟩) (n + 1) gc' ∧ W0.heap.size ≤ g' ∧ w2.heap[g']? = some (.cells cur 3 (0, 0)) ∧ n + 1 ≤ gc' ∧ gc' ≤ maxLen ∧ cur.size = gc' * 1 ∧ cur.toList.take ((n + 1) * 1) = (kidS f l).map (Value.int .i64) := by
      rcases ho2.2 with ⟨_, h0⟩ | h
      · omega
      · exact h
    cases hv3
    have hsl : (kidS f l).length = n + 1 := by rw [HSL.out, ← HN.out]
    have hgl : g < w2.heap.size := (Array.getElem?_eq_some_iff.1 hb).1
    have hbW : W.heap[g]? = some (.cells cur 3 (0, 0)) := by rw [hW.block g hgl]; exact hb
    have hH : Holds (Value.int .i64) W g 0 (kidS f l).toArray := holds_of_blockI hbW (by rw [hsl]; simpa using h4)
    have hc := compi_any g gc (kidS f l) W hH (by omega) (by omega)
    rw [hsl] at hc
    refine hc.mono ?_
    rintro e w' ⟨rfl, q, rfl⟩
    exact ⟨rfl, (Below.next hb2 hW).grown (grownBy_putI _) (Nat.le_trans hb2.size hW.size) (fun j hj => by cases hj; exact hbase)⟩
  have HCL : Hid (cl ≤ n + 1) := by
    have := compact_le (kidS f l)
    rw [HSL.out, ← HN.out, ← HCL0.out] at this
    exact this
  have HB2 := hide hb2
  clear ho2 hb2 HSC h2 hbase
  have hclb : cl ≤ 140737488355328 := by have : cl ≤ n + 1 := HCL.out; omega
  go_wp2_with fail
  go_region_held3 (fun w' => w'.cell? ⟨w.heap.size, 1, none⟩ = some (.slice a n cap)) (go_keep)
    (first
      | (go_at_call 200; refine (HCC.out _ ?_).mono ?_; (exact (Below.refl _ _).drew); rintro e w3 ⟨rfl, hb3⟩; have HB3 := hide hb3; have m1 : w3.cell? ⟨w.heap.size, 1, none⟩ = some (.slice a n cap) := (HX.out.below hb3).c1; clear hb3))
  all_goals
    clear HCC p1 m1
    go_wp2
    go_ret
    exact ⟨by simp, Below.next HQ.out HB3.out⟩

end Go.Proofs.YtnaedmmfiiebaaaGreatDoor.B

namespace Go.Proofs.YtnaedmmfiiebaaaGreatDoor.B
open Go.RowKit

/-- The refusals that the branch knows lie in their variables. -/
def ErrK (A : Nat → Addr) (w : World) : Prop := ErrsG 5 gAll A w ∧ w.cell? ⟨11, 0, none⟩ = some (.iface 360 (.pointer (some (A 11))))
theorem ErrK.below {A : Nat → Addr} {w w' : World} (h : ErrK A w) (hb : Below w.heap.size w w') : ErrK A w' :=
  ⟨h.1.keep hb, (hb.cell (p := ⟨11, 0, none⟩) (World.block_lt_of_cell? w _ h.2)).trans h.2⟩
theorem errK_all {A : Nat → Addr} {w : World} (h : ErrsG 13 gAll A w) : ErrK A w := ⟨h.weak (by decide), (h.1 11 (by decide)).1⟩
theorem ErrK.c {A : Nat → Addr} {w : World} (h : ErrK A w) : ErrC A w := ⟨h.1.weak (by decide), h.2⟩

/-- What Check answers, by what it asks. -/
def chkV (n : Nat) (b1 b2 b3 root : Bool) (x : Int) : Option Nat :=
  if n = 0 then some 3 else if b1 = false then some 0 else if b2 = false then some 11 else if b3 = true then some 4 else if (4072 : Int) < x then some 2 else if root = false ∧ x < 1777 then some 3 else none
theorem chkV_eq (f : Int) (l : List Lk) (root : Bool) (hm : l.length ≤ 5864062014805) : chkV l.length (childB f && l.all mayK) (decide (RiseK l)) (decide (¬ (kids f l).Nodup)) root (wsz (szB l)) = chkB f l root := by
  unfold chkV chkB
  by_cases h0 : l = []
  · subst h0; rfl
  · rw [if_neg (by simpa using h0), if_neg h0]
    cases h1 : (childB f && l.all mayK) with
    | false => simp
    | true =>
      simp only [Bool.true_eq_false, if_false]
      have ha : l.all mayK = true := by
        rw [Bool.and_eq_true] at h1; exact h1.2
      have hs := szB_may ha
      have hw : wsz (szB l) = (szB l : Int) := wsz_small (by omega)
      rw [hw]
      by_cases h2 : RiseK l
      · simp only [h2, decide_true, Bool.true_eq_false, if_false, not_true_eq_false]
        by_cases h3 : (kids f l).Nodup
        · simp only [h3, not_true_eq_false, decide_false, Bool.false_eq_true, if_false]
          by_cases h4 : 4072 < szB l
          · rw [if_pos (by omega), if_pos h4]
          · rw [if_neg (by omega), if_neg h4]
            by_cases h5 : root = false ∧ szB l < 1777
            · rw [if_pos ⟨h5.1, by omega⟩, if_pos h5]
            · rw [if_neg (fun h => h5 ⟨h.1, by omega⟩), if_neg h5]
        · simp [h3]
      · simp [h2]

set_option maxRecDepth 20000 in
set_option maxHeartbeats 4000000 in
theorem bcheck_any (A : Nat → Addr) (f : Int) (v : Value) (l : List Lk) (root : Bool) (w : World) (hok : OkK l) (hm : l.length ≤ 5864062014805) (hr : LkR w v l) (hE : ErrK A w) :
    Calls Tryz.prog 117 #[.agg #[.int .i64 f, v], .bool root] w fun e w' => e = .returned (errV A (chkB f l root)) ∧ Below w.heap.size w w' := by
  rw [← chkV_eq f l root hm]
  obtain ⟨a, cap, hv⟩ := hr.form
  subst hv
  obtain ⟨n, hn⟩ : ∃ n, n = l.length := ⟨_, rfl⟩
  rw [← hn] at hr hm ⊢
  have q0 := below_new w (.cells #[.int .i64 f, .slice a n cap] 150)
  have x0 := RowAt.new w #[.int .i64 f, .slice a n cap] 150
  generalize hW0 : w.alloc (.cells #[.int .i64 f, .slice a n cap] 150) = W0 at *
  have p0 := x0.c0
  have p1 := x0.c1
  have HQ := hide q0
  have HX := hide x0
  have HE := hide (hE.below q0)
  have HR := hide (hr.below q0)
  have H1 := hide (bsize_any f _ l W0 hok (by omega) HR.out)
  have H2 : Hid (∀ W, Below W0.heap.size W0 W → Calls Tryz.prog 157 #[.agg #[.int .i64 f, .slice a n cap]] W fun e w' => e = .returned (.bool (childB f && l.all mayK)) ∧ Below W.heap.size W w') := fun W h => allmay_any f _ l W (by omega) (HR.out.below h)
  have H3 : Hid (∀ W, Below W0.heap.size W0 W → Calls Tryz.prog 158 #[.slice a n cap] W fun e w' => e = .returned (.bool (decide (RiseK l))) ∧ Below W.heap.size W w') := fun W h => rising_any _ l W (by omega) (HR.out.below h)
  have H4 : Hid (∀ W, Below W0.heap.size W0 W → Calls Tryz.prog 159 #[.agg #[.int .i64 f, .slice a n cap]] W fun e w' => e = .returned (.bool (decide (¬ (kids f l).Nodup))) ∧ Below W.heap.size W w') := fun W h => twins_any f _ l W (by omega) (HR.out.below h)
  obtain ⟨b1, hb1⟩ : ∃ b, b = (childB f && l.all mayK) := ⟨_, rfl⟩
  obtain ⟨b2, hb2⟩ : ∃ b, b = decide (RiseK l) := ⟨_, rfl⟩
  obtain ⟨b3, hb3⟩ : ∃ b, b = decide (¬ (kids f l).Nodup) := ⟨_, rfl⟩
  obtain ⟨x, hx⟩ : ∃ x, x = wsz (szB l) := ⟨_, rfl⟩
  rw [← hb1] at H2 ⊢
  rw [← hb2] at H3 ⊢
  rw [← hb3] at H4 ⊢
  rw [← hx] at H1 ⊢
  clear hn hr hE hok q0 x0 hb1 hb2 hb3 hx HR
  have HC : Hid (∀ W k, Below W0.heap.size W0 W → k < 5 → W.cell? ⟨gAll k, 0, none⟩ = some (.iface 360 (.pointer (some (A k))))) := fun W k h hk => ((HE.out.below h).1.1 k hk).1
  go_enter Tryz.func117, Tryz.ntmps117
  go_wp2_with fail
  refine H1.out.mono ?_
  rintro e w1 ⟨rfl, hb1⟩
  have HB1 := hide hb1
  have o0 := (HX.out.below hb1).c0
  have o1 := (HX.out.below hb1).c1
  clear hb1 H1 p0 p1
  by_cases h0 : n = 0
  · subst h0
    have c3 : w1.cell? ⟨3, 0, none⟩ = some (.iface 360 (.pointer (some (A 3)))) := HC.out w1 3 HB1.out (by decide)
    have HB := hide (Below.next HQ.out HB1.out)
    clear H2 H3 H4
    go_wp2
    go_ret
    exact ⟨rfl, HB.out⟩
  · have hd0 : ((n : Int) == 0) = false := by rw [beq_eq_false_iff_ne]; omega
    have HV1 : Hid (chkV n b1 b2 b3 root x = if b1 = false then some 0 else if b2 = false then some 11 else if b3 = true then some 4 else if (4072 : Int) < x then some 2 else if root = false ∧ x < 1777 then some 3 else none) := by show _ = _; unfold chkV; rw [if_neg h0]
    go_wp2_with fail
    refine (H2.out _ HB1.out).mono ?_
    rintro e w2 ⟨rfl, hb2⟩
    have HB2 := hide (Below.next HB1.out hb2)
    clear hb2 H2 o0 o1 HB1
    have o0 := (HX.out.below HB2.out).c0
    have o1 := (HX.out.below HB2.out).c1
    cases b1 with
    | false =>
      have c0 : w2.cell? ⟨0, 0, none⟩ = some (.iface 360 (.pointer (some (A 0)))) := HC.out w2 0 HB2.out (by decide)
      have HB := hide (Below.next HQ.out HB2.out)
      clear H3 H4
      go_wp2
      go_ret
      exact ⟨by rw [HV1.out]; rfl, HB.out⟩
    | true =>
      go_wp2_with fail
      refine (H3.out _ HB2.out).mono ?_
      rintro e w3 ⟨rfl, hb3⟩
      have HB3 := hide (Below.next HB2.out hb3)
      clear hb3 H3 o0 o1 HB2
      have o0 := (HX.out.below HB3.out).c0
      have o1 := (HX.out.below HB3.out).c1
      cases b2 with
      | false =>
        have c11 : w3.cell? ⟨11, 0, none⟩ = some (.iface 360 (.pointer (some (A 11)))) := (HE.out.below HB3.out).2
        have HB := hide (Below.next HQ.out HB3.out)
        clear H4
        go_wp2
        go_ret
        exact ⟨by rw [HV1.out]; rfl, HB.out⟩
      | true =>
        go_wp2_with fail
        refine (H4.out _ HB3.out).mono ?_
        rintro e w4 ⟨rfl, hb4⟩
        have HB4 := hide (Below.next HB3.out hb4)
        clear hb4 H4 o0 o1 HB3
        cases b3 with
        | true =>
          have c4 : w4.cell? ⟨4, 0, none⟩ = some (.iface 360 (.pointer (some (A 4)))) := HC.out w4 4 HB4.out (by decide)
          have HB := hide (Below.next HQ.out HB4.out)
          go_wp2
          go_ret
          exact ⟨by rw [HV1.out]; rfl, HB.out⟩
        | false =>
          have HB := hide (Below.next HQ.out HB4.out)
          by_cases h4 : (4072 : Int) < x
          · have c2 : w4.cell? ⟨2, 0, none⟩ = some (.iface 360 (.pointer (some (A 2)))) := HC.out w4 2 HB4.out (by decide)
            have hv2 : chkV n true true false root x = some 2 := by rw [HV1.out]; simp [h4]
            have HV2 := hide hv2
            clear hv2
            go_wp2
            go_ret
            exact ⟨by rw [HV2.out]; rfl, HB.out⟩
          · cases root with
            | true =>
              have hv2 : chkV n true true false true x = none := by rw [HV1.out]; simp [h4]
              have HV2 := hide hv2
              clear hv2
              go_wp2
              go_ret
              exact ⟨by rw [HV2.out]; rfl, HB.out⟩
            | false =>
              by_cases h5 : x < 1777
              · have c3 : w4.cell? ⟨3, 0, none⟩ = some (.iface 360 (.pointer (some (A 3)))) := HC.out w4 3 HB4.out (by decide)
                have hv2 : chkV n true true false false x = some 3 := by rw [HV1.out]; simp [h4, h5]
                have HV2 := hide hv2
                clear hv2
                go_wp2
                go_ret
                exact ⟨by rw [HV2.out]; rfl, HB.out⟩
              · have hv2 : chkV n true true false false x = none := by rw [HV1.out]; simp [h4, h5]
                have HV2 := hide hv2
                clear hv2
                go_wp2
                go_ret
                exact ⟨by rw [HV2.out]; rfl, HB.out⟩

end Go.Proofs.YtnaedmmfiiebaaaGreatDoor.B
