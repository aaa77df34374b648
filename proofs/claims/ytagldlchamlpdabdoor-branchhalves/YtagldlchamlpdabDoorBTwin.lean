import Derived.Test.YtagldlchamlpdabDoorBSizes
import Derived.Test.YtagldlchamlpdabDoorSortLay
import Derived.Sort.OwnSortedInts
namespace Go.Proofs.YtagldlchamlpdabDoor
open Go.RowKit

/-- One int more on a list of the call's own. -/
theorem push_intB (base : Nat) (v : Value) (xs : List Int) (x : Int) (t : TypeId) (w w0 : World) (B n : Nat) (hn : xs.length = n) (hown : w.ownsRow base 3 1 v n (ints xs)) (hb : (n + 1) * 8 ≤ 140737488355328) (hbase : base ≤ w.heap.size) (hB : B ≤ base) (h0 : Below B w0 w) :
    ∃ a' cap' w', (Builtin.append_ #[75, 75] 75 #[v, .slice (some ⟨w.heap.size, 0, none⟩) 1 1]).run Tryd.prog (w.alloc (.cells #[.int .i64 x] t)) = .ok (.slice a' (n + 1) cap') w' ∧ w'.ownsRow base 3 1 (.slice a' (n + 1) cap') (n + 1) (ints (xs ++ [x])) ∧ Below B w0 w' ∧ w.heap.size ≤ w'.heap.size := by
  subst hn
  have hr : RowR (w.alloc (.cells #[.int .i64 x] t)) (.slice (some ⟨w.heap.size, 0, none⟩) 1 1) [.int .i64 x] := by
    have hbx := boxed_new w #[.int .i64 x] t
    refine ⟨_, _, rfl, Nat.le_refl _, fun h => (by cases h), fun j u hj => ⟨_, _, rfl, ?_⟩⟩
    have hj0 : j = 0 := by
      have := (List.getElem?_eq_some_iff.1 hj).1
      simpa using this
    subst hj0
    cases hj
    exact hbx.2 0 (by simp)
  obtain ⟨a', cap', w', hrun, hown', hg⟩ := append_row 75 3 _ 8 info3 Tryd.underlying75 rfl base xs.length v (ints xs) _ (World.ownsRow.alloc hown _) _ _ hr (fun u hu => by simp at hu; subst hu; rfl) (by simpa using hb) (by decide) (by simp; omega)
  refine ⟨a', cap', w', hrun, by rw [ints_append]; exact hown', ?_, ?_⟩
  · exact (h0.alloc (Nat.le_trans hB hbase) _).grown hg (by simp; omega) (fun k hk => Nat.le_trans hB (World.ownsRow.lt hown k hk).1)
  · have := hg.size
    simp at this
    omega
theorem kids_take_succ (f : Int) (l : List Lk) (k : Nat) (h : k < l.length) : kids f (l.take (k + 1)) = kids f (l.take k) ++ [l[k].2] := by
  unfold kids
  rw [List.take_succ_eq_append_getElem h, List.map_append]; rfl
theorem own_formB {w : World} {base e n : Nat} {v : Value} {xs : List Value} (h : w.ownsRow base e 1 v n xs) : ∃ a c, v = .slice a n c := by
  rcases h.2 with ⟨rfl, rfl⟩ | ⟨g, cap, cur, rfl, _⟩
  · exact ⟨_, _, rfl⟩
  · exact ⟨_, _, rfl⟩

theorem own_mono {w : World} {b b2 e n : Nat} {v : Value} {xs : List Value} (h : w.ownsRow b e 1 v n xs) (hb : b2 ≤ b) : w.ownsRow b2 e 1 v n xs := by
  refine ⟨h.1, ?_⟩
  rcases h.2 with h' | ⟨g, cap, cur, h', h1, hr⟩
  · exact .inl h'
  · exact .inr ⟨g, cap, cur, h', Nat.le_trans hb h1, hr⟩

set_option maxHeartbeats 1000000 in
theorem kids_any (f : Int) (v : Value) (l : List Lk) (w : World) (hm : l.length ≤ 5864062014805) (hr : LkR w v l) :
    Calls Tryd.prog 60 #[.agg #[.int .i64 f, v]] w fun e w' => ∃ u, e = .returned u ∧ w'.ownsRow w.heap.size 3 1 u (l.length + 1) (ints (kids f l)) ∧ Below w.heap.size w w' := by
  obtain ⟨a, cap, hv⟩ := hr.form
  subst hv
  obtain ⟨n, hn⟩ : ∃ n, n = l.length := ⟨_, rfl⟩
  rw [← hn] at hr hm ⊢
  have q0 := below_new w (.cells #[.int .i64 f, .slice a n cap] 30)
  have x0 := RowAt.new w #[.int .i64 f, .slice a n cap] 30
  generalize hW0 : w.alloc (.cells #[.int .i64 f, .slice a n cap] 30) = W0 at *
  have q1 := below_new W0 (.cells #[.int .i64 f] 3)
  have o1 : (W0.alloc (.cells #[.int .i64 f] 3)).ownsRow W0.heap.size 3 1 (.slice (some ⟨W0.heap.size, 0, none⟩) 1 1) 1 (ints [f]) := World.ownsRow_lit W0 #[.int .i64 f] 1 (Nat.le_refl _) (by decide) rfl
  generalize hW1 : W0.alloc (.cells #[.int .i64 f] 3) = W1 at *
  have p0 := x0.c0
  have p1 := (x0.below q1).c1
  have HR := hide (hr.below q0)
  have HN := hide hn
  have HQ := hide (Below.next q0 q1)
  have HQ0 := hide q0
  have HQ1 := hide q1
  have HO1 := hide o1
  clear hn hr q0 x0 q1 o1
  go_enter Tryd.func60, Tryd.ntmps60
  go_wp2
  clear p0 p1
  go_loopw [3, 12] (fun u i wr => ∃ k : Nat, k ≤ n ∧ i = .int .i64 k ∧ wr.ownsRow W0.heap.size 3 1 u (k + 1) (ints (kids f (l.take k))) ∧ Below W0.heap.size W0 wr) (fun _ i _ => n - (intOf i).toNat)
  case atStart => exact ⟨0, Nat.zero_le _, rfl, by simpa [kids] using HO1.out, HQ1.out⟩
  case round =>
    obtain ⟨k, hk, rfl, hown, hbw⟩ := hrel
    have htk : (kids f (l.take k)).length = k + 1 := by rw [kids_len, List.length_take]; have := HN.out; omega
    obtain ⟨ua, uc, hu⟩ := own_formB hown
    subst hu
    by_cases hlt : k < n
    · have hkl : k < l.length := by have := HN.out; omega
      obtain ⟨g, o, rfl, c1, c2⟩ := (HR.out.below hbw).spot k hkl
      have HS := hide (kids_take_succ f l k hkl)
      have q2 := below_new wr (.cells #[.string l[k].1, .int .i64 l[k].2] 54)
      have hx := RowAt.new wr #[.string l[k].1, .int .i64 l[k].2] 54
      obtain ⟨a3, cp3, w2, hrun, hown1, hb1, _⟩ := push_intB W0.heap.size _ _ l[k].2 3 _ W0 W0.heap.size (k + 1) htk (own_below hown q2) (by omega) (Nat.le_trans hbw.size q2.size) (Nat.le_refl _) (Below.next hbw q2)
      rw [← HS.out] at hown1
      generalize l[k].1 = s1 at *
      generalize l[k].2 = s2 at *
      have b1 := hx.c1
      have HO := hide hown1
      have HB := hide hb1
      have hltI : (k : Int) < (n : Int) := by omega
      have hz : (wr.alloc (.cells #[.string s1, .int .i64 s2] 54)).heap.size = wr.heap.size + 1 := by simp
      rw [hz] at hrun
      clear hown hown1 hb1 hbw HS htk q2 hx hz
      go_wp2_with (first | (at_builtin; have h0 := hrun; clear hrun; refine wpList_append_run 75 rfl (.tmp 16) (.tmp 19) rfl rfl _ _ rfl rfl _ _ h0 ?_; clear h0))
      go_wp2
      go_roundw
      case rel => exact ⟨k + 1, by omega, by go_num, HO.out, HB.out⟩
      case measure => simp [intOf]; omega
    · have hkn : k = n := by omega
      have hall : l.take k = l := by rw [List.take_of_length_le]; have := HN.out; omega
      rw [hall] at hown
      have HO := hide hown
      have HB := hide (Below.next HQ0.out hbw)
      have hltI : ¬ (k : Int) < (n : Int) := by omega
      clear hown hbw hall htk
      go_wp2
      go_ret
      refine ⟨_, rfl, ?_, HB.out⟩
      rw [← hkn]
      exact own_mono HO.out HQ0.out.size

end Go.Proofs.YtagldlchamlpdabDoor
