import Derived.Test.YtagldlchamlpdaaDoorBPick
namespace Go.Proofs.YtagldlchamlpdaaDoor
open Go.RowKit

/-- The number of the child in which a key belongs. -/
def PickAt (ls : List Lk) (key : ByteArray) (p : Nat) : Prop :=
  p ≤ ls.length ∧ (∀ j (h : j < ls.length), p ≤ j → leK ls[j].1 key = false) ∧ ∀ j (h : j < ls.length), p = j + 1 → leK ls[j].1 key = true

theorem backL_mem (ls : List Lk) (k j : Nat) (h : j < ls.length) (hk : ls.length ≤ j + k) : (j, ls[j]) ∈ backL ls k := by
  simp only [backL, List.mem_map, List.mem_range]
  refine ⟨ls.length - 1 - j, by omega, ?_⟩
  rw [show ls.length - 1 - (ls.length - 1 - j) = j by omega, List.getD_eq_getElem?_getD, List.getElem?_eq_getElem h]; rfl
theorem pickAt_none {ls : List Lk} {key : ByteArray} (h : ∀ x ∈ backL ls ls.length, leK x.2.1 key = false) : PickAt ls key 0 :=
  ⟨Nat.zero_le _, fun j hj _ => h _ (backL_mem ls ls.length j hj (by omega)), fun j _ e => by omega⟩
theorem pickAt_some {ls : List Lk} {key : ByteArray} {k : Nat} (hk : k < ls.length) (h1 : leK (ls.getD (ls.length - 1 - k) (⟨#[]⟩, 0)).1 key = true) (h : ∀ x ∈ backL ls k, leK x.2.1 key = false) : PickAt ls key (ls.length - k) :=
  ⟨Nat.sub_le _ _, fun j hj hp => h _ (backL_mem ls k j hj (by omega)), fun j hj e => by
    rw [show ls.length - 1 - k = j by omega, List.getD_eq_getElem?_getD, List.getElem?_eq_getElem hj] at h1
    exact h1⟩

set_option maxHeartbeats 1000000 in
theorem bpick_any (f : Int) (v : Value) (ls : List Lk) (key : ByteArray) (w : World) (hm : ls.length ≤ 5864062014805) (hr : LkR w v ls) :
    Calls Tryd.prog 23 #[.agg #[.int .i64 f, v], .string key] w fun e w' => (∃ p : Nat, e = .returned (.int .i64 (p : Int)) ∧ PickAt ls key p) ∧ Below w.heap.size w w' := by
  obtain ⟨a, cap, hv⟩ := hr.form
  subst hv
  obtain ⟨n, hn⟩ : ∃ n, n = ls.length := ⟨_, rfl⟩
  rw [← hn] at hr ⊢
  have q1 := below_new w (.cells #[.int .i64 f, .slice a n cap] 27)
  have x1 := RowAt.new w #[.int .i64 f, .slice a n cap] 27
  have s1 : (w.alloc (.cells #[.int .i64 f, .slice a n cap] 27)).heap.size = w.heap.size + 1 := by simp
  generalize hW1 : w.alloc (.cells #[.int .i64 f, .slice a n cap] 27) = W1 at *
  have q2 := below_new W1 (.cells #[.string key] 9)
  have x2 := (Go.Boxed.new W1 9 (.string key)).cell
  rw [s1] at x2
  generalize hW2 : W1.alloc (.cells #[.string key] 9) = W2 at *
  have hq := Below.next q1 q2
  have x3 := x1.below q2
  have p1 := x3.c1
  have HL := hide (lastof_any (.slice a n cap) ls (w.heap.size + 1) key W2 hm (hr.below hq) x2)
  have HQ := hide hq
  have HN := hide hn
  have HM := hide hm
  clear q1 q2 x1 x2 x3 hr hq hn hm
  go_enter Tryd.func23, Tryd.ntmps23
  go_wp2_with fail
  refine HL.out.mono ?_
  rintro e w1 ⟨he, hb1⟩
  have HB := hide (Below.next HQ.out hb1)
  rcases he with ⟨rfl, hno⟩ | ⟨k, hk, rfl, h1, h2⟩
  · have HP := hide (pickAt_none hno)
    clear hno hb1 HL p1
    go_wp2
    go_ret
    exact ⟨⟨0, rfl, HP.out⟩, HB.out⟩
  · have HP := hide (pickAt_some hk h1 h2)
    obtain ⟨j, hj⟩ : ∃ j, j = ls.length - 1 - k := ⟨_, rfl⟩
    have HJ : Hid (ls.length - k = j + 1) := by show _ = _; omega
    rw [← hj]
    have hw : IntKind.i64.wrap ((j : Int) + 1) = (j : Int) + 1 := by have := HM.out; rw [IntKind.wrap_i64]; omega
    clear h1 h2 hb1 HL p1 hk hj
    go_wp2
    go_ret
    exact ⟨⟨j + 1, by go_num, by rw [← HJ.out]; exact HP.out⟩, HB.out⟩
end Go.Proofs.YtagldlchamlpdaaDoor
