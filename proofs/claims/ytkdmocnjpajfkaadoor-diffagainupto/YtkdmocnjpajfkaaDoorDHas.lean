import Derived.Test.YtkdmocnjpajfkaaDoorDSta
namespace Go.Proofs.YtkdmocnjpajfkaaDoor
open Go.RowKit
attribute [local go_sem ↓] Go.wp_at_zero Go.wp_at_succ

theorem lk_drop_yes (l : List Pr) (key : ByteArray) (q : Nat) (h : q < l.length) (hk : l[q].1 = key) : lk (l.drop q) key = some l[q].2 := by
  rw [List.drop_eq_getElem_cons h, lk, if_pos hk]
theorem lk_drop_no (l : List Pr) (key : ByteArray) (q : Nat) (h : q < l.length) (hk : ¬ l[q].1 = key) : lk (l.drop q) key = lk (l.drop (q + 1)) key := by
  rw [List.drop_eq_getElem_cons h, lk, if_neg hk]
theorem lk_drop_end {α : Type} (l : KL α) (key : ByteArray) (q : Nat) (h : l.length ≤ q) : lk (l.drop q) key = none := by
  rw [List.drop_eq_nil_of_le h]; rfl
set_option maxHeartbeats 2000000 in
theorem has_any (v : Value) (l : List Pr) (key : ByteArray) (w : World) (hm : l.length ≤ 140737488355328) (hR : PrR w v l) :
    Calls Tryd.prog 18 #[v, .string key] w fun e w' => e = .returned (.tuple #[.string ((lk l key).getD nilB), .bool (lk l key).isSome]) ∧ Below w.heap.size w w' := by
  obtain ⟨a, c, rfl⟩ : ∃ a c, v = .slice a l.length c := by obtain ⟨x, y, h, _⟩ := hR; exact ⟨x, y, h⟩
  obtain ⟨n, hnl⟩ : ∃ n, n = l.length := ⟨_, rfl⟩
  rw [← hnl] at hR hm ⊢
  have HR := hide hR
  have HNL := hide hnl
  obtain ⟨Q, hQ⟩ : ∃ Q : Ending → World → Prop, Q = fun e w' => e = .returned (.tuple #[.string ((lk l key).getD nilB), .bool (lk l key).isSome]) ∧ Below w.heap.size w w' := ⟨_, rfl⟩
  rw [← hQ]
  have HQ := hide hQ
  clear hQ hR hnl
  go_enter Tryd.func18, Tryd.ntmps18
  go_wp2
  go_loopw [6] (fun i wr => ∃ (q : Nat), q ≤ n ∧ i = .int .i64 (q : Int) ∧ wr = w ∧ lk (l.drop q) key = lk l key) (fun i _ => n - (intOf i).toNat)
  case atStart => exact ⟨0, Nat.zero_le _, rfl, rfl, rfl⟩
  case round =>
    obtain ⟨q, hq, rfl, rfl, hk⟩ := hrel
    have HK := hide hk
    clear hk
    by_cases hlt : q < n
    · have j1 : (q : Int) < (n : Int) := by omega
      have j0 : (0 : Int) ≤ (q : Int) := by omega
      have hql : q < l.length := by have := HNL.out; omega
      obtain ⟨a'', cap, he, hle, hnl', hc⟩ := HR.out
      cases he
      obtain ⟨g, o, rfl, c0, c1⟩ := hc q hql
      have HY := hide (lk_drop_yes l key q hql)
      have HNO := hide (lk_drop_no l key q hql)
      obtain ⟨k, hkk⟩ : ∃ k, k = l[q].1 := ⟨_, rfl⟩
      obtain ⟨y, hyy⟩ : ∃ y, y = l[q].2 := ⟨_, rfl⟩
      rw [← hkk] at c0 HY HNO
      rw [← hyy] at c1 HY
      have HE := hide (list_eq k key)
      have HLT := hide hlt
      clear hc hnl' hkk hyy
      by_cases heq : k = key
      · have hd : (k.toList == key.toList) = true := by rw [HE.out]; simp [heq]
        have HZ := hide (HY.out heq)
        go_wp2
        rw [HQ.out, ← HK.out, HZ.out]
        exact ⟨rfl, Below.refl _ _⟩
      · have hd : (k.toList == key.toList) = false := by rw [HE.out]; simp [heq]
        have HZ := hide (HNO.out heq)
        go_wp2
        go_roundw
        case rel => exact ⟨q + 1, HLT.out, by go_num, by first | trivial | rfl, by rw [← HZ.out]; exact HK.out⟩
        case measure => have := HLT.out; simp [intOf]; omega
    · obtain rfl : q = n := by omega
      have HZ := hide (lk_drop_end l key q (by have := HNL.out; omega))
      go_wp2
      rw [HQ.out, ← HK.out, HZ.out]
      refine ⟨?_, Below.refl _ _⟩
      first | trivial | rfl
end Go.Proofs.YtkdmocnjpajfkaaDoor
