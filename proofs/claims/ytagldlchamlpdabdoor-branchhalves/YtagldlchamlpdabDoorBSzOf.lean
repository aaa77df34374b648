import Derived.Test.YtagldlchamlpdabDoorBMadeM
namespace Go.Proofs.YtagldlchamlpdabDoor
open Go.RowKit

theorem szB_takes (l : List Lk) (k : Nat) (h : k < l.length) : szB (l.take (k + 1)) = szB (l.take k) + (7 + l[k].1.size) := by
  rw [List.take_succ_eq_append_getElem h]; simp only [szB, List.map_append, List.sum_append, List.map_cons, List.sum_cons, List.map_nil, List.sum_nil, szK]; omega
theorem szB_takes_le (l : List Lk) (k : Nat) : szB (l.take k) ≤ szB l := by
  have : (l.map szK).sum = ((l.take k).map szK).sum + ((l.drop k).map szK).sum := by
    conv => lhs; rw [← List.take_append_drop k l]
    simp only [List.map_append, List.sum_append]
  simp only [szB]; omega

set_option maxHeartbeats 1000000 in
theorem lszof_any (f : Int) (v : Value) (l : List Lk) (w : World) (hm : l.length ≤ 1000000) (hs : szB l ≤ 1000000) (hr : LkR w v l) :
    Calls Tryd.prog 16 #[.agg #[.int .i64 f, v]] w fun e w' => e = .returned (.int .i64 (szB l : Int)) ∧ Below w.heap.size w w' := by
  obtain ⟨a, cap, hv, _, _, hc⟩ := hr
  subst hv
  obtain ⟨n, hn⟩ : ∃ n, n = l.length := ⟨_, rfl⟩
  rw [← hn] at hm ⊢
  have q1 := below_new w (.cells #[.int .i64 f, .slice a n cap] 30)
  have x1 := RowAt.new w #[.int .i64 f, .slice a n cap] 30
  generalize hW1 : w.alloc (.cells #[.int .i64 f, .slice a n cap] 30) = W1 at *
  have p1 := x1.c1
  have HC := hide hc
  have HN := hide hn
  have HQ := hide q1
  have HS := hide hs
  clear hc hn q1 x1 hs
  go_enter Tryd.func16, Tryd.ntmps16
  go_wp2
  go_loop [3, 4] (fun s i => ∃ k : Nat, k ≤ n ∧ i = .int .i64 (k : Int) ∧ s = .int .i64 (szB (l.take k) : Int)) (fun _ i => n - (intOf i).toNat)
  case atStart => exact ⟨0, Nat.zero_le _, rfl, rfl⟩
  case round =>
    obtain ⟨k, hk, rfl, rfl⟩ := hrel
    by_cases hlt : k < n
    · have hkl : k < l.length := by have := HN.out; omega
      obtain ⟨g, o, ha, f1, f2⟩ := HC.out k hkl
      subst ha
      have c1 : W1.cell? ⟨g, o + k * 2, none⟩ = some (.string l[k].1) := (HQ.out.cell (p := ⟨g, o + k * 2, none⟩) (World.block_lt_of_cell? w _ f1)).trans f1
      have hst := szB_takes l k hkl
      have hle := szB_takes_le l (k + 1)
      have HT : Hid (szB (l.take (k + 1)) = szB (l.take k) + (7 + l[k].1.size) ∧ szB (l.take (k + 1)) ≤ 1000000) := ⟨hst, Nat.le_trans hle HS.out⟩
      obtain ⟨p, hp⟩ : ∃ p, p = l[k] := ⟨_, rfl⟩
      rw [← hp] at c1 HT
      obtain ⟨z, hz⟩ : ∃ z, z = szB (l.take k) := ⟨_, rfl⟩
      rw [← hz] at HT ⊢
      have hltI : (k : Int) < (n : Int) := by omega
      have hk0 : (0 : Int) ≤ (k : Int) := by omega
      have hw1 : IntKind.i64.wrap ((z : Int) + 7) = (z : Int) + 7 := by have := HT.out; rw [IntKind.wrap_i64]; omega
      have hw2 : IntKind.i64.wrap ((z : Int) + 7 + (p.1.size : Int)) = (z : Int) + 7 + (p.1.size : Int) := by have := HT.out; rw [IntKind.wrap_i64]; omega
      clear hp f1 f2 hst hle hz HC
      go_wp2
      go_round
      case rel => exact ⟨k + 1, by omega, by go_num, by rw [HT.out.1]; congr 1; omega⟩
      case measure => simp [intOf]; omega
    · have hkn : k = l.length := by have := HN.out; omega
      have HT : Hid (szB (l.take k) = szB l) := by show _ = _; rw [hkn, List.take_length]
      have hltI : ¬ (k : Int) < (n : Int) := by omega
      clear HC hkn
      go_wp2
      go_ret
      exact ⟨by rw [← HT.out]; rfl, HQ.out⟩
end Go.Proofs.YtagldlchamlpdabDoor
