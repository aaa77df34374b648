import Derived.Test.YtdacbajiapdiiabDoorBase
namespace Go.Proofs.YtdacbajiapdiiabDoor
open Go.RowKit

/-- What a machine's word keeps of a size. -/
def wsz (n : Nat) : Int := IntKind.i64.wrap (n : Int)
theorem wsz_add (a b : Nat) : IntKind.i64.wrap (wsz a + (b : Int)) = wsz (a + b) := by
  unfold wsz; rw [IntKind.wrap_i64, IntKind.wrap_i64, IntKind.wrap_i64]; omega
theorem wsz_small {n : Nat} (h : n ≤ 4611686018427387904) : wsz n = (n : Int) := by
  unfold wsz; rw [IntKind.wrap_i64]; omega



set_option maxHeartbeats 400000 in
theorem lsizeOf_any (p : Pr) (w : World) (h1 : p.1.size ≤ 140737488355328) (h2 : p.2.size ≤ 140737488355328) :
    Calls Tryd.prog 60 #[.agg #[.string p.1, .string p.2]] w fun e w' => e = .returned (.int .i64 (szP p : Int)) ∧ Below w.heap.size w w' := by
  have hbn := below_new w (.cells #[.string p.1, .string p.2] 45)
  have hw1 : IntKind.i64.wrap (5 + (p.1.size : Int)) = 5 + (p.1.size : Int) := by rw [IntKind.wrap_i64]; omega
  have hw2 : IntKind.i64.wrap (5 + (p.1.size : Int) + (p.2.size : Int)) = (szP p : Int) := by rw [IntKind.wrap_i64]; unfold szP; omega
  go_enter Tryd.func60, Tryd.ntmps60
  go_wp2
  go_ret
  exact ⟨rfl, hbn⟩

set_option maxHeartbeats 1000000 in
theorem lsize_any (v : Value) (l : List Pr) (w : World) (hok : OkL l) (hm : l.length ≤ 140737488355328) (hr : PrR w v l) :
    Calls Tryd.prog 36 #[v] w fun e w' => e = .returned (.int .i64 (wsz (szL l))) ∧ Below w.heap.size w w' := by
  obtain ⟨a, cap, rfl, hcap, _, hc⟩ := hr
  have HC := hide hc
  obtain ⟨n, hn⟩ : ∃ n, n = l.length := ⟨_, rfl⟩
  rw [← hn] at hm ⊢
  have HN := hide hn
  have HOK := hide hok
  clear hc hn hcap hok
  go_enter Tryd.func36, Tryd.ntmps36
  go_wp2
  go_loopw [3, 8] (fun r i wr => ∃ k : Nat, k ≤ n ∧ i = .int .i64 k ∧ r = .int .i64 (wsz (szL (l.take k))) ∧ Below w.heap.size w wr) (fun _ i _ => n - (intOf i).toNat)
  case atStart => exact ⟨0, Nat.zero_le _, rfl, rfl, Below.refl _ _⟩
  case round =>
    obtain ⟨k, hk, rfl, rfl, hbw⟩ := hrel
    by_cases hlt : k < n
    · have hkl : k < l.length := by have := HN.out; omega
      obtain ⟨g, o, rfl, f1, f2⟩ := HC.out k hkl
      have c1 : wr.cell? ⟨g, o + k * 2, none⟩ = some (.string l[k].1) := (hbw.cell (p := ⟨g, o + k * 2, none⟩) (World.block_lt_of_cell? w _ f1)).trans f1
      have c2 : wr.cell? ⟨g, o + k * 2 + 1, none⟩ = some (.string l[k].2) := (hbw.cell (p := ⟨g, o + k * 2 + 1, none⟩) (World.block_lt_of_cell? w _ f2)).trans f2
      have hp0 := HOK.out l[k] (List.getElem_mem _)
      have hws : IntKind.i64.wrap (wsz (szL (l.take k)) + (szP l[k] : Int)) = wsz (szL (l.take (k + 1))) := by rw [wsz_add, ← szL_take_succ l k hkl]
      obtain ⟨p, hp⟩ : ∃ p, p = l[k] := ⟨_, rfl⟩
      rw [← hp] at c1 c2 hws hp0
      have HZ := hide (fun W => lsizeOf_any p W hp0.1 hp0.2)
      obtain ⟨x, hx⟩ : ∃ x, x = wsz (szL (l.take k)) := ⟨_, rfl⟩
      obtain ⟨y, hy⟩ : ∃ y, y = wsz (szL (l.take (k + 1))) := ⟨_, rfl⟩
      obtain ⟨z, hz⟩ : ∃ z, z = szP p := ⟨_, rfl⟩
      rw [← hx, ← hy, ← hz] at hws
      rw [← hx]
      rw [← hz] at HZ
      have HY := hide hy
      have hltI : (k : Int) < (n : Int) := by omega
      have HB := hide (Below.next hbw (below_new wr (.cells #[.string p.1, .string p.2] 45)))
      clear hp hx hy hz HC f1 f2 hbw hp0
      go_wp2_with fail
      refine (HZ.out _).mono ?_
      rintro e w1 ⟨rfl, hb1⟩
      have HB1 := hide (Below.next HB.out hb1)
      clear hb1 HB HZ c1 c2
      go_wp2
      go_roundw
      case rel => exact ⟨k + 1, by omega, by go_num, by rw [← HY.out], HB1.out⟩
      case measure => simp [intOf]; omega
    · have hall : l.take k = l := by rw [List.take_of_length_le]; have := HN.out; omega
      rw [hall]
      have HB := hide hbw
      have hltI : ¬ (k : Int) < (n : Int) := by omega
      obtain ⟨x, hx⟩ : ∃ x, x = wsz (szL l) := ⟨_, rfl⟩
      rw [← hx]
      have HX := hide hx
      clear HC hbw hall hx
      go_wp2
      go_ret
      exact ⟨by rw [← HX.out]; rfl, HB.out⟩

end Go.Proofs.YtdacbajiapdiiabDoor
