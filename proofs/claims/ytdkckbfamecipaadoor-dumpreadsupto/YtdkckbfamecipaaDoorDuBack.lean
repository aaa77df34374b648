import Derived.Test.YtdkckbfamecipaaDoorDuLent
namespace Go.Proofs.YtdkckbfamecipaaDoor
open Go.RowKit

theorem StrR.drop {w : World} {g N cap n : Nat} {l : List ByteArray} (h : StrR w (.slice (some ⟨g, 0, none⟩) N cap) l) (hn : n ≤ N) : StrR w (.slice (some ⟨g, n, none⟩) (N - n) (cap - n)) (l.drop n) := by
  obtain ⟨a', cap', he, hle, hc⟩ := h
  cases he
  refine ⟨_, _, by rw [List.length_drop], by rw [List.length_drop]; omega, fun j hj => ?_⟩
  rw [List.length_drop] at hj
  obtain ⟨g', o', ha, h1⟩ := hc (n + j) (by omega)
  cases ha
  refine ⟨_, _, rfl, ?_⟩
  rw [List.getElem_drop]
  rw [← h1, Nat.zero_add]
theorem StrR.take {w : World} {g N cap n : Nat} {l : List ByteArray} (h : StrR w (.slice (some ⟨g, 0, none⟩) N cap) l) (hn : n ≤ N) : StrR w (.slice (some ⟨g, 0, none⟩) n cap) (l.take n) := by
  obtain ⟨a', cap', he, hle, hc⟩ := h
  cases he
  refine ⟨_, _, by rw [List.length_take, Nat.min_eq_left hn], by rw [List.length_take]; omega, fun j hj => ?_⟩
  rw [List.length_take] at hj
  obtain ⟨g', o', ha, h1⟩ := hc j (by omega)
  exact ⟨g', o', ha, by rw [List.getElem_take]; exact h1⟩
set_option maxRecDepth 100000 in
set_option maxHeartbeats 2000000 in
theorem back_any (g cap : Nat) (v : Value) (ls : List ByteArray) (w : World) (hm : ls.length ≤ 1099511627776) (hcap : ls.length + 4 ≤ cap) (hF : StrR w (.slice (some ⟨g, 0, none⟩) (ls.length + 4) cap) (ls ++ marks4)) (hR : StrR w v ls) :
    Calls Tryd.prog 9 #[.slice (some ⟨g, 0, none⟩) (ls.length + 4) cap, v] w fun e w' => e = .returned (.bool true) ∧ Below w.heap.size w w' := by
  obtain ⟨a2, c2, rfl⟩ : ∃ a c, v = .slice a ls.length c := by obtain ⟨x, y, h, _⟩ := hR; exact ⟨x, y, h⟩
  obtain ⟨n, hn⟩ : ∃ n, n = ls.length := ⟨_, rfl⟩
  rw [← hn] at hF hR hcap hm ⊢
  have hb1 := below_new w (.cells #[.string markB, .string markB, .string markB, .string markB] 9)
  have hd := (hF.drop (n := n) (by omega)).below hb1
  rw [show (ls ++ marks4).drop n = marks4 by rw [hn, List.drop_left'] ; rfl, show n + 4 - n = 4 by omega] at hd
  have H1 := hide (sames_same _ _ marks4 _ (by decide) hd (StrR.lit4 w 9))
  have HB1 := hide hb1
  have H2 := hide (fun W (hW : Below w.heap.size w W) => sames_same _ _ ls W (by omega) (by
    have := (hF.below hW).take (n := n) (by omega)
    rw [show (ls ++ marks4).take n = ls by rw [hn, List.take_left'] ; rfl] at this
    exact this) (hR.below hW))
  have i0 : (0 : Int) ≤ (n : Int) := by omega
  have i2 : n ≤ cap := by omega
  have i3 : (n : Int) ≤ (cap : Int) := by omega
  have i4 : n ≤ n + 4 := by omega
  have i5 : (n : Int) ≤ ((n + 4 : Nat) : Int) := by omega
  have i6 : n + 4 - n = 4 := by omega
  have i7 : n < cap := by omega
  have i8 : ¬ n = cap := by omega
  have i9 : ¬ cap = n := by omega
  have HCP := hide hcap
  clear hF hR hb1 hd hn hcap
  go_enter Tryd.func9, Tryd.ntmps9
  go_wp2_with fail
  refine H1.out.mono ?_
  rintro e w1 ⟨rfl, hb⟩
  have HB2 := hide (Below.next HB1.out hb)
  clear hb
  go_wp2_with fail
  refine (H2.out _ HB2.out).mono ?_
  rintro e w2 ⟨rfl, hb⟩
  have HB3 := hide (Below.next HB2.out hb)
  clear hb
  go_wp2
  go_ret
  exact ⟨rfl, HB3.out⟩
end Go.Proofs.YtdkckbfamecipaaDoor
