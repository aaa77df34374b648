import Derived.Test.YtjlhafiaocodkaaDoorWQuo3
namespace Go.Proofs.YtjlhafiaocodkaaDoor
open Go.RowKit

set_option maxRecDepth 100000 in
set_option maxHeartbeats 4000000 in
theorem lquote_any (p : Addr) (s : ByteArray) (w : World) (hs : s.size ≤ 1048576) (hsy : SynAt w.heap.size w) (htx : TxtAt w.heap.size p w) :
    Calls Tryd.prog 3 #[.string s] w fun e w' => e = .returned (.bool true) ∧ Below w.heap.size w w' := by
  obtain ⟨l, hl⟩ : ∃ l, l = s.data.toList := ⟨_, rfl⟩
  have hll : l.length ≤ 1048576 := by rw [hl, bsize]; exact hs
  obtain ⟨q, hq⟩ : ∃ q, q = ba (quoW l) := ⟨_, rfl⟩
  have hqs : q.size ≤ 4194306 := by rw [hq, ba_size]; have := quoW_len l; omega
  have HQU := hide (quote_any s w (by omega))
  have HRQ : Hid (∀ W, Calls Tryd.prog 7 #[.string s] W fun e w' => e = .returned (.string q) ∧ Below W.heap.size W w') := fun W => by
    rw [hq, hl]; exact rquote_any s W (by omega)
  rw [← hl, ← hq] at HQU
  obtain ⟨t, ht⟩ : ∃ t, t = (((⟨#[32, 32, 97, 32]⟩ : ByteArray) ++ q) ++ ⟨#[32, 32]⟩) ++ q := ⟨_, rfl⟩
  have htl : t.data.toList = [32, 32, 97, 32] ++ quoW l ++ [32, 32] ++ quoW l := by
    rw [ht, hq]
    simp only [ByteArray.data_append, Array.toList_append]
    rfl
  have hts : t.size ≤ 8388618 := by
    rw [← bsize, htl]
    have := quoW_len l
    simp only [List.length_append, List.length_cons, List.length_nil]
    omega
  have HW1 : Hid (∀ W, Below w.heap.size w W → Calls Tryd.prog 6 #[.string q] W fun e w' => WoV W.heap.size p (some [l]) e w' ∧ Below W.heap.size W w') := fun W hW => by
    have h9 := words_any q p W (by omega) (hsy.up hW) (by have := htx.below hW; exact ⟨Nat.lt_of_lt_of_le this.1 hW.size, Nat.le_refl _, this.2.2⟩)
    rw [hq, ba_list, words_one, ← hq] at h9
    exact h9
  have HW2 : Hid (∀ W, Below w.heap.size w W → Calls Tryd.prog 6 #[.string t] W fun e w' => WoV W.heap.size p (some [[97], l, l]) e w' ∧ Below W.heap.size W w') := fun W hW => by
    have h9 := words_any t p W (by omega) (hsy.up hW) (by have := htx.below hW; exact ⟨Nat.lt_of_lt_of_le this.1 hW.size, Nat.le_refl _, this.2.2⟩)
    rw [htl, words_two] at h9
    exact h9
  have HT : Hid (t = (((⟨#[32, 32, 97, 32]⟩ : ByteArray) ++ q) ++ ⟨#[32, 32]⟩) ++ q) := ht
  have HSL : Hid (ba l = s) := by show _ = _; rw [hl, ba_self]
  have hsum1 : (⟨#[32, 32, 97, 32]⟩ : ByteArray).size + q.size ≤ 140737488355328 := by show 4 + q.size ≤ _; omega
  clear hsy htx hl hll hq ht htl hts
  go_enter Tryd.func3, Tryd.ntmps3
  go_wp2_with fail
  refine HQU.out.mono ?_
  rintro e w1 ⟨rfl, hb1⟩
  have HB1 := hide hb1
  clear hb1 HQU
  go_wp2_with fail
  refine (HW1.out _ HB1.out).mono ?_
  rintro e w2 ⟨hv2, hb2⟩
  have HB2 := hide (Below.next HB1.out hb2)
  rcases hv2 with ⟨ws, a2, n2, c2, hws, rfl, hn2, hown2⟩ | ⟨h, _⟩
  rotate_left
  · cases h
  cases hws
  have HO2 := hide hown2
  subst hn2
  clear hb2 hown2 HW1
  go_wp2_with fail
  rw [← HT.out]
  refine (HW2.out _ HB2.out).mono ?_
  rintro e w3 ⟨hv3, hb3⟩
  have HB3 := hide (Below.next HB2.out hb3)
  have HO23 := hide (owns_below5 HO2.out hb3)
  rcases hv3 with ⟨ws, a3, n3, c3, hws, rfl, hn3, hown3⟩ | ⟨h, _⟩
  rotate_left
  · cases h
  cases hws
  subst hn3
  have r2 := (rowR_of_owns HO23.out).strs
  have r3 := (rowR_of_owns hown3).strs
  have f2 : ∃ g, a2 = some ⟨g, 0, none⟩ := by
    rcases HO23.out.2 with ⟨h, _⟩ | ⟨g, cap, cur, h, _⟩
    · cases h
    · cases h; exact ⟨g, rfl⟩
  have f3 : ∃ g, a3 = some ⟨g, 0, none⟩ := by
    rcases hown3.2 with ⟨h, _⟩ | ⟨g, cap, cur, h, _⟩
    · cases h
    · cases h; exact ⟨g, rfl⟩
  obtain ⟨g2, rfl⟩ := f2
  obtain ⟨g3, rfl⟩ := f3
  have c20 : w3.cell? ⟨g2, 0, none⟩ = some (.string s) := by
    rw [HO23.out.cellAt 0 (by simp), ← HSL.out]; rfl
  have c30 : w3.cell? ⟨g3, 0, none⟩ = some (.string ⟨#[97]⟩) := by
    rw [hown3.cellAt 0 (by simp)]; rfl
  have c31 : w3.cell? ⟨g3, 1, none⟩ = some (.string s) := by
    rw [hown3.cellAt 1 (by simp), ← HSL.out]; rfl
  have c32 : w3.cell? ⟨g3, 2, none⟩ = some (.string s) := by
    rw [hown3.cellAt 2 (by simp), ← HSL.out]; rfl
  have HR9 := hide (HRQ.out w3)
  clear hb3 hown3 HW2 HO2 r2 r3 HRQ
  go_wp2_with fail
  refine HR9.out.mono ?_
  rintro e w4 ⟨rfl, hb4⟩
  have HB4 := hide (Below.next HB3.out hb4)
  clear hb4 HR9
  go_wp2
  go_ret
  exact ⟨rfl, HB4.out⟩
end Go.Proofs.YtjlhafiaocodkaaDoor
