import Derived.Test.YtjlhafiaocodkaaDoorWRef4
import Derived.Test.YtjlhafiaocodkaaDoorCNum
namespace Go.Proofs.YtjlhafiaocodkaaDoor
open Go.RowKit

theorem ErrsG.weak15 {n m : Nat} {G : Nat → Nat} {A : Nat → Addr} {w : World} (h : ErrsG n G A w) (hm : m ≤ n) : ErrsG m G A w := ⟨fun i hi => h.1 i (by omega), fun i j hi hj => h.2 i j (by omega) (by omega)⟩
set_option maxRecDepth 100000 in
set_option maxHeartbeats 4000000 in
theorem lwords_any (A : Nat → Addr) (s : ByteArray) (w : World) (hs : s.size ≤ 1099511627776) (hsy : SynAt w.heap.size w) (hE : ErrsG 13 gAll A w) :
    Calls Tryd.prog 4 #[.string s] w fun e w' => e = .returned (.bool true) ∧ Below w.heap.size w w' := by
  have htx : TxtAt w.heap.size (A 1) w := ⟨World.block_lt_of_cell? w _ (hE.1 1 (by decide)).1, Nat.le_refl _, (hE.1 1 (by decide)).1⟩
  have HW := hide (words_any s (A 1) w hs hsy htx)
  have HRW : Hid (∀ W, Calls Tryd.prog 8 #[.string s] W fun e w' => RwV W.heap.size (wordsD [] (skipB s.data.toList)) e w' ∧ Below W.heap.size W w') := fun W => rwords_any s W hs
  have HER := hide (hE.weak15 (m := 4) (by decide))
  have HLEN : Hid (∀ ws, wordsD [] (skipB s.data.toList) = some ws → ws.length ≤ 140737488355328) := fun ws h => by
    have := wordsD_len [] _ h
    have h2 := skip_len s.data.toList
    rw [bsize] at h2
    simp at this
    omega
  generalize wordsD [] (skipB s.data.toList) = o at *
  clear hsy hE htx
  go_enter Tryd.func4, Tryd.ntmps4
  go_wp2_with fail
  refine HW.out.mono ?_
  rintro e w1 ⟨hv1, hb1⟩
  have HB1 := hide hb1
  have HR1 := hide (HRW.out w1)
  clear hb1 HW HRW
  rcases hv1 with ⟨ws, a, n, c, rfl, rfl, hn, hown⟩ | ⟨rfl, rfl⟩
  · have HN := hide hn
    have HOWN := hide hown
    clear hn hown
    go_wp2_with fail
    refine HR1.out.mono ?_
    rintro e w2 ⟨hv2, hb2⟩
    have HB2 := hide (Below.next HB1.out hb2)
    have HOWN2 := hide (owns_below5 HOWN.out hb2)
    clear hb2 HR1 HOWN
    rcases hv2 with ⟨ws2, a2, n2, c2, h, rfl, hn2, hown2⟩ | ⟨h, _⟩
    · cases h
      have HSA := hide (sames_same _ _ (ws.map ba) w2 (by rw [List.length_map]; exact HLEN.out ws rfl) (rowR_of_owns HOWN2.out).strs (rowR_of_owns hown2).strs)
      have HNU := hide num_nil
      clear hn2 hown2 HLEN
      go_wp2_with fail
      refine HSA.out.mono ?_
      rintro e w3 ⟨rfl, hb3⟩
      have HB3 := hide (Below.next HB2.out hb3)
      clear hb3 HSA HOWN2
      go_wp2_with fail
      refine (HNU.out _).mono ?_
      rintro e wq ⟨rfl, rfl⟩
      go_wp2
      go_ret
      exact ⟨rfl, HB3.out⟩
    · cases h
  · go_wp2_with fail
    refine HR1.out.mono ?_
    rintro e w2 ⟨hv2, hb2⟩
    have HB2 := hide (Below.next HB1.out hb2)
    clear hb2 HR1
    rcases hv2 with ⟨ws2, a2, n2, c2, h, _⟩ | ⟨_, rfl⟩
    · cases h
    have hnil : StrR w2 (.slice none 0 0) [] := ⟨none, 0, rfl, Nat.le_refl _, fun j hj => by cases hj⟩
    have HSA := hide (sames_same _ _ [] w2 (by decide) hnil hnil)
    clear hnil HLEN
    go_wp2_with fail
    refine HSA.out.mono ?_
    rintro e w3 ⟨rfl, hb3⟩
    have HB3 := hide (Below.next HB2.out hb3)
    have HNU := hide (num_text A w3 (HER.out.keep HB3.out))
    clear hb3 HSA
    go_wp2_with fail
    refine HNU.out.mono ?_
    rintro e wq ⟨rfl, rfl⟩
    go_wp2
    go_ret
    exact ⟨rfl, HB3.out⟩
end Go.Proofs.YtjlhafiaocodkaaDoor
