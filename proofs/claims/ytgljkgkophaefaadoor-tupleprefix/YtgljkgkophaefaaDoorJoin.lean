import Derived.Test.YtgljkgkophaefaaDoorOwn
namespace Go.Proofs.YtgljkgkophaefaaDoor
open Go.RowKit

theorem row_at {w : World} {base : Nat} {v : Value} {l : List It} {us : List Value} (hus : us.length = l.length) (how : w.ownsRow base 43 4 v l.length (cellsOf' l us)) (hok : ∀ i (h : i < l.length), l[i].Ok)
    (hin : ∀ i (h : i < l.length) (h' : i < us.length), ItsAt w anyB us[i] l[i].list) (hl : l.length ≤ 2513169434843) : ItsAt w anyB v l := by
  by_cases h0 : l.length = 0
  · obtain rfl := List.length_eq_zero_iff.1 h0
    rcases how.2 with ⟨h', _⟩ | ⟨g, cap, cur, h', _⟩
    · rw [h']; exact its_nil _ _ _ _
    · rw [h']; exact its_nil _ _ _ _
  · obtain ⟨g, cap, rfl, hb, hlt⟩ := how.form (by omega)
    have hc := cellsOf'_get l us hus
    refine .mk _ g 0 cap l (fun i => us.getD i undef) hl (fun _ => ⟨rfl, trivial⟩) hok (fun i h => ?_) (fun i h => ?_) (fun i h => ?_) (fun i h => ?_) (fun i h => ?_)
    · exact cell_owned how rfl _ _ (by rw [Nat.zero_add]; exact (hc i h).1)
    · exact cell_owned how rfl _ _ (by rw [Nat.zero_add]; exact (hc i h).2.1)
    · exact cell_owned how rfl _ _ (by rw [Nat.zero_add]; exact (hc i h).2.2.1)
    · refine cell_owned how rfl _ _ ?_
      rw [Nat.zero_add, (hc i h).2.2.2, List.getElem?_eq_getElem (by omega)]
      simp [List.getD_eq_getElem?_getD, List.getElem?_eq_getElem (show i < us.length by omega)]
    · have := hin i h (by omega)
      simp only [List.getD_eq_getElem?_getD, List.getElem?_eq_getElem (show i < us.length by omega), Option.getD_some]
      exact this
theorem ItsOwn.cap {w : World} {base : Nat} {a : Option Addr} {n c : Nat} {l : List It} (h : ItsOwn w base (.slice a n c) l) : l.length ≤ c := by
  obtain ⟨us, hus, how, hok, hin⟩ := h
  rcases how.2 with ⟨h', h0⟩ | ⟨_, _, _, h', _, _, hn, _⟩
  · omega
  · cases h'; exact hn
theorem cellsOf'_append : ∀ (l : List It) (us : List Value) (m : List It) (vs : List Value), us.length = l.length → cellsOf' (l ++ m) (us ++ vs) = cellsOf' l us ++ cellsOf' m vs
  | [], [], _, _, _ => rfl
  | [], _ :: _, _, _, h => by simp at h
  | _ :: _, [], _, _, h => by simp at h
  | x :: l, u :: us, m, vs, h => by simp only [List.cons_append, cellsOf', cellsOf'_append l us m vs (by simpa using h)]
theorem cellsOf'_one : ∀ (l : List It) (us : List Value), (∀ u ∈ us, u.oneCell' = true) → ∀ x ∈ cellsOf' l us, x.oneCell' = true
  | [], _, _, x, hx => by simp [cellsOf'] at hx
  | _ :: _, [], _, x, hx => by simp [cellsOf'] at hx
  | y :: l, u :: us, h, x, hx => by
    simp only [cellsOf', List.mem_cons] at hx
    rcases hx with rfl | rfl | rfl | rfl | hx
    · rfl
    · rfl
    · rfl
    · exact h _ (by simp)
    · exact cellsOf'_one l us (fun u hu => h u (by simp [hu])) x hx
theorem cells_src {w : World} {base g n c : Nat} {xs : List Value} (h : w.ownsRow base 43 4 (.slice (some ⟨g, 0, none⟩) n c) n xs) : ∀ j u, xs[j]? = some u → w.cell? ((⟨g, 0, none⟩ : Addr).add j) = some u := fun j u hu => by
  rw [show (⟨g, 0, none⟩ : Addr).add j = ⟨g, j, none⟩ by unfold Addr.add; split <;> simp_all]
  exact cell_owned h rfl j u hu
theorem ItsAt.takeN {w : World} {F : Nat → Prop} {a : Option Addr} {n cap : Nat} {l : List It} (h : ItsAt w F (.slice a n cap) l) (k : Nat) (hk : k ≤ l.length) : ItsAt w F (.slice a k cap) (l.take k) := by
  cases h with
  | mk _ g off _ _ vs hlen ha hok h0 h1 h2 h3 hin =>
    have hl : (l.take k).length = k := by rw [List.length_take]; omega
    have hget : ∀ i (h : i < (l.take k).length), (l.take k)[i] = l[i]'(by omega) := fun i h => by simp
    have res : ItsAt w F (.slice a (l.take k).length cap) (l.take k) := by
      refine .mk a g off cap (l.take k) vs (by omega) (fun h => ha (by omega)) (fun i h => ?_) (fun i h => ?_) (fun i h => ?_) (fun i h => ?_) (fun i h => ?_) (fun i h => ?_)
      · rw [hget i h]; exact hok i (by omega)
      · rw [hget i h]; exact h0 i (by omega)
      · rw [hget i h]; exact h1 i (by omega)
      · rw [hget i h]; exact h2 i (by omega)
      · exact h3 i (by omega)
      · rw [hget i h]; exact hin i (by omega)
    rw [hl] at res
    exact res

end Go.Proofs.YtgljkgkophaefaaDoor
