import Derived.Test.YtageokjobbjddaaGreatDoorGRA
namespace Go.Proofs.YtageokjobbjddaaGreatDoor
open Go.RowKit

theorem Tryz.info32 : (Tryz.prog.info? 32).map (fun i => (i.zero, i.size, i.bytes)) = some (some (.agg #[.int .i64 0, .int .i64 0, .string ⟨#[]⟩, .slice none 0 0]), 4, 56) := by kernel_rfl

/-- The cells of items, their lists' values beside them. -/
def cellsOf' : List It → List Value → List Value
  | x :: r, u :: us => .int .i64 x.kind :: .int .i64 x.num :: .string x.text :: u :: cellsOf' r us
  | _, _ => []
theorem cellsOf'_len : ∀ (l : List It) (us : List Value), us.length = l.length → (cellsOf' l us).length = l.length * 4
  | [], [], _ => rfl
  | [], _ :: _, h => by simp at h
  | _ :: _, [], h => by simp at h
  | x :: r, u :: us, h => by
    simp only [cellsOf', List.length_cons, cellsOf'_len r us (by simpa using h)]; omega
theorem cellsOf'_snoc : ∀ (l : List It) (us : List Value) (x : It) (u : Value), us.length = l.length → cellsOf' (l ++ [x]) (us ++ [u]) = cellsOf' l us ++ [.int .i64 x.kind, .int .i64 x.num, .string x.text, u]
  | [], [], _, _, _ => rfl
  | [], _ :: _, _, _, h => by simp at h
  | _ :: _, [], _, _, h => by simp at h
  | y :: r, v :: us, x, u, h => by
    simp only [cellsOf', List.cons_append, cellsOf'_snoc r us x u (by simpa using h)]
theorem cellsOf'_get : ∀ (l : List It) (us : List Value), us.length = l.length → ∀ i (h : i < l.length),
    (cellsOf' l us)[i * 4]? = some (.int .i64 l[i].kind) ∧ (cellsOf' l us)[i * 4 + 1]? = some (.int .i64 l[i].num) ∧ (cellsOf' l us)[i * 4 + 2]? = some (.string l[i].text) ∧ (cellsOf' l us)[i * 4 + 3]? = us[i]?
  | [], _, _, i, h => by simp at h
  | _ :: _, [], h, _, _ => by simp at h
  | x :: r, u :: us, hl, 0, _ => by simp [cellsOf']
  | x :: r, u :: us, hl, i + 1, h => by
    have ih := cellsOf'_get r us (by simpa using hl) i (by simpa using h)
    have e : ∀ c, (i + 1) * 4 + c = (i * 4 + c) + 4 := fun c => by omega
    refine ⟨?_, ?_, ?_, ?_⟩
    · rw [show (i + 1) * 4 = i * 4 + 4 by omega]; simpa [cellsOf'] using ih.1
    · rw [e]; simpa [cellsOf'] using ih.2.1
    · rw [e]; simpa [cellsOf'] using ih.2.2.1
    · rw [e]; simpa [cellsOf'] using ih.2.2.2

/-- Of the blocks that were there all but one are as they were. -/
structure But (w w' : World) (row : Option Nat) : Prop where
  size : w.heap.size ≤ w'.heap.size
  block : ∀ k, k < w.heap.size → some k ≠ row → w'.heap[k]? = w.heap[k]?
theorem ItsAt.but {w w' : World} {F : Nat → Prop} {v : Value} {l : List It} {row : Option Nat} (h : ItsAt w F v l) (hb : But w w' row) (hf : ∀ g, F g → some g ≠ row) : ItsAt w' F v l := by
  have cell : ∀ {g o : Nat} {u : Value}, F g → w.cell? ⟨g, o, none⟩ = some u → w'.cell? ⟨g, o, none⟩ = some u := fun {_g _o _u} hg hc =>
    (World.cell?_of_block (a := ⟨_g, _o, none⟩) (hb.block _g (World.block_lt_of_cell? w _ hc) (hf _g hg))).trans hc
  induction h with
  | mk a g off cap l vs hlen ha hok h0 h1 h2 h3 hin ih =>
    have hg : ∀ i, i < l.length → F g := fun i h => (ha (by omega)).2
    exact .mk a g off cap l vs hlen ha hok (fun i h => cell (hg i h) (h0 i h)) (fun i h => cell (hg i h) (h1 i h)) (fun i h => cell (hg i h) (h2 i h)) (fun i h => cell (hg i h) (h3 i h)) ih

/-- v is a list of the call's own that reads as the items l; the inner lists lie in other blocks, at base or above. -/
def ItsOwn (w : World) (base : Nat) (v : Value) (l : List It) : Prop :=
  ∃ us : List Value, us.length = l.length ∧ w.ownsRow base 32 4 v l.length (cellsOf' l us) ∧ (∀ i (h : i < l.length), l[i].Ok) ∧
    ∀ i (h : i < l.length) (h' : i < us.length), ItsAt w (fun g => base ≤ g ∧ some g ≠ v.ownBlock ∧ g < w.heap.size) us[i] l[i].list

theorem ItsAt.lt {w : World} {F : Nat → Prop} {v : Value} {l : List It} (h : ItsAt w F v l) : ItsAt w (fun g => F g ∧ g < w.heap.size) v l :=
  h.weak fun _ hg hf => ⟨hf, hg⟩
theorem ItsAt.imp {w : World} {F G : Nat → Prop} {v : Value} {l : List It} (h : ItsAt w F v l) (hf : ∀ g, F g → G g) : ItsAt w G v l := h.weak fun g _ => hf g
theorem ItsAt.any {w : World} {F : Nat → Prop} {v : Value} {l : List It} (h : ItsAt w F v l) : ItsAt w anyB v l := h.imp fun _ _ => trivial

theorem cell_owned {w : World} {base : Nat} {v : Value} {n : Nat} {xs : List Value} {g cap : Nat} (h : w.ownsRow base 32 4 v n xs) (hv : v = .slice (some ⟨g, 0, none⟩) n cap) (i : Nat) (u : Value) (hu : xs[i]? = some u) : w.cell? ⟨g, i, none⟩ = some u := by
  rcases h.2 with ⟨h', _⟩ | ⟨g', cap', cur, h', _, hg, _, _, _, ht⟩
  · rw [h'] at hv; cases hv
  · rw [h'] at hv
    cases hv
    rw [cell_of_row _ g i cur 32 (0, 0) hg]
    rw [← ht, List.getElem?_take] at hu
    split at hu
    · simpa using hu
    · cases hu

theorem ItsOwn.at' {w : World} {base : Nat} {v : Value} {l : List It} (h : ItsOwn w base v l) (hl : l.length ≤ 2513169434843) : ItsAt w (fun g => base ≤ g) v l := by
  obtain ⟨us, hus, how, hok, hin⟩ := h
  by_cases h0 : l.length = 0
  · obtain rfl := List.length_eq_zero_iff.1 h0
    rcases how.2 with ⟨h', _⟩ | ⟨g, cap, cur, h', _⟩
    · rw [h']; exact .mk none 0 0 0 [] (fun _ => undef) (by simp) (fun h => absurd h (by simp)) (fun i h => absurd h (by simp)) (fun i h => absurd h (by simp)) (fun i h => absurd h (by simp)) (fun i h => absurd h (by simp)) (fun i h => absurd h (by simp)) (fun i h => absurd h (by simp))
    · rw [h']; exact .mk _ 0 0 cap [] (fun _ => undef) (by simp) (fun h => absurd h (by simp)) (fun i h => absurd h (by simp)) (fun i h => absurd h (by simp)) (fun i h => absurd h (by simp)) (fun i h => absurd h (by simp)) (fun i h => absurd h (by simp)) (fun i h => absurd h (by simp))
  · obtain ⟨g, cap, rfl, hb, hlt⟩ := how.form (by omega)
    have hc := cellsOf'_get l us hus
    refine .mk _ g 0 cap l (fun i => us.getD i undef) hl (fun _ => ⟨rfl, hb⟩) hok (fun i h => ?_) (fun i h => ?_) (fun i h => ?_) (fun i h => ?_) (fun i h => ?_)
    · exact cell_owned how rfl _ _ (by rw [Nat.zero_add]; exact (hc i h).1)
    · exact cell_owned how rfl _ _ (by rw [Nat.zero_add]; exact (hc i h).2.1)
    · exact cell_owned how rfl _ _ (by rw [Nat.zero_add]; exact (hc i h).2.2.1)
    · refine cell_owned how rfl _ _ ?_
      rw [Nat.zero_add, (hc i h).2.2.2, List.getElem?_eq_getElem (by omega)]
      simp [List.getD_eq_getElem?_getD, List.getElem?_eq_getElem (show i < us.length by omega)]
    · have := hin i h (by omega)
      simp only [List.getD_eq_getElem?_getD, List.getElem?_eq_getElem (show i < us.length by omega), Option.getD_some]
      exact this.imp fun _ hg => hg.1

theorem its_nil (w : World) (F : Nat → Prop) (a : Option Addr) (cap : Nat) : ItsAt w F (.slice a 0 cap) [] :=
  .mk a 0 0 cap [] (fun _ => undef) (by simp) (fun h => absurd h (by simp)) (fun i h => absurd h (by simp)) (fun i h => absurd h (by simp)) (fun i h => absurd h (by simp)) (fun i h => absurd h (by simp)) (fun i h => absurd h (by simp)) (fun i h => absurd h (by simp))
/-- The head of a list of the call's own. -/
theorem ItsOwn.head {w : World} {base g n cap cap' : Nat} {l m : List It} (h : ItsOwn w base (.slice (some ⟨g, 0, none⟩) n cap) (l ++ m)) (hl : l.length ≤ 2513169434843) : ItsAt w (fun g => base ≤ g) (.slice (some ⟨g, 0, none⟩) l.length cap') l := by
  obtain ⟨us, hus, how, hok, hin⟩ := h
  have hn : n = (l ++ m).length := by
    rcases how.2 with ⟨h', _⟩ | ⟨g, cap, cur, h', _⟩
    · cases h'
    · cases h'; rfl
  subst hn
  have hc := cellsOf'_get (l ++ m) us hus
  have hb : base ≤ g := by
    rcases how.2 with ⟨h', _⟩ | ⟨g, cap, cur, h', hb, _⟩
    · cases h'
    · cases h'; exact hb
  have hlt : ∀ i, i < l.length → i < (l ++ m).length := fun i h => by simp; omega
  have hget : ∀ i (h : i < l.length), (l ++ m)[i]'(hlt i h) = l[i] := fun i h => List.getElem_append_left h
  refine .mk _ g 0 cap' l (fun i => us.getD i undef) hl (fun _ => ⟨rfl, hb⟩) (fun i h => by rw [← hget i h]; exact hok i (hlt i h)) (fun i h => ?_) (fun i h => ?_) (fun i h => ?_) (fun i h => ?_) (fun i h => ?_)
  · exact cell_owned how rfl _ _ (by rw [Nat.zero_add, ← hget i h]; exact (hc i (hlt i h)).1)
  · exact cell_owned how rfl _ _ (by rw [Nat.zero_add, ← hget i h]; exact (hc i (hlt i h)).2.1)
  · exact cell_owned how rfl _ _ (by rw [Nat.zero_add, ← hget i h]; exact (hc i (hlt i h)).2.2.1)
  · refine cell_owned how rfl _ _ ?_
    have := hlt i h
    rw [Nat.zero_add, (hc i (hlt i h)).2.2.2, List.getElem?_eq_getElem (by omega)]
    simp [List.getD_eq_getElem?_getD, List.getElem?_eq_getElem (show i < us.length by omega)]
  · have h' := hlt i h
    have := hin i h' (by omega)
    simp only [List.getD_eq_getElem?_getD, List.getElem?_eq_getElem (show i < us.length by omega), Option.getD_some]
    rw [hget i h] at this
    exact this.imp fun _ hg => hg.1
theorem owns_keep {w w' : World} {b e size n : Nat} {v : Value} {xs : List Value} (ho : w.ownsRow b e size v n xs) (hb : Below w.heap.size w w') : w'.ownsRow b e size v n xs := by
  refine ⟨ho.1, ?_⟩
  rcases ho.2 with h' | ⟨g, cap, cur, h', h1, hg, hr⟩
  · exact .inl h'
  · refine .inr ⟨g, cap, cur, h', h1, ?_, hr⟩
    have hlt : g < w.heap.size := by
      rcases Nat.lt_or_ge g w.heap.size with hlt | hge
      · exact hlt
      · rw [Array.getElem?_eq_none hge] at hg; cases hg
    rw [hb.block g hlt]
    exact hg
theorem ItsOwn.keep {w w' : World} {base : Nat} {v : Value} {l : List It} (h : ItsOwn w base v l) (hb : Below w.heap.size w w') : ItsOwn w' base v l := by
  obtain ⟨us, hus, how, hok, hin⟩ := h
  exact ⟨us, hus, owns_keep how hb, hok, fun i h h' => ((hin i h h').keep hb).imp fun g hg => ⟨hg.1, hg.2.1, Nat.lt_of_lt_of_le hg.2.2 hb.size⟩⟩
theorem ItsOwn.form {w : World} {base : Nat} {v : Value} {l : List It} (h : ItsOwn w base v l) : ∃ a c, v = .slice a l.length c := by
  obtain ⟨us, hus, how, hok, hin⟩ := h
  rcases how.2 with ⟨h', h0⟩ | ⟨g, cap, cur, h', _⟩
  · exact ⟨none, 0, by rw [h', h0]⟩
  · exact ⟨_, cap, h'⟩
theorem owns_blk {w : World} {base e size n : Nat} {v : Value} {xs : List Value} (h : w.ownsRow base e size v n xs) (k : Nat) (hk : v.ownBlock = some k) : base ≤ k ∧ k < w.heap.size := by
  rcases h.2 with ⟨h', _⟩ | ⟨g, cap, cur, h', hb, hg, _⟩
  · rw [h'] at hk; simp [Value.ownBlock] at hk
  · rw [h'] at hk
    simp only [Value.ownBlock, Option.some.injEq] at hk
    subst hk
    refine ⟨hb, ?_⟩
    rcases Nat.lt_or_ge g w.heap.size with hlt | hge
    · exact hlt
    · rw [Array.getElem?_eq_none hge] at hg; cases hg
theorem ItsOwn.blk {w : World} {base : Nat} {v : Value} {l : List It} (h : ItsOwn w base v l) (k : Nat) (hk : v.ownBlock = some k) : base ≤ k ∧ k < w.heap.size := by
  obtain ⟨us, hus, how, hok, hin⟩ := h
  exact owns_blk how k hk
theorem push_own {w4 w5 : World} {base H : Nat} {v : Value} {l : List It} {us : List Value} {x : It} {u : Value} {g cap : Nat} (hus : us.length = l.length) (hok : ∀ i (h : i < l.length), l[i].Ok)
    (hin : ∀ i (h : i < l.length) (h' : i < us.length), ItsAt w4 (fun g => base ≤ g ∧ some g ≠ v.ownBlock ∧ g < w4.heap.size) us[i] l[i].list) (hx : x.Ok)
    (hu : ItsAt w4 (fun g => base ≤ g ∧ some g ≠ v.ownBlock ∧ g < w4.heap.size) u x.list)
    (hown : w5.ownsRow base 32 4 (.slice (some ⟨g, 0, none⟩) (l.length + 1) cap) (l.length + 1) (cellsOf' l us ++ [.int .i64 x.kind, .int .i64 x.num, .string x.text, u]))
    (hgrow : w4.grownBy w5 v.ownBlock) (hat : v.ownBlock = some g ∨ g = H) (hH : w4.heap.size = H) : ItsOwn w5 base (.slice (some ⟨g, 0, none⟩) (l.length + 1) cap) (l ++ [x]) := by
  have hbut : But w4 w5 v.ownBlock := ⟨hgrow.size, hgrow.block⟩
  have lift : ∀ (u' : Value) (l' : List It), ItsAt w4 (fun g => base ≤ g ∧ some g ≠ v.ownBlock ∧ g < w4.heap.size) u' l' → ItsAt w5 (fun k => base ≤ k ∧ some k ≠ (Value.slice (some ⟨g, 0, none⟩) (l.length + 1) cap).ownBlock ∧ k < w5.heap.size) u' l' := fun u' l' h =>
    (h.but hbut (fun g hg => hg.2.1)).imp fun k hk => ⟨hk.1, by
      simp only [Value.ownBlock]
      rcases hat with e | e
      · rw [← e]; exact hk.2.1
      · intro e'; have := Option.some.inj e'; have := hk.2.2; omega, Nat.lt_of_lt_of_le hk.2.2 hgrow.size⟩
  refine ⟨us ++ [u], by simp [hus], ?_, ?_, ?_⟩
  · rw [cellsOf'_snoc l us x u hus]
    simpa using hown
  · intro i h
    rcases Nat.lt_or_ge i l.length with h1 | h1
    · rw [List.getElem_append_left h1]; exact hok i h1
    · rw [List.getElem_append_right h1]; simpa using hx
  · intro i h h'
    rcases Nat.lt_or_ge i l.length with h1 | h1
    · rw [List.getElem_append_left h1, List.getElem_append_left (by omega)]
      exact lift _ _ (hin i h1 (by omega))
    · rw [List.getElem_append_right h1, List.getElem_append_right (by omega)]
      simp only [List.getElem_singleton]
      exact lift _ _ hu
theorem But.of_set (w : World) (b o : Nat) (u : Value) : But w (w.setCell ⟨b, o, none⟩ u) (some b) :=
  ⟨by simp [World.setCell], fun k _ hne => Below.heap_setCell w ⟨b, o, none⟩ u k (fun e => hne (by rw [e]))⟩

end Go.Proofs.YtageokjobbjddaaGreatDoor
