import Derived.Test.YtgljkgkophaefabDoorOwn
import Derived.Test.YtgljkgkophaefabDoorRdr
namespace Go.Proofs.YtgljkgkophaefabDoor
open Go.RowKit

/-- v reads as the items l, each list of them that has items in a block of its own; bs: these blocks. -/
inductive Tr (w : World) : Value → List It → List Nat → Prop where
  | nil : Tr w (.slice none 0 0) [] []
  | row (v : Value) (g : Nat) (l : List It) (us : List Value) (bss : List (List Nat)) (hne : l ≠ []) (hlen : l.length ≤ 2513169434843) (hus : us.length = l.length) (hbs : bss.length = l.length)
      (hv : v.ownBlock = some g) (how : w.ownsRow 0 43 4 v l.length (cellsOf' l us)) (hok : ∀ i (h : i < l.length), l[i].Ok)
      (hin : ∀ i (h : i < l.length) (h1 : i < us.length) (h2 : i < bss.length), Tr w us[i] l[i].list bss[i]) (hnd : (g :: bss.flatten).Nodup) : Tr w v l (g :: bss.flatten)

theorem owns_same {w w' : World} {b e size n g : Nat} {v : Value} {xs : List Value} (ho : w.ownsRow b e size v n xs) (hv : v.ownBlock = some g) (hg : w'.heap[g]? = w.heap[g]?) : w'.ownsRow b e size v n xs := by
  refine ⟨ho.1, ?_⟩
  rcases ho.2 with ⟨h', _⟩ | ⟨g', cap, cur, h', h1, hg', hr⟩
  · rw [h'] at hv; simp [Value.ownBlock] at hv
  · rw [h'] at hv
    simp only [Value.ownBlock, Option.some.injEq] at hv
    subst hv
    exact .inr ⟨g', cap, cur, h', h1, by rw [hg]; exact hg', hr⟩
theorem Tr.keep {w w' : World} {v : Value} {l : List It} {bs : List Nat} (h : Tr w v l bs) : (∀ k ∈ bs, w'.heap[k]? = w.heap[k]?) → Tr w' v l bs := by
  induction h with
  | nil => intro _; exact .nil
  | row v g l us bss hne hlen hus hbs hv how hok hin hnd ih =>
    intro hk
    refine .row v g l us bss hne hlen hus hbs hv (owns_same how hv (hk g (by simp))) hok (fun i h h1 h2 => ih i h h1 h2 fun k hk' => hk k ?_) hnd
    exact List.mem_cons_of_mem _ (List.mem_flatten.2 ⟨_, List.getElem_mem h2, hk'⟩)
theorem Tr.lt {w : World} {v : Value} {l : List It} {bs : List Nat} (h : Tr w v l bs) : ∀ k ∈ bs, k < w.heap.size := by
  induction h with
  | nil => intro k hk; simp at hk
  | row v g l us bss hne hlen hus hbs hv how hok hin hnd ih =>
    intro k hk
    rcases List.mem_cons.1 hk with rfl | hk
    · exact (owns_blk how k hv).2
    · obtain ⟨b, hb, hkb⟩ := List.mem_flatten.1 hk
      obtain ⟨i, hi, rfl⟩ := List.getElem_of_mem hb
      exact ih i (by omega) (by omega) hi k hkb
theorem Tr.sole {w w' : World} {rb : Nat} {v : Value} {l : List It} {bs : List Nat} (h : Tr w v l bs) (hs : Sole rb w w') (hn : rb ∉ bs) : Tr w' v l bs :=
  h.keep fun k hk => hs.block k (h.lt k hk) (fun e => hn (e ▸ hk))
theorem Tr.under {w w' : World} {v : Value} {l : List It} {bs : List Nat} (h : Tr w v l bs) (hb : Below w.heap.size w w') : Tr w' v l bs :=
  h.keep fun k hk => hb.block k (h.lt k hk)
theorem Tr.nodup {w : World} {v : Value} {l : List It} {bs : List Nat} (h : Tr w v l bs) : bs.Nodup := by
  cases h with
  | nil => exact List.nodup_nil
  | row => assumption
/-- A tree is a list, all in its blocks. -/
theorem Tr.its {w : World} {v : Value} {l : List It} {bs : List Nat} (h : Tr w v l bs) : ItsAt w (fun g => g ∈ bs) v l := by
  induction h with
  | nil => exact its_nil _ _ _ _
  | row v g l us bss hne hlen hus hbs hv how hok hin hnd ih =>
    have hpos : 0 < l.length := by
      rcases Nat.eq_zero_or_pos l.length with h | h
      · exact absurd (List.length_eq_zero_iff.1 h) hne
      · exact h
    obtain ⟨g', cap, rfl, _, _⟩ := how.form hpos
    simp only [Value.ownBlock, Option.some.injEq] at hv
    subst hv
    have hc := cellsOf'_get l us hus
    refine .mk _ g' 0 cap l (fun i => us.getD i undef) hlen (fun _ => ⟨rfl, by simp⟩) hok (fun i h => ?_) (fun i h => ?_) (fun i h => ?_) (fun i h => ?_) (fun i h => ?_)
    · exact cell_owned how rfl _ _ (by rw [Nat.zero_add]; exact (hc i h).1)
    · exact cell_owned how rfl _ _ (by rw [Nat.zero_add]; exact (hc i h).2.1)
    · exact cell_owned how rfl _ _ (by rw [Nat.zero_add]; exact (hc i h).2.2.1)
    · refine cell_owned how rfl _ _ ?_
      rw [Nat.zero_add, (hc i h).2.2.2, List.getElem?_eq_getElem (by omega)]
      simp [List.getD_eq_getElem?_getD, List.getElem?_eq_getElem (show i < us.length by omega)]
    · have h2 : i < bss.length := by omega
      have := ih i h (by omega) h2
      simp only [List.getD_eq_getElem?_getD, List.getElem?_eq_getElem (show i < us.length by omega), Option.getD_some]
      exact this.imp fun k hk => List.mem_cons_of_mem _ (List.mem_flatten.2 ⟨_, List.getElem_mem h2, hk⟩)
theorem Tr.form {w : World} {v : Value} {l : List It} {bs : List Nat} (h : Tr w v l bs) : ∃ a c, v = .slice a l.length c := h.its.form

/-- A tree's parts. -/
theorem Tr.parts {w : World} {v : Value} {l : List It} {bs : List Nat} (h : Tr w v l bs) : ∃ (us : List Value) (bss : List (List Nat)), us.length = l.length ∧ bss.length = l.length ∧ w.ownsRow 0 43 4 v l.length (cellsOf' l us) ∧ (∀ i (h : i < l.length), l[i].Ok) ∧
    (∀ i (h : i < l.length) (h1 : i < us.length) (h2 : i < bss.length), Tr w us[i] l[i].list bss[i]) ∧ bss.flatten.Nodup ∧ (∀ k ∈ bss.flatten, k ∈ bs ∧ v.ownBlock ≠ some k) ∧ (∀ k, v.ownBlock = some k → k ∈ bs) := by
  cases h with
  | nil => exact ⟨[], [], rfl, rfl, by simpa [cellsOf'] using World.ownsRow_nil w 0 _ _, fun i h => absurd h (by simp), fun i h => absurd h (by simp), by simp, fun k hk => by simp at hk, fun k hk => by simp [Value.ownBlock] at hk⟩
  | row _ g _ us bss hne hlen hus hbs hv how hok hin hnd =>
    have hn := List.nodup_cons.1 hnd
    refine ⟨us, bss, hus, hbs, how, hok, hin, hn.2, fun k hk => ⟨List.mem_cons_of_mem _ hk, fun e => ?_⟩, fun k hk => ?_⟩
    · rw [hv] at e
      exact hn.1 (by rw [Option.some.inj e]; exact hk)
    · rw [hv] at hk
      rw [Option.some.inj hk]
      exact List.mem_cons_self

/-- One more item behind a tree's own row: what an append leaves. -/
theorem Tr.push {w1 w2 w5 : World} {q : List It} {bx : List Nat} {bss : List (List Nat)} {v yv : Value} {y : It} {g cap H : Nat} {us : List Value} {o : Obj} (h12 : w1.heap.size ≤ w2.heap.size) (hok : y.Ok) (hy : Tr w2 yv y.list bx) (hhigh : ∀ k ∈ bx, w1.heap.size ≤ k)
    (hl : q.length + 1 ≤ 2513169434843) (hus : us.length = q.length) (hbs : bss.length = q.length) (hoks : ∀ i (h : i < q.length), q[i].Ok)
    (hin : ∀ i (h : i < q.length) (h1 : i < us.length) (h2 : i < bss.length), Tr w2 us[i] q[i].list bss[i]) (hnd : bss.flatten.Nodup) (hold : ∀ k ∈ bss.flatten, k < w1.heap.size ∧ v.ownBlock ≠ some k) (hbk : ∀ k, v.ownBlock = some k → k < w1.heap.size)
    (hH : w2.heap.size + 1 = H) (hown5 : w5.ownsRow 0 43 4 (.slice (some ⟨g, 0, none⟩) (q.length + 1) cap) (q.length + 1) (cellsOf' q us ++ [.int .i64 y.kind, .int .i64 y.num, .string y.text, yv]))
    (hgrow : (w2.alloc o).grownBy w5 v.ownBlock) (hat : v.ownBlock = some g ∨ g = H) : Tr w5 (.slice (some ⟨g, 0, none⟩) (q.length + 1) cap) (q ++ [y]) (g :: (bss ++ [bx]).flatten) := by
  have same : ∀ k, k < w2.heap.size → v.ownBlock ≠ some k → w5.heap[k]? = w2.heap[k]? := fun k hk hn => by
    rw [hgrow.block k (by simp; omega) (fun e => hn e.symm)]
    exact heap_alloc_old w2 o hk
  have hxl := hy.lt
  have hx5 : Tr w5 yv y.list bx := hy.keep fun k hk => same k (hxl k hk) (fun e => by have := hbk k e; have := hhigh k hk; omega)
  have hl' : (q ++ [y]).length = q.length + 1 := by simp
  have key : Tr w5 (.slice (some ⟨g, 0, none⟩) (q.length + 1) cap) (q ++ [y]) (g :: (bss ++ [bx]).flatten) := by
    refine .row _ g (q ++ [y]) (us ++ [yv]) (bss ++ [bx]) (by simp) (by rw [hl']; exact hl) (by simp [hus]) (by simp [hbs]) rfl ?_ ?_ ?_ ?_
    · rw [cellsOf'_snoc q us y yv hus, hl']
      exact hown5
    · intro i h
      rcases Nat.lt_or_ge i q.length with h1 | h1
      · rw [List.getElem_append_left h1]; exact hoks i h1
      · rw [List.getElem_append_right h1]; simpa using hok
    · intro i h h1 h2
      rcases Nat.lt_or_ge i q.length with h3 | h3
      · rw [List.getElem_append_left h3, List.getElem_append_left (by omega), List.getElem_append_left (by omega)]
        have hb : i < bss.length := by omega
        refine (hin i h3 (by omega) hb).keep fun k hk => ?_
        have := hold k (List.mem_flatten.2 ⟨_, List.getElem_mem hb, hk⟩)
        exact same k (by omega) this.2
      · rw [List.getElem_append_right h3, List.getElem_append_right (by omega), List.getElem_append_right (by omega)]
        simp only [List.getElem_singleton]
        exact hx5
    · rw [List.flatten_append]
      simp only [List.flatten_cons, List.flatten_nil, List.append_nil]
      refine List.nodup_cons.2 ⟨fun hm => ?_, ?_⟩
      · rcases List.mem_append.1 hm with hm | hm
        · have h1 := hold g hm
          rcases hat with e | e
          · exact h1.2 e
          · omega
        · have h1 := hhigh g hm
          have h2 := hxl g hm
          rcases hat with e | e
          · have := hbk g e; omega
          · omega
      · refine List.nodup_append.2 ⟨hnd, hy.nodup, fun a ha b hb => ?_⟩
        have h1 := (hold a ha).1
        have h2 := hhigh b hb
        omega
  exact key

end Go.Proofs.YtgljkgkophaefabDoor
