import Derived.Test.YtdghlblgmihbpaaDoorFTold
import Derived.Test.YtdghlblgmihbpaaDoorFApart
import Derived.Deep.RegionHeld3
import Derived.Deep.DeepCutAuto
import Derived.Deep.CutBlock
namespace Go.Proofs.YtdghlblgmihbpaaDoor
open Go.RowKit

theorem type_ne {w : World} {i j : Nat} {c1 c2 : Array Value} {t1 t2 : TypeId} {f1 f2 : Nat × Nat} (h1 : w.heap[i]? = some (.cells c1 t1 f1)) (h2 : w.heap[j]? = some (.cells c2 t2 f2)) (ht : t1 ≠ t2) : i ≠ j := fun e => by
  subst e
  rw [h1] at h2
  simp only [Option.some.injEq, Obj.cells.injEq] at h2
  exact ht h2.2.1
/-- A map of the program's and the document's beside it. -/
structure Two2 (B : Nat) (w : World) (b g : Nat) (rb : Nat) (v : Value) (P : Nat) (T : Nat → Bool) : Prop where
  map : MapR w b g P T
  ok : MapOk P T
  ref : RefR w rb v P T
  lo : B < b ∧ B < g ∧ B < rb ∧ ∀ k, v.ownBlock = some k → B < k
theorem Two2.ltv {B : Nat} {w : World} {b g rb : Nat} {v : Value} {P : Nat} {T : Nat → Bool} (h : Two2 B w b g rb v P T) (k : Nat) (hk : v.ownBlock = some k) : k < w.heap.size := h.ref.ltv k hk
theorem Two2.only {F : Nat → Prop} {B : Nat} {w w' : World} {b g rb : Nat} {v : Value} {P : Nat} {T : Nat → Bool} (h : Two2 B w b g rb v P T) (ho : Only F w w') (h1 : ¬ F b) (h2 : ¬ F g) (h3 : ¬ F rb) (h4 : ∀ k, v.ownBlock = some k → ¬ F k) : Two2 B w' b g rb v P T :=
  ⟨h.map.only ho h1 h2, h.ok, h.ref.only ho h3 h4, h.lo⟩
theorem Two2.below {B : Nat} {w w' : World} {b g rb : Nat} {v : Value} {P : Nat} {T : Nat → Bool} (h : Two2 B w b g rb v P T) (hb : Below w.heap.size w w') : Two2 B w' b g rb v P T :=
  h.only (Only.of_below (F := fun _ => False) hb) id id id (fun _ _ => id)
/-- The words of a map are no block of another kind. -/
theorem Two2.gne {B : Nat} {w : World} {b g rb : Nat} {v : Value} {P : Nat} {T : Nat → Bool} (h : Two2 B w b g rb v P T) {k : Nat} {c : Array Value} {t : TypeId} {f : Nat × Nat} (hk : w.heap[k]? = some (.cells c t f)) (ht : t ≠ 68) : k ≠ g := by
  obtain ⟨cur, hc⟩ := (owns_blk h.map.wds g rfl).2.2
  exact type_ne hk hc ht
theorem Two2.rne {B : Nat} {w : World} {b g rb : Nat} {v : Value} {P : Nat} {T : Nat → Bool} (h : Two2 B w b g rb v P T) {k : Nat} {c : Array Value} {t : TypeId} {f : Nat × Nat} (hk : w.heap[k]? = some (.cells c t f)) (ht : t ≠ 80) : k ≠ rb := type_ne hk h.ref.blk ht
theorem Two2.vblk {B : Nat} {w : World} {b g rb : Nat} {v : Value} {P : Nat} {T : Nat → Bool} (h : Two2 B w b g rb v P T) (k : Nat) (hk : v.ownBlock = some k) : ∃ c, w.heap[k]? = some (.cells c 3 (0, 0)) := (owns_blk h.ref.row k hk).2.2
theorem Two2.gblk {B : Nat} {w : World} {b g rb : Nat} {v : Value} {P : Nat} {T : Nat → Bool} (h : Two2 B w b g rb v P T) : ∃ c, w.heap[g]? = some (.cells c 68 (0, 0)) := (owns_blk h.map.wds g rfl).2.2

/-- The lists that were kept. -/
structure Kept (B : Nat) (w : World) (kv : Value) (N : Nat) (a : Nat → Option Addr) (n c : Nat → Nat) (U : Nat → List Value) : Prop where
  row : w.ownsRow B 28 1 kv N ((List.range N).map fun i => .slice (a i) (n i) (c i))
  lo : ∀ k, kv.ownBlock = some k → B < k
  rows : RowsN N a n c U w
  dj : DjN N a
  small : ∀ i, i < N → n i ≤ 1048576
  big : ∀ i g, i < N → a i = some ⟨g, 0, none⟩ → B < g
theorem Kept.lblk {B : Nat} {w : World} {kv : Value} {N : Nat} {a : Nat → Option Addr} {n c : Nat → Nat} {U : Nat → List Value} (h : Kept B w kv N a n c U) {g : Nat} (hg : InN N a g) : ∃ cur, w.heap[g]? = some (.cells cur 3 (0, 0)) := by
  obtain ⟨i, hi, ha⟩ := hg
  exact (owns_blk (h.rows i hi) g (by rw [ha]; rfl)).2.2
theorem Kept.llt {B : Nat} {w : World} {kv : Value} {N : Nat} {a : Nat → Option Addr} {n c : Nat → Nat} {U : Nat → List Value} (h : Kept B w kv N a n c U) {g : Nat} (hg : InN N a g) : g < w.heap.size := by
  obtain ⟨cur, hc⟩ := h.lblk hg
  exact lt_of_heap hc
theorem Kept.only {F : Nat → Prop} {B : Nat} {w w' : World} {kv : Value} {N : Nat} {a : Nat → Option Addr} {n c : Nat → Nat} {U : Nat → List Value} (h : Kept B w kv N a n c U) (ho : Only F w w') (h1 : ∀ k, kv.ownBlock = some k → ¬ F k) (h2 : ∀ g, InN N a g → ¬ F g) : Kept B w' kv N a n c U :=
  ⟨owns_only h.row ho h1, h.lo, fun i hi => owns_only (h.rows i hi) ho (fun k hk => h2 k ⟨i, hi, slice_blk (h.rows i hi) k hk⟩), h.dj, h.small, h.big⟩
theorem Kept.below {B : Nat} {w w' : World} {kv : Value} {N : Nat} {a : Nat → Option Addr} {n c : Nat → Nat} {U : Nat → List Value} (h : Kept B w kv N a n c U) (hb : Below w.heap.size w w') : Kept B w' kv N a n c U :=
  h.only (Only.of_below (F := fun _ => False) hb) (fun _ _ => id) (fun _ _ => id)
theorem Kept.kblk {B : Nat} {w : World} {kv : Value} {N : Nat} {a : Nat → Option Addr} {n c : Nat → Nat} {U : Nat → List Value} (h : Kept B w kv N a n c U) (k : Nat) (hk : kv.ownBlock = some k) : ∃ cur, w.heap[k]? = some (.cells cur 28 (0, 0)) := (owns_blk h.row k hk).2.2
theorem info28 : (Tryd.prog.info? 28).map (fun i => (i.zero, i.size, i.bytes)) = some (some (.slice none 0 0), 1, 24) := by kernel_rfl
def upF {α : Type} (f : Nat → α) (N : Nat) (x : α) : Nat → α := fun i => if i = N then x else f i
theorem upF_ne {α : Type} (f : Nat → α) (N : Nat) (x : α) (i : Nat) (h : i ≠ N) : upF f N x i = f i := if_neg h
theorem upF_eq {α : Type} (f : Nat → α) (N : Nat) (x : α) : upF f N x N = x := if_pos rfl
/-- One list more is kept. -/
theorem Kept.push {B : Nat} {w : World} {kv : Value} {N : Nat} {a : Nat → Option Addr} {n c : Nat → Nat} {U : Nat → List Value} (h : Kept B w kv N a n c U) (hB : B < w.heap.size) (hN : N ≤ 2932031007325) (la : Option Addr) (ln lc : Nat) (xs : List Value) (hl : w.ownsRow 0 3 1 (.slice la ln lc) ln xs) (hs : ln ≤ 1048576)
    (hb : ∀ g, la = some ⟨g, 0, none⟩ → B < g) (hn : ∀ g, la = some ⟨g, 0, none⟩ → ¬ InN N a g) :
    ∃ g cap w', (Builtin.append_ #[60, 60] 60 #[kv, .slice (some ⟨w.heap.size, 0, none⟩) 1 1]).run Tryd.prog (w.alloc (.cells #[.slice la ln lc] 28)) = .ok (.slice (some ⟨g, 0, none⟩) (N + 1) cap) w' ∧ Kept B w' (.slice (some ⟨g, 0, none⟩) (N + 1) cap) (N + 1) (upF a N la) (upF n N ln) (upF c N lc) (upF U N xs) ∧ Only (fun k => kv.ownBlock = some k) w w' := by
  obtain ⟨g, cap, w', hr, ho, hon, hat⟩ := push2 60 28 _ 24 info28 Tryd.underlying60 rfl (.slice la ln lc) rfl h.row (by omega) (by omega) (by decide)
  refine ⟨g, cap, w', hr, ?_, hon⟩
  have hkt : ∀ k, kv.ownBlock = some k → ∃ cur, w.heap[k]? = some (.cells cur 28 (0, 0)) := h.kblk
  have hnk : ∀ v m ys, w.ownsRow 0 3 1 v m ys → ∀ k, v.ownBlock = some k → ¬ kv.ownBlock = some k := fun v m ys hv k hk hk2 => by
    obtain ⟨c1, e1⟩ := (owns_blk hv k hk).2.2
    obtain ⟨c2, e2⟩ := hkt k hk2
    exact type_ne e1 e2 (by decide) rfl
  refine ⟨?_, fun k hk => ?_, fun i hi => ?_, fun i j g' hi hj h1 h2 => ?_, fun i hi => ?_, fun i g' hi h1 => ?_⟩
  · have e : (List.range (N + 1)).map (fun i => Value.slice (upF a N la i) (upF n N ln i) (upF c N lc i)) = (List.range N).map (fun i => Value.slice (a i) (n i) (c i)) ++ [.slice la ln lc] := by
      rw [List.range_succ, List.map_append]
      congr 1
      · apply List.map_congr_left
        intro i hi
        have : i ≠ N := by have := List.mem_range.1 hi; omega
        rw [upF_ne _ _ _ _ this, upF_ne _ _ _ _ this, upF_ne _ _ _ _ this]
      · simp [upF]
    rw [e]; exact ho
  · have : g = k := by simpa [Value.ownBlock] using hk
    subst this
    rcases hat with h' | h'
    · exact h.lo g h'
    · omega
  · by_cases hiN : i = N
    · subst hiN
      rw [upF_eq, upF_eq, upF_eq, upF_eq]
      exact owns_only hl hon (fun k hk => hnk _ _ _ hl k hk)
    · rw [upF_ne _ _ _ _ hiN, upF_ne _ _ _ _ hiN, upF_ne _ _ _ _ hiN, upF_ne _ _ _ _ hiN]
      have hr := h.rows i (by omega)
      exact owns_only hr hon (fun k hk => hnk _ _ _ hr k hk)
  · by_cases hiN : i = N
    · by_cases hjN : j = N
      · omega
      · subst hiN
        rw [upF_eq] at h1
        rw [upF_ne _ _ _ _ hjN] at h2
        exact absurd ⟨j, by omega, h2⟩ (hn g' h1)
    · by_cases hjN : j = N
      · subst hjN
        rw [upF_eq] at h2
        rw [upF_ne _ _ _ _ hiN] at h1
        exact absurd ⟨i, by omega, h1⟩ (hn g' h2)
      · rw [upF_ne _ _ _ _ hiN] at h1
        rw [upF_ne _ _ _ _ hjN] at h2
        exact h.dj i j g' (by omega) (by omega) h1 h2
  · by_cases hiN : i = N
    · subst hiN; rw [upF_eq]; exact hs
    · rw [upF_ne _ _ _ _ hiN]; exact h.small i (by omega)
  · by_cases hiN : i = N
    · subst hiN; rw [upF_eq] at h1; exact hb g' h1
    · rw [upF_ne _ _ _ _ hiN] at h1; exact h.big i g' (by omega) h1

end Go.Proofs.YtdghlblgmihbpaaDoor
