import Derived.Test.YtpeobpmooledaaaDoorGS
import Derived.Test.YtpeobpmooledaaaDoorRows
import Derived.LaidLaws
import Derived.LaidEql
namespace Go.Proofs.YtpeobpmooledaaaDoor
open Go.RowKit Go.ChangeShapes

def mkErr (x : String × List UInt8) : String × DataW Unit := (x.1, .iface "*errors.errorString" (.ptr (.agg [.lit (.string x.2)])))
def errText : DataW Unit → List UInt8
  | .iface _ (.ptr (.agg [.lit (.string t)])) => t
  | _ => []

theorem cellsStr : Tryd.prog.cellsOf 9 = 1 := by kernel_rfl
theorem cellsErr : Tryd.prog.cellsOf 118 = 1 := by kernel_rfl
theorem star : "*" ++ "errors.errorString" = "*errors.errorString" := by decide
theorem rowPtr (u : TypeId) (h : Tryd.prog.typeName? 3 u = some "*errors.errorString") : u = 101 :=
  typeName_ptr_named (nm := "errors.errorString") (by rw [star]; kernel_rfl) (by kernel_rfl) (by decide) u (by rw [star]; exact h)
theorem compPtr : (Tryd.prog.info? 101).map (·.comparable) = some true := by kernel_rfl
theorem sizeErr : (Tryd.prog.info? 118).map (·.size) = some 1 := by kernel_rfl

set_option maxRecDepth 100000 in
theorem sents {W : World} : ∀ (l : List (String × List UInt8)) (rest : List (String × DataW Unit)) (G : Nat → Nat) (ps : List MemPlace),
    (∀ i x, l[i]? = some x → Tryd.prog.globalNamed x.1 = some (G i) ∧ (Tryd.prog.globals[G i]?).map (·.type) = some 32) →
    DataW.LaidVars Tryd.prog W (l.map mkErr ++ rest) ps → ps.Nodup →
    (∀ b off, MemPlace.cell b off ∈ ps → (∃ c t, W.heap[b]? = some (.cells c t (0, 0))) ∧ ∀ u v, W.cell? ⟨b, off, none⟩ = some (.iface u v) → Value.okWide Tryd.prog W .any 0 u v) →
    ∃ xs : List Addr, xs.length = l.length ∧ (∀ i a, xs[i]? = some a → W.cell? ⟨G i, 0, none⟩ = some (.iface 101 (.pointer (some a))) ∧ ∃ c t, W.heap[a.block]? = some (.cells c t (0, 0))) ∧
      xs.Nodup ∧ (∀ a ∈ xs, MemPlace.cell a.block a.off ∈ ps) ∧ ∃ qs, DataW.LaidVars Tryd.prog W rest qs ∧ qs.Nodup ∧ (∀ x ∈ qs, x ∈ ps) := by
  intro l
  induction l with
  | nil =>
    intro rest G ps _ hv hnd _
    exact ⟨[], rfl, fun i a h => by simp at h, List.nodup_nil, fun a h => by simp at h, ps, hv, hnd, fun x h => h⟩
  | cons x r ih =>
    intro rest G ps hg hv hnd hrows
    obtain ⟨g, t, cs, fuel, p, q, hg1, ht1, hvar, hd, hq, rfl⟩ := hv
    obtain ⟨k1, k2⟩ := hg 0 x rfl
    obtain rfl := Option.some.inj (k1.symm.trans hg1)
    obtain rfl := Option.some.inj (k2.symm.trans ht1)
    obtain ⟨l0⟩ := cs
    have ok0 : ∀ u v, l0 = [.iface u v] → Value.okWide Tryd.prog W .any 0 u v := fun u v e => by
      subst e
      exact (hrows (G 0) 0 (by simp [MemPlace.row])).2 u v (by simpa using World.var?_cell hg1 hvar 0)
    obtain ⟨a, s, rfl, hc, hs, hz, rfl⟩ := errorString_of_trod Tryd.underlying32 rowPtr Tryd.underlying101 Tryd.underlying118 rfl rfl Tryd.underlying9 cellsErr cellsStr hd ok0
    have hnd2 := hnd
    rw [List.append_assoc] at hnd2
    have hq2 := (List.nodup_append.1 (List.nodup_append.1 hnd2).2.1)
    obtain ⟨xs, h1, h2, h3, h4, qs, h5, h6, h7⟩ := ih rest (fun i => G (i + 1)) q (fun i y hy => hg (i + 1) y (by simpa using hy)) hq hq2.2.1 (fun b off hm => hrows b off (List.mem_append_right _ hm))
    refine ⟨a :: xs, by simp [h1], ?_, ?_, ?_, qs, h5, h6, fun y hy => List.mem_append_right _ (h7 y hy)⟩
    · intro i b hb
      cases i with
      | zero =>
        simp only [List.getElem?_cons_zero, Option.some.injEq] at hb
        subst hb
        exact ⟨by simpa using World.var?_cell hg1 hvar 0, (hrows a.block a.off (by simp [MemPlace.row])).1⟩
      | succ i =>
        exact h2 i b (by simpa using hb)
    · refine List.nodup_cons.2 ⟨fun hm => ?_, h3⟩
      exact hq2.2.2 (.cell a.block a.off) (by simp [MemPlace.row]) (.cell a.block a.off) (h4 a hm) rfl
    · intro b hb
      rcases List.mem_cons.1 hb with rfl | hb
      · simp [MemPlace.row]
      · exact List.mem_append_right _ (h4 b hb)

/-- n of the refusals lie in their variables, n pointers. -/
def ErrsG (n : Nat) (G : Nat → Nat) (A : Nat → Addr) (w : World) : Prop :=
  (∀ i, i < n → w.cell? ⟨G i, 0, none⟩ = some (.iface 101 (.pointer (some (A i)))) ∧ ∃ c t, w.heap[(A i).block]? = some (.cells c t (0, 0))) ∧ (∀ i j, i < n → j < n → A i = A j → i = j)

theorem ErrsG.keep {n : Nat} {G : Nat → Nat} {A : Nat → Addr} {w w' : World} (h : ErrsG n G A w) (hb : Below w.heap.size w w') : ErrsG n G A w' := by
  refine ⟨fun i hi => ?_, h.2⟩
  obtain ⟨h1, c, t, h2⟩ := h.1 i hi
  have hlt : G i < w.heap.size := World.block_lt_of_cell? w _ h1
  have hlt2 : (A i).block < w.heap.size := by
    rcases Nat.lt_or_ge (A i).block w.heap.size with h' | h'
    · exact h'
    · rw [Array.getElem?_eq_none h'] at h2; cases h2
  exact ⟨(hb.cell (p := ⟨G i, 0, none⟩) hlt).trans h1, c, t, by rw [hb.block _ hlt2]; exact h2⟩

theorem errs_of {W : World} {l : List (String × List UInt8)} {rest : List (String × DataW Unit)} {n : Nat} (G : Nat → Nat) (hl : l.length = n)
    (hg : ∀ i x, l[i]? = some x → Tryd.prog.globalNamed x.1 = some (G i) ∧ (Tryd.prog.globals[G i]?).map (·.type) = some 32) (h : laidMet Tryd.prog (l.map mkErr ++ rest) W) : ∃ A, ErrsG n G A W ∧ ∃ qs, DataW.LaidVars Tryd.prog W rest qs ∧ qs.Nodup := by
  obtain ⟨ps, hv, hnd, hrows⟩ := h
  obtain ⟨xs, h1, h2, h3, _, qs, h5, h6, _⟩ := sents l rest G ps hg hv hnd hrows
  refine ⟨fun i => xs.getD i default, ⟨fun i hi => ?_, fun i j hi hj he => ?_⟩, qs, h5, h6⟩
  · have : xs[i]? = some (xs.getD i default) := by
      rw [List.getD, List.getElem?_eq_getElem (by omega)]; rfl
    exact h2 i _ this
  · have hi' : i < xs.length := by omega
    have hj' : j < xs.length := by omega
    simp only [List.getD, List.getElem?_eq_getElem hi', List.getElem?_eq_getElem hj', Option.getD_some] at he
    have hp := List.pairwise_iff_getElem.1 h3
    rcases Nat.lt_trichotomy i j with h | h | h
    · exact absurd he (hp i j hi' hj' h)
    · exact h
    · exact absurd he.symm (hp j i hj' hi' h)

theorem eq_same (A : Nat → Addr) (i : Nat) (w : World) : (binOp .eql 32 (.iface 101 (.pointer (some (A i)))) (.iface 101 (.pointer (some (A i))))).run Tryd.prog w = .ok (.bool true) w := by
  obtain ⟨i1, hi, hcmp⟩ := Option.map_eq_some_iff.1 compPtr
  obtain ⟨j, hj, _⟩ := Option.map_eq_some_iff.1 sizeErr
  exact run_eql_iface_ptr_same w _ Tryd.underlying32 Tryd.underlying101 hi hcmp hj
theorem eq_other {n : Nat} {G : Nat → Nat} (A : Nat → Addr) (i k : Nat) (w : World) (h : ErrsG n G A w) (hi : i < n) (hk : k < n) (hne : i ≠ k) : (binOp .eql 32 (.iface 101 (.pointer (some (A i)))) (.iface 101 (.pointer (some (A k))))).run Tryd.prog w = .ok (.bool false) w := by
  obtain ⟨i1, hi1, hcmp⟩ := Option.map_eq_some_iff.1 compPtr
  obtain ⟨j, hj, hjs⟩ := Option.map_eq_some_iff.1 sizeErr
  obtain ⟨_, c, t, hb⟩ := h.1 i hi
  obtain ⟨_, c', t', hb'⟩ := h.1 k hk
  exact run_eql_iface_ptr_other w Tryd.underlying32 Tryd.underlying101 hi1 hcmp hj (by rw [hjs]; decide) (fun he => hne (h.2 i k hi hk he)) hb hb'

/-- The places of the refusals in the list of all thirteen. -/
def gAll (i : Nat) : Nat := ([1, 0, 2, 3, 4, 5, 6, 7, 8, 9, 10, 11, 12] : List Nat).getD i 0
/-- The thirteen refusals lie in their variables, thirteen pointers. -/
abbrev ErrsAt (A : Nat → Addr) (w : World) : Prop := ErrsG 13 gAll A w
theorem ErrsAt.below {A : Nat → Addr} {w w' : World} (h : ErrsAt A w) (hb : Below w.heap.size w w') : ErrsAt A w' := ErrsG.keep h hb

end Go.Proofs.YtpeobpmooledaaaDoor
