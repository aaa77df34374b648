import Derived.Test.YtageokjobbjddaaGreatDoorFault
import Derived.Test.YtageokjobbjddaaGreatDoorRows
import Derived.LaidLaws
import Derived.LaidEql
namespace Go.Proofs.YtageokjobbjddaaGreatDoor
open Go.RowKit Go.ChangeShapes

def mkErr (x : String × List UInt8) : String × DataW Unit := (x.1, .iface "*errors.errorString" (.ptr (.agg [.lit (.string x.2)])))
def errText : DataW Unit → List UInt8
  | .iface _ (.ptr (.agg [.lit (.string t)])) => t
  | _ => []

theorem cellsStr : Tryz.prog.cellsOf 9 = 1 := by kernel_rfl
theorem cellsErr : Tryz.prog.cellsOf 168 = 1 := by kernel_rfl
theorem star : "*" ++ "errors.errorString" = "*errors.errorString" := by decide
theorem rowPtr (u : TypeId) (h : Tryz.prog.typeName? 3 u = some "*errors.errorString") : u = 166 :=
  typeName_ptr_named (nm := "errors.errorString") (by rw [star]; kernel_rfl) (by kernel_rfl) (by decide) u (by rw [star]; exact h)
theorem compPtr : (Tryz.prog.info? 166).map (·.comparable) = some true := by kernel_rfl
theorem sizeErr : (Tryz.prog.info? 168).map (·.size) = some 1 := by kernel_rfl

set_option maxRecDepth 100000 in
theorem sents {W : World} : ∀ (l : List (String × List UInt8)) (rest : List (String × DataW Unit)) (G : Nat → Nat) (ps : List MemPlace),
    (∀ i x, l[i]? = some x → Tryz.prog.globalNamed x.1 = some (G i) ∧ (Tryz.prog.globals[G i]?).map (·.type) = some 36) →
    DataW.LaidVars Tryz.prog W (l.map mkErr ++ rest) ps → ps.Nodup →
    (∀ b off, MemPlace.cell b off ∈ ps → (∃ c t, W.heap[b]? = some (.cells c t (0, 0))) ∧ ∀ u v, W.cell? ⟨b, off, none⟩ = some (.iface u v) → Value.okWide Tryz.prog W .any 0 u v) →
    ∃ xs : List Addr, xs.length = l.length ∧ (∀ i a, xs[i]? = some a → W.cell? ⟨G i, 0, none⟩ = some (.iface 166 (.pointer (some a))) ∧ ∃ c t, W.heap[a.block]? = some (.cells c t (0, 0))) ∧
      xs.Nodup ∧ (∀ a ∈ xs, MemPlace.cell a.block a.off ∈ ps) ∧ ∃ qs, DataW.LaidVars Tryz.prog W rest qs ∧ qs.Nodup ∧ (∀ x ∈ qs, x ∈ ps) := by
  intro l
  induction l with
  | nil =>
    intro rest G ps _ hv hnd _
    exact ⟨[], rfl, fun i a h => by simp at h, List.nodup_nil, fun a h => by simp at h, ps, hv, hnd, fun x h => h⟩
  | cons x r ih =>
    intro rest G ps hg hv hnd hrows
    obtain ⟨g, t, cs, fuel, p, q, hg1, ht1, hvar, hd, hq, rfl⟩ := hv
    obtain ⟨k1, k2⟩ := hg 0 x rfl
    obtain rfl := Option.some.inj (k1.symm.trans hg1)
    obtain rfl := Option.some.inj (k2.symm.trans ht1)
    obtain ⟨l0⟩ := cs
    have ok0 : ∀ u v, l0 = [.iface u v] → Value.okWide Tryz.prog W .any 0 u v := fun u v e => by
      subst e
      exact (hrows (G 0) 0 (by simp [MemPlace.row])).2 u v (by simpa using World.var?_cell hg1 hvar 0)
    obtain ⟨a, s, rfl, hc, hs, hz, rfl⟩ := errorString_of_trod Tryz.underlying36 rowPtr Tryz.underlying166 Tryz.underlying168 rfl rfl Tryz.underlying9 cellsErr cellsStr hd ok0
    have hnd2 := hnd
    rw [List.append_assoc] at hnd2
    have hq2 := (List.nodup_append.1 (List.nodup_append.1 hnd2).2.1)
    obtain ⟨xs, h1, h2, h3, h4, qs, h5, h6, h7⟩ := ih rest (fun i => G (i + 1)) q (fun i y hy => hg (i + 1) y (by simpa using hy)) hq hq2.2.1 (fun b off hm => hrows b off (List.mem_append_right _ hm))
    refine ⟨a :: xs, by simp [h1], ?_, ?_, ?_, qs, h5, h6, fun y hy => List.mem_append_right _ (h7 y hy)⟩
    · intro i b hb
      cases i with
      | zero =>
        simp only [List.getElem?_cons_zero, Option.some.injEq] at hb
        subst hb
        exact ⟨by simpa using World.var?_cell hg1 hvar 0, (hrows a.block a.off (by simp [MemPlace.row])).1⟩
      | succ i =>
        exact h2 i b (by simpa using hb)
    · refine List.nodup_cons.2 ⟨fun hm => ?_, h3⟩
      exact hq2.2.2 (.cell a.block a.off) (by simp [MemPlace.row]) (.cell a.block a.off) (h4 a hm) rfl
    · intro b hb
      rcases List.mem_cons.1 hb with rfl | hb
      · simp [MemPlace.row]
      · exact List.mem_append_right _ (h4 b hb)

/-- n of the refusals lie in their variables, n pointers. -/
def ErrsAt (n : Nat) (G : Nat → Nat) (A : Nat → Addr) (w : World) : Prop :=
  (∀ i, i < n → w.cell? ⟨G i, 0, none⟩ = some (.iface 166 (.pointer (some (A i)))) ∧ ∃ c t, w.heap[(A i).block]? = some (.cells c t (0, 0))) ∧ (∀ i j, i < n → j < n → A i = A j → i = j)

theorem ErrsAt.keep {n : Nat} {G : Nat → Nat} {A : Nat → Addr} {w w' : World} (h : ErrsAt n G A w) (hb : Below w.heap.size w w') : ErrsAt n G A w' := by
  refine ⟨fun i hi => ?_, h.2⟩
  obtain ⟨h1, c, t, h2⟩ := h.1 i hi
  have hlt : G i < w.heap.size := World.block_lt_of_cell? w _ h1
  have hlt2 : (A i).block < w.heap.size := by
    rcases Nat.lt_or_ge (A i).block w.heap.size with h' | h'
    · exact h'
    · rw [Array.getElem?_eq_none h'] at h2; cases h2
  exact ⟨(hb.cell (p := ⟨G i, 0, none⟩) hlt).trans h1, c, t, by rw [hb.block _ hlt2]; exact h2⟩

theorem errs_of {W : World} {l : List (String × List UInt8)} {rest : List (String × DataW Unit)} {n : Nat} (G : Nat → Nat) (hl : l.length = n)
    (hg : ∀ i x, l[i]? = some x → Tryz.prog.globalNamed x.1 = some (G i) ∧ (Tryz.prog.globals[G i]?).map (·.type) = some 36) (h : laidMet Tryz.prog (l.map mkErr ++ rest) W) : ∃ A, ErrsAt n G A W := by
  obtain ⟨ps, hv, hnd, hrows⟩ := h
  obtain ⟨xs, h1, h2, h3, _, _⟩ := sents l rest G ps hg hv hnd hrows
  refine ⟨fun i => xs.getD i default, fun i hi => ?_, fun i j hi hj he => ?_⟩
  · have : xs[i]? = some (xs.getD i default) := by
      rw [List.getD, List.getElem?_eq_getElem (by omega)]; rfl
    exact h2 i _ this
  · have hi' : i < xs.length := by omega
    have hj' : j < xs.length := by omega
    simp only [List.getD, List.getElem?_eq_getElem hi', List.getElem?_eq_getElem hj', Option.getD_some] at he
    have hp := List.pairwise_iff_getElem.1 h3
    rcases Nat.lt_trichotomy i j with h | h | h
    · exact absurd he (hp i j hi' hj' h)
    · exact h
    · exact absurd he.symm (hp j i hj' hi' h)

theorem eq_same (A : Nat → Addr) (i : Nat) (w : World) : (binOp .eql 36 (.iface 166 (.pointer (some (A i)))) (.iface 166 (.pointer (some (A i))))).run Tryz.prog w = .ok (.bool true) w := by
  obtain ⟨i1, hi, hcmp⟩ := Option.map_eq_some_iff.1 compPtr
  obtain ⟨j, hj, _⟩ := Option.map_eq_some_iff.1 sizeErr
  exact run_eql_iface_ptr_same w _ Tryz.underlying36 Tryz.underlying166 hi hcmp hj
theorem eq_other {n : Nat} {G : Nat → Nat} (A : Nat → Addr) (i k : Nat) (w : World) (h : ErrsAt n G A w) (hi : i < n) (hk : k < n) (hne : i ≠ k) : (binOp .eql 36 (.iface 166 (.pointer (some (A i)))) (.iface 166 (.pointer (some (A k))))).run Tryz.prog w = .ok (.bool false) w := by
  obtain ⟨i1, hi1, hcmp⟩ := Option.map_eq_some_iff.1 compPtr
  obtain ⟨j, hj, hjs⟩ := Option.map_eq_some_iff.1 sizeErr
  obtain ⟨_, c, t, hb⟩ := h.1 i hi
  obtain ⟨_, c', t', hb'⟩ := h.1 k hk
  exact run_eql_iface_ptr_other w Tryz.underlying36 Tryz.underlying166 hi1 hcmp hj (by rw [hjs]; decide) (fun he => hne (h.2 i k hi hk he)) hb hb'

/-- The places of the refusals in the list of all thirteen. -/
def gAll (i : Nat) : Nat := ([2, 1, 0, 3, 4, 5, 6, 7, 8, 9, 10, 11, 12] : List Nat).getD i 0
theorem ErrsAt.two {A : Nat → Addr} {w : World} (h : ErrsAt 13 gAll A w) : Errs2 (A 0) (A 2) w := ⟨(h.1 0 (by decide)).1, (h.1 2 (by decide)).1⟩

set_option maxHeartbeats 400000 in
theorem num_nil (w : World) : Calls Tryz.prog 11 #[.nilIface] w fun e w' => e = .returned (.int .i64 0) ∧ w = w' := by
  go_enter Tryz.func11, Tryz.ntmps11
  go_wp2
  go_ret
  exact ⟨rfl, rfl⟩
set_option maxHeartbeats 400000 in
theorem num_arg (A : Nat → Addr) (w : World) (h : ErrsAt 13 gAll A w) : Calls Tryz.prog 11 #[.iface 166 (.pointer (some (A 0)))] w fun e w' => e = .returned (.int .i64 1) ∧ w = w' := by
  have c0 : w.cell? ⟨2, 0, none⟩ = some (.iface 166 (.pointer (some (A 0)))) := (h.1 0 (by decide)).1
  have e0 := eq_same A 0
  clear h
  go_enter Tryz.func11, Tryz.ntmps11
  go_wp2
  go_ret
  exact ⟨rfl, rfl⟩
set_option maxHeartbeats 400000 in
theorem num_text (A : Nat → Addr) (w : World) (h : ErrsAt 13 gAll A w) : Calls Tryz.prog 11 #[.iface 166 (.pointer (some (A 1)))] w fun e w' => e = .returned (.int .i64 2) ∧ w = w' := by
  have c0 : w.cell? ⟨2, 0, none⟩ = some (.iface 166 (.pointer (some (A 0)))) := (h.1 0 (by decide)).1
  have c1 : w.cell? ⟨1, 0, none⟩ = some (.iface 166 (.pointer (some (A 1)))) := (h.1 1 (by decide)).1
  have e0 := eq_other A 1 0 w h (by decide) (by decide) (by decide)
  have e1 := eq_same A 1
  clear h
  go_enter Tryz.func11, Tryz.ntmps11
  go_wp2
  go_ret
  exact ⟨rfl, rfl⟩
set_option maxHeartbeats 400000 in
theorem num_many (A : Nat → Addr) (w : World) (h : ErrsAt 13 gAll A w) : Calls Tryz.prog 11 #[.iface 166 (.pointer (some (A 2)))] w fun e w' => e = .returned (.int .i64 3) ∧ w = w' := by
  have c0 : w.cell? ⟨2, 0, none⟩ = some (.iface 166 (.pointer (some (A 0)))) := (h.1 0 (by decide)).1
  have c1 : w.cell? ⟨1, 0, none⟩ = some (.iface 166 (.pointer (some (A 1)))) := (h.1 1 (by decide)).1
  have c2 : w.cell? ⟨0, 0, none⟩ = some (.iface 166 (.pointer (some (A 2)))) := (h.1 2 (by decide)).1
  have e0 := eq_other A 2 0 w h (by decide) (by decide) (by decide)
  have e1 := eq_other A 2 1 w h (by decide) (by decide) (by decide)
  have e2 := eq_same A 2
  clear h
  go_enter Tryz.func11, Tryz.ntmps11
  go_wp2
  go_ret
  exact ⟨rfl, rfl⟩
set_option maxHeartbeats 800000 in
theorem num_lost (A : Nat → Addr) (w : World) (h : ErrsAt 13 gAll A w) : Calls Tryz.prog 11 #[.iface 166 (.pointer (some (A 5)))] w fun e w' => e = .returned (.int .i64 6) ∧ w = w' := by
  have c0 : w.cell? ⟨2, 0, none⟩ = some (.iface 166 (.pointer (some (A 0)))) := (h.1 0 (by decide)).1
  have c1 : w.cell? ⟨1, 0, none⟩ = some (.iface 166 (.pointer (some (A 1)))) := (h.1 1 (by decide)).1
  have c2 : w.cell? ⟨0, 0, none⟩ = some (.iface 166 (.pointer (some (A 2)))) := (h.1 2 (by decide)).1
  have c3 : w.cell? ⟨3, 0, none⟩ = some (.iface 166 (.pointer (some (A 3)))) := (h.1 3 (by decide)).1
  have c4 : w.cell? ⟨4, 0, none⟩ = some (.iface 166 (.pointer (some (A 4)))) := (h.1 4 (by decide)).1
  have c5 : w.cell? ⟨5, 0, none⟩ = some (.iface 166 (.pointer (some (A 5)))) := (h.1 5 (by decide)).1
  have e0 := eq_other A 5 0 w h (by decide) (by decide) (by decide)
  have e1 := eq_other A 5 1 w h (by decide) (by decide) (by decide)
  have e2 := eq_other A 5 2 w h (by decide) (by decide) (by decide)
  have e3 := eq_other A 5 3 w h (by decide) (by decide) (by decide)
  have e4 := eq_other A 5 4 w h (by decide) (by decide) (by decide)
  have e5 := eq_same A 5
  clear h
  go_enter Tryz.func11, Tryz.ntmps11
  go_wp2
  go_ret
  exact ⟨rfl, rfl⟩
/-- The value of the refusal of that number. -/
def errQ (A : Nat → Addr) (n : Nat) : Value := if n = 0 then .nilIface else .iface 166 (.pointer (some (A (n - 1))))
theorem num_errQ (A : Nat → Addr) (w : World) (h : ErrsAt 13 gAll A w) (f : Nat) (hf : f = 0 ∨ f = 1 ∨ f = 2 ∨ f = 3 ∨ f = 6) : Calls Tryz.prog 11 #[errQ A f] w fun e w' => e = .returned (.int .i64 (f : Int)) ∧ w = w' := by
  rcases hf with rfl | rfl | rfl | rfl | rfl
  · exact num_nil w
  · exact num_arg A w h
  · exact num_text A w h
  · exact num_many A w h
  · exact num_lost A w h
theorem errOf_Q (A : Nat → Addr) (f : Nat) (hf : f = 0 ∨ f = 1 ∨ f = 3) : errOf (A 0) (A 2) f = errQ A f := by
  rcases hf with rfl | rfl | rfl <;> rfl
/-- A fault that Pack answers, and its number. -/
theorem num_fault (A : Nat → Addr) (w : World) (h : ErrsAt 13 gAll A w) (f : Nat) (hf : f = 0 ∨ f = 1 ∨ f = 3) : Calls Tryz.prog 11 #[errOf (A 0) (A 2) f] w fun e w' => e = .returned (.int .i64 (f : Int)) ∧ w = w' := by
  rcases hf with rfl | rfl | rfl
  · exact num_nil w
  · exact num_arg A w h
  · exact num_many A w h

end Go.Proofs.YtageokjobbjddaaGreatDoor
