import Derived.Test.YtddhjnfcbpookaaDoorPMet
import Derived.Test.YtddhjnfcbpookaaDoorErrsG
import Derived.Deep.RegionLaw
namespace Go.Proofs.YtddhjnfcbpookaaDoor
open Go.RowKit Go.Maps

/-! The conditions made ready. -/
theorem Tryd.info101 : (Tryd.prog.info? 101).map (fun i => (i.zero, i.size, i.bytes)) = some (some (.agg #[.int .i64 0, .int .i64 0, .int .i64 0, .string ⟨#[]⟩, .slice none 0 0, .nilFunc]), 6, 72) := by kernel_rfl
def tcells (fs : List Fd) (c : Cd) (u : Value) : List Value := [.int .i64 (fieldI fs c.field), .int .i64 c.item.kind, .int .i64 c.item.num, .string c.item.text, u, sgnV (sgnFn c.sign)]
def tcellsL (fs : List Fd) : List Cd → List Value → List Value
  | c :: l, u :: us => tcells fs c u ++ tcellsL fs l us
  | _, _ => []
theorem tcellsL_snoc (fs : List Fd) : ∀ (l : List Cd) (us : List Value) (c : Cd) (u : Value), us.length = l.length → tcellsL fs (l ++ [c]) (us ++ [u]) = tcellsL fs l us ++ tcells fs c u
  | [], [], c, u, _ => by simp [tcellsL]
  | d :: l, v :: us, c, u, h => by
    have := tcellsL_snoc fs l us c u (by simpa using h)
    simp only [List.cons_append, tcellsL, this, List.append_assoc]
theorem tcellsL_get (fs : List Fd) : ∀ (l : List Cd) (us : List Value), us.length = l.length → ∀ i (h : i < l.length) (h' : i < us.length) (j : Nat) (u : Value), (tcells fs l[i] us[i])[j]? = some u → (tcellsL fs l us)[i * 6 + j]? = some u
  | c :: l, v :: us, _, 0, _, _, j, u, hu => by
    have hu : (tcells fs c v)[j]? = some u := hu
    have hj : j < (tcells fs c v).length := (List.getElem?_eq_some_iff.1 hu).1
    rw [Nat.zero_mul, Nat.zero_add, tcellsL, List.getElem?_append_left hj]
    exact hu
  | c :: l, v :: us, hl, i + 1, h, h', j, u, hu => by
    have ih := tcellsL_get fs l us (by simpa using hl) i (by simpa using h) (by simpa using h') j u hu
    have hc : (tcells fs c v).length = 6 := rfl
    rw [tcellsL, List.getElem?_append_right (by rw [hc]; omega), hc, show (i + 1) * 6 + j - 6 = i * 6 + j by omega]
    exact ih
/-- v is a list of the call's own that holds the conditions l made ready; the lists in their items lie below. -/
structure TsOwn (w : World) (base : Nat) (fs : List Fd) (v : Value) (l : List Cd) : Prop where
  ex : ∃ us : List Value, us.length = l.length ∧ w.ownsRow base 101 6 v l.length (tcellsL fs l us) ∧ ∀ i (h : i < l.length) (h' : i < us.length), l[i].item.Ok ∧ ItsAt w (fun g => g < base) us[i] l[i].item.list
theorem TsOwn.nil (w : World) (base : Nat) (fs : List Fd) : TsOwn w base fs (.slice none 0 0) [] := ⟨[], rfl, World.ownsRow_nil _ _ _ _, fun i h => by simp at h⟩
theorem TsOwn.form {w : World} {base : Nat} {fs : List Fd} {v : Value} {l : List Cd} (h : TsOwn w base fs v l) : ∃ a c, v = .slice a l.length c := by
  obtain ⟨us, _, how, _⟩ := h.ex
  rcases how.2 with ⟨h', h0⟩ | ⟨g, cap, cur, h', _⟩
  · exact ⟨none, 0, by rw [h', h0]⟩
  · exact ⟨_, cap, h'⟩
theorem TsOwn.keep {w w' : World} {base : Nat} {fs : List Fd} {v : Value} {l : List Cd} (h : TsOwn w base fs v l) (hb : Below w.heap.size w w') : TsOwn w' base fs v l := by
  obtain ⟨us, hus, how, hin⟩ := h.ex
  exact ⟨us, hus, owns_keep how hb, fun i h h' => ⟨(hin i h h').1, (hin i h h').2.keep hb⟩⟩
theorem TsOwn.get {w : World} {base : Nat} {fs : List Fd} {a : Option Addr} {n cap : Nat} {l : List Cd} (h : TsOwn w base fs (.slice a n cap) l) (i : Nat) (hi : i < l.length) : ∃ g u, a = some ⟨g, 0, none⟩ ∧ (l[i]'hi).item.Ok ∧ (∀ j x, (tcells fs (l[i]'hi) u)[j]? = some x → w.cell? ⟨g, i * 6 + j, none⟩ = some x) ∧ ItsAt w anyB u (l[i]'hi).item.list := by
  obtain ⟨us, hus, how, hin⟩ := h.ex
  rcases how.2 with ⟨h', h0⟩ | ⟨g, cap', cur, h', h1, hg, _, _, _, ht⟩
  · omega
  · cases h'
    refine ⟨g, us[i]'(by omega), rfl, (hin i hi (by omega)).1, fun j x hx => ?_, (hin i hi (by omega)).2.any⟩
    have hu := tcellsL_get fs l us hus i hi (by omega) j x hx
    rw [cell_of_row _ g (i * 6 + j) cur 101 (0, 0) hg]
    rw [← ht, List.getElem?_take] at hu
    split at hu
    · simpa using hu
    · cases hu
/-- A test more. -/
theorem push_test {w : World} {base : Nat} {fs : List Fd} {v : Value} {l : List Cd} {c : Cd} {u : Value} (B : Nat) (ho : TsOwn w base fs v l) (hB : w.heap[B]? = some (.cells (tcells fs c u).toArray 101 (0, 0))) (h1 : u.oneCell' = true) (hu : ItsAt w (fun g => g < base) u c.item.list) (hc : c.item.Ok) (hl : l.length ≤ 1759218604390) (hbase : base ≤ w.heap.size) :
    ∃ g cap w', (Builtin.append_ #[73, 73] 73 #[v, .slice (some ⟨B, 0, none⟩) 1 1]).run Tryd.prog w = .ok (.slice (some ⟨g, 0, none⟩) (l.length + 1) cap) w' ∧ TsOwn w' base fs (.slice (some ⟨g, 0, none⟩) (l.length + 1) cap) (l ++ [c]) ∧ Below base w w' := by
  obtain ⟨i0, hi, hz0, hz1, hz2⟩ := info_parts Tryd.info101
  obtain ⟨us, hus, how, hin⟩ := ho.ex
  obtain ⟨g, cap, w', hr, h2, h3, _, _⟩ := run_append_lies (P := Tryd.prog) w 73 73 base 101 i0 _ 6 72 Tryd.underlying73 hi hz0 hz1 hz2 rfl (by decide) v l.length _ how ⟨B, 0, none⟩ 1 1 (tcells fs c u) rfl (World.news_of_block hB)
    (by intro x hx; simp only [tcells, List.mem_cons, List.not_mem_nil, or_false] at hx; rcases hx with rfl | rfl | rfl | rfl | rfl | rfl <;> first | rfl | exact h1) (by decide) (by unfold maxLen; omega) (by omega) hbase _ rfl
  have hbel : Below base w w' := ⟨h3.os, h3.tape, h3.output, h3.size, fun k hk => h3.block k (by omega) (fun e => by have := (owns_blk how k e.symm).1; omega)⟩
  refine ⟨g, cap, w', hr, ⟨us ++ [u], by simp [hus], ?_, fun i h h' => ?_⟩, hbel⟩
  · rw [tcellsL_snoc fs l us c u hus]
    simpa using h2
  · rcases Nat.lt_or_ge i l.length with h4 | h4
    · simp only [List.getElem_append_left h4, List.getElem_append_left (show i < us.length by omega)]
      exact ⟨(hin i h4 (by omega)).1, (hin i h4 (by omega)).2.keepB hbel⟩
    · have e1 : (l ++ [c])[i] = c := by rw [List.getElem_append_right h4]; simp
      have e2 : (us ++ [u])[i] = u := by rw [List.getElem_append_right (by omega)]; simp
      rw [e1, e2]
      exact ⟨hc, hu.keepB hbel⟩
end Go.Proofs.YtddhjnfcbpookaaDoor
