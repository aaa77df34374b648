import Derived.Test.YtnggkkfncaidnaaGreatDoorGRB
import Derived.Test.YtnggkkfncaidnaaGreatDoorSame
namespace Go.Proofs.YtnggkkfncaidnaaGreatDoor
open Go.RowKit

/-- A condition as plain data. -/
structure Cd where
  field : ByteArray
  sign : Int
  item : It
/-- A query as plain data. -/
structure Qd where
  table : ByteArray
  cs : List Cd
  order : ByteArray
  falling : Bool
  limit : Int
structure Cd.Ok (c : Cd) : Prop where
  f : c.field.size ≤ 140737488351232
  s1 : -9223372036854775808 ≤ c.sign
  s2 : c.sign ≤ 9223372036854775807
  it : c.item.Ok
/-- The cells of a condition: what its inner list is, is said beside. -/
def Cd.cells (c : Cd) (u : Value) : List Value := [.string c.field, .int .i64 c.sign, .int .i64 c.item.kind, .int .i64 c.item.num, .string c.item.text, u]
/-- The slice value v reads as the conditions l, all in blocks that F names. -/
def CsAt (w : World) (F : Nat → Prop) (v : Value) (l : List Cd) : Prop :=
  ∃ (a : Option Addr) (g off cap : Nat) (vs : Nat → Value), v = .slice a l.length cap ∧ l.length ≤ 1759218604390 ∧ (0 < l.length → a = some ⟨g, off, none⟩ ∧ F g) ∧
    ∀ i (h : i < l.length), l[i].Ok ∧ (∀ j u, (l[i].cells (vs i))[j]? = some u → w.cell? ⟨g, off + i * 6 + j, none⟩ = some u) ∧ ItsAt w F (vs i) l[i].item.list
theorem CsAt.form {w : World} {F : Nat → Prop} {v : Value} {l : List Cd} (h : CsAt w F v l) : ∃ a c, v = .slice a l.length c := by
  obtain ⟨a, g, off, cap, vs, h, _⟩ := h
  exact ⟨a, cap, h⟩
theorem CsAt.len {w : World} {F : Nat → Prop} {v : Value} {l : List Cd} (h : CsAt w F v l) : l.length ≤ 1759218604390 := by
  obtain ⟨a, g, off, cap, vs, _, h, _⟩ := h
  exact h
theorem CsAt.keep {w w' : World} {F : Nat → Prop} {v : Value} {l : List Cd} (h : CsAt w F v l) (hb : Below w.heap.size w w') : CsAt w' F v l := by
  obtain ⟨a, g, off, cap, vs, h1, h2, h3, h4⟩ := h
  exact ⟨a, g, off, cap, vs, h1, h2, h3, fun i hi => ⟨(h4 i hi).1, fun j u hu => cell_below hb ((h4 i hi).2.1 j u hu), (h4 i hi).2.2.keep hb⟩⟩
theorem CsAt.any {w : World} {F : Nat → Prop} {v : Value} {l : List Cd} (h : CsAt w F v l) : CsAt w anyB v l := by
  obtain ⟨a, g, off, cap, vs, h1, h2, h3, h4⟩ := h
  exact ⟨a, g, off, cap, vs, h1, h2, fun h => ⟨(h3 h).1, trivial⟩, fun i hi => ⟨(h4 i hi).1, (h4 i hi).2.1, (h4 i hi).2.2.any⟩⟩
/-- What a walk wants of the i-th condition. -/
theorem CsAt.get {w : World} {F : Nat → Prop} {a : Option Addr} {n cap : Nat} {l : List Cd} (h : CsAt w F (.slice a n cap) l) (i : Nat) (hi : i < l.length) : ∃ g off u, a = some ⟨g, off, none⟩ ∧ F g ∧ l[i].Ok ∧ w.cell? ⟨g, off + i * 6, none⟩ = some (.string l[i].field) ∧ w.cell? ⟨g, off + i * 6 + 1, none⟩ = some (.int .i64 l[i].sign) ∧ w.cell? ⟨g, off + i * 6 + 2, none⟩ = some (.int .i64 l[i].item.kind) ∧ w.cell? ⟨g, off + i * 6 + 3, none⟩ = some (.int .i64 l[i].item.num) ∧ w.cell? ⟨g, off + i * 6 + 4, none⟩ = some (.string l[i].item.text) ∧ w.cell? ⟨g, off + i * 6 + 5, none⟩ = some u ∧ ItsAt w F u l[i].item.list := by
  obtain ⟨a', g, off, cap', vs, h1, h2, h3, h4⟩ := h
  cases h1
  obtain ⟨rfl, hg⟩ := h3 (by omega)
  obtain ⟨k1, k2, k3⟩ := h4 i hi
  exact ⟨g, off, vs i, rfl, hg, k1, k2 0 _ rfl, k2 1 _ rfl, k2 2 _ rfl, k2 3 _ rfl, k2 4 _ rfl, k2 5 _ rfl, k3⟩
theorem cs_nil (w : World) (F : Nat → Prop) (a : Option Addr) (cap : Nat) : CsAt w F (.slice a 0 cap) [] := ⟨a, 0, 0, cap, fun _ => .bool false, rfl, by simp, fun h => by simp at h, fun i h => by simp at h⟩

theorem Tryz.info45 : (Tryz.prog.info? 45).map (fun i => (i.zero, i.size, i.bytes)) = some (some (.agg #[.string ⟨#[]⟩, .int .i64 0, .int .i64 0, .int .i64 0, .string ⟨#[]⟩, .slice none 0 0]), 6, 80) := by kernel_rfl
def ccells : List Cd → List Value → List Value
  | c :: l, u :: us => c.cells u ++ ccells l us
  | _, _ => []
theorem ccells_len : ∀ (l : List Cd) (us : List Value), us.length = l.length → (ccells l us).length = l.length * 6
  | [], [], _ => rfl
  | c :: l, u :: us, h => by
    have := ccells_len l us (by simpa using h)
    simp only [ccells, Cd.cells, List.length_append, this, List.length_cons, List.length_nil]; omega
theorem ccells_snoc : ∀ (l : List Cd) (us : List Value) (c : Cd) (u : Value), us.length = l.length → ccells (l ++ [c]) (us ++ [u]) = ccells l us ++ c.cells u
  | [], [], c, u, _ => by simp [ccells]
  | d :: l, v :: us, c, u, h => by
    have := ccells_snoc l us c u (by simpa using h)
    simp only [List.cons_append, ccells, this, List.append_assoc]
theorem ccells_get : ∀ (l : List Cd) (us : List Value), us.length = l.length → ∀ i (h : i < l.length) (h' : i < us.length) (j : Nat) (u : Value), (l[i].cells us[i])[j]? = some u → (ccells l us)[i * 6 + j]? = some u
  | c :: l, v :: us, _, 0, _, _, j, u, hu => by
    have hu : (c.cells v)[j]? = some u := hu
    have hj : j < (c.cells v).length := (List.getElem?_eq_some_iff.1 hu).1
    rw [Nat.zero_mul, Nat.zero_add, ccells, List.getElem?_append_left hj]
    exact hu
  | c :: l, v :: us, hl, i + 1, h, h', j, u, hu => by
    have ih := ccells_get l us (by simpa using hl) i (by simpa using h) (by simpa using h') j u hu
    have hc : (c.cells v).length = 6 := rfl
    rw [ccells, List.getElem?_append_right (by rw [hc]; omega), hc, show (i + 1) * 6 + j - 6 = i * 6 + j by omega]
    exact ih
/-- v is a list of the call's own that reads as the conditions l; the inner lists lie in other blocks, at base or above. -/
def CsOwn (w : World) (base : Nat) (v : Value) (l : List Cd) : Prop :=
  ∃ us : List Value, us.length = l.length ∧ w.ownsRow base 45 6 v l.length (ccells l us) ∧ (∀ i (h : i < l.length), l[i].Ok) ∧
    ∀ i (h : i < l.length) (h' : i < us.length), ItsAt w (fun g => base ≤ g ∧ some g ≠ v.ownBlock ∧ g < w.heap.size) us[i] l[i].item.list
theorem CsOwn.form {w : World} {base : Nat} {v : Value} {l : List Cd} (h : CsOwn w base v l) : ∃ a c, v = .slice a l.length c := by
  obtain ⟨us, _, how, _⟩ := h
  rcases how.2 with ⟨h', h0⟩ | ⟨g, cap, cur, h', _⟩
  · exact ⟨none, 0, by rw [h', h0]⟩
  · exact ⟨_, cap, h'⟩
theorem CsOwn.blk {w : World} {base : Nat} {v : Value} {l : List Cd} (h : CsOwn w base v l) (k : Nat) (hk : v.ownBlock = some k) : base ≤ k ∧ k < w.heap.size := by
  obtain ⟨us, hus, how, hok, hin⟩ := h
  exact owns_blk how k hk
theorem CsOwn.keep {w w' : World} {base : Nat} {v : Value} {l : List Cd} (h : CsOwn w base v l) (hb : Below w.heap.size w w') : CsOwn w' base v l := by
  obtain ⟨us, hus, how, hok, hin⟩ := h
  exact ⟨us, hus, owns_keep how hb, hok, fun i h h' => ((hin i h h').keep hb).imp fun k hk => ⟨hk.1, hk.2.1, Nat.lt_of_lt_of_le hk.2.2 hb.size⟩⟩
theorem cell_ownedC {w : World} {base : Nat} {v : Value} {n : Nat} {xs : List Value} {g cap : Nat} (h : w.ownsRow base 45 6 v n xs) (hv : v = .slice (some ⟨g, 0, none⟩) n cap) (i : Nat) (u : Value) (hu : xs[i]? = some u) : w.cell? ⟨g, i, none⟩ = some u := by
  rcases h.2 with ⟨h', _⟩ | ⟨g', cap', cur, h', _, hg, _, _, _, ht⟩
  · rw [h'] at hv; cases hv
  · rw [h'] at hv
    cases hv
    rw [cell_of_row _ g i cur 45 (0, 0) hg]
    rw [← ht, List.getElem?_take] at hu
    split at hu
    · simpa using hu
    · cases hu
/-- The beginning of a list of the call's own. -/
theorem CsOwn.head {w : World} {base : Nat} {a : Option Addr} {n cap cap' : Nat} {l m : List Cd} (h : CsOwn w base (.slice a n cap) (l ++ m)) (hl : l.length ≤ 1759218604390) : CsAt w (fun g => base ≤ g) (.slice a l.length cap') l := by
  obtain ⟨us, hus, how, hok, hin⟩ := h
  rcases how.2 with ⟨h', h0⟩ | ⟨g, cap, cur, h', _⟩
  · have : l.length = 0 := by rw [List.length_append] at h0; omega
    have e := List.length_eq_zero_iff.1 this
    subst e
    exact cs_nil _ _ _ _
  · cases h'
    refine ⟨_, g, 0, cap', fun i => us.getD i (.bool false), rfl, hl, fun h => ⟨rfl, ?_⟩, fun i hi => ?_⟩
    · exact (owns_blk how g rfl).1
    · have hi2 : i < (l ++ m).length := by rw [List.length_append]; omega
      have hi3 : i < us.length := by omega
      have e1 : (l ++ m)[i] = l[i] := List.getElem_append_left hi
      have e2 : us.getD i (.bool false) = us[i] := by rw [List.getD, List.getElem?_eq_getElem hi3]; rfl
      have k1 := hok i hi2
      have k2 := hin i hi2 hi3
      rw [e1] at k1 k2
      refine ⟨k1, fun j u hu => ?_, ?_⟩
      · replace hu : (l[i].cells us[i])[j]? = some u := by rw [← e2]; exact hu
        rw [Nat.zero_add]
        exact cell_ownedC how rfl _ _ (ccells_get _ _ hus i hi2 hi3 j u (by rw [e1]; exact hu))
      · show ItsAt w _ (us.getD i (.bool false)) _
        rw [e2]
        exact k2.imp fun k hk => hk.1
theorem CsOwn.at' {w : World} {base : Nat} {v : Value} {l : List Cd} (h : CsOwn w base v l) (hl : l.length ≤ 1759218604390) : CsAt w (fun g => base ≤ g) v l := by
  obtain ⟨a, c, rfl⟩ := h.form
  have h2 : CsOwn w base (.slice a l.length c) (l ++ []) := by rw [List.append_nil]; exact h
  exact h2.head hl
theorem push_cown {w4 w5 : World} {base H : Nat} {v : Value} {l : List Cd} {us : List Value} {x : Cd} {u : Value} {g cap : Nat} (hus : us.length = l.length) (hok : ∀ i (h : i < l.length), l[i].Ok)
    (hin : ∀ i (h : i < l.length) (h' : i < us.length), ItsAt w4 (fun g => base ≤ g ∧ some g ≠ v.ownBlock ∧ g < w4.heap.size) us[i] l[i].item.list) (hx : x.Ok)
    (hu : ItsAt w4 (fun g => base ≤ g ∧ some g ≠ v.ownBlock ∧ g < w4.heap.size) u x.item.list)
    (hown : w5.ownsRow base 45 6 (.slice (some ⟨g, 0, none⟩) (l.length + 1) cap) (l.length + 1) (ccells l us ++ x.cells u))
    (hgrow : w4.grownBy w5 v.ownBlock) (hat : v.ownBlock = some g ∨ g = H) (hH : w4.heap.size = H) : CsOwn w5 base (.slice (some ⟨g, 0, none⟩) (l.length + 1) cap) (l ++ [x]) := by
  have hbut : But w4 w5 v.ownBlock := ⟨hgrow.size, hgrow.block⟩
  have lift : ∀ (u' : Value) (l' : List It), ItsAt w4 (fun g => base ≤ g ∧ some g ≠ v.ownBlock ∧ g < w4.heap.size) u' l' → ItsAt w5 (fun k => base ≤ k ∧ some k ≠ (Value.slice (some ⟨g, 0, none⟩) (l.length + 1) cap).ownBlock ∧ k < w5.heap.size) u' l' := fun u' l' h =>
    (h.but hbut (fun g hg => hg.2.1)).imp fun k hk => ⟨hk.1, by
      simp only [Value.ownBlock]
      rcases hat with e | e
      · rw [← e]; exact hk.2.1
      · intro e'; have := Option.some.inj e'; have := hk.2.2; omega, Nat.lt_of_lt_of_le hk.2.2 hgrow.size⟩
  refine ⟨us ++ [u], by simp [hus], ?_, ?_, ?_⟩
  · rw [ccells_snoc l us x u hus]
    simpa using hown
  · intro i h
    rcases Nat.lt_or_ge i l.length with h1 | h1
    · rw [List.getElem_append_left h1]; exact hok i h1
    · rw [List.getElem_append_right h1]; simpa using hx
  · intro i h h'
    rcases Nat.lt_or_ge i l.length with h1 | h1
    · rw [List.getElem_append_left h1, List.getElem_append_left (by omega)]
      exact lift _ _ (hin i h1 (by omega))
    · rw [List.getElem_append_right h1, List.getElem_append_right (by omega)]
      simp only [List.getElem_singleton]
      exact lift _ _ hu
/-- How much of the conditions is counted. -/
def cntC : List Cd → Nat
  | [] => 0
  | c :: l => c.field.size + c.item.cnt + cntC l
theorem cntC_append (a b : List Cd) : cntC (a ++ b) = cntC a + cntC b := by
  induction a with
  | nil => simp [cntC]
  | cons c a ih => simp only [List.cons_append, cntC, ih]; omega
theorem cntC_take_succ (l : List Cd) (i : Nat) (h : i < l.length) : cntC (l.take (i + 1)) = cntC (l.take i) + (l[i].field.size + l[i].item.cnt) := by
  rw [List.take_succ_eq_append_getElem h, cntC_append]; rfl
end Go.Proofs.YtnggkkfncaidnaaGreatDoor
