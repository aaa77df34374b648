import Derived.Test.YtageokjobbjddaaGreatDoorGRB
import Derived.Test.YtageokjobbjddaaGreatDoorSame
import Derived.Laws.ResultCell
import Derived.Deep.DrawnRows
import Derived.Laws.CopyOwn
import Derived.Deep.DeepCutAuto
import Derived.Deep.CutBlock
import Derived.Test.YtageokjobbjddaaGreatDoorGRA
import Derived.Test.YtageokjobbjddaaGreatDoorOwn
namespace Go.Proofs.YtageokjobbjddaaGreatDoor
open Go.RowKit

/-- A condition as plain data. -/
structure Cd where
  field : ByteArray
  sign : Int
  item : It
/-- A query as plain data. -/
structure Qd where
  table : ByteArray
  cs : List Cd
  order : ByteArray
  falling : Bool
  limit : Int
structure Cd.Ok (c : Cd) : Prop where
  f : c.field.size ≤ 140737488351232
  s1 : -9223372036854775808 ≤ c.sign
  s2 : c.sign ≤ 9223372036854775807
  it : c.item.Ok
/-- The cells of a condition: what its inner list is, is said beside. -/
def Cd.cells (c : Cd) (u : Value) : List Value := [.string c.field, .int .i64 c.sign, .int .i64 c.item.kind, .int .i64 c.item.num, .string c.item.text, u]
/-- The slice value v reads as the conditions l, all in blocks that F names. -/
def CsAt (w : World) (F : Nat → Prop) (v : Value) (l : List Cd) : Prop :=
  ∃ (a : Option Addr) (g off cap : Nat) (vs : Nat → Value), v = .slice a l.length cap ∧ l.length ≤ 1759218604390 ∧ (0 < l.length → a = some ⟨g, off, none⟩ ∧ F g) ∧
    ∀ i (h : i < l.length), l[i].Ok ∧ (∀ j u, (l[i].cells (vs i))[j]? = some u → w.cell? ⟨g, off + i * 6 + j, none⟩ = some u) ∧ ItsAt w F (vs i) l[i].item.list
theorem CsAt.form {w : World} {F : Nat → Prop} {v : Value} {l : List Cd} (h : CsAt w F v l) : ∃ a c, v = .slice a l.length c := by
  obtain ⟨a, g, off, cap, vs, h, _⟩ := h
  exact ⟨a, cap, h⟩
theorem CsAt.len {w : World} {F : Nat → Prop} {v : Value} {l : List Cd} (h : CsAt w F v l) : l.length ≤ 1759218604390 := by
  obtain ⟨a, g, off, cap, vs, _, h, _⟩ := h
  exact h
theorem CsAt.keep {w w' : World} {F : Nat → Prop} {v : Value} {l : List Cd} (h : CsAt w F v l) (hb : Below w.heap.size w w') : CsAt w' F v l := by
  obtain ⟨a, g, off, cap, vs, h1, h2, h3, h4⟩ := h
  exact ⟨a, g, off, cap, vs, h1, h2, h3, fun i hi => ⟨(h4 i hi).1, fun j u hu => cell_below hb ((h4 i hi).2.1 j u hu), (h4 i hi).2.2.keep hb⟩⟩
theorem CsAt.any {w : World} {F : Nat → Prop} {v : Value} {l : List Cd} (h : CsAt w F v l) : CsAt w anyB v l := by
  obtain ⟨a, g, off, cap, vs, h1, h2, h3, h4⟩ := h
  exact ⟨a, g, off, cap, vs, h1, h2, fun h => ⟨(h3 h).1, trivial⟩, fun i hi => ⟨(h4 i hi).1, (h4 i hi).2.1, (h4 i hi).2.2.any⟩⟩
/-- What a walk wants of the i-th condition. -/
theorem CsAt.get {w : World} {F : Nat → Prop} {a : Option Addr} {n cap : Nat} {l : List Cd} (h : CsAt w F (.slice a n cap) l) (i : Nat) (hi : i < l.length) : ∃ g off u, a = some ⟨g, off, none⟩ ∧ F g ∧ l[i].Ok ∧ w.cell? ⟨g, off + i * 6, none⟩ = some (.string l[i].field) ∧ w.cell? ⟨g, off + i * 6 + 1, none⟩ = some (.int .i64 l[i].sign) ∧ w.cell? ⟨g, off + i * 6 + 2, none⟩ = some (.int .i64 l[i].item.kind) ∧ w.cell? ⟨g, off + i * 6 + 3, none⟩ = some (.int .i64 l[i].item.num) ∧ w.cell? ⟨g, off + i * 6 + 4, none⟩ = some (.string l[i].item.text) ∧ w.cell? ⟨g, off + i * 6 + 5, none⟩ = some u ∧ ItsAt w F u l[i].item.list := by
  obtain ⟨a', g, off, cap', vs, h1, h2, h3, h4⟩ := h
  cases h1
  obtain ⟨rfl, hg⟩ := h3 (by omega)
  obtain ⟨k1, k2, k3⟩ := h4 i hi
  exact ⟨g, off, vs i, rfl, hg, k1, k2 0 _ rfl, k2 1 _ rfl, k2 2 _ rfl, k2 3 _ rfl, k2 4 _ rfl, k2 5 _ rfl, k3⟩
theorem cs_nil (w : World) (F : Nat → Prop) (a : Option Addr) (cap : Nat) : CsAt w F (.slice a 0 cap) [] := ⟨a, 0, 0, cap, fun _ => .bool false, rfl, by simp, fun h => by simp at h, fun i h => by simp at h⟩

theorem Tryz.info34 : (Tryz.prog.info? 34).map (fun i => (i.zero, i.size, i.bytes)) = some (some (.agg #[.string ⟨#[]⟩, .int .i64 0, .int .i64 0, .int .i64 0, .string ⟨#[]⟩, .slice none 0 0]), 6, 80) := by kernel_rfl
def ccells : List Cd → List Value → List Value
  | c :: l, u :: us => c.cells u ++ ccells l us
  | _, _ => []
theorem ccells_len : ∀ (l : List Cd) (us : List Value), us.length = l.length → (ccells l us).length = l.length * 6
  | [], [], _ => rfl
  | c :: l, u :: us, h => by
    have := ccells_len l us (by simpa using h)
    simp only [ccells, Cd.cells, List.length_append, this, List.length_cons, List.length_nil]; omega
theorem ccells_snoc : ∀ (l : List Cd) (us : List Value) (c : Cd) (u : Value), us.length = l.length → ccells (l ++ [c]) (us ++ [u]) = ccells l us ++ c.cells u
  | [], [], c, u, _ => by simp [ccells]
  | d :: l, v :: us, c, u, h => by
    have := ccells_snoc l us c u (by simpa using h)
    simp only [List.cons_append, ccells, this, List.append_assoc]
theorem ccells_get : ∀ (l : List Cd) (us : List Value), us.length = l.length → ∀ i (h : i < l.length) (h' : i < us.length) (j : Nat) (u : Value), (l[i].cells us[i])[j]? = some u → (ccells l us)[i * 6 + j]? = some u
  | c :: l, v :: us, _, 0, _, _, j, u, hu => by
    have hu : (c.cells v)[j]? = some u := hu
    have hj : j < (c.cells v).length := (List.getElem?_eq_some_iff.1 hu).1
    rw [Nat.zero_mul, Nat.zero_add, ccells, List.getElem?_append_left hj]
    exact hu
  | c :: l, v :: us, hl, i + 1, h, h', j, u, hu => by
    have ih := ccells_get l us (by simpa using hl) i (by simpa using h) (by simpa using h') j u hu
    have hc : (c.cells v).length = 6 := rfl
    rw [ccells, List.getElem?_append_right (by rw [hc]; omega), hc, show (i + 1) * 6 + j - 6 = i * 6 + j by omega]
    exact ih
/-- v is a list of the call's own that reads as the conditions l; the inner lists lie in other blocks, at base or above. -/
def CsOwn (w : World) (base : Nat) (v : Value) (l : List Cd) : Prop :=
  ∃ us : List Value, us.length = l.length ∧ w.ownsRow base 34 6 v l.length (ccells l us) ∧ (∀ i (h : i < l.length), l[i].Ok) ∧
    ∀ i (h : i < l.length) (h' : i < us.length), ItsAt w (fun g => base ≤ g ∧ some g ≠ v.ownBlock ∧ g < w.heap.size) us[i] l[i].item.list
theorem CsOwn.form {w : World} {base : Nat} {v : Value} {l : List Cd} (h : CsOwn w base v l) : ∃ a c, v = .slice a l.length c := by
  obtain ⟨us, _, how, _⟩ := h
  rcases how.2 with ⟨h', h0⟩ | ⟨g, cap, cur, h', _⟩
  · exact ⟨none, 0, by rw [h', h0]⟩
  · exact ⟨_, cap, h'⟩
theorem CsOwn.blk {w : World} {base : Nat} {v : Value} {l : List Cd} (h : CsOwn w base v l) (k : Nat) (hk : v.ownBlock = some k) : base ≤ k ∧ k < w.heap.size := by
  obtain ⟨us, hus, how, hok, hin⟩ := h
  exact owns_blk how k hk
theorem CsOwn.keep {w w' : World} {base : Nat} {v : Value} {l : List Cd} (h : CsOwn w base v l) (hb : Below w.heap.size w w') : CsOwn w' base v l := by
  obtain ⟨us, hus, how, hok, hin⟩ := h
  exact ⟨us, hus, owns_keep how hb, hok, fun i h h' => ((hin i h h').keep hb).imp fun k hk => ⟨hk.1, hk.2.1, Nat.lt_of_lt_of_le hk.2.2 hb.size⟩⟩
theorem cell_ownedC {w : World} {base : Nat} {v : Value} {n : Nat} {xs : List Value} {g cap : Nat} (h : w.ownsRow base 34 6 v n xs) (hv : v = .slice (some ⟨g, 0, none⟩) n cap) (i : Nat) (u : Value) (hu : xs[i]? = some u) : w.cell? ⟨g, i, none⟩ = some u := by
  rcases h.2 with ⟨h', _⟩ | ⟨g', cap', cur, h', _, hg, _, _, _, ht⟩
  · rw [h'] at hv; cases hv
  · rw [h'] at hv
    cases hv
    rw [cell_of_row _ g i cur 34 (0, 0) hg]
    rw [← ht, List.getElem?_take] at hu
    split at hu
    · simpa using hu
    · cases hu
/-- The beginning of a list of the call's own. -/
theorem CsOwn.head {w : World} {base : Nat} {a : Option Addr} {n cap cap' : Nat} {l m : List Cd} (h : CsOwn w base (.slice a n cap) (l ++ m)) (hl : l.length ≤ 1759218604390) : CsAt w (fun g => base ≤ g) (.slice a l.length cap') l := by
  obtain ⟨us, hus, how, hok, hin⟩ := h
  rcases how.2 with ⟨h', h0⟩ | ⟨g, cap, cur, h', _⟩
  · have : l.length = 0 := by rw [List.length_append] at h0; omega
    have e := List.length_eq_zero_iff.1 this
    subst e
    exact cs_nil _ _ _ _
  · cases h'
    refine ⟨_, g, 0, cap', fun i => us.getD i (.bool false), rfl, hl, fun h => ⟨rfl, ?_⟩, fun i hi => ?_⟩
    · exact (owns_blk how g rfl).1
    · have hi2 : i < (l ++ m).length := by rw [List.length_append]; omega
      have hi3 : i < us.length := by omega
      have e1 : (l ++ m)[i] = l[i] := List.getElem_append_left hi
      have e2 : us.getD i (.bool false) = us[i] := by rw [List.getD, List.getElem?_eq_getElem hi3]; rfl
      have k1 := hok i hi2
      have k2 := hin i hi2 hi3
      rw [e1] at k1 k2
      refine ⟨k1, fun j u hu => ?_, ?_⟩
      · replace hu : (l[i].cells us[i])[j]? = some u := by rw [← e2]; exact hu
        rw [Nat.zero_add]
        exact cell_ownedC how rfl _ _ (ccells_get _ _ hus i hi2 hi3 j u (by rw [e1]; exact hu))
      · show ItsAt w _ (us.getD i (.bool false)) _
        rw [e2]
        exact k2.imp fun k hk => hk.1
theorem CsOwn.at' {w : World} {base : Nat} {v : Value} {l : List Cd} (h : CsOwn w base v l) (hl : l.length ≤ 1759218604390) : CsAt w (fun g => base ≤ g) v l := by
  obtain ⟨a, c, rfl⟩ := h.form
  have h2 : CsOwn w base (.slice a l.length c) (l ++ []) := by rw [List.append_nil]; exact h
  exact h2.head hl
theorem push_cown {w4 w5 : World} {base H : Nat} {v : Value} {l : List Cd} {us : List Value} {x : Cd} {u : Value} {g cap : Nat} (hus : us.length = l.length) (hok : ∀ i (h : i < l.length), l[i].Ok)
    (hin : ∀ i (h : i < l.length) (h' : i < us.length), ItsAt w4 (fun g => base ≤ g ∧ some g ≠ v.ownBlock ∧ g < w4.heap.size) us[i] l[i].item.list) (hx : x.Ok)
    (hu : ItsAt w4 (fun g => base ≤ g ∧ some g ≠ v.ownBlock ∧ g < w4.heap.size) u x.item.list)
    (hown : w5.ownsRow base 34 6 (.slice (some ⟨g, 0, none⟩) (l.length + 1) cap) (l.length + 1) (ccells l us ++ x.cells u))
    (hgrow : w4.grownBy w5 v.ownBlock) (hat : v.ownBlock = some g ∨ g = H) (hH : w4.heap.size = H) : CsOwn w5 base (.slice (some ⟨g, 0, none⟩) (l.length + 1) cap) (l ++ [x]) := by
  have hbut : But w4 w5 v.ownBlock := ⟨hgrow.size, hgrow.block⟩
  have lift : ∀ (u' : Value) (l' : List It), ItsAt w4 (fun g => base ≤ g ∧ some g ≠ v.ownBlock ∧ g < w4.heap.size) u' l' → ItsAt w5 (fun k => base ≤ k ∧ some k ≠ (Value.slice (some ⟨g, 0, none⟩) (l.length + 1) cap).ownBlock ∧ k < w5.heap.size) u' l' := fun u' l' h =>
    (h.but hbut (fun g hg => hg.2.1)).imp fun k hk => ⟨hk.1, by
      simp only [Value.ownBlock]
      rcases hat with e | e
      · rw [← e]; exact hk.2.1
      · intro e'; have := Option.some.inj e'; have := hk.2.2; omega, Nat.lt_of_lt_of_le hk.2.2 hgrow.size⟩
  refine ⟨us ++ [u], by simp [hus], ?_, ?_, ?_⟩
  · rw [ccells_snoc l us x u hus]
    simpa using hown
  · intro i h
    rcases Nat.lt_or_ge i l.length with h1 | h1
    · rw [List.getElem_append_left h1]; exact hok i h1
    · rw [List.getElem_append_right h1]; simpa using hx
  · intro i h h'
    rcases Nat.lt_or_ge i l.length with h1 | h1
    · rw [List.getElem_append_left h1, List.getElem_append_left (by omega)]
      exact lift _ _ (hin i h1 (by omega))
    · rw [List.getElem_append_right h1, List.getElem_append_right (by omega)]
      simp only [List.getElem_singleton]
      exact lift _ _ hu
/-- How much of the conditions is counted. -/
def cntC : List Cd → Nat
  | [] => 0
  | c :: l => c.field.size + c.item.cnt + cntC l
theorem cntC_append (a b : List Cd) : cntC (a ++ b) = cntC a + cntC b := by
  induction a with
  | nil => simp [cntC]
  | cons c a ih => simp only [List.cons_append, cntC, ih]; omega
theorem cntC_take_succ (l : List Cd) (i : Nat) (h : i < l.length) : cntC (l.take (i + 1)) = cntC (l.take i) + (l[i].field.size + l[i].item.cnt) := by
  rw [List.take_succ_eq_append_getElem h, cntC_append]; rfl
end Go.Proofs.YtageokjobbjddaaGreatDoor

namespace Go.Proofs.YtageokjobbjddaaGreatDoor
open Go.RowKit

theorem results_row_tmp {P : Program} {fn : Func} {p u : Tmp} {ty : TypeId} (h : fn.results = #[.cell p ty, .tmp u]) (tmps : Array Value) (w : World) (g : Nat) (t : TypeId) (cs : Array Value) (fr : Nat × Nat) (d : TypeDesc)
    (hp : tmps.getD p undef = .pointer (some ⟨g, 0, none⟩)) (hg : w.heap[g]? = some (.cells cs t fr)) (hu : P.underlying ty = some d) (hd : (match d with | .struct _ | .array _ _ => true | _ => false) = true) (hi : (P.info? ty).map (·.size) = some cs.size) :
    (results fn tmps).run P w = .ok (.tuple #[.agg cs, tmps.getD u undef]) w := by
  rw [results_cell_tmp h tmps P w, hp]
  simp [asAddr, run_loadVar_row w g t ty cs fr d hg hu hd hi, Result.andThen]
/-- A block that is a whole row. -/
def RowAt (w : World) (b : Nat) (cs : Array Value) (t : TypeId) : Prop := w.heap[b]? = some (.cells cs t (0, 0))
section
variable {w w' : World} {b : Nat} {cs : Array Value} {t : TypeId}
theorem RowAt.cell (h : RowAt w b cs t) (j : Nat) (hj : j < cs.size) : w.cell? ⟨b, j, none⟩ = some cs[j] := by
  rw [cell_of_row _ _ _ _ _ _ h]; simp [hj]
theorem RowAt.free (h : RowAt w b cs t) (j : Nat) : w.frozen? ⟨b, j, none⟩ = false := frozen_of_row _ _ _ _ _ h
theorem RowAt.lt (h : RowAt w b cs t) : b < w.heap.size := by
  rcases Nat.lt_or_ge b w.heap.size with h' | h'
  · exact h'
  · unfold RowAt at h; rw [Array.getElem?_eq_none h'] at h; cases h
theorem RowAt.below (h : RowAt w b cs t) (hb : Below w.heap.size w w') : RowAt w' b cs t := by
  unfold RowAt; rw [hb.block b h.lt]; exact h
theorem RowAt.new (w : World) (cs : Array Value) (t : TypeId) : RowAt (w.alloc (.cells cs t)) w.heap.size cs t := heap_alloc_new w _
theorem RowAt.other {g j : Nat} (h : RowAt w b cs t) (hne : b ≠ g) (u : Value) : RowAt (w.setCell ⟨g, j, none⟩ u) b cs t := by
  unfold RowAt; rw [Below.heap_setCell _ _ _ _ (fun e => hne e)]; exact h
/-- The cells of a query's row. -/
theorem RowAt.q5 {x0 x1 x2 x3 x4 : Value} (h : RowAt w b #[x0, x1, x2, x3, x4] t) : w.cell? ⟨b, 0, none⟩ = some x0 ∧ w.cell? ⟨b, 1, none⟩ = some x1 ∧ w.cell? ⟨b, 2, none⟩ = some x2 ∧ w.cell? ⟨b, 3, none⟩ = some x3 ∧ w.cell? ⟨b, 4, none⟩ = some x4 := ⟨h.cell 0 (by simp), h.cell 1 (by simp), h.cell 2 (by simp), h.cell 3 (by simp), h.cell 4 (by simp)⟩
theorem RowAt.q6 {x0 x1 x2 x3 x4 x5 : Value} (h : RowAt w b #[x0, x1, x2, x3, x4, x5] t) : w.cell? ⟨b, 0, none⟩ = some x0 ∧ w.cell? ⟨b, 1, none⟩ = some x1 ∧ w.cell? ⟨b, 2, none⟩ = some x2 ∧ w.cell? ⟨b, 3, none⟩ = some x3 ∧ w.cell? ⟨b, 4, none⟩ = some x4 ∧ w.cell? ⟨b, 5, none⟩ = some x5 := ⟨h.cell 0 (by simp), h.cell 1 (by simp), h.cell 2 (by simp), h.cell 3 (by simp), h.cell 4 (by simp), h.cell 5 (by simp)⟩
end
theorem hide {p : Prop} (h : p) : Hid p := h
theorem below_drewN' {B : Nat} {a w : World} (h : Below B a w) (n : Nat) : Below B a (w.drewN n) := ⟨h.os, h.tape, h.output, h.size, h.block⟩
/-- A query's value. -/
abbrev qV (q : Qd) (cv : Value) : Array Value := #[.string q.table, cv, .string q.order, .bool q.falling, .int .i64 q.limit]
/-- One item, in a block of its own. -/
theorem its_one {w : World} {F : Nat → Prop} {g : Nat} {x : It} {u : Value} {t : TypeId} (hr : RowAt w g #[.int .i64 x.kind, .int .i64 x.num, .string x.text, u] t) (hg : F g) (hx : x.Ok) (hu : ItsAt w F u x.list) : ItsAt w F (.slice (some ⟨g, 0, none⟩) 1 1) [x] := by
  refine .mk _ g 0 1 [x] (fun _ => u) (by simp) (fun _ => ⟨rfl, hg⟩) (fun i h => ?_) (fun i h => ?_) (fun i h => ?_) (fun i h => ?_) (fun i h => ?_) (fun i h => ?_)
  all_goals
    have e : i = 0 := by simpa using h
    subst e
  · exact hx
  · exact hr.cell 0 (by simp)
  · exact hr.cell 1 (by simp)
  · exact hr.cell 2 (by simp)
  · exact hr.cell 3 (by simp)
  · exact hu
theorem wpList_store_eq {P : Program} {ops : Array Oper} {rest : List Oper} {op : Oper} {a : Act} {w w' : World} {Q : Exit → Act → World → Prop} (hgd : op.guard = none) (ty : TypeId) (x y : Operand) (ho : op.op = .store ty x y)
    (p v : Value) (hx : a.eval x = p) (hy : a.eval y = v) (hrun : (Instr.storeAt ty p v).run P w = .ok () w') (h : wpList P ops Q rest (a.put op.dst undef) w') : wpList P ops Q (op :: rest) a w :=
  wpList_plain hgd fun _ hK => by
    unfold Oper.wp execOp
    simp only [ho, hx, hy, Sem.run_bind, hrun, Result.andThen_ok, Sem.run_pure]
    exact hK _ _ h
/-- A store of a whole struct. -/
theorem store_row (w : World) (H : Nat) (t : TypeId) (old cs : Array Value) (hr : RowAt w H old t) (hi : (Tryz.prog.info? t).map (·.size) = some cs.size) (ho : old.size = cs.size) (h1 : cs.all Value.oneCell' = true) : (Instr.storeAt t (.pointer (some ⟨H, 0, none⟩)) (.agg cs)).run Tryz.prog w = .ok () (w.setRow H cs) := by
  have := run_storeVar_row (P := Tryz.prog) w H t t old cs hr hi ho h1
  simp only [Instr.storeAt, Instr.sureAddr, Sem.run_bind, Sem.run_pure, Result.andThen_ok, this]
theorem row_set (w : World) (H : Nat) (t : TypeId) (old cs : Array Value) (hr : RowAt w H old t) : RowAt (w.setRow H cs) H cs t := setRow_heap w H old cs _ _ hr
theorem but_row (w : World) (H : Nat) (cs : Array Value) : But w (w.setRow H cs) (some H) := by
  have h := below_setRow (Below.refl H w) (Nat.le_refl H) cs
  refine ⟨h.size, fun k hk hne => ?_⟩
  exact setRow_other w H k cs (fun e => hne (by rw [e]))
theorem CsOwn.but {w w' : World} {base k : Nat} {v : Value} {l : List Cd} (h : CsOwn w base v l) (hb : But w w' (some k)) (hk : k < base) : CsOwn w' base v l := by
  obtain ⟨us, hus, how, hok, hin⟩ := h
  refine ⟨us, hus, ⟨how.1, ?_⟩, hok, fun i h h' => ((hin i h h').but hb (fun g hg e => by have := Option.some.inj e; have := hg.1; omega)).imp fun k hk => ⟨hk.1, hk.2.1, Nat.lt_of_lt_of_le hk.2.2 hb.size⟩⟩
  rcases how.2 with h' | ⟨g, cap, cur, h', h1, hg, hr⟩
  · exact .inl h'
  · exact .inr ⟨g, cap, cur, h', h1, (hb.block g (Array.getElem?_eq_some_iff.1 hg).1 (fun e => by have := Option.some.inj e; omega)).trans hg, hr⟩
theorem CsOwn.mono {w : World} {base b2 : Nat} {v : Value} {l : List Cd} (h : CsOwn w base v l) (hb : b2 ≤ base) : CsOwn w b2 v l := by
  obtain ⟨us, hus, how, hok, hin⟩ := h
  refine ⟨us, hus, ⟨how.1, ?_⟩, hok, fun i h h' => (hin i h h').imp fun k hk => ⟨Nat.le_trans hb hk.1, hk.2⟩⟩
  rcases how.2 with h' | ⟨g, cap, cur, h', h1, hg, hr⟩
  · exact .inl h'
  · exact .inr ⟨g, cap, cur, h', Nat.le_trans hb h1, hg, hr⟩
theorem cnt_one (x : It) : cntL [x] = x.cnt := by simp [cntL]
end Go.Proofs.YtageokjobbjddaaGreatDoor

namespace Go.Proofs.YtageokjobbjddaaGreatDoor
open Go.RowKit

def u8s (l : List UInt8) : List Value := l.map (fun c => Value.int .u8 (c.toNat : Int))
theorem u8s_length (l : List UInt8) : (u8s l).length = l.length := by simp [u8s]
theorem u8s_append (a b : List UInt8) : u8s (a ++ b) = u8s a ++ u8s b := by simp [u8s]
theorem u8s_get (l : List UInt8) (j : Nat) (h : j < l.length) : (u8s l)[j]? = some (.int .u8 (l[j].toNat : Int)) := by simp [u8s, h]
theorem u8s_one (l : List UInt8) : ∀ u ∈ u8s l, u.oneCell' = true := by
  intro u hu
  simp only [u8s, List.mem_map] at hu
  obtain ⟨c, _, rfl⟩ := hu
  rfl
theorem Tryz.info5 : (Tryz.prog.info? 5).map (fun i => (i.zero, i.size, i.bytes)) = some (some (.int .u8 0), 1, 1) := by kernel_rfl

def byteOf (n : Int) : UInt8 := UInt8.ofNat (n % 256).toNat
theorem wrap_u8 (n : Int) : IntKind.u8.wrap n = n % 256 := by simp [IntKind.wrap, IntKind.bits, IntKind.signed]
theorem byteOf_nat (n : Int) : ((byteOf n).toNat : Int) = n % 256 := by
  unfold byteOf
  have h1 : 0 ≤ n % 256 := Int.emod_nonneg _ (by decide)
  have h2 : n % 256 < 256 := Int.emod_lt_of_pos _ (by decide)
  rw [UInt8.toNat_ofNat']
  rw [Nat.mod_eq_of_lt (by omega)]
  omega
theorem byteOf_wrap (n : Int) : IntKind.u8.wrap n = ((byteOf n).toNat : Int) := by rw [wrap_u8, byteOf_nat]

/-- The bytes of a text within a list's. -/
def escL (t : List UInt8) : List UInt8 := t.flatMap fun c => if c = 0 then [0, 255] else [c]
def encT (t : List UInt8) : List UInt8 := escL t ++ [0, 0]
/-- Eight bytes, the highest first, of a number below 2^64. -/
def byteAt (m i : Nat) : UInt8 := UInt8.ofNat (m / 2 ^ (8 * i) % 256)
def be8 (m : Nat) : List UInt8 := [byteAt m 7, byteAt m 6, byteAt m 5, byteAt m 4, byteAt m 3, byteAt m 2, byteAt m 1, byteAt m 0]
def biased (n : Int) : Nat := (n + 9223372036854775808).toNat
def num8 (n : Int) : List UInt8 := be8 (biased n)
theorem be8_rev (m : Nat) : be8 m = ((List.range 8).reverse.map (byteAt m)) := rfl
theorem bias_eq (n : Int) (h1 : -9223372036854775808 ≤ n) (h2 : n ≤ 9223372036854775807) : IntKind.u64.wrap (IntKind.u64.wrap n + 9223372036854775808) = ((biased n : Nat) : Int) := by
  unfold biased
  simp [IntKind.wrap, IntKind.bits, IntKind.signed]
  omega
theorem biased_lt (n : Int) (h1 : -9223372036854775808 ≤ n) (h2 : n ≤ 9223372036854775807) : biased n < 18446744073709551616 := by
  unfold biased; omega
theorem dig_val (n k : Nat) : (n : Int) / 2 ^ (8 * k) % 256 = ((byteAt n k).toNat : Int) := by
  unfold byteAt
  generalize hx : n / 2 ^ (8 * k) = x
  have e : (n : Int) / 2 ^ (8 * k) = (x : Int) := by
    rw [← hx]
    simp [Int.natCast_ediv, Int.natCast_pow]
  rw [e, UInt8.toNat_ofNat']
  omega
theorem be8_take (m k : Nat) (h : k < 8) : (be8 m).take (k + 1) = (be8 m).take k ++ [byteAt m (7 - k)] := by
  match k, h with
  | 0, _ => rfl
  | 1, _ => rfl
  | 2, _ => rfl
  | 3, _ => rfl
  | 4, _ => rfl
  | 5, _ => rfl
  | 6, _ => rfl
  | 7, _ => rfl
def bodyOf (k n : Int) (t : List UInt8) (inner : List UInt8) : List UInt8 :=
  if k = 2 then [byteOf n] else if k = 3 then num8 n else if k = 4 then encT t else if k = 5 then inner ++ [0] else []
mutual
def It.enc : It → List UInt8
  | .mk k n t l => byteOf k :: bodyOf k n t.data.toList (encL l)
def encL : List It → List UInt8
  | [] => []
  | x :: r => x.enc ++ encL r
end
theorem It.enc_eq (x : It) : x.enc = byteOf x.kind :: bodyOf x.kind x.num x.text.data.toList (encL x.list) := by cases x; simp only [It.enc, It.kind, It.num, It.text, It.list]
theorem encL_append (a b : List It) : encL (a ++ b) = encL a ++ encL b := by
  induction a with
  | nil => simp [encL]
  | cons x r ih => simp only [List.cons_append, encL, ih, List.append_assoc]
theorem encL_take_succ (l : List It) (i : Nat) (h : i < l.length) : encL (l.take (i + 1)) = encL (l.take i) ++ l[i].enc := by
  rw [List.take_succ_eq_append_getElem h, encL_append]
  simp only [encL, List.append_nil]
theorem encL_take_le (l : List It) (i : Nat) : (encL (l.take i)).length ≤ (encL l).length := by
  have := encL_append (l.take i) (l.drop i)
  rw [List.take_append_drop] at this
  rw [this, List.length_append]
  omega

/-- o1 is o with e behind it, where that has no more than 65536 bytes; else it is cut somewhere, and too long. -/
structure Wrote (o e o1 : List UInt8) : Prop where
  fits : o.length + e.length ≤ 65536 → o1 = o ++ e
  over : 65536 < o.length + e.length → 65536 < o1.length
  most : o1.length ≤ o.length + e.length
theorem Wrote.all (o e : List UInt8) : Wrote o e (o ++ e) := ⟨fun _ => rfl, fun h => by simpa using h, by simp⟩
theorem Wrote.nil (o : List UInt8) : Wrote o [] o := ⟨fun _ => by simp, fun h => by simpa using h, by simp⟩
theorem Wrote.stop {o : List UInt8} (e : List UInt8) (h : 65536 < o.length) : Wrote o e o := ⟨fun h' => by omega, fun _ => h, by omega⟩
theorem Wrote.next {o e1 o1 e2 o2 : List UInt8} (h : Wrote o e1 o1) (k : Wrote o1 e2 o2) : Wrote o (e1 ++ e2) o2 := by
  have e : (e1 ++ e2).length = e1.length + e2.length := List.length_append
  refine ⟨fun hl => ?_, fun hl => ?_, ?_⟩
  · rw [e] at hl
    have e1 := h.fits (by omega)
    have e2 := k.fits (by rw [e1, List.length_append]; omega)
    rw [e2, e1, List.append_assoc]
  · rw [e] at hl
    by_cases hc : 65536 < o.length + e1.length
    · have := h.over hc
      exact k.over (by omega)
    · have e1 := h.fits (by omega)
      exact k.over (by rw [e1, List.length_append]; omega)
  · have := h.most; have := k.most; omega
theorem Wrote.skip {o e1 o1 : List UInt8} (e2 : List UInt8) (h : Wrote o e1 o1) (hl : 65536 < o1.length) : Wrote o (e1 ++ e2) o1 := h.next (Wrote.stop e2 hl)

theorem u8s_two (a b : Int) : ∀ u ∈ [Value.int .u8 a, Value.int .u8 b], u.oneCell' = true := by
  intro u hu; simp at hu; rcases hu with rfl | rfl <;> rfl
theorem pushed {base : Nat} {wr w1 : World} {o es : List UInt8} {v v' : Value} {ob : Obj} (hb : base ≤ wr.heap.size) (hown : wr.ownsRow base 5 1 v o.length (u8s o))
    (hown' : w1.ownsRow base 5 1 v' (o.length + es.length) (u8s o ++ u8s es)) (hgrow : (wr.alloc ob).grownBy w1 v.ownBlock) : w1.ownsRow base 5 1 v' (o ++ es).length (u8s (o ++ es)) ∧ Below base wr w1 := by
  refine ⟨by rw [u8s_append, List.length_append]; exact hown', ?_⟩
  exact ((Below.refl base wr).alloc hb _).grown hgrow (by simp; omega) (fun k hk => (hown.lt k hk).1)
theorem escL_take (t : List UInt8) (k : Nat) (h : k < t.length) : escL (t.take (k + 1)) = escL (t.take k) ++ (if t[k] = 0 then [0, 255] else [t[k]]) := by
  unfold escL
  rw [List.take_succ_eq_append_getElem h, List.flatMap_append]
  congr 1
  simp
theorem escL_take_le (t : List UInt8) (k : Nat) : (escL (t.take k)).length ≤ (escL t).length := by
  have : escL t = escL (t.take k) ++ escL (t.drop k) := by
    simp only [escL, ← List.flatMap_append, List.take_append_drop]
  rw [this, List.length_append]
  omega

end Go.Proofs.YtageokjobbjddaaGreatDoor

namespace Go.Proofs.YtageokjobbjddaaGreatDoor
open Go.RowKit

set_option maxHeartbeats 400000 in
theorem appNum_any (base : Nat) (num : Int) (h1 : -9223372036854775808 ≤ num) (h2 : num ≤ 9223372036854775807) (o : List UInt8) (v : Value) (w : World) (hbase : base ≤ w.heap.size)
    (ho : w.ownsRow base 5 1 v o.length (u8s o)) (hsz : o.length ≤ 100000000000000) :
    Calls Tryz.prog 94 #[v, .int .i64 num] w fun e w' => ∃ v', e = .returned v' ∧ w'.ownsRow base 5 1 v' (o ++ num8 num).length (u8s (o ++ num8 num)) ∧ Below base w w' := by
  obtain ⟨i0, hi, hz0, hz1, hz2⟩ := info_parts Tryz.info5
  go_enter Tryz.func94, Tryz.ntmps94
  go_wp2_with fail
  rw [bias_eq num h1 h2]
  have HM : Hid (num8 num = be8 (biased num)) := rfl
  have hM := biased_lt num h1 h2
  generalize biased num = M at *
  go_loopw [0, 6] (fun v i wr => ∃ (k : Nat) (p : List UInt8), k ≤ 8 ∧ i = .int .i64 (7 - (k : Int)) ∧ p = o ++ (be8 M).take k ∧ wr.ownsRow base 5 1 v p.length (u8s p) ∧ Below base w wr) (fun _ i _ => (intOf i + 1).toNat)
  case atStart => exact ⟨0, o, Nat.zero_le _, by go_num, by simp, ho, Below.refl _ _⟩
  case round =>
    obtain ⟨k, p, hk, rfl, hp, hown, hbl⟩ := hrel
    have hbs := hbl.size
    have hpl : p.length = o.length + k := by rw [hp, List.length_append, List.length_take]; simp [be8]; omega
    have HP : Hid (p = o ++ (be8 M).take k) := hp
    have hpb : p.length ≤ o.length + 8 := by omega
    clear hp hpl ho
    by_cases hlt : k < 8
    · obtain ⟨j, hj⟩ : ∃ j : Nat, (7 : Int) - k = (j : Int) := ⟨7 - k, by omega⟩
      rw [hj]
      have hv := dig_val M j
      have HS : Hid (p ++ [byteAt M j] = o ++ (be8 M).take (k + 1)) := by
        show _ = _
        rw [be8_take M k hlt, HP.out, List.append_assoc, show 7 - k = j by omega]
      have HJ : Hid ((7 : Int) - k = (j : Int)) := hj
      have hj8 : j < 8 := by omega
      have j0 : (0 : Int) ≤ (j : Int) := Int.natCast_nonneg j
      clear hj
      generalize byteAt M j = dg at *
      go_wp2_with (first
          | (at_builtin; refine wpList_append_lies _ rfl _ _ 48 rfl base 5 i0 (.int .u8 0) 1 1 Tryz.underlying48 hi hz0 hz1 hz2 rfl (by decide) _ _ _ rfl (hown.alloc _) ⟨wr.heap.size, 0, none⟩ 1 1 [.int .u8 (dg.toNat : Int)] rfl rfl ?c1 ?c2 ?c3 ?c4 ?c5 ?c6 (wr.heap.size + 1) ?c7 ?_))
      case c1 => exact World.news_of_block (heap_alloc_new wr (.cells #[.int .u8 (dg.toNat : Int)] 5))
      case c2 => intro u hu; simp at hu; subst hu; rfl
      case c3 => decide
      case c4 => unfold maxLen; omega
      case c5 => omega
      case c6 => simp; omega
      case c7 => simp
      intro g cap w1 hown' hgrow hat hlg
      obtain ⟨hown2, hb1⟩ := pushed (es := [dg]) (by omega) hown hown' hgrow
      have HB : Hid (Below base w w1) := hbl.trans hb1
      have HO : Hid (w1.ownsRow base 5 1 (.slice (some ⟨g, 0, none⟩) (p.length + 1) cap) (p ++ [dg]).length (u8s (p ++ [dg]))) := hown2
      clear hown' hgrow hown hat hlg hbl hb1 hown2
      go_wp2_with fail
      go_roundw
      case rel => exact ⟨k + 1, p ++ [dg], by omega, by have := HJ.out; go_num, HS.out, HO.out, HB.out⟩
      case measure => simp [intOf]
    · have hke : k = 8 := by omega
      subst hke
      have HF : Hid (p = o ++ num8 num) := by
        show p = _
        rw [HP.out, HM.out, List.take_of_length_le (by simp [be8])]
      clear HP
      go_wp2_with fail
      go_ret
      exact ⟨_, rfl, by rw [← HF.out]; exact hown, hbl⟩

end Go.Proofs.YtageokjobbjddaaGreatDoor
