import Derived.Test.YtddhjnfcbpookaaDoorQRef1
namespace Go.Proofs.YtddhjnfcbpookaaDoor
open Go.RowKit

/-- A field as plain data: its name, its kind. -/
abbrev Fd := ByteArray × Int
/-- The slice value v reads as the fields l. -/
def FsAt (w : World) (v : Value) (l : List Fd) : Prop :=
  ∃ (a : Option Addr) (g off cap : Nat), v = .slice a l.length cap ∧ l.length ≤ 17592186044416 ∧ (0 < l.length → a = some ⟨g, off, none⟩) ∧
    ∀ i (h : i < l.length), w.cell? ⟨g, off + i * 2, none⟩ = some (.string l[i].1) ∧ w.cell? ⟨g, off + i * 2 + 1, none⟩ = some (.int .i64 l[i].2)
theorem FsAt.form {w : World} {v : Value} {l : List Fd} (h : FsAt w v l) : ∃ a c, v = .slice a l.length c := by
  obtain ⟨a, g, off, cap, h, _⟩ := h
  exact ⟨a, cap, h⟩
theorem FsAt.len {w : World} {v : Value} {l : List Fd} (h : FsAt w v l) : l.length ≤ 17592186044416 := by
  obtain ⟨a, g, off, cap, _, h, _⟩ := h
  exact h
theorem FsAt.keep {w w' : World} {v : Value} {l : List Fd} (h : FsAt w v l) (hb : Below w.heap.size w w') : FsAt w' v l := by
  obtain ⟨a, g, off, cap, h1, h2, h3, h4⟩ := h
  exact ⟨a, g, off, cap, h1, h2, h3, fun i hi => ⟨cell_below hb (h4 i hi).1, cell_below hb (h4 i hi).2⟩⟩
theorem FsAt.get {w : World} {a : Option Addr} {n cap : Nat} {l : List Fd} (h : FsAt w (.slice a n cap) l) (i : Nat) (hi : i < l.length) : ∃ g off, a = some ⟨g, off, none⟩ ∧ w.cell? ⟨g, off + i * 2, none⟩ = some (.string l[i].1) ∧ w.cell? ⟨g, off + i * 2 + 1, none⟩ = some (.int .i64 l[i].2) := by
  obtain ⟨a', g, off, cap', h1, h2, h3, h4⟩ := h
  cases h1
  obtain rfl := h3 (by omega)
  exact ⟨g, off, rfl, h4 i hi⟩
/-- The number of the first field of that name; -1: there is none. -/
def fieldI (l : List Fd) (name : ByteArray) : Int :=
  match l.findIdx? (fun f => decide (f.1 = name)) with
  | some i => i
  | none => -1
theorem fieldI_at (l : List Fd) (name : ByteArray) (k : Nat) (hk : k < l.length) (h0 : ∀ j (h : j < l.length), j < k → l[j].1 ≠ name) (h : l[k].1 = name) : fieldI l name = (k : Int) := by
  have : l.findIdx? (fun f => decide (f.1 = name)) = some k := by
    rw [List.findIdx?_eq_some_iff_getElem]
    exact ⟨hk, by simp [h], fun j hj => by simp [h0 j (by omega) hj]⟩
  unfold fieldI
  rw [this]
theorem fieldI_none (l : List Fd) (name : ByteArray) (h0 : ∀ j (h : j < l.length), l[j].1 ≠ name) : fieldI l name = -1 := by
  have : l.findIdx? (fun f => decide (f.1 = name)) = none := by
    rw [List.findIdx?_eq_none_iff]
    intro x hx
    obtain ⟨j, hj, rfl⟩ := List.getElem_of_mem hx
    simp [h0 j hj]
  unfold fieldI
  rw [this]
theorem str_ne {a b : ByteArray} (h : a ≠ b) : (a.toList == b.toList) = false := by
  cases hb : (a.toList == b.toList) with
  | false => rfl
  | true => exact absurd ((string_eq_iff a b).1 hb) h
theorem str_eq (a : ByteArray) : (a.toList == a.toList) = true := (string_eq_iff a a).2 rfl
set_option maxHeartbeats 2000000 in
set_option maxRecDepth 100000 in
theorem field_any (tn name : ByteArray) (fv iv : Value) (l : List Fd) (w : World) (hf : FsAt w fv l) (hiv : ∃ a n c, iv = .slice a n c) :
    Calls Tryd.prog 23 #[.agg #[.string tn, fv, iv], .string name] w fun e w' => e = .returned (.int .i64 (fieldI l name)) ∧ Below w.heap.size w w' := by
  obtain ⟨r, hr⟩ : ∃ r, r = fieldI l name := ⟨_, rfl⟩
  rw [← hr]
  have HR := hide hr
  obtain ⟨fa, fc, hfv⟩ := hf.form
  obtain ⟨ia, im, ic, hiv⟩ := hiv
  subst hfv hiv
  have hlen := hf.len
  have q1 := below_new w (.cells #[.string tn, .slice fa l.length fc, .slice ia im ic] 25)
  have x1 := RowAt.new w #[.string tn, .slice fa l.length fc, .slice ia im ic] 25
  generalize hW1 : w.alloc (.cells #[.string tn, .slice fa l.length fc, .slice ia im ic] 25) = W1 at q1 x1
  have HW := hide hW1
  have HF := hide (hf.keep q1)
  have c1 := x1.cell 1 (by simp)
  simp only [List.getElem_toArray, List.getElem_cons_zero, List.getElem_cons_succ] at c1
  have HB := hide q1
  clear hf q1 x1 hW1 hr
  go_enter Tryd.func23, Tryd.ntmps23
  go_wp2
  rw [HW.out]
  go_loopw [5] (fun v wr => ∃ k : Nat, v = .int .i64 (k : Int) ∧ k ≤ l.length ∧ Hid (∀ j (h : j < l.length), j < k → l[j].1 ≠ name) ∧ wr = W1) (fun v _ => l.length - (intOf v).toNat)
  case atStart => exact ⟨0, rfl, Nat.zero_le _, fun j _ h => by omega, rfl⟩
  case round =>
    obtain ⟨k, rfl, hk, hall, rfl⟩ := hrel
    by_cases hlt : k < l.length
    · have hltI : (k : Int) < (l.length : Int) := by omega
      have e0 : (0 : Int) ≤ (k : Int) := by omega
      obtain ⟨g, off, hfa, s0, s1⟩ := HF.out.get k hlt
      subst hfa
      by_cases h1 : l[k].1 = name
      · have HE : Hid (r = (k : Int)) := by show _ = _; rw [HR.out]; exact fieldI_at l name k hlt hall.out h1
        have hq : (l[k].1.toList == name.toList) = true := by rw [h1]; exact str_eq _
        generalize l[k] = x at *
        clear h1 hall HF
        go_wp2
        go_ret
        exact ⟨by rw [HE.out]; rfl, HB.out⟩
      · have hq : (l[k].1.toList == name.toList) = false := str_ne h1
        have HA : Hid (∀ j (h : j < l.length), j < k + 1 → l[j].1 ≠ name) := fun j h hj => by
          by_cases e : j = k
          · subst e; exact h1
          · exact hall.out j h (by omega)
        have HJ : Hid (k + 1 ≤ l.length) := by show _ ≤ _; omega
        generalize l[k] = x at s0 s1 hq
        clear h1 hall
        go_wp2
        go_roundw
        case rel => exact ⟨k + 1, by go_num, HJ.out, HA, by first | trivial | rfl⟩
        case measure => simp [intOf]; omega
    · have hltI : ¬ (k : Int) < (l.length : Int) := by omega
      have HE : Hid (r = -1) := by show _ = _; rw [HR.out]; exact fieldI_none l name fun j h => hall.out j h (by omega)
      clear hall
      go_wp2
      go_ret
      exact ⟨by rw [HE.out]; rfl, HB.out⟩
end Go.Proofs.YtddhjnfcbpookaaDoor
