import Derived.Test.YtdkckbfamecipaaDoorWBase
import Derived.Test.YtdkckbfamecipaaDoorPrR
import Derived.Lib.ItoaLen
namespace Go.Proofs.YtdkckbfamecipaaDoor
open Go.RowKit

/-! The lines of pairs, as data. -/
def putW : List UInt8 := [112, 117, 116]
def endW : List UInt8 := [101, 110, 100]
def itoaB (n : Int) : ByteArray := ⟨(Lib.itoa n).toArray⟩
/-- The fault that a pair brings in behind others (the refusal's number), or none. -/
def faultD (l : List Pr) (p : Pr) : Option Nat :=
  if mayP p = false then some 0 else
    match l.getLast? with
    | none => none
    | some q => if ltK q.1 p.1 = true then none else some 11
/-- Does a line's row of words begin with that one, with so many more? -/
def isD (ws : List ByteArray) (f : ByteArray) (m : Nat) : Bool := decide (ws.length = 1 + m) && decide (ws[0]? = some f)
inductive Ln where
  | bad
  | put (k v : ByteArray)
  | fin (n : ByteArray)
def lnD : Option (List ByteArray) → Ln
  | none => .bad
  | some ws => if isD ws (ba putW) 2 = true then .put (ws.getD 1 ⟨#[]⟩) (ws.getD 2 ⟨#[]⟩) else if isD ws (ba endW) 1 = true then .fin (ws.getD 1 ⟨#[]⟩) else .bad
/-- The words of a line. -/
def wsD (s : ByteArray) : Option (List (List UInt8)) := wordsD [] (skipB s.data.toList)
def lineD (s : ByteArray) : Ln := lnD ((wsD s).map (·.map ba))
/-- What Read answers: a refusal's number, or pairs. -/
def readD : List Pr → List ByteArray → Sum Nat (List Pr)
  | _, [] => .inl 3
  | acc, s :: r => match lineD s with
    | .bad => .inl 1
    | .put k v => (match faultD acc (k, v) with
      | some e => .inl e
      | none => readD (acc ++ [(k, v)]) r)
    | .fin n => if n = itoaB acc.length ∧ r = [] then .inr acc else .inl 1
theorem readD_bad {acc : List Pr} {s : ByteArray} {r : List ByteArray} (h : lineD s = .bad) : readD acc (s :: r) = .inl 1 := by
  rw [readD, h]
theorem readD_put {acc : List Pr} {s : ByteArray} {r : List ByteArray} {k v : ByteArray} (h : lineD s = .put k v) : readD acc (s :: r) = match faultD acc (k, v) with
      | some e => .inl e
      | none => readD (acc ++ [(k, v)]) r := by
  rw [readD, h]
theorem readD_fin {acc : List Pr} {s : ByteArray} {r : List ByteArray} {n : ByteArray} (h : lineD s = .fin n) : readD acc (s :: r) = if n = itoaB acc.length ∧ r = [] then .inr acc else .inl 1 := by
  rw [readD, h]
theorem put_end : ¬ ba putW = ba endW := fun h => by
  have := ba_inj h
  revert this; decide
theorem isD_len {ws : List ByteArray} {f : ByteArray} {m : Nat} (h : isD ws f m = true) : ws.length = 1 + m := by
  unfold isD at h
  rw [Bool.and_eq_true] at h
  exact of_decide_eq_true h.1
theorem faultD_kinds (l : List Pr) (p : Pr) : faultD l p = none ∨ faultD l p = some 0 ∨ faultD l p = some 11 := by
  unfold faultD
  split
  · exact .inr (.inl rfl)
  · split
    · exact .inl rfl
    · split
      · exact .inl rfl
      · exact .inr (.inr rfl)
theorem readD_kinds : ∀ (acc : List Pr) (ls : List ByteArray), readD acc ls = .inl 0 ∨ readD acc ls = .inl 1 ∨ readD acc ls = .inl 3 ∨ readD acc ls = .inl 11 ∨ ∃ l, readD acc ls = .inr l ∧ l.length ≤ acc.length + ls.length
  | acc, [] => .inr (.inr (.inl rfl))
  | acc, s :: r => by
    cases h : lineD s with
    | bad => rw [readD_bad h]; exact .inr (.inl rfl)
    | put k v =>
      rw [readD_put h]
      rcases faultD_kinds acc (k, v) with e | e | e
      · rw [e]
        rcases readD_kinds (acc ++ [(k, v)]) r with h | h | h | h | ⟨l, h, hl⟩
        · exact .inl h
        · exact .inr (.inl h)
        · exact .inr (.inr (.inl h))
        · exact .inr (.inr (.inr (.inl h)))
        · refine .inr (.inr (.inr (.inr ⟨l, h, ?_⟩)))
          rw [List.length_append, List.length_singleton] at hl
          rw [List.length_cons]; omega
      · rw [e]; exact .inl rfl
      · rw [e]; exact .inr (.inr (.inr (.inl rfl)))
    | fin n =>
      rw [readD_fin h]
      split
      · exact .inr (.inr (.inr (.inr ⟨acc, rfl, by omega⟩)))
      · exact .inr (.inl rfl)
end Go.Proofs.YtdkckbfamecipaaDoor
