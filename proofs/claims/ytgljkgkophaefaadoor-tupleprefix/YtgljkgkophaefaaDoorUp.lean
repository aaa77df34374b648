import Derived.Test.YtgljkgkophaefaaDoorProg
import Derived.WalkKit
import Derived.WalkSpells
import Derived.WalkLawsBesides
import Derived.Laws.IdiomStrings
import Derived.Deep.AppendLies
import Derived.BigQuiet
import Derived.KernelRfl
namespace Go.Proofs.YtgljkgkophaefaaDoor
open Go.RowKit

/-- How many bytes are left of the first n once the bytes FF at their end are gone. -/
def cutFF (l : List UInt8) : Nat → Nat
  | 0 => 0
  | n + 1 => if l[n]? = some 255 then cutFF l n else n + 1
theorem cutFF_le (l : List UInt8) (n : Nat) : cutFF l n ≤ n := by
  induction n with
  | zero => exact Nat.le_refl _
  | succ n ih => unfold cutFF; split <;> omega
theorem cutFF_top (l : List UInt8) (n : Nat) (h : 0 < cutFF l n) : l[cutFF l n - 1]? ≠ some 255 := by
  induction n with
  | zero => simp [cutFF] at h
  | succ n ih =>
    unfold cutFF at h ⊢
    split
    · rename_i h1; rw [if_pos h1] at h; exact ih h
    · simpa using ‹¬ _›
theorem cutFF_ff (l : List UInt8) (n : Nat) (j : Nat) (h1 : cutFF l n ≤ j) (h2 : j < n) : l[j]? = some 255 := by
  induction n with
  | zero => omega
  | succ n ih =>
    unfold cutFF at h1
    split at h1
    · rcases Nat.lt_or_ge j n with h | h
      · exact ih h1 h
      · obtain rfl : j = n := by omega
        assumption
    · omega
def upL (l : List UInt8) (n : Nat) : List UInt8 := l.take (n - 1) ++ [l.getD (n - 1) 0 + 1]
def cutN (s : ByteArray) : Nat := cutFF s.data.toList s.size
def aboveB (s : ByteArray) : ByteArray := if cutN s = 0 then ⟨#[]⟩ else ⟨(upL s.data.toList (cutN s)).toArray⟩
def hasUp (s : ByteArray) : Bool := decide (cutN s ≠ 0)
theorem cutN_le (s : ByteArray) : cutN s ≤ s.size := cutFF_le _ _

end Go.Proofs.YtgljkgkophaefaaDoor
