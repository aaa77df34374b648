import Derived.Test.YtagldlchamlpdabDoorCutPv
import Derived.Test.YtagldlchamlpdabDoorCNum
import Derived.Test.YtagldlchamlpdabDoorBas2
namespace Go.Proofs.YtagldlchamlpdabDoor
open Go.RowKit

/-- What a cut answers, and the refusal's number. -/
def CutN (th : Nat) (f : Nat → Nat) (l : List Int) (i c : Nat) : Prop :=
  (l.length < th ∧ i = 0 ∧ c = 4) ∨ (th ≤ l.length ∧ ¬ FineL l ∧ i = 0 ∧ c = 1) ∨ (th ≤ l.length ∧ FineL l ∧ IsBest f (l.length - (th - 1)) i ∧ c = 0)
theorem CutN.unique {th : Nat} {f : Nat → Nat} {l : List Int} {i c i' c' : Nat} (h : CutN th f l i c) (k : CutN th f l i' c') : i = i' ∧ c = c' := by
  rcases h with ⟨h1, h2, h3⟩ | ⟨h1, hf, h2, h3⟩ | ⟨h1, hf, h2, h3⟩ <;> rcases k with ⟨k1, k2, k3⟩ | ⟨k1, kf, k2, k3⟩ | ⟨k1, kf, k2, k3⟩
  · omega
  · omega
  · omega
  · omega
  · omega
  · exact absurd kf hf
  · omega
  · exact absurd hf kf
  · exact ⟨h2.unique k2, by omega⟩
/-- A refusal's number. -/
def NumOf (A : Nat → Addr) (ev : Value) (c : Nat) : Prop :=
  (ev = .nilIface ∧ c = 0) ∨ (ev = .iface 167 (.pointer (some (A 0))) ∧ c = 1) ∨ (ev = .iface 167 (.pointer (some (A 1))) ∧ c = 2) ∨ (ev = .iface 167 (.pointer (some (A 2))) ∧ c = 3) ∨ (ev = .iface 167 (.pointer (some (A 3))) ∧ c = 4)
theorem num_of {A : Nat → Addr} {ev : Value} {c : Nat} (w : World) (h : NumOf A ev c) (hE : ErrsG 4 gAll A w) : Calls Tryd.prog 10 #[ev] w fun e w' => e = .returned (.int .i64 (c : Int)) ∧ w = w' := by
  rcases h with ⟨rfl, rfl⟩ | ⟨rfl, rfl⟩ | ⟨rfl, rfl⟩ | ⟨rfl, rfl⟩ | ⟨rfl, rfl⟩
  · exact num_nil w
  · exact num_arg A w hE
  · exact num_text A w hE
  · exact num_many A w hE
  · exact num_short A w hE
theorem CutV.num {A : Nat → Addr} {th : Nat} {f : Nat → Nat} {l : List Int} {e : Ending} (h : CutV A th f l e) : ∃ (i c : Nat) (ev : Value), e = .returned (.tuple #[.int .i64 (i : Int), ev]) ∧ CutN th f l i c ∧ NumOf A ev c := by
  rcases h with ⟨h1, rfl⟩ | ⟨h1, hf, rfl⟩ | ⟨h1, hf, i, rfl, hi⟩
  · exact ⟨0, 4, _, rfl, .inl ⟨h1, rfl, rfl⟩, .inr (.inr (.inr (.inr ⟨rfl, rfl⟩)))⟩
  · exact ⟨0, 1, _, rfl, .inr (.inl ⟨h1, hf, rfl, rfl⟩), .inr (.inl ⟨rfl, rfl⟩)⟩
  · exact ⟨i, 0, _, rfl, .inr (.inr ⟨h1, hf, hi, rfl⟩), .inl ⟨rfl, rfl⟩⟩
theorem RowR.ints {w : World} {v : Value} {l : List Int} (h : RowR w v (ints l)) : IntR w v l := by
  obtain ⟨a, cap, rfl, hle, _, hc⟩ := h
  rw [ints_length] at hle ⊢
  exact ⟨a, cap, rfl, hle, fun j hj => hc j _ (ints_get l j hj)⟩

end Go.Proofs.YtagldlchamlpdabDoor
