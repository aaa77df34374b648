import Derived.Test.YtgljkgkophaefabDoorMarks2
namespace Go.Proofs.YtgljkgkophaefabDoor
open Go.RowKit

/-- Of the blocks that were there all but bs are as they were. -/
structure OnlyB (bs : List Nat) (w w' : World) : Prop where
  os : w'.os = w.os
  tape : w'.tape = w.tape
  output : w'.output = w.output
  size : w.heap.size ≤ w'.heap.size
  block : ∀ k, k < w.heap.size → k ∉ bs → w'.heap[k]? = w.heap[k]?
theorem OnlyB.refl (bs : List Nat) (w : World) : OnlyB bs w w := ⟨rfl, rfl, rfl, Nat.le_refl _, fun _ _ _ => rfl⟩
theorem OnlyB.trans {bs : List Nat} {a b c : World} (h : OnlyB bs a b) (k : OnlyB bs b c) : OnlyB bs a c :=
  ⟨k.os.trans h.os, k.tape.trans h.tape, k.output.trans h.output, Nat.le_trans h.size k.size, fun i hi hn => (k.block i (Nat.lt_of_lt_of_le hi h.size) hn).trans (h.block i hi hn)⟩
theorem OnlyB.more {bs bs' : List Nat} {a b : World} (h : OnlyB bs a b) (hs : ∀ k ∈ bs, k ∈ bs') : OnlyB bs' a b :=
  ⟨h.os, h.tape, h.output, h.size, fun k hk hn => h.block k hk (fun hm => hn (hs k hm))⟩
theorem OnlyB.set (g o : Nat) (w : World) (u : Value) : OnlyB [g] w (w.setCell ⟨g, o, none⟩ u) :=
  ⟨rfl, rfl, rfl, by simp [World.setCell], fun k _ hn => heap_setCell_other w ⟨g, o, none⟩ k u (fun e => hn (by simp [e]))⟩
theorem Tr.only {w w' : World} {v : Value} {l : List It} {bs cs : List Nat} (h : Tr w v l bs) (hs : OnlyB cs w w') (hn : ∀ k ∈ bs, k ∉ cs) : Tr w' v l bs :=
  h.keep fun k hk => hs.block k (h.lt k hk) (hn k hk)

def MarksC (k : Nat) : Prop := ∀ (l : List It) (v : Value) (n : Nat) (bs : List Nat) (w : World), SizeOf.sizeOf l ≤ k → Tr w v l bs → n + cntL l ≤ 1000000000 →
    Calls Tryd.prog 19 #[v, .int .i64 (n : Int)] w fun e w' => e = .returned (.int .i64 ((n + cntL l : Nat) : Int)) ∧ Tr w' v (mkdL l n) bs ∧ OnlyB bs w w'
end Go.Proofs.YtgljkgkophaefabDoor
