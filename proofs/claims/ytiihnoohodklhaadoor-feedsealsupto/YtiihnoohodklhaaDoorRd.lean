import Derived.Test.YtiihnoohodklhaaDoorCrc
namespace Go.Proofs.YtiihnoohodklhaaDoor
open Go.RowKit

/-- The slice value v reads as the bytes l. -/
def Rd (w : World) (v : Value) (l : List UInt8) : Prop :=
  (v = .slice none 0 0 ∧ l = []) ∨ ∃ g cap, v = .slice (some ⟨g, 0, none⟩) l.length cap ∧ l.length ≤ cap ∧ cap ≤ maxLen ∧ g < w.heap.size ∧ (∀ j (h : j < l.length), w.cell? ⟨g, j, none⟩ = some (.int .u8 (l[j].toNat : Int)))
def Tab (w : World) : Prop := (∀ j, j < 16 → w.cell? ⟨13, j, none⟩ = some (.int .u32 (tab j : Nat))) ∧ 13 < w.heap.size
def crcV (l : List UInt8) : Nat := nt (crcReg (nt 0) l)

theorem rd_of_owns {w : World} {base n : Nat} {v : Value} {l : List UInt8} (h : w.ownsRow base 5 1 v n (u8s l)) : Rd w v l := by
  have hl := h.1
  rw [u8s_length, Nat.mul_one] at hl
  subst hl
  by_cases h0 : l.length = 0
  · rcases h.2 with ⟨h', _⟩ | ⟨g, cap, cur, h', hb, hg, hn, hc, _, _⟩
    · exact .inl ⟨h', List.length_eq_zero_iff.1 h0⟩
    · refine .inr ⟨g, cap, h', hn, hc, ?_, fun j hj => by omega⟩
      rcases Nat.lt_or_ge g w.heap.size with hlt | hge
      · exact hlt
      · rw [Array.getElem?_eq_none hge] at hg; cases hg
  · obtain ⟨g, cap, rfl, hb, hlt⟩ := h.form (by omega)
    refine .inr ⟨g, cap, rfl, ?_, ?_, hlt, fun j hj => by rw [h.cellAt j (by omega), u8s_get l j hj]⟩
    · rcases h.2 with ⟨h', _⟩ | ⟨g', cap', cur, h', _, _, hn, hc, _, _⟩
      · cases h'
      · cases h'; exact hn
    · rcases h.2 with ⟨h', _⟩ | ⟨g', cap', cur, h', _, _, hn, hc, _, _⟩
      · cases h'
      · cases h'; exact hc
theorem Rd.below {w w' : World} {v : Value} {l : List UInt8} (h : Rd w v l) (hb : Below w.heap.size w w') : Rd w' v l := by
  rcases h with h | ⟨g, cap, hv, h1, h2, h3, h4⟩
  · exact .inl h
  · exact .inr ⟨g, cap, hv, h1, h2, Nat.lt_of_lt_of_le h3 hb.size, fun j hj => (hb.cell (p := ⟨g, j, none⟩) h3).trans (h4 j hj)⟩
theorem Tab.below {w w' : World} (h : Tab w) (hb : Below w.heap.size w w') : Tab w' :=
  ⟨fun j hj => (hb.cell (p := ⟨13, j, none⟩) h.2).trans (h.1 j hj), Nat.lt_of_lt_of_le h.2 hb.size⟩

set_option maxHeartbeats 400000 in
theorem crcMore_nil (x : Nat) (w : World) (hx : x < 4294967296) :
    Calls Tryd.prog 24 #[.int .u32 (x : Int), .slice none 0 0] w fun e w' => e = .returned (.int .u32 ((nt (nt x) : Nat) : Int)) ∧ w = w' := by
  have hnt := not_u32 x hx
  have hnt2 := not_u32 (nt x) (nt_lt x)
  go_enter Tryd.func24, Tryd.ntmps24
  go_wp2
  go_loop [5, 12] (fun r i => i = .int .i64 0 ∧ r = .int .u32 (nt x : Int)) (fun _ i => 0)
  case atStart => exact ⟨rfl, rfl⟩
  case round =>
    obtain ⟨rfl, rfl⟩ := hrel
    go_wp2
    go_ret
    exact ⟨rfl, rfl⟩

theorem crcMore_rd (x : Nat) (X : Int) (v : Value) (l : List UInt8) (w : World) (hX : X = (x : Int)) (hx : x < 4294967296) (hm : l.length ≤ 140737488355328) (hr : Rd w v l) (ht : Tab w) :
    Calls Tryd.prog 24 #[.int .u32 X, v] w fun e w' => e = .returned (.int .u32 ((nt (crcReg (nt x) l) : Nat) : Int)) ∧ w = w' := by
  subst hX
  rcases hr with ⟨rfl, rfl⟩ | ⟨g, cap, rfl, h1, h2, h3, h4⟩
  · exact crcMore_nil x w hx
  · exact crcMore_ne x g 0 l.length cap l w hx rfl hm (fun j hj => by rw [Nat.zero_add]; exact h4 j hj) ht.1

set_option maxHeartbeats 400000 in
theorem crc_rd (v : Value) (l : List UInt8) (w : World) (hm : l.length ≤ 140737488355328) (hr : Rd w v l) (ht : Tab w) :
    Calls Tryd.prog 22 #[v] w fun e w' => e = .returned (.int .u32 ((crcV l : Nat) : Int)) ∧ w = w' := by
  have H := crcMore_rd 0 0 v l w rfl (by decide) hm hr ht
  have HH : Hid (Calls Tryd.prog 24 #[.int .u32 0, v] w fun e w' => e = .returned (.int .u32 ((nt (crcReg (nt 0) l) : Nat) : Int)) ∧ w = w') := H
  clear H hr ht
  go_enter Tryd.func22, Tryd.ntmps22
  go_wp2_with (go_at_call 24; refine HH.out.mono ?_; rintro e w' ⟨rfl, rfl⟩)
  go_ret
  exact ⟨rfl, rfl⟩

end Go.Proofs.YtiihnoohodklhaaDoor
