import Derived.Test.YtoedmapcnalhjabDoorRd
namespace Go.Proofs.YtoedmapcnalhjabDoor
open Go.RowKit

def mark (i : Nat) : UInt8 := UInt8.ofNat (200 + i % 7)
def marks (k : Nat) : List UInt8 := (List.range k).map mark
theorem mark_toNat (i : Nat) : (mark i).toNat = 200 + i % 7 := by
  unfold mark
  simp only [UInt8.toNat_ofNat']
  omega
theorem marks_succ (k : Nat) : marks (k + 1) = marks k ++ [mark k] := by simp [marks, List.range_succ]
theorem marks_length (k : Nat) : (marks k).length = k := by simp [marks]

set_option maxHeartbeats 400000 in
theorem spare_any (s : ByteArray) (w : World) (hs : s.size ≤ 140737488351232) :
    Calls Tryd.prog 6 #[.string s] w fun e w' => ∃ g cap, e = .returned (.slice (some ⟨g, 0, none⟩) (s.size + 64) cap) ∧ w'.ownsRow w.heap.size 5 1 (.slice (some ⟨g, 0, none⟩) (s.size + 64) cap) (s.size + 64) (u8s (s.data.toList ++ marks 64)) ∧ Below w.heap.size w w' := by
  obtain ⟨i0, hi, hz0, hz1, hz2⟩ := info_parts Tryd.info5
  go_enter Tryd.func6, Tryd.ntmps6
  go_wp2_with (go_at_call 10; refine (bytes_any s _ (by omega)).mono ?_; rintro e w1 ⟨v1, rfl, hown1, hb1⟩)
  go_loopw [3, 4] (fun v i wr => ∃ k : Nat, k ≤ 64 ∧ i = .int .i64 k ∧ wr.ownsRow w.heap.size 5 1 v (s.size + k) (u8s (s.data.toList ++ marks k)) ∧ Below w.heap.size w wr)
    (fun _ i _ => 64 - (intOf i).toNat)
  case atStart => exact ⟨0, Nat.zero_le _, rfl, by simpa [marks] using hown1, hb1⟩
  case round =>
    obtain ⟨k, hk, rfl, hown, hnx⟩ := hrel
    clear hown1 hb1
    by_cases hlt : k < 64
    · have hmk : ((mark k).toNat : Int) = 200 + (k : Int) % 7 := by rw [mark_toNat]; omega
      have HM : Hid (((mark k).toNat : Int) = 200 + (k : Int) % 7) := hmk
      clear hmk
      go_wp2_with (first
        | (at_builtin; refine wpList_append_lies _ rfl _ _ 25 rfl w.heap.size 5 i0 (.int .u8 0) 1 1 Tryd.underlying25 hi hz0 hz1 hz2 rfl (by decide) _ _ _ rfl (hown.alloc _) ⟨wr.heap.size, 0, none⟩ 1 1 [.int .u8 (200 + (k : Int) % 7)] rfl rfl ?c1 ?c2 ?c3 ?c4 ?c5 ?c6 (wr.heap.size + 1) ?c7 ?_))
      case c1 =>
        intro j u hj
        match j, hj with
        | 0, hj => simp at hj; subst hj; simp [Addr.add]
      case c2 => intro u hu; simp at hu; subst hu; rfl
      case c3 => decide
      case c4 => unfold maxLen; omega
      case c5 => omega
      case c6 => have := hnx.size; simp; omega
      case c7 => simp
      intro g cap w2 hown' hgrow hat hlg
      have hb2 : Below w.heap.size w w2 := (hnx.alloc (by have := hnx.size; omega) _).grown hgrow (by have := hnx.size; simp; omega) (fun j hj => (hown.lt j hj).1)
      have hown2 : w2.ownsRow w.heap.size 5 1 (.slice (some ⟨g, 0, none⟩) (s.size + k + 1) cap) (s.size + (k + 1)) (u8s (s.data.toList ++ marks (k + 1))) := by
        rw [marks_succ, ← List.append_assoc, u8s_append, ← Nat.add_assoc]
        have : u8s [mark k] = [.int .u8 (200 + (k : Int) % 7)] := by simp [u8s, HM.out]
        rw [this]; exact hown'
      clear hown' hgrow hown hat hlg hnx
      go_wp2
      go_roundw
      case rel => exact ⟨k + 1, by omega, by go_num, hown2, hb2⟩
      case measure => simp [intOf]; omega
    · have hke : k = 64 := by omega
      subst hke
      obtain ⟨g, cap, rfl, _, _⟩ := hown.form (by omega)
      go_wp2
      go_ret
      exact ⟨g, cap, rfl, hown, hnx⟩

end Go.Proofs.YtoedmapcnalhjabDoor
