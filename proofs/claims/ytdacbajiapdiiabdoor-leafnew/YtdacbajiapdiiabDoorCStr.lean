import Derived.Test.YtdacbajiapdiiabDoorBase
import Derived.Laws.BitsLemmas
namespace Go.Proofs.YtdacbajiapdiiabDoor
open Go.RowKit

def strs (l : List ByteArray) : List Value := l.map Value.string
theorem strs_length (l : List ByteArray) : (strs l).length = l.length := by simp [strs]
theorem strs_get (l : List ByteArray) (j : Nat) (h : j < l.length) : (strs l)[j]? = some (.string l[j]) := by simp [strs, h]
theorem strs_one (l : List ByteArray) : ∀ u ∈ strs l, u.oneCell' = true := by
  intro u hu
  simp only [strs, List.mem_map] at hu
  obtain ⟨c, _, rfl⟩ := hu
  rfl
theorem strs_append (a b : List ByteArray) : strs (a ++ b) = strs a ++ strs b := by simp [strs]
theorem info9 : (Tryd.prog.info? 9).map (fun i => (i.zero, i.size, i.bytes)) = some (some (.string ByteArray.empty), 1, 16) := by kernel_rfl
/-- The slice value v reads as the texts l. -/
def StrR (w : World) (v : Value) (l : List ByteArray) : Prop := ∃ a cap, v = .slice a l.length cap ∧ l.length ≤ cap ∧ ∀ j (h : j < l.length), ∃ g o, a = some ⟨g, o, none⟩ ∧ w.cell? ⟨g, o + j, none⟩ = some (.string l[j])
theorem RowR.strs {w : World} {v : Value} {l : List ByteArray} (h : RowR w v (strs l)) : StrR w v l := by
  obtain ⟨a, cap, rfl, hle, _, hc⟩ := h
  rw [strs_length] at hle ⊢
  exact ⟨a, cap, rfl, hle, fun j hj => hc j _ (strs_get l j hj)⟩
theorem StrR.below {w w' : World} {v : Value} {l : List ByteArray} (h : StrR w v l) (hb : Below w.heap.size w w') : StrR w' v l := by
  obtain ⟨a, cap, rfl, hle, hc⟩ := h
  refine ⟨a, cap, rfl, hle, fun j hj => ?_⟩
  obtain ⟨g, o, ha, hcell⟩ := hc j hj
  exact ⟨g, o, ha, (hb.cell (p := ⟨g, o + j, none⟩) (World.block_lt_of_cell? w _ hcell)).trans hcell⟩

theorem wraps_i64' (n : Int) (_h0 : 0 ≤ n) (_h1 : n < 2 ^ 16) : IntKind.i64.wrap n = n := by
  rw [IntKind.wrap_i64]; omega
theorem or_slot (a b : Nat) (ha : a < 256) (hb : b < 256) : bits BinOp.or IntKind.i64 (wrap64 (wrap64 (a : Int) * 256)) (wrap64 (b : Int)) = ((a * 256 + b : Nat) : Int) := by
  have h1 : wrap64 (a : Int) = (a : Int) := by unfold wrap64; omega
  have h2 : wrap64 ((a : Int) * 256) = (a : Int) * 256 := by unfold wrap64; omega
  have h3 : wrap64 (b : Int) = (b : Int) := by unfold wrap64; omega
  rw [h1, h2, h3, bits_join .i64 16 (by decide) wraps_i64' 8 ((a : Int) * 256) (b : Int) (by omega) (by omega) (by omega) (by omega) (by omega) (by omega)]
  omega
theorem ba_get (s : ByteArray) (j : Nat) (h : j < s.size) : s.data.toList.getD j 0 = s[j] := by
  rw [List.getD_eq_getElem?_getD, List.getElem?_eq_getElem (by simpa using h)]; rfl

set_option maxHeartbeats 400000 in
theorem slot_any (s : ByteArray) (i : Nat) (w : World) (hs : 2 * i + 1 < s.size) (hsz : s.size = 4072) :
    Calls Tryd.prog 47 #[.string s, .int .i64 (i : Int)] w fun e w' => e = .returned (.int .i64 ((slotN s.data.toList i : Nat) : Int)) ∧ Below w.heap.size w w' := by
  obtain ⟨p, hp⟩ : ∃ p, p = 2 * i := ⟨_, rfl⟩
  obtain ⟨q, hq⟩ : ∃ q, q = p + 1 := ⟨_, rfl⟩
  have hw : IntKind.i64.wrap (2 * (i : Int)) = (p : Int) := by rw [IntKind.wrap_i64]; omega
  have hw2 : IntKind.i64.wrap ((p : Int) + 1) = (q : Int) := by rw [IntKind.wrap_i64]; omega
  have h1 : (p : Int) < (s.size : Int) := by omega
  have h1' : p < s.size := by omega
  have h2 : (q : Int) < (s.size : Int) := by omega
  have h2' : q < s.size := by omega
  have g0 : (0 : Int) ≤ (p : Int) := by omega
  have g1 : (0 : Int) ≤ (q : Int) := by omega
  have HP : Hid (p = 2 * i ∧ q = 2 * i + 1) := ⟨hp, by omega⟩
  clear hp hq hs hsz
  go_enter Tryd.func47, Tryd.ntmps47
  go_wp2
  go_quiet (fail)
  go_wp2
  go_ret
  refine ⟨?_, below_drewN' (Below.refl _ _) _⟩
  obtain ⟨rfl, rfl⟩ := HP.out
  refine ret_int ?_
  show bits BinOp.or IntKind.i64 (wrap64 (wrap64 (s[2 * i].toNat : Int) * 256)) (wrap64 (s[2 * i + 1].toNat : Int)) = _
  rw [or_slot _ _ s[2 * i].toNat_lt s[2 * i + 1].toNat_lt]
  unfold slotN
  rw [ba_get s _ h1', ba_get s _ h2']

end Go.Proofs.YtdacbajiapdiiabDoor
