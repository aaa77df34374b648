import Derived.Test.YtpeobpmooledaaaDoorGA
import Derived.Deep.AppendLies
namespace Go.Proofs.YtpeobpmooledaaaDoor
open Go.RowKit

set_option maxHeartbeats 400000 in
theorem clone_any (b off len cap : Nat) (l : List UInt8) (w : World) (hlen : l.length = len) (h1 : 1 ≤ len) (hm : len ≤ 8)
    (hc : ∀ j (h : j < l.length), w.cell? ⟨b, off + j, none⟩ = some (.int .u8 (l[j].toNat : Int))) :
    Calls Tryd.prog 56 #[.slice (some ⟨b, off, none⟩) len cap] w fun e w' => ∃ g c2, e = .returned (.slice (some ⟨g, 0, none⟩) len c2) ∧ w'.ownsRow w.heap.size 5 1 (.slice (some ⟨g, 0, none⟩) len c2) len (u8s l) ∧ Below w.heap.size w w' := by
  obtain ⟨i0, hi, hz0, hz1, hz2⟩ := info_parts Tryd.info5
  have hnil : ∀ w, (binOp .eql 41 (.slice (some ⟨b, off, none⟩) len cap) (.slice none 0 0)).run Tryd.prog w = .ok (.bool false) w := fun w => by
    have h2 : ∀ d : Nat, (Op.equalIn (d + 1) 41 (.slice (some ⟨b, off, none⟩) len cap) (.slice none 0 0)).run Tryd.prog w = .ok false w := fun d => by
      simp [Op.equalIn, run_underlying Tryd.underlying41]
    simp only [binOp]
    simp [Op.equal, Op.maxDepth, h2 9999]
  go_enter Tryd.func56, Tryd.ntmps56
  have hb : b < w.heap.size := World.block_lt_of_cell? w _ (hc 0 (by omega))
  go_wp2_with (first
    | (at_builtin; refine wpList_append_lies _ rfl _ _ 41 rfl w.heap.size 5 i0 (.int .u8 0) 1 1 Tryd.underlying41 hi hz0 hz1 hz2 rfl (by decide) _ 0 [] rfl ?c0 ⟨b, off, none⟩ len cap (u8s l) rfl ?c8 ?c1 (u8s_one l) ?c3 ?c4 ?c5 ?c6 (w.heap.size + 1) ?c7 ?_))
  case c0 => exact World.ownsRow_lit w #[] 0 (Nat.le_refl _) (Nat.zero_le _) rfl
  case c8 => rw [u8s_length, hlen, Nat.mul_one]
  case c1 =>
    intro j u hu
    by_cases hj : j < l.length
    · rw [u8s_get l j hj] at hu
      cases hu
      have e : (⟨b, off, none⟩ : Addr).add j = ⟨b, off + j, none⟩ := by simp [Addr.add]
      rw [e, (below_new w _).cell (p := ⟨b, off + j, none⟩) hb]
      exact hc j hj
    · rw [List.getElem?_eq_none (by rw [u8s_length]; omega)] at hu; cases hu
  case c3 => omega
  case c4 => unfold maxLen; omega
  case c5 => omega
  case c6 => simp
  case c7 => simp
  intro g c2 w1 hown hgrow hat hlg
  have hb1 : Below w.heap.size w w1 := (below_new w _).grown hgrow (by simp) (fun k hk => by simp [Value.ownBlock] at hk; omega)
  clear hgrow hat hlg hc
  go_wp2
  go_ret
  exact ⟨g, c2, rfl, hown, hb1⟩

end Go.Proofs.YtpeobpmooledaaaDoor
