import Derived.Test.YtpeobpmooledaaaDoorGS
import Derived.Test.YtpeobpmooledaaaDoorGA
import Derived.BigQuiet
import Derived.Laws.IdiomStrings
namespace Go.Proofs.YtpeobpmooledaaaDoor.S
open Go.RowKit

theorem take_all_eq {l1 l2 : List UInt8} (hl : l1.length = l2.length) (h : l1.take l1.length = l2.take l1.length) : l1 = l2 := by
  rw [List.take_of_length_le (Nat.le_refl _), List.take_of_length_le (Nat.le_of_eq hl.symm)] at h
  exact h
theorem below_drewN' {B : Nat} {a w : World} (h : Below B a w) (n : Nat) : Below B a (w.drewN n) := ⟨h.os, h.tape, h.output, h.size, h.block⟩

set_option maxHeartbeats 400000 in
theorem samel (a1 a2 : Option Addr) (n1 n2 c1 c2 : Nat) (w : World) (_h1 : n1 ≤ 140737488355328) (_h2 : n2 ≤ 140737488355328) (hne : n1 ≠ n2) :
    Calls Tryd.prog 50 #[.slice a1 n1 c1, .slice a2 n2 c2] w fun e w' => e = .returned (.bool false) ∧ Below w.heap.size w w' := by
  have hd : ((n1 : Int) != (n2 : Int)) = true := by rw [bne_iff_ne]; omega
  clear hne
  go_enter Tryd.func50, Tryd.ntmps50
  go_wp2
  go_ret
  exact ⟨rfl, Below.refl _ _⟩

set_option maxHeartbeats 1000000 in
theorem same_two (a1 a2 : Option Addr) (c1 c2 n : Nat) (l1 l2 : List UInt8) (w : World) (hm : n ≤ 140737488355328) (e1 : l1.length = n) (e2 : l2.length = n)
    (h1 : ∀ j (h : j < l1.length), ∃ g o, a1 = some ⟨g, o, none⟩ ∧ w.cell? ⟨g, o + j, none⟩ = some (.int .u8 (l1[j].toNat : Int))) (h2 : ∀ j (h : j < l2.length), ∃ g o, a2 = some ⟨g, o, none⟩ ∧ w.cell? ⟨g, o + j, none⟩ = some (.int .u8 (l2[j].toNat : Int))) :
    Calls Tryd.prog 50 #[.slice a1 n c1, .slice a2 n c2] w fun e w' => e = .returned (.bool (decide (l1 = l2))) ∧ Below w.heap.size w w' := by
  have HE : Hid (l1.length = n ∧ l2.length = n) := ⟨e1, e2⟩
  have H1 : Hid (∀ j (h : j < l1.length), ∃ g o, a1 = some ⟨g, o, none⟩ ∧ w.cell? ⟨g, o + j, none⟩ = some (.int .u8 (l1[j].toNat : Int))) := h1
  have H2 : Hid (∀ j (h : j < l2.length), ∃ g o, a2 = some ⟨g, o, none⟩ ∧ w.cell? ⟨g, o + j, none⟩ = some (.int .u8 (l2[j].toNat : Int))) := h2
  have hd0 : ((n : Int) != (n : Int)) = false := by simp
  clear e1 e2 h1 h2
  go_enter Tryd.func50, Tryd.ntmps50
  go_wp2
  go_loopw [5] (fun i wr => ∃ k nq : Nat, k ≤ n ∧ i = .int .i64 k ∧ wr = w.drewN nq ∧ l1.take k = l2.take k) (fun i _ => n - (intOf i).toNat)
  case atStart => exact ⟨0, 0, Nat.zero_le _, rfl, rfl, rfl⟩
  case round =>
    obtain ⟨k, nq, hk, rfl, rfl, hpre⟩ := hrel
    have HPRE : Hid (l1.take k = l2.take k) := hpre
    clear hpre
    by_cases hlt : k < n
    · have hk1 : k < l1.length := by have := HE.out.1; omega
      have hk2 : k < l2.length := by have := HE.out.2; omega
      obtain ⟨g1, o1, rfl, f1⟩ := H1.out k hk1
      obtain ⟨g2, o2, rfl, f2⟩ := H2.out k hk2
      have j0 : (0 : Int) ≤ (k : Int) := Int.natCast_nonneg k
      have j1 : (k : Int) < (n : Int) := by omega
      obtain ⟨x1, hx1⟩ : ∃ x : Nat, x = (l1[k]).toNat := ⟨_, rfl⟩
      obtain ⟨x2, hx2⟩ : ∃ x : Nat, x = (l2[k]).toNat := ⟨_, rfl⟩
      rw [← hx1] at f1
      rw [← hx2] at f2
      have HX : Hid (x1 = (l1[k]).toNat ∧ x2 = (l2[k]).toNat) := ⟨hx1, hx2⟩
      clear hx1 hx2 H1 H2
      by_cases hx : x1 = x2
      · subst hx
        have hd1 : ((x1 : Int) != (x1 : Int)) = false := by simp
        go_wp2
        go_quiet (fail)
        go_wp2
        go_roundw
        case rel =>
          refine ⟨k + 1, _, by omega, by go_num, rfl, ?_⟩
          have he : l1[k] = l2[k] := UInt8.toNat_inj.1 (HX.out.1.symm.trans HX.out.2)
          rw [List.take_succ_eq_append_getElem hk1, List.take_succ_eq_append_getElem hk2, HPRE.out, he]
        case measure => simp [intOf]; omega
      · have hd1 : ((x1 : Int) != (x2 : Int)) = true := by rw [bne_iff_ne]; omega
        have HNE : Hid (decide (l1 = l2) = false) := by
          show _ = _
          refine decide_eq_false (fun he => ?_)
          subst he
          exact hx (HX.out.1.trans HX.out.2.symm)
        go_wp2
        go_quiet (fail)
        go_wp2
        go_ret
        exact ⟨by rw [HNE.out]; rfl, below_drewN' (below_drewN' (Below.refl _ _) _) _⟩
    · have HEQ : Hid (decide (l1 = l2) = true) := by
        show _ = _
        refine decide_eq_true (take_all_eq (HE.out.1.trans HE.out.2.symm) ?_)
        have hkn : k = l1.length := by have := HE.out.1; omega
        rw [← hkn]; exact HPRE.out
      clear H1 H2
      go_wp2
      go_ret
      exact ⟨by rw [HEQ.out]; rfl, below_drewN' (Below.refl _ _) _⟩

/-- Where a slice value's bytes lie. -/
def RdA (w : World) (v : Value) (l : List UInt8) : Prop := ∃ a cap, v = .slice a l.length cap ∧ ∀ j (h : j < l.length), ∃ g o, a = some ⟨g, o, none⟩ ∧ w.cell? ⟨g, o + j, none⟩ = some (.int .u8 (l[j].toNat : Int))
theorem _root_.Go.Proofs.YtpeobpmooledaaaDoor.Rd.any {w : World} {v : Value} {l : List UInt8} (h : Rd w v l) : RdA w v l := by
  rcases h with ⟨rfl, rfl⟩ | ⟨g, cap, rfl, _, _, _, hc⟩
  · exact ⟨none, 0, rfl, fun j h => by simp at h⟩
  · exact ⟨_, cap, rfl, fun j h => ⟨g, 0, rfl, by rw [Nat.zero_add]; exact hc j h⟩⟩

theorem same_any (v1 v2 : Value) (l1 l2 : List UInt8) (w : World) (h1 : l1.length ≤ 140737488355328) (h2 : l2.length ≤ 140737488355328) (r1 : RdA w v1 l1) (r2 : RdA w v2 l2) :
    Calls Tryd.prog 50 #[v1, v2] w fun e w' => e = .returned (.bool (decide (l1 = l2))) ∧ Below w.heap.size w w' := by
  obtain ⟨a1, c1, rfl, f1⟩ := r1
  obtain ⟨a2, c2, rfl, f2⟩ := r2
  by_cases he : l1.length = l2.length
  · rw [← he]
    exact same_two a1 a2 c1 c2 l1.length l1 l2 w h1 rfl he.symm f1 f2
  · rw [decide_eq_false (fun h => he (by rw [h]))]
    exact samel a1 a2 _ _ c1 c2 w h1 h2 he

theorem run_str (w : World) (v : Value) (l : List UInt8) (h : RdA w v l) (hl : 0 < l.length) : (convert 41 9 v).run Tryd.prog w = .ok (.string ⟨l.toArray⟩) w := by
  obtain ⟨a, cap, rfl, hc⟩ := h
  obtain ⟨g, o, rfl, _⟩ := hc 0 hl
  refine run_convert_bytes_back w 41 9 5 ⟨g, o, none⟩ cap l Tryd.underlying41 Tryd.underlying5 Tryd.underlying9 (fun j hj => ?_)
  obtain ⟨g', o', he, hcell⟩ := hc j hj
  cases he
  rw [show (⟨g, o, none⟩ : Addr).add j = ⟨g, o + j, none⟩ by simp [Addr.add]]
  exact hcell

end Go.Proofs.YtpeobpmooledaaaDoor.S

namespace Go.Proofs.YtpeobpmooledaaaDoor.S
open Go.RowKit

set_option maxHeartbeats 400000 in
theorem equal_any (v1 v2 : Value) (l1 l2 : List UInt8) (w : World) (r1 : RdA w v1 l1) (r2 : RdA w v2 l2) (h1 : 0 < l1.length) (h2 : 0 < l2.length) :
    Calls Tryd.prog 53 #[v1, v2] w fun e w' => e = .returned (.bool (decide (l1 = l2))) ∧ w = w' := by
  have s1 := run_str w v1 l1 r1 h1
  have s2 := run_str w v2 l2 r2 h2
  obtain ⟨a1, c1, rfl, _⟩ := r1
  obtain ⟨a2, c2, rfl, _⟩ := r2
  clear h1 h2
  go_enter Tryd.func53, Tryd.ntmps53
  go_wp2_with fail
  go_ret
  refine ⟨?_, rfl⟩
  show Ending.returned (.bool (l1 == l2)) = _
  have e : (l1 == l2) = decide (l1 = l2) := by by_cases h : l1 = l2 <;> simp [h]
  rw [e]

end Go.Proofs.YtpeobpmooledaaaDoor.S
