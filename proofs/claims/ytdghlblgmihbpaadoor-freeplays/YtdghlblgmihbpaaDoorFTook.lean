import Derived.Test.YtdghlblgmihbpaaDoorFBook
import Derived.Test.YtdghlblgmihbpaaDoorFGivM
namespace Go.Proofs.YtdghlblgmihbpaaDoor
open Go.RowKit

theorem low_get (T : Nat → Bool) (P n k : Nat) (h : k < (lowL T P n).length) : ∃ h2 : k < (frl T P).length, (lowL T P n)[k] = (frl T P)[k] ∧ (lowL T P n).take k = (frl T P).take k := by
  have hl := lowL_len T P n
  refine ⟨by omega, ?_, ?_⟩
  · exact List.getElem_take ..
  · unfold lowL; rw [List.take_take, Nat.min_eq_left (by omega)]
/-- The k-th of the lowest is free when those ahead of it are taken. -/
theorem low_free (T : Nat → Bool) (P n k : Nat) (h : k < (lowL T P n).length) : updL T ((lowL T P n).take k) (lowL T P n)[k] = false := by
  have hm := (lowL_lt (List.getElem_mem h)).2
  have hn := lowL_nodup T P n
  have hnot : (lowL T P n)[k] ∉ (lowL T P n).take k := fun hc => by
    have e : (lowL T P n).take (k + 1) = (lowL T P n).take k ++ [(lowL T P n)[k]] := List.take_succ_eq_append_getElem h
    have := hn.sublist (List.take_sublist (k + 1) _)
    rw [e] at this
    exact (List.nodup_append.1 this).2.2 _ hc _ (by simp) rfl
  simp [updL, hm, hnot]
/-- Below the k-th of the lowest all are taken then. -/
theorem low_ahead {T : Nat → Bool} {P n k j : Nat} (h : k < (lowL T P n).length) (hj : j < (lowL T P n)[k]) : updL T ((lowL T P n).take k) j = true := by
  cases hT : T j with
  | true => simp [updL, hT]
  | false =>
    obtain ⟨h2, e1, e2⟩ := low_get T P n k h
    have hP := (lowL_lt (List.getElem_mem h)).1
    have hmem : j ∈ frl T P := (frl_mem T).2 ⟨by omega, hT⟩
    obtain ⟨i, hi, rfl⟩ := List.getElem_of_mem hmem
    rw [e1] at hj
    have hik : i < k := by
      rcases Nat.lt_trichotomy i k with h' | h' | h'
      · exact h'
      · subst h'; omega
      · have := List.pairwise_iff_getElem.1 (frl_sorted T P) k i h2 hi h'; omega
    have : (frl T P)[i] ∈ (lowL T P n).take k := by
      rw [e2]
      exact List.mem_take_iff_getElem.2 ⟨i, by omega, rfl⟩
    simp [updL, this]

set_option maxRecDepth 100000 in
set_option maxHeartbeats 2000000 in
theorem took_core (b g c P : Nat) (T : Nat → Bool) (w : World) (h : BookR w b g c P T) (hP : P ≤ 1048576) (n : Nat) (hnP : n ≤ P) (va : Option Addr) (vc base : Nat) (l : List Nat)
    (hv : w.ownsRow base 3 1 (.slice va n vc) n (nats l)) (hlen : l.length = n) (hlf : ∀ k (h : k < l.length), updL T (l.take k) l[k] = false ∧ 2 ≤ l[k] ∧ l[k] < P) (hla : ∀ k j (h : k < l.length), j < l[k] → updL T (l.take k) j = true)
    (hso : ∀ k (h1 : k < l.length) (h : k + 1 < l.length), l[k] < l[k + 1]) :
    Calls Tryd.prog 41 #[.pointer (some ⟨b, 0, none⟩), .slice va n vc, .int .i64 n] w fun e w' => e = .returned (.bool true) ∧ BookR w' b g c P (updL T l) ∧ Only (fun k => k = g) w w' := by
  have HLF := hide hlf
  have HLA := hide hla
  have HSO := hide hso
  have HLN := hide hlen
  have HV := hide hv
  have H := hide h
  have HSM : Hid (0 < n → ∃ g, va = some ⟨g, 0, none⟩) := by
    obtain ⟨a, c, he, hs⟩ := owns_form hv
    simp only [Value.slice.injEq] at he
    obtain ⟨rfl, -, -⟩ := he
    exact hs
  have HNE : Hid (∀ g2, va = some ⟨g2, 0, none⟩ → g2 ≠ g) := fun g2 e => by
    subst e
    intro e2
    obtain ⟨cur, hc⟩ := (owns_blk hv g2 rfl).2.2
    obtain ⟨cur', hc'⟩ := (owns_blk h.row g rfl).2.2
    rw [e2, hc'] at hc
    simp at hc
  clear hlen hv h hlf hla hso
  go_enter Tryd.func41, Tryd.ntmps41
  go_wp2_with fail
  go_loopw [7, 8] (fun at' i wr => ∃ k a : Nat, k ≤ n ∧ i = .int .i64 k ∧ at' = .int .i64 a ∧ Hid (∀ h : k < l.length, a ≤ l[k]) ∧ BookR wr b g c P (updL T (l.take k)) ∧ Only (fun k => k = g) w wr) (fun _ i _ => n - (intOf i).toNat)
  case atStart => exact ⟨0, 2, Nat.zero_le _, rfl, rfl, fun h => (HLF.out 0 h).2.1, by rw [List.take_zero, updL_nil]; exact H.out, Only.refl _ _⟩
  case round =>
    obtain ⟨k, a, hk, rfl, rfl, HAL, hb, ho⟩ := hrel
    by_cases hlt : k < n
    · have hkl : k < l.length := by rw [HLN.out]; exact hlt
      have hal := HAL.out hkl
      obtain ⟨hf1, hf2, hf3⟩ := HLF.out k hkl
      have HAK : Hid (∀ j, j < l[k] → updL T (l.take k) j = true) := fun j hj => HLA.out k j hkl hj
      obtain ⟨g2, rfl⟩ := HSM.out (by omega)
      have cl : w.cell? ⟨g2, k, none⟩ = some (.int .i64 (l[k] : Int)) := by rw [HV.out.cellAt k (by omega)]; exact nats_get l k hkl
      have cl2 : wr.cell? ⟨g2, k, none⟩ = some (.int .i64 (l[k] : Int)) := ho.cell cl (HNE.out g2 rfl)
      have HSN : Hid (updL T (l.take (k + 1)) = upd (updL T (l.take k)) l[k] true) := by
        show _ = _
        rw [updL_snoc, List.take_succ_eq_append_getElem hkl]
      have HNX : Hid (∀ h : k + 1 < l.length, l[k] + 1 ≤ l[k + 1]) := fun h => HSO.out k hkl h
      have hkI : (k : Int) < (n : Int) := by omega
      have HB := hide hb
      have HO := hide ho
      clear hb ho HAL cl
      generalize l[k] = x at *
      have HF1 := hide hf1
      clear hf1
      generalize updL T (l.take k) = Tk at *
      have c0 := HB.out.c0
      generalize wr = W1 at *
      have hxP : x < P := hf3
      clear hf3
      go_wp2_with fail
      go_loopw [7] (fun at' wr => ∃ a : Nat, a ≤ x ∧ at' = .int .i64 a ∧ W1 = wr) (fun at' _ => x - (intOf at').toNat)
      case atStart => exact ⟨a, hal, rfl, rfl⟩
      case round =>
        obtain ⟨a, hax, rfl, rfl⟩ := hrel
        have hI1 : (a : Int) < (P : Int) := by omega
        by_cases hlt2 : a < x
        · have ca := HB.out.cr a (by omega)
          rw [HAK.out a hlt2] at ca
          go_wp2
          go_roundw
          case rel => exact ⟨a + 1, by omega, by go_num, trivial⟩
          case measure => simp [intOf]; omega
        · have hae : a = x := by omega
          subst hae
          have ca := HB.out.cr a (by omega)
          rw [HF1.out] at ca
          have cz := HB.out.row.frozenAt a
          have hne : ((a : Int) != (a : Int)) = false := by simp
          have hgeI : ¬ (n : Int) ≤ (k : Int) := by omega
          have hgP : ¬ (P : Int) ≤ (a : Int) := by omega
          have HB2 := hide (HB.out.stored a true)
          have HO2 : Hid (Only (fun k => k = g) w (W1.setCell ⟨g, a, none⟩ (.bool true))) := HO.out.trans (Only.set (F := fun k => k = g) rfl _ _ _)
          clear HAK
          go_wp2
          go_roundw
          case rel => exact ⟨k + 1, a, by omega, by go_num, rfl, fun h => by have := HNX.out h; omega, by rw [HSN.out]; exact HB2.out, HO2.out⟩
          case measure => simp [intOf]; omega
    · have hke : k = n := by omega
      have hkI : ¬ (k : Int) < (n : Int) := by omega
      rw [hke, ← HLN.out, List.take_length] at hb
      have HB := hide hb
      have HO := hide ho
      have hnn : ((n : Int) == (n : Int)) = true := by simp
      clear hb ho HAL
      go_wp2
      go_ret
      exact ⟨rfl, HB.out, HO.out⟩

theorem took_any (b g c P : Nat) (T : Nat → Bool) (w : World) (h : BookR w b g c P T) (hok : MapOk P T) (n : Nat) (hn : n ≤ (frl T P).length) (va : Option Addr) (vc base : Nat) (hv : w.ownsRow base 3 1 (.slice va n vc) n (nats (lowL T P n))) :
    Calls Tryd.prog 41 #[.pointer (some ⟨b, 0, none⟩), .slice va n vc, .int .i64 n] w fun e w' => e = .returned (.bool true) ∧ BookR w' b g c P (updL T (lowL T P n)) ∧ Only (fun k => k = g) w w' := by
  refine took_core b g c P T w h hok.hi n (by have := frl_le T P; omega) va vc base (lowL T P n) hv (by rw [lowL_len]; omega) (fun k hk => ⟨low_free T P n k hk, (lowL_tree hok (List.getElem_mem hk)).1, (lowL_tree hok (List.getElem_mem hk)).2.1⟩) (fun k j h hj => low_ahead h hj) (fun k h1 h2 => ?_)
  have hs : (lowL T P n).Pairwise (· < ·) := (frl_sorted T P).sublist (List.take_sublist _ _)
  exact List.pairwise_iff_getElem.1 hs k (k + 1) h1 h2 (by omega)

end Go.Proofs.YtdghlblgmihbpaaDoor
