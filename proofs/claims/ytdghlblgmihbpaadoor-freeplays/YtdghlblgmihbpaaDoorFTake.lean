import Derived.Test.YtdghlblgmihbpaaDoorFLow
namespace Go.Proofs.YtdghlblgmihbpaaDoor
open Go.RowKit

def takeD (P : Nat) (T : Nat → Bool) (n : Int) : Option Nat × List Nat × (Nat → Bool) :=
  if n < 0 then (some 0, [], T) else if (frl T P).length < n.toNat then (some 6, [], T) else (none, lowL T P n.toNat, updL T (lowL T P n.toNat))
theorem lowL_lt {T : Nat → Bool} {P N j : Nat} (h : j ∈ lowL T P N) : j < P ∧ T j = false := (frl_mem T).1 (List.mem_of_mem_take h)
theorem lowL_len (T : Nat → Bool) (P N : Nat) : (lowL T P N).length = min N (frl T P).length := by unfold lowL; rw [List.length_take]

set_option maxRecDepth 100000 in
set_option maxHeartbeats 1000000 in
theorem take_any (base : Nat) (A : Nat → Addr) (b g P : Nat) (T : Nat → Bool) (n : Int) (w : World) (h : MapR w b g P T) (hk : MapOk P T) (hE : Env base A w) :
    Calls Tryd.prog 19 #[.pointer (some ⟨b, 0, none⟩), .int .i64 n] w fun e w' => ∃ v, e = .returned (.tuple #[v, errV A (takeD P T n).1]) ∧ w'.ownsRow w.heap.size 3 1 v (takeD P T n).2.1.length (nats (takeD P T n).2.1) ∧ MapR w' b g P (takeD P T n).2.2 ∧ Only (fun k => k = g) w w' := by
  by_cases hn0 : n < 0
  · have HD : Hid (takeD P T n = (some 0, [], T)) := by show takeD P T n = _; simp [takeD, hn0]
    rw [HD.out]
    have c : w.cell? ⟨1, 0, none⟩ = some (.iface 86 (.pointer (some (A 0)))) := hE.e 0 (by decide)
    have H := hide h
    clear h hk hE
    go_enter Tryd.func19, Tryd.ntmps19
    go_wp2_with fail
    go_quiet (fail)
    have hb : Below w.heap.size w (w.drewN nq) := ⟨rfl, rfl, rfl, Nat.le_refl _, fun _ _ => rfl⟩
    have HB := hide hb
    clear hb
    go_wp2_with fail
    go_ret2
    exact ⟨_, rfl, World.ownsRow_nil _ _ _ _, H.out.below HB.out, Only.of_below HB.out⟩
  · obtain ⟨N, rfl⟩ : ∃ N : Nat, n = N := ⟨n.toNat, by omega⟩
    have HL := hide (low_any b g P T N w h hk hE.tab)
    have H := hide h
    have HE := hide hE
    have hP := h.hi
    have hgl := h.ltg
    have HG := hide hgl
    clear h hgl hE
    by_cases hf : (frl T P).length < N
    · have HD : Hid (takeD P T (N : Int) = (some 6, [], T)) := by show takeD P T (N : Int) = _; simp [takeD, hf]
      rw [HD.out]
      have hlen : (lowL T P N).length < N := by rw [lowL_len]; omega
      have hlI : ((lowL T P N).length : Int) < (N : Int) := by omega
      clear hk hf
      generalize lowL T P N = l at *
      go_enter Tryd.func19, Tryd.ntmps19
      go_wp2_with fail
      refine HL.out.mono ?_
      rintro e w1 ⟨v, rfl, hown, hb⟩
      obtain ⟨a, c, rfl, -⟩ := owns_form hown
      have c6 : w1.cell? ⟨0, 0, none⟩ = some (.iface 86 (.pointer (some (A 6)))) := (HE.out.up hb).e 6 (by decide)
      have HB := hide hb
      clear hb hown HL
      go_wp2_with fail
      go_quiet (fail)
      have HB2 : Hid (Below w.heap.size w (w1.drewN nq)) := ⟨HB.out.os, HB.out.tape, HB.out.output, HB.out.size, HB.out.block⟩
      go_wp2_with fail
      go_ret2
      exact ⟨_, rfl, World.ownsRow_nil _ _ _ _, H.out.below HB2.out, Only.of_below HB2.out⟩
    · have HD : Hid (takeD P T (N : Int) = (none, lowL T P N, updL T (lowL T P N))) := by show takeD P T (N : Int) = _; simp [takeD, hf]
      rw [HD.out]
      have hlen : (lowL T P N).length = N := by rw [lowL_len]; omega
      have HLT : Hid (∀ j ∈ lowL T P N, j < P) := fun j hj => (lowL_lt hj).1
      have hNP : N ≤ 1048576 := by have := frl_le T P; omega
      clear hk hf
      generalize lowL T P N = l at *
      subst hlen
      go_enter Tryd.func19, Tryd.ntmps19
      go_wp2_with fail
      refine HL.out.mono ?_
      rintro e w1 ⟨v, rfl, hown, hb⟩
      obtain ⟨a, c, rfl, hsome⟩ := owns_form hown
      have HB := hide hb
      have HOW := hide hown
      have HSM := hide hsome
      clear hb hown hsome HL
      obtain ⟨N, hN⟩ : ∃ N, N = l.length := ⟨_, rfl⟩
      rw [← hN] at hNP HOW HSM ⊢
      have HN := hide hN
      clear hN
      go_wp2_with fail
      go_loopw [22] (fun i wr => ∃ k : Nat, k ≤ N ∧ i = .int .i64 k ∧ MapR wr b g P (updL T (l.take k)) ∧ Only (fun k => k = g) w1 wr) (fun i _ => N - (intOf i).toNat)
      case atStart => exact ⟨0, Nat.zero_le _, rfl, by rw [List.take_zero, updL_nil]; exact H.out.below HB.out, Only.refl _ _⟩
      case round =>
        obtain ⟨k, hk, rfl, hm, ho⟩ := hrel
        by_cases hlt : k < N
        · obtain ⟨g2, rfl⟩ := HSM.out (by omega)
          have hlk : k < l.length := by rw [← HN.out]; exact hlt
          have hgg : g2 ≠ g := by have := (owns_blk HOW.out g2 rfl).1; have := HG.out; omega
          have ce : w1.cell? ⟨g2, k, none⟩ = some (.int .i64 (l[k] : Int)) := by rw [HOW.out.cellAt k (by omega)]; exact nats_get l k hlk
          have ce2 : wr.cell? ⟨g2, k, none⟩ = some (.int .i64 (l[k] : Int)) := ho.cell ce hgg
          have hlP := HLT.out l[k] (List.getElem_mem hlk)
          have HS := hide (set_any b g P _ l[k] wr hm (by have := nW_lo P; omega))
          have HSN : Hid (upd (updL T (l.take k)) l[k] true = updL T (l.take (k + 1))) := by
            show _ = _
            rw [updL_snoc, List.take_succ_eq_append_getElem hlk]
          rw [HSN.out] at HS
          generalize l[k] = x at *
          have HO := hide ho
          have hkI : (k : Int) < (N : Int) := by omega
          clear hm ho ce hlk
          go_wp2_with fail
          refine HS.out.mono ?_
          rintro e w2 ⟨rfl, h2, o2⟩
          have H2 := hide h2
          have O2 := hide (HO.out.trans o2)
          clear h2 o2 HS HO ce2
          go_wp2
          go_roundw
          case rel => exact ⟨k + 1, by omega, by go_num, H2.out, O2.out⟩
          case measure => simp [intOf]; omega
        · have he : k = N := by omega
          have hkI : ¬ (k : Int) < (N : Int) := by omega
          have H1 : Hid (MapR wr b g P (updL T l)) := by
            rw [he, HN.out, List.take_length] at hm
            exact hm
          have O1 := hide ho
          clear hm ho
          go_wp2
          go_ret2
          refine ⟨_, rfl, ?_, H1.out, (Only.of_below HB.out).trans O1.out⟩
          refine owns_only ?_ O1.out (fun k hk' => ?_)
          · show w1.ownsRow _ _ _ _ _ _
            rw [← HN.out]; exact HOW.out
          · have := (owns_blk HOW.out k hk').1
            have := HG.out
            show ¬ k = g
            omega

end Go.Proofs.YtdghlblgmihbpaaDoor
