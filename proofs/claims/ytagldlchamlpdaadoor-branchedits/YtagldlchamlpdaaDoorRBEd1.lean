import Derived.Test.YtagldlchamlpdaaDoorBPick2
import Derived.Test.YtagldlchamlpdaaDoorBChild
import Derived.Test.YtagldlchamlpdaaDoorBSome
namespace Go.Proofs.YtagldlchamlpdaaDoor
open Go.RowKit

/-- What the document's Child answers. -/
def RChildV (f : Int) (l : List Lk) (i : Int) : Value :=
  if hasC l i then .tuple #[.int .i64 (childN f l i), .int .i64 0] else .tuple #[.int .i64 0, .int .i64 1]

set_option maxHeartbeats 1000000 in
theorem rbchild_any (f i : Int) (v : Value) (l : List Lk) (w : World) (hm : l.length ≤ 5864062014805) (hr : LkR w v l) :
    Calls Tryd.prog 24 #[.agg #[.int .i64 f, v], .int .i64 i] w fun e w' => e = .returned (RChildV f l i) ∧ Below w.heap.size w w' := by
  have hr0 := hr
  obtain ⟨a, cap, hv, _, _, hc⟩ := hr
  subst hv
  obtain ⟨n, hn⟩ : ∃ n, n = l.length := ⟨_, rfl⟩
  rw [← hn] at hm hr0 ⊢
  have q1 := below_new w (.cells #[.int .i64 f, .slice a n cap] 27)
  have x1 := RowAt.new w #[.int .i64 f, .slice a n cap] 27
  generalize hW1 : w.alloc (.cells #[.int .i64 f, .slice a n cap] 27) = W1 at *
  have HC := hide hc
  have HN := hide hn
  have HQ := hide q1
  have p1 := x1.c0
  have p2 := x1.c1
  clear hc hn q1 hr0 x1
  by_cases hg : hasC l i = true
  · have HV : Hid (RChildV f l i = .tuple #[.int .i64 (childN f l i), .int .i64 0]) := by show _ = _; simp [RChildV, hg]
    simp only [hasC, Bool.and_eq_true, decide_eq_true_eq] at hg
    have g0 : ¬ i < 0 := by omega
    have g1 : ¬ i > (n : Int) := by have := HN.out; omega
    have g2 : ¬ (n : Int) < i := by have := HN.out; omega
    by_cases h0 : i = 0
    · subst h0
      clear HC
      go_enter Tryd.func24, Tryd.ntmps24
      go_wp2
      go_ret2
      exact ⟨by rw [HV.out]; rfl, HQ.out⟩
    · obtain ⟨k, hk⟩ : ∃ k : Nat, i = (k : Int) + 1 := ⟨(i - 1).toNat, by omega⟩
      subst hk
      have hkl : k < l.length := by omega
      obtain ⟨g, o, ha, f1, f2⟩ := HC.out k hkl
      subst ha
      have c2 : W1.cell? ⟨g, o + k * 2 + 1, none⟩ = some (.int .i64 l[k].2) := (HQ.out.cell (p := ⟨g, o + k * 2 + 1, none⟩) (World.block_lt_of_cell? w _ f2)).trans f2
      have HCH : Hid (childN f l ((k : Int) + 1) = l[k].2) := by
        show _ = _
        rw [childN, if_neg h0, show (((k : Int) + 1) - 1).toNat = k by omega, List.getD_eq_getElem?_getD, List.getElem?_eq_getElem hkl]; rfl
      obtain ⟨p, hp⟩ : ∃ p, p = l[k] := ⟨_, rfl⟩
      rw [← hp] at c2 HCH
      have hw1 : IntKind.i64.wrap (((k : Int) + 1) - 1) = (k : Int) := by have := HN.out; rw [IntKind.wrap_i64]; omega
      have hkn : (k : Int) < (n : Int) := by have := HN.out; omega
      have hk0 : (0 : Int) ≤ (k : Int) := by omega
      clear HC hp f1 f2 hg
      go_enter Tryd.func24, Tryd.ntmps24
      go_wp2
      go_ret2
      exact ⟨by rw [HV.out, HCH.out]; rfl, HQ.out⟩
  · have HV : Hid (RChildV f l i = .tuple #[.int .i64 0, .int .i64 1]) := by show _ = _; simp [RChildV, hg]
    simp only [hasC, Bool.and_eq_true, decide_eq_true_eq] at hg
    clear HC
    by_cases g0 : i < 0
    · clear hg
      go_enter Tryd.func24, Tryd.ntmps24
      go_wp2
      go_ret2
      exact ⟨by rw [HV.out]; rfl, HQ.out⟩
    · have g2 : (n : Int) < i := by have := HN.out; omega
      clear hg
      go_enter Tryd.func24, Tryd.ntmps24
      go_wp2
      go_ret2
      exact ⟨by rw [HV.out]; rfl, HQ.out⟩

set_option maxRecDepth 20000 in
set_option maxHeartbeats 1000000 in
theorem rbpick_any (f : Int) (v : Value) (l : List Lk) (key : ByteArray) (w : World) (hm : l.length ≤ 5864062014805) (hr : LkR w v l) :
    Calls Tryd.prog 25 #[.agg #[.int .i64 f, v], .string key] w fun e w' => (∃ p : Nat, e = .returned (.int .i64 (p : Int)) ∧ PickAt l key p) ∧ Below w.heap.size w w' := by
  obtain ⟨a, cap, rfl, hcap, _, hc⟩ := hr
  obtain ⟨n, hn⟩ : ∃ n, n = l.length := ⟨_, rfl⟩
  rw [← hn] at hm ⊢
  have q1 := below_new w (.cells #[.int .i64 f, .slice a n cap] 27)
  have x1 := RowAt.new w #[.int .i64 f, .slice a n cap] 27
  generalize hW1 : w.alloc (.cells #[.int .i64 f, .slice a n cap] 27) = W1 at *
  have HC : Hid (∀ j (h : j < l.length), ∃ g o, a = some ⟨g, o, none⟩ ∧ W1.cell? ⟨g, o + j * 2, none⟩ = some (.string l[j].1)) := fun j h => by
    obtain ⟨g, o, ha, c1, _⟩ := hc j h
    exact ⟨g, o, ha, (q1.cell (p := ⟨g, o + j * 2, none⟩) (World.block_lt_of_cell? w _ c1)).trans c1⟩
  have HN := hide hn
  have HQ1 := hide q1
  have p1 := x1.c0
  have p2 := x1.c1
  obtain ⟨Q, hQ⟩ : ∃ Q : Ending → World → Prop, Q = fun e w' => (∃ p : Nat, e = .returned (.int .i64 (p : Int)) ∧ PickAt l key p) ∧ Below w.heap.size w w' := ⟨_, rfl⟩
  rw [← hQ]
  have HQ := hide hQ
  have hw0 : IntKind.i64.wrap ((n : Int) - 1) = (n : Int) - 1 := by rw [IntKind.wrap_i64]; omega
  clear hc hn hcap hQ q1 x1
  go_enter Tryd.func25, Tryd.ntmps25
  go_wp2
  go_loop [5] (fun i => ∃ k : Nat, k ≤ n ∧ i = .int .i64 ((k : Int) - 1) ∧ (∀ j (h : j < l.length), k ≤ j → leK l[j].1 key = false)) (fun i => (intOf i + 1).toNat)
  case atStart => exact ⟨n, Nat.le_refl _, rfl, fun j h hj => absurd h (by have := HN.out; omega)⟩
  case round =>
    obtain ⟨k, hk, rfl, hpre⟩ := hrel
    have HP := hide hpre
    clear hpre
    cases k with
    | succ k =>
      have hkl : k < l.length := by have := HN.out; omega
      obtain ⟨g, o, rfl, c1⟩ := HC.out k hkl
      have HNX : Hid (leK l[k].1 key = false → ∀ j (h : j < l.length), k ≤ j → leK l[j].1 key = false) := fun hl j h hj => by
        by_cases he : j = k
        · subst he; exact hl
        · exact HP.out j h (by omega)
      have HAT : Hid (leK l[k].1 key = true → PickAt l key (k + 1)) := fun hl => ⟨by omega, fun j h hj => HP.out j h hj, fun j h hj => by
        have : j = k := by omega
        subst this
        exact hl⟩
      obtain ⟨x, hx⟩ : ∃ x, x = l[k].1 := ⟨_, rfl⟩
      rw [← hx] at c1 HNX HAT
      have e1 : ((k + 1 : Nat) : Int) - 1 = (k : Int) := by omega
      rw [e1]
      have hltI : (k : Int) < (n : Int) := by omega
      have j0 : (0 : Int) ≤ (k : Int) := by omega
      have hw1 : IntKind.i64.wrap ((k : Int) - 1) = (k : Int) - 1 := by rw [IntKind.wrap_i64]; omega
      have hw2 : IntKind.i64.wrap ((k : Int) + 1) = ((k + 1 : Nat) : Int) := by rw [IntKind.wrap_i64]; omega
      clear hx HC hw0
      cases hb : leK x key with
      | true =>
        have hbl : (Op.bytesLess x.toList key.toList || x.toList == key.toList) = true := hb
        have HAT2 := hide (HAT.out hb)
        clear hb HNX HAT
        go_wp2
        all_goals
          rw [HQ.out]
          exact ⟨⟨k + 1, rfl, HAT2.out⟩, HQ1.out⟩
      | false =>
        have hbl : (Op.bytesLess x.toList key.toList || x.toList == key.toList) = false := hb
        have HNX2 := hide (HNX.out hb)
        clear hb HNX HAT
        go_wp2
        go_round
        case rel => exact ⟨k, by omega, by go_num, HNX2.out⟩
        case measure => simp [intOf]
    | zero =>
      have HNO : Hid (PickAt l key 0) := ⟨Nat.zero_le _, fun j h _ => HP.out j h (Nat.zero_le _), fun j _ h => by omega⟩
      have e1 : ((0 : Nat) : Int) - 1 = -1 := by omega
      rw [e1]
      clear HC HP hw0
      go_wp2
      rw [HQ.out]
      exact ⟨⟨0, rfl, HNO.out⟩, HQ1.out⟩

end Go.Proofs.YtagldlchamlpdaaDoor
