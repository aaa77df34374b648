import Derived.Test.YtdacbajiapdiiabDoorBase
import Derived.Test.YtdacbajiapdiiabDoorErrs
import Derived.Test.YtdacbajiapdiiabDoorCNum
namespace Go.Proofs.YtdacbajiapdiiabDoor

/-- The sum of the first i sizes. -/
def pre (l : List Int) (i : Nat) : Int := (l.take i).sum
theorem pre_zero (l : List Int) : pre l 0 = 0 := by simp [pre]
theorem pre_succ (l : List Int) (i : Nat) (h : i < l.length) : pre l (i + 1) = pre l i + l[i] := by
  unfold pre
  rw [List.take_succ_eq_append_getElem h, List.sum_append]; simp
theorem pre_all (l : List Int) (i : Nat) (h : l.length ≤ i) : pre l i = pre l l.length := by
  unfold pre
  rw [List.take_of_length_le h, List.take_of_length_le (Nat.le_refl _)]
def FineL (l : List Int) : Prop := ∀ i (h : i < l.length), 1 ≤ l[i] ∧ l[i] ≤ 4072
theorem pre_mono {l : List Int} (hf : FineL l) (i : Nat) : ∀ j, i ≤ j → j ≤ l.length → pre l i + (j - i : Nat) ≤ pre l j := by
  intro j hij
  induction j with
  | zero => intro _; have : i = 0 := by omega
            subst this; simp
  | succ j ih =>
    intro hj
    by_cases h : i = j + 1
    · subst h; simp
    · have h1 := ih (by omega) (by omega)
      have h2 := pre_succ l j (by omega)
      have h3 := (hf j (by omega)).1
      omega
theorem pre_bound {l : List Int} (hf : FineL l) : ∀ j, j ≤ l.length → 0 ≤ pre l j ∧ pre l j ≤ 4072 * (j : Int) := by
  intro j
  induction j with
  | zero => intro _; rw [pre_zero]; omega
  | succ j ih =>
    intro hj
    have h1 := ih (by omega)
    have h2 := pre_succ l j (by omega)
    have h3 := hf j (by omega)
    omega

def gapC (l : List Int) (i : Nat) : Nat := (pre l i - (pre l l.length - pre l i)).natAbs
def gapP (l : List Int) (i : Nat) : Nat := (pre l i - (pre l l.length - pre l (i + 1))).natAbs
/-- The least place from 1 to hi at which f is least. -/
def IsBest (f : Nat → Nat) (hi i : Nat) : Prop := (1 ≤ i ∧ i ≤ hi) ∧ ∀ j, 1 ≤ j → j ≤ hi → f i ≤ f j ∧ (j < i → f i < f j)
theorem IsBest.unique {f : Nat → Nat} {hi i j : Nat} (h : IsBest f hi i) (k : IsBest f hi j) : i = j := by
  have a := h.2 j k.1.1 k.1.2
  have b := k.2 i h.1.1 h.1.2
  rcases Nat.lt_trichotomy i j with h' | h' | h'
  · have := b.2 h'; omega
  · exact h'
  · have := a.2 h'; omega
/-- A place behind which a thing first holds. -/
theorem first_place (p : Nat → Prop) [DecidablePred p] : ∀ n, p n → ∃ j, j ≤ n ∧ p j ∧ ∀ k, k < j → ¬ p k := by
  intro n
  induction n using Nat.strongRecOn with
  | ind n ih =>
    intro hp
    by_cases h : ∃ k, k < n ∧ p k
    · obtain ⟨k, hk, hpk⟩ := h
      obtain ⟨j, h1, h2, h3⟩ := ih k hk hpk
      exact ⟨j, by omega, h2, h3⟩
    · exact ⟨n, Nat.le_refl _, hp, fun k hk hpk => h ⟨k, hk, hpk⟩⟩

theorem cut_even {l : List Int} {m : Int} {i : Nat} (hf : FineL l) (h2 : 2 ≤ l.length) (hm : ∀ k (h : k < l.length), l[k] ≤ m) (hb : IsBest (gapC l) (l.length - 1) i) : (gapC l i : Int) ≤ m := by
  suffices h : ∃ j, 1 ≤ j ∧ j ≤ l.length - 1 ∧ (gapC l j : Int) ≤ m by
    obtain ⟨j, j1, j2, j3⟩ := h
    have := (hb.2 j j1 j2).1
    omega
  obtain ⟨j, h1, h2', h3⟩ := first_place (fun j => pre l l.length ≤ 2 * pre l j) l.length (by have := (pre_bound hf l.length (Nat.le_refl _)).1; show _ ≤ _; omega)
  have T0 := pre_mono hf 0 l.length (by omega) (by omega)
  rw [pre_zero] at T0
  have hj0 : j ≠ 0 := by rintro rfl; rw [pre_zero] at h2'; omega
  obtain ⟨k, rfl⟩ : ∃ k, j = k + 1 := ⟨j - 1, by omega⟩
  have h4 := h3 k (by omega)
  have hk := pre_succ l k (by omega)
  have hmk := hm k (by omega)
  have hp := (pre_bound hf k (by omega)).1
  have hq := pre_mono hf (k + 1) l.length (by omega) (Nat.le_refl _)
  by_cases ha : k + 1 = l.length
  · refine ⟨k, by omega, by omega, ?_⟩
    rw [ha] at hk
    unfold gapC; omega
  · by_cases hz : k = 0
    · subst hz
      rw [pre_zero] at *
      exact ⟨0 + 1, by omega, by omega, by unfold gapC; omega⟩
    · by_cases hc : (gapC l (k + 1) : Int) ≤ m
      · exact ⟨k + 1, by omega, by omega, hc⟩
      · refine ⟨k, by omega, by omega, ?_⟩
        unfold gapC at hc ⊢; omega

theorem pivot_even {l : List Int} {m : Int} {i : Nat} (hf : FineL l) (h2 : 3 ≤ l.length) (hm : ∀ k (h : k < l.length), l[k] ≤ m) (hb : IsBest (gapP l) (l.length - 2) i) : (gapP l i : Int) ≤ m := by
  suffices h : ∃ j, 1 ≤ j ∧ j ≤ l.length - 2 ∧ (gapP l j : Int) ≤ m by
    obtain ⟨j, j1, j2, j3⟩ := h
    have := (hb.2 j j1 j2).1
    omega
  have B := fun j hj => (pre_bound hf j hj).1
  obtain ⟨j, h1, h2', h3⟩ := first_place (fun j => pre l l.length ≤ pre l j + pre l (j + 1)) (l.length - 1) (by
    have := B (l.length - 1) (by omega); show _ ≤ _; rw [show l.length - 1 + 1 = l.length by omega]; omega)
  have hj0 : j ≠ 0 := by
    rintro rfl
    have := pre_mono hf (0 + 1) l.length (by omega) (by omega)
    rw [pre_zero] at h2'; omega
  obtain ⟨k, rfl⟩ : ∃ k, j = k + 1 := ⟨j - 1, by omega⟩
  have h4 := h3 k (by omega)
  have hk := pre_succ l k (by omega)
  have hk1 := pre_succ l (k + 1) (by omega)
  have hmk := hm k (by omega)
  have hmk1 := hm (k + 1) (by omega)
  have hp := B k (by omega)
  have hq := pre_mono hf (k + 1 + 1) l.length (by omega) (Nat.le_refl _)
  by_cases ha : k + 1 = l.length - 1
  · refine ⟨k, by omega, by omega, ?_⟩
    rw [show k + 1 + 1 = l.length by omega] at hk1
    unfold gapP; omega
  · by_cases hz : k = 0
    · subst hz
      rw [pre_zero] at *
      exact ⟨0 + 1, by omega, by omega, by unfold gapP; omega⟩
    · by_cases hc : (gapP l (k + 1) : Int) ≤ m
      · exact ⟨k + 1, by omega, by omega, hc⟩
      · refine ⟨k, by omega, by omega, ?_⟩
        unfold gapP at hc ⊢; omega


theorem IsBest.one (f : Nat → Nat) : IsBest f 1 1 := ⟨⟨Nat.le_refl _, Nat.le_refl _⟩, fun j h1 h2 => by
  have : j = 1 := by omega
  subst this; exact ⟨Nat.le_refl _, fun h => by omega⟩⟩
theorem IsBest.stepNew {f : Nat → Nat} {k i : Nat} (h : IsBest f k i) (hf : f (k + 1) < f i) : IsBest f (k + 1) (k + 1) :=
  ⟨⟨by omega, Nat.le_refl _⟩, fun j h1 h2 => by
    by_cases hj : j = k + 1
    · subst hj; exact ⟨Nat.le_refl _, fun h => by omega⟩
    · have := (h.2 j h1 (by omega)).1
      exact ⟨by omega, fun _ => by omega⟩⟩
theorem IsBest.stepOld {f : Nat → Nat} {k i : Nat} (h : IsBest f k i) (hf : ¬ f (k + 1) < f i) : IsBest f (k + 1) i :=
  ⟨⟨h.1.1, by have := h.1.2; omega⟩, fun j h1 h2 => by
    by_cases hj : j = k + 1
    · subst hj; exact ⟨by omega, fun h' => by have := h.1.2; omega⟩
    · exact h.2 j h1 (by omega)⟩
theorem gapC_lt {l : List Int} (hf : FineL l) (j : Nat) (h1 : 1 ≤ j) (h2 : j + 1 ≤ l.length) : (gapC l j : Int) < pre l l.length := by
  have a := pre_mono hf 0 j (by omega) (by omega)
  have b := pre_mono hf j l.length (by omega) (by omega)
  rw [pre_zero] at a
  unfold gapC; omega
theorem gapP_lt {l : List Int} (hf : FineL l) (j : Nat) (h1 : 1 ≤ j) (h2 : j + 2 ≤ l.length) : (gapP l j : Int) < pre l l.length := by
  have a := pre_mono hf 0 j (by omega) (by omega)
  have b := pre_mono hf (j + 1) l.length (by omega) (by omega)
  have c := pre_mono hf j (j + 1) (by omega) (by omega)
  rw [pre_zero] at a
  unfold gapP; omega

end Go.Proofs.YtdacbajiapdiiabDoor

namespace Go.Proofs.YtdacbajiapdiiabDoor
open Go.RowKit

/-- The slice value v reads as the numbers l. -/
def IntR (w : World) (v : Value) (l : List Int) : Prop := ∃ a cap, v = .slice a l.length cap ∧ l.length ≤ cap ∧ ∀ j (h : j < l.length), ∃ g o, a = some ⟨g, o, none⟩ ∧ w.cell? ⟨g, o + j, none⟩ = some (.int .i64 l[j])
theorem IntR.below {w w' : World} {v : Value} {l : List Int} (h : IntR w v l) (hb : Below w.heap.size w w') : IntR w' v l := by
  obtain ⟨a, cap, rfl, hle, hc⟩ := h
  refine ⟨a, cap, rfl, hle, fun j hj => ?_⟩
  obtain ⟨g, o, ha, hcell⟩ := hc j hj
  exact ⟨g, o, ha, (hb.cell (p := ⟨g, o + j, none⟩) (World.block_lt_of_cell? w _ hcell)).trans hcell⟩

set_option maxHeartbeats 400000 in
theorem dist_any (a b : Int) (w : World) (ha : 0 ≤ a ∧ a ≤ 1152921504606846976) (hb : 0 ≤ b ∧ b ≤ 1152921504606846976) : Calls Tryd.prog 64 #[.int .i64 a, .int .i64 b] w fun e w' => e = .returned (.int .i64 ((a - b).natAbs : Int)) ∧ w = w' := by
  obtain ⟨a0, a1⟩ := ha
  obtain ⟨b0, b1⟩ := hb
  go_enter Tryd.func64, Tryd.ntmps64
  go_wp2
  all_goals
    go_ret
    exact ⟨ret_int (by omega), rfl⟩

set_option maxHeartbeats 400000 in
theorem isSize_any (n : Int) (w : World) : Calls Tryd.prog 82 #[.int .i64 n] w fun e w' => e = .returned (.bool (decide (1 ≤ n ∧ n ≤ 4072))) ∧ w = w' := by
  by_cases h1 : 1 ≤ n
  · by_cases h2 : n ≤ 4072
    · have e1 : decide (1 ≤ n ∧ n ≤ 4072) = true := decide_eq_true ⟨h1, h2⟩
      rw [e1]
      go_enter Tryd.func82, Tryd.ntmps82
      go_wp2
      go_ret
      exact ⟨rfl, rfl⟩
    · have e1 : decide (1 ≤ n ∧ n ≤ 4072) = false := decide_eq_false (fun h => h2 h.2)
      rw [e1]
      go_enter Tryd.func82, Tryd.ntmps82
      go_wp2
      go_ret
      exact ⟨rfl, rfl⟩
  · have e1 : decide (1 ≤ n ∧ n ≤ 4072) = false := decide_eq_false (fun h => h1 h.1)
    rw [e1]
    go_enter Tryd.func82, Tryd.ntmps82
    go_wp2
    go_ret
    exact ⟨rfl, rfl⟩

theorem wrap_sm (x : Int) (h0 : 0 ≤ x) (h1 : x ≤ 2305843009213693952) : IntKind.i64.wrap x = x := by
  rw [IntKind.wrap_i64]; omega

set_option maxHeartbeats 1000000 in
theorem sum_any (a : Option Addr) (cap n : Nat) (l : List Int) (w : World) (hm : n ≤ 17592186044416) (e1 : l.length = n)
    (h1 : ∀ j (h : j < l.length), ∃ g o, a = some ⟨g, o, none⟩ ∧ w.cell? ⟨g, o + j, none⟩ = some (.int .i64 l[j])) :
    Calls Tryd.prog 70 #[.slice a n cap] w fun e w' => ((FineL l ∧ e = .returned (.tuple #[.int .i64 (pre l n), .bool true])) ∨ (¬ FineL l ∧ e = .returned (.tuple #[.int .i64 0, .bool false]))) ∧ w = w' := by
  have HE : Hid (l.length = n) := e1
  have H1 := hide h1
  clear e1 h1
  have HP := hide (pre_zero l)
  go_enter Tryd.func70, Tryd.ntmps70
  go_wp2
  go_loop [4, 9] (fun r i => ∃ k : Nat, k ≤ n ∧ i = .int .i64 k ∧ (∀ j (h : j < l.length), j < k → 1 ≤ l[j] ∧ l[j] ≤ 4072) ∧ (0 ≤ pre l k ∧ pre l k ≤ 4072 * (k : Int)) ∧ r = .int .i64 (pre l k)) (fun _ i => n - (intOf i).toNat)
  case atStart => exact ⟨0, Nat.zero_le _, rfl, fun j h h' => by omega, by rw [HP.out]; omega, by rw [HP.out]⟩
  case round =>
    obtain ⟨k, hk, rfl, hf, hpb, rfl⟩ := hrel
    have HF := hide hf
    clear hf
    by_cases hlt : k < n
    · have hk1 : k < l.length := by have := HE.out; omega
      obtain ⟨g, o, rfl, f1⟩ := H1.out k hk1
      have HS := hide (pre_succ l k hk1)
      obtain ⟨x, hx⟩ : ∃ x, x = l[k] := ⟨_, rfl⟩
      rw [← hx] at f1
      have HX := hide hx
      clear hx H1 HP
      obtain ⟨p, hp⟩ : ∃ p, p = pre l k := ⟨_, rfl⟩
      rw [← hp] at hpb ⊢
      have HPP := hide hp
      have HB := hide hpb
      clear hp hpb
      by_cases hxx : 1 ≤ x ∧ x ≤ 4072
      · have HI : Hid (∀ w, Calls Tryd.prog 82 #[.int .i64 x] w fun e w' => e = .returned (.bool true) ∧ w = w') := fun w => by
          have h := isSize_any x w
          rw [decide_eq_true hxx] at h
          exact h
        have hw : IntKind.i64.wrap (p + x) = p + x := wrap_sm _ (by have := HB.out; omega) (by have := HB.out; omega)
        have HXX := hide hxx
        clear hxx
        go_wp2_with (go_at_call 82; refine (HI.out _).mono ?_; rintro e w' ⟨rfl, rfl⟩)
        go_round
        case rel =>
          refine ⟨k + 1, by omega, by go_num, fun j hj hjk => ?_, ?_, ?_⟩
          · by_cases hjj : j = k
            · subst hjj; rw [← HX.out]; exact HXX.out
            · exact HF.out j hj (by omega)
          · have := HS.out; have := HPP.out; have := HX.out; have := HB.out; have := HXX.out; omega
          · rw [HS.out, ← HPP.out, ← HX.out]
        case measure => simp [intOf]; omega
      · have HI : Hid (∀ w, Calls Tryd.prog 82 #[.int .i64 x] w fun e w' => e = .returned (.bool false) ∧ w = w') := fun w => by
          have h := isSize_any x w
          rw [decide_eq_false hxx] at h
          exact h
        have HNF : Hid (¬ FineL l) := fun hf => hxx (by have := hf k hk1; rw [← HX.out] at this; exact this)
        clear hxx
        go_wp2_with (go_at_call 82; refine (HI.out _).mono ?_; rintro e w' ⟨rfl, rfl⟩)
        go_ret2
        exact ⟨.inr ⟨HNF.out, rfl⟩, rfl⟩
    · have hkn : k = n := by omega
      clear H1
      have HFF : Hid (FineL l) := fun j hj => HF.out j hj (by have := HE.out; omega)
      subst hkn
      obtain ⟨p, hp⟩ : ∃ p, p = pre l k := ⟨_, rfl⟩
      rw [← hp] at hpb ⊢
      have HPP := hide hp
      clear hpb HP hp
      go_wp2
      go_ret2
      exact ⟨.inl ⟨HFF.out, by rw [← HPP.out]; rfl⟩, rfl⟩


/-! The two ways to say how far the sums are apart, by a place, the sum ahead and the rest. -/
set_option maxHeartbeats 400000 in
theorem cutf_any (p a b : Int) (w : World) (ha : 0 ≤ a ∧ a ≤ 1152921504606846976) (hb : 0 ≤ b ∧ b ≤ 1152921504606846976) : Calls Tryd.prog 63 #[.int .i64 p, .int .i64 a, .int .i64 b] w fun e w' => e = .returned (.int .i64 ((a - b).natAbs : Int)) ∧ w = w' := by
  have HD := hide (dist_any a b w ha hb)
  clear ha hb
  go_enter Tryd.func63, Tryd.ntmps63
  go_wp2_with (go_at_call 64; refine HD.out.mono ?_; rintro e w' ⟨rfl, rfl⟩)
  go_ret
  exact ⟨rfl, rfl⟩

end Go.Proofs.YtdacbajiapdiiabDoor

namespace Go.Proofs.YtdacbajiapdiiabDoor
open Go.RowKit

set_option maxHeartbeats 4000000 in
theorem evenC_any (A : Nat → Addr) (g o cap m n : Nat) (l : List Int) (w : World) (hmn : n ≤ 17592186044416) (hm1 : 1 ≤ m) (hn : n = m + 1) (e1 : l.length = n) (hcap : n ≤ cap) (hE : ErrsG 4 gAll A w)
    (h1 : ∀ j (h : j < l.length), w.cell? ⟨g, o + j, none⟩ = some (.int .i64 l[j])) :
    Calls Tryd.prog 62 #[.slice (some ⟨g, o, none⟩) n cap, .int .i64 2, .func (.func 63) #[] #[]] w fun e w' => ((FineL l ∧ ∃ i : Nat, e = .returned (.tuple #[.int .i64 (i : Int), .nilIface]) ∧ IsBest (gapC l) m i) ∨ (¬ FineL l ∧ e = .returned (.tuple #[.int .i64 0, .iface 128 (.pointer (some (A 0)))]))) ∧ Below w.heap.size w w' := by
  have c0 : w.cell? ⟨1, 0, none⟩ = some (.iface 128 (.pointer (some (A 0)))) := (hE.1 0 (by decide)).1
  have HS := hide (sum_any (some ⟨g, o, none⟩) cap n l w (by omega) e1 (fun j h => ⟨g, o, rfl, h1 j h⟩))
  have hm : m ≤ 17592186044416 := by omega
  have HE : Hid (l.length = n) := e1
  have HN : Hid (n = m + 1) := hn
  have H1 := hide h1
  have HP0 := hide (pre_zero l)
  have hnI : (n : Int) = (m : Int) + 1 := by omega
  have hsl1 : IntKind.i64.wrap ((n : Int) - 2) = (m : Int) - 1 := by rw [IntKind.wrap_i64]; omega
  have hsl2 : IntKind.i64.wrap ((m : Int) - 1 + 1) = (m : Int) := by rw [IntKind.wrap_i64]; omega
  have hlt : ¬ (n : Int) < 2 := by omega
  have hmc : (m : Int) ≤ (cap : Int) := by omega
  have hm0 : (0 : Int) ≤ (m : Int) := by omega
  clear e1 hn h1 hE hnI hmn
  by_cases hF : FineL l
  · have HT := hide (pre_bound hF n (by have := HE.out; omega))
    have HF := hide hF
    have HSS : Hid (Calls Tryd.prog 70 #[.slice (some ⟨g, o, none⟩) n cap] w fun e w' => e = .returned (.tuple #[.int .i64 (pre l n), .bool true]) ∧ w = w') := by
      refine HS.out.mono ?_
      rintro e w' ⟨h | h, rfl⟩
      · exact ⟨h.2, rfl⟩
      · exact absurd hF h.1
    obtain ⟨T, hT⟩ : ∃ T, T = pre l n := ⟨_, rfl⟩
    rw [← hT] at HSS HT
    have HTT := hide hT
    clear hT HS c0 hF
    go_enter Tryd.func62, Tryd.ntmps62
    go_wp2_with (go_at_call 70; refine HSS.out.mono ?_; rintro e w' ⟨rfl, rfl⟩)
    go_loop [8, 10, 11, 12, 38] (fun re be le ah i => ∃ (k best : Nat) (least : Int), k ≤ m ∧ i = .int .i64 k ∧ re = .int .i64 (T - pre l k) ∧ be = .int .i64 (best : Int) ∧ le = .int .i64 least ∧ ah = .int .i64 (pre l k) ∧ ((k = 0 ∧ best = 0 ∧ least = T) ∨ (1 ≤ k ∧ IsBest (gapC l) k best ∧ least = gapC l best))) (fun _ _ _ _ i => m - (intOf i).toNat)
    case atStart => exact ⟨0, 0, T, Nat.zero_le _, rfl, by rw [HP0.out, Int.sub_zero], rfl, rfl, by rw [HP0.out], .inl ⟨rfl, rfl, rfl⟩⟩
    case round =>
      obtain ⟨k, best, least, hk, rfl, rfl, rfl, rfl, rfl, hst⟩ := hrel
      have HST := hide hst
      clear hst
      by_cases hltk : k < m
      · have hk1 : k < l.length := by have := HE.out; have := HN.out; omega
        have f1 := H1.out k hk1
        have HPS := hide (pre_succ l k hk1)
        have HPB := hide (pre_bound HF.out k (by omega))
        have HPB1 := hide (pre_bound HF.out (k + 1) (by omega))
        have HMO := hide (pre_mono HF.out (k + 1) n (by have := HE.out; have := HN.out; omega) (by have := HE.out; omega))
        obtain ⟨x, hx⟩ : ∃ x, x = l[k] := ⟨_, rfl⟩
        rw [← hx] at f1 HPS
        obtain ⟨p, hp⟩ : ∃ p, p = pre l k := ⟨_, rfl⟩
        rw [← hp] at HPB HPS ⊢
        obtain ⟨q, hq⟩ : ∃ q, q = pre l (k + 1) := ⟨_, rfl⟩
        rw [← hq] at HPB1 HPS HMO
        rw [← HTT.out] at HMO
        have HQ := hide hq
        have HKB : Hid ((k : Int) ≤ 17592186044416 ∧ 4072 * ((k : Int) + 1) ≤ 72057594037927936) := ⟨by omega, by omega⟩
        have HQB : Hid (0 ≤ q ∧ q ≤ 1152921504606846976) := ⟨HPB1.out.1, by have := HPB1.out.2; have := HKB.out; omega⟩
        have HRB : Hid (0 ≤ T - q ∧ T - q ≤ 1152921504606846976) := ⟨by have := HMO.out; omega, by have := HT.out.2; have := HPB1.out.1; have := HN.out; omega⟩
        have hw1 : IntKind.i64.wrap (p + x) = q := by rw [← HPS.out]; exact wrap_sm _ HQB.out.1 (by have := HQB.out; omega)
        have hw2 : IntKind.i64.wrap (T - p - x) = T - q := by rw [show T - p - x = T - q by have := HPS.out; omega]; exact wrap_sm _ HRB.out.1 (by have := HRB.out; omega)
        have hw3 : IntKind.i64.wrap ((k : Int) + 1) = ((k + 1 : Nat) : Int) := by rw [IntKind.wrap_i64]; omega
        have HCF : Hid (Calls Tryd.prog 63 #[.int .i64 ((k + 1 : Nat) : Int), .int .i64 q, .int .i64 (T - q)] w fun e w' => e = .returned (.int .i64 ((gapC l (k + 1) : Nat) : Int)) ∧ w = w') := by
          have h := cutf_any ((k + 1 : Nat) : Int) q (T - q) w HQB.out HRB.out
          have e : gapC l (k + 1) = (q - (T - q)).natAbs := by unfold gapC; rw [HE.out, ← HTT.out, ← HQ.out]
          rw [e]; exact h
        have HGL := hide (gapC_lt HF.out (k + 1) (by omega) (by have := HE.out; have := HN.out; omega))
        rw [HE.out, ← HTT.out] at HGL
        obtain ⟨gp, hgp⟩ : ∃ gp : Nat, gp = gapC l (k + 1) := ⟨_, rfl⟩
        rw [← hgp] at HCF HGL
        have HGP := hide hgp
        have hltI : (k : Int) < (m : Int) := by omega
        clear hx hp hq hgp H1 HP0 HSS
        by_cases hless : (gp : Int) < least
        · have HNEW : Hid (IsBest (gapC l) (k + 1) (k + 1)) := by
            rcases HST.out with ⟨rfl, _, _⟩ | ⟨_, hb, he⟩
            · exact IsBest.one _
            · exact hb.stepNew (by rw [← HGP.out]; omega)
          clear HST
          go_wp2_with (go_at_call 63; refine (HCF.out).mono ?_; rintro e w' ⟨rfl, rfl⟩)
          go_round
          case rel => exact ⟨k + 1, k + 1, gp, by omega, rfl, by rw [← HQ.out], rfl, rfl, by rw [← HQ.out], .inr ⟨by omega, HNEW.out, by rw [HGP.out]⟩⟩
          case measure => simp [intOf]; omega
        · have HOLD : Hid (1 ≤ k + 1 ∧ IsBest (gapC l) (k + 1) best ∧ least = gapC l best) := by
            rcases HST.out with ⟨_, _, rfl⟩ | ⟨_, hb, he⟩
            · exact absurd HGL.out hless
            · exact ⟨by omega, hb.stepOld (by rw [← HGP.out]; omega), he⟩
          clear HST
          go_wp2_with (go_at_call 63; refine (HCF.out).mono ?_; rintro e w' ⟨rfl, rfl⟩)
          go_round
          case rel => exact ⟨k + 1, best, least, by omega, rfl, by rw [← HQ.out], rfl, rfl, by rw [← HQ.out], .inr HOLD.out⟩
          case measure => simp [intOf]; omega
      · have hkm : k = m := by omega
        have HFIN : Hid (IsBest (gapC l) m best) := by
          rcases HST.out with ⟨h0, _, _⟩ | ⟨_, hb, _⟩
          · omega
          · rw [← hkm]; exact hb
        subst hkm
        obtain ⟨p, hp⟩ : ∃ p, p = pre l k := ⟨_, rfl⟩
        rw [← hp]
        clear hp HST H1 HSS HP0
        go_wp2
        go_ret2
        exact ⟨.inl ⟨HF.out, best, rfl, HFIN.out⟩, Below.refl _ _⟩
  · have HSS : Hid (Calls Tryd.prog 70 #[.slice (some ⟨g, o, none⟩) n cap] w fun e w' => e = .returned (.tuple #[.int .i64 0, .bool false]) ∧ w = w') := by
      refine HS.out.mono ?_
      rintro e w' ⟨h | h, rfl⟩
      · exact absurd h.1 hF
      · exact ⟨h.2, rfl⟩
    have HF := hide hF
    clear HS hF H1 HP0
    go_enter Tryd.func62, Tryd.ntmps62
    go_wp2_with (go_at_call 70; refine HSS.out.mono ?_; rintro e w' ⟨rfl, rfl⟩)
    go_quiet (fail)
    go_wp2
    go_ret2
    exact ⟨.inr ⟨HF.out, rfl⟩, below_drewN' (Below.refl _ _) _⟩

end Go.Proofs.YtdacbajiapdiiabDoor

namespace Go.Proofs.YtdacbajiapdiiabDoor
open Go.RowKit

set_option maxHeartbeats 400000 in
theorem evenS_any (A : Nat → Addr) (a : Option Addr) (n cap : Nat) (th : Int) (fv : Value) (w : World) (hn : (n : Int) < th) (_hm : n ≤ 17592186044416) (hE : ErrsG 4 gAll A w) :
    Calls Tryd.prog 62 #[.slice a n cap, .int .i64 th, fv] w fun e w' => e = .returned (.tuple #[.int .i64 0, .iface 128 (.pointer (some (A 3)))]) ∧ Below w.heap.size w w' := by
  have c0 : w.cell? ⟨3, 0, none⟩ = some (.iface 128 (.pointer (some (A 3)))) := (hE.1 3 (by decide)).1
  clear hE
  go_enter Tryd.func62, Tryd.ntmps62
  go_wp2
  go_quiet (fail)
  go_wp2
  go_ret2
  exact ⟨rfl, below_drewN' (Below.refl _ _) _⟩

/-- What Cut and Pivot answer. -/
def CutV (A : Nat → Addr) (th : Nat) (f : Nat → Nat) (l : List Int) (e : Ending) : Prop :=
  (l.length < th ∧ e = .returned (.tuple #[.int .i64 0, .iface 128 (.pointer (some (A 3)))])) ∨ (th ≤ l.length ∧ ¬ FineL l ∧ e = .returned (.tuple #[.int .i64 0, .iface 128 (.pointer (some (A 0)))])) ∨
    (th ≤ l.length ∧ FineL l ∧ ∃ i : Nat, e = .returned (.tuple #[.int .i64 (i : Int), .nilIface]) ∧ IsBest f (l.length - (th - 1)) i)

set_option maxHeartbeats 400000 in
theorem cut_any (A : Nat → Addr) (v : Value) (l : List Int) (w : World) (hm : l.length ≤ 17592186044416) (hr : IntR w v l) (hE : ErrsG 4 gAll A w) :
    Calls Tryd.prog 43 #[v] w fun e w' => CutV A 2 (gapC l) l e ∧ Below w.heap.size w w' := by
  obtain ⟨a, cap, rfl, hcap, hc⟩ := hr
  have H : Hid (Calls Tryd.prog 62 #[.slice a l.length cap, .int .i64 2, .func (.func 63) #[] #[]] w fun e w' => ∃ x y, e = .returned (.tuple #[x, y]) ∧ CutV A 2 (gapC l) l (.returned (.tuple #[x, y])) ∧ Below w.heap.size w w') := by
    by_cases hs : l.length < 2
    · refine (evenS_any A a l.length cap 2 _ w (by omega) hm hE).mono ?_
      rintro e w' ⟨rfl, hb⟩
      exact ⟨_, _, rfl, .inl ⟨hs, rfl⟩, hb⟩
    · obtain ⟨g, o, rfl, _⟩ := hc 0 (by omega)
      refine (evenC_any A g o cap (l.length - 1) l.length l w hm (by omega) (by omega) rfl hcap hE (fun j h => by obtain ⟨g', o', he, hcell⟩ := hc j h; cases he; exact hcell)).mono ?_
      rintro e w' ⟨⟨hf, i, rfl, hi⟩ | ⟨hf, rfl⟩, hb⟩
      · exact ⟨_, _, rfl, .inr (.inr ⟨by omega, hf, i, rfl, hi⟩), hb⟩
      · exact ⟨_, _, rfl, .inr (.inl ⟨by omega, hf, rfl⟩), hb⟩
  clear hc hE hcap
  go_enter Tryd.func43, Tryd.ntmps43
  go_wp2_with (go_at_call 62; refine H.out.mono ?_; rintro e w' ⟨x, y, rfl, hv, hb⟩; have HV := hide hv; clear hv)
  go_ret2
  exact ⟨HV.out, hb⟩

theorem errs_below {n : Nat} {G : Nat → Nat} {A : Nat → Addr} {w w' : World} (h : ErrsG n G A w) (hb : Below w.heap.size w w') : ErrsG n G A w' := ErrsG.keep h hb

end Go.Proofs.YtdacbajiapdiiabDoor

namespace Go.Proofs.YtdacbajiapdiiabDoor
open Go.RowKit

/-- What a cut answers, and the refusal's number. -/
def CutN (th : Nat) (f : Nat → Nat) (l : List Int) (i c : Nat) : Prop :=
  (l.length < th ∧ i = 0 ∧ c = 4) ∨ (th ≤ l.length ∧ ¬ FineL l ∧ i = 0 ∧ c = 1) ∨ (th ≤ l.length ∧ FineL l ∧ IsBest f (l.length - (th - 1)) i ∧ c = 0)
theorem CutN.unique {th : Nat} {f : Nat → Nat} {l : List Int} {i c i' c' : Nat} (h : CutN th f l i c) (k : CutN th f l i' c') : i = i' ∧ c = c' := by
  rcases h with ⟨h1, h2, h3⟩ | ⟨h1, hf, h2, h3⟩ | ⟨h1, hf, h2, h3⟩ <;> rcases k with ⟨k1, k2, k3⟩ | ⟨k1, kf, k2, k3⟩ | ⟨k1, kf, k2, k3⟩
  · omega
  · omega
  · omega
  · omega
  · omega
  · exact absurd kf hf
  · omega
  · exact absurd hf kf
  · exact ⟨h2.unique k2, by omega⟩
/-- A refusal's number. -/
def NumOf (A : Nat → Addr) (ev : Value) (c : Nat) : Prop :=
  (ev = .nilIface ∧ c = 0) ∨ (ev = .iface 128 (.pointer (some (A 0))) ∧ c = 1) ∨ (ev = .iface 128 (.pointer (some (A 1))) ∧ c = 2) ∨ (ev = .iface 128 (.pointer (some (A 2))) ∧ c = 3) ∨ (ev = .iface 128 (.pointer (some (A 3))) ∧ c = 4)
theorem num_of {A : Nat → Addr} {ev : Value} {c : Nat} (w : World) (h : NumOf A ev c) (hE : ErrsG 4 gAll A w) : Calls Tryd.prog 9 #[ev] w fun e w' => e = .returned (.int .i64 (c : Int)) ∧ w = w' := by
  rcases h with ⟨rfl, rfl⟩ | ⟨rfl, rfl⟩ | ⟨rfl, rfl⟩ | ⟨rfl, rfl⟩ | ⟨rfl, rfl⟩
  · exact num_nil w
  · exact num_arg A w hE
  · exact num_text A w hE
  · exact num_many A w hE
  · exact num_short A w hE
theorem CutV.num {A : Nat → Addr} {th : Nat} {f : Nat → Nat} {l : List Int} {e : Ending} (h : CutV A th f l e) : ∃ (i c : Nat) (ev : Value), e = .returned (.tuple #[.int .i64 (i : Int), ev]) ∧ CutN th f l i c ∧ NumOf A ev c := by
  rcases h with ⟨h1, rfl⟩ | ⟨h1, hf, rfl⟩ | ⟨h1, hf, i, rfl, hi⟩
  · exact ⟨0, 4, _, rfl, .inl ⟨h1, rfl, rfl⟩, .inr (.inr (.inr (.inr ⟨rfl, rfl⟩)))⟩
  · exact ⟨0, 1, _, rfl, .inr (.inl ⟨h1, hf, rfl, rfl⟩), .inr (.inl ⟨rfl, rfl⟩)⟩
  · exact ⟨i, 0, _, rfl, .inr (.inr ⟨h1, hf, hi, rfl⟩), .inl ⟨rfl, rfl⟩⟩
theorem RowR.ints {w : World} {v : Value} {l : List Int} (h : RowR w v (ints l)) : IntR w v l := by
  obtain ⟨a, cap, rfl, hle, _, hc⟩ := h
  rw [ints_length] at hle ⊢
  exact ⟨a, cap, rfl, hle, fun j hj => hc j _ (ints_get l j hj)⟩

end Go.Proofs.YtdacbajiapdiiabDoor
