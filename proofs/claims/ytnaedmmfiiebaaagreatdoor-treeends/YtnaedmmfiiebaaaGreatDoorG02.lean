import Derived.Test.YtnaedmmfiiebaaaGreatDoorG00
import Derived.Test.YtnaedmmfiiebaaaGreatDoorRows
import Derived.LaidLaws
import Derived.LaidEql
import Derived.Test.YtnaedmmfiiebaaaGreatDoorG01
namespace Go.Proofs.YtnaedmmfiiebaaaGreatDoor
open Go.RowKit Go.ChangeShapes

def mkErr (x : String × List UInt8) : String × DataW Unit := (x.1, .iface "*errors.errorString" (.ptr (.agg [.lit (.string x.2)])))
def errText : DataW Unit → List UInt8
  | .iface _ (.ptr (.agg [.lit (.string t)])) => t
  | _ => []

theorem cellsStr : Tryz.prog.cellsOf 9 = 1 := by kernel_rfl
theorem cellsErr : Tryz.prog.cellsOf 375 = 1 := by kernel_rfl
theorem star : "*" ++ "errors.errorString" = "*errors.errorString" := by decide
theorem rowPtr (u : TypeId) (h : Tryz.prog.typeName? 3 u = some "*errors.errorString") : u = 360 :=
  typeName_ptr_named (nm := "errors.errorString") (by rw [star]; kernel_rfl) (by kernel_rfl) (by decide) u (by rw [star]; exact h)
theorem compPtr : (Tryz.prog.info? 360).map (·.comparable) = some true := by kernel_rfl
theorem sizeErr : (Tryz.prog.info? 375).map (·.size) = some 1 := by kernel_rfl

set_option maxRecDepth 100000 in
theorem sents {W : World} : ∀ (l : List (String × List UInt8)) (rest : List (String × DataW Unit)) (G : Nat → Nat) (ps : List MemPlace),
    (∀ i x, l[i]? = some x → Tryz.prog.globalNamed x.1 = some (G i) ∧ (Tryz.prog.globals[G i]?).map (·.type) = some 32) →
    DataW.LaidVars Tryz.prog W (l.map mkErr ++ rest) ps → ps.Nodup →
    (∀ b off, MemPlace.cell b off ∈ ps → (∃ c t, W.heap[b]? = some (.cells c t (0, 0))) ∧ ∀ u v, W.cell? ⟨b, off, none⟩ = some (.iface u v) → Value.okWide Tryz.prog W .any 0 u v) →
    ∃ xs : List Addr, xs.length = l.length ∧ (∀ i a, xs[i]? = some a → W.cell? ⟨G i, 0, none⟩ = some (.iface 360 (.pointer (some a))) ∧ ∃ c t, W.heap[a.block]? = some (.cells c t (0, 0))) ∧
      xs.Nodup ∧ (∀ a ∈ xs, MemPlace.cell a.block a.off ∈ ps) ∧ ∃ qs, DataW.LaidVars Tryz.prog W rest qs ∧ qs.Nodup ∧ (∀ x ∈ qs, x ∈ ps) := by
  intro l
  induction l with
  | nil =>
    intro rest G ps _ hv hnd _
    exact ⟨[], rfl, fun i a h => by simp at h, List.nodup_nil, fun a h => by simp at h, ps, hv, hnd, fun x h => h⟩
  | cons x r ih =>
    intro rest G ps hg hv hnd hrows
    obtain ⟨g, t, cs, fuel, p, q, hg1, ht1, hvar, hd, hq, rfl⟩ := hv
    obtain ⟨k1, k2⟩ := hg 0 x rfl
    obtain rfl := Option.some.inj (k1.symm.trans hg1)
    obtain rfl := Option.some.inj (k2.symm.trans ht1)
    obtain ⟨l0⟩ := cs
    have ok0 : ∀ u v, l0 = [.iface u v] → Value.okWide Tryz.prog W .any 0 u v := fun u v e => by
      subst e
      exact (hrows (G 0) 0 (by simp [MemPlace.row])).2 u v (by simpa using World.var?_cell hg1 hvar 0)
    obtain ⟨a, s, rfl, hc, hs, hz, rfl⟩ := errorString_of_trod Tryz.underlying32 rowPtr Tryz.underlying360 Tryz.underlying375 rfl rfl Tryz.underlying9 cellsErr cellsStr hd ok0
    have hnd2 := hnd
    rw [List.append_assoc] at hnd2
    have hq2 := (List.nodup_append.1 (List.nodup_append.1 hnd2).2.1)
    obtain ⟨xs, h1, h2, h3, h4, qs, h5, h6, h7⟩ := ih rest (fun i => G (i + 1)) q (fun i y hy => hg (i + 1) y (by simpa using hy)) hq hq2.2.1 (fun b off hm => hrows b off (List.mem_append_right _ hm))
    refine ⟨a :: xs, by simp [h1], ?_, ?_, ?_, qs, h5, h6, fun y hy => List.mem_append_right _ (h7 y hy)⟩
    · intro i b hb
      cases i with
      | zero =>
        simp only [List.getElem?_cons_zero, Option.some.injEq] at hb
        subst hb
        exact ⟨by simpa using World.var?_cell hg1 hvar 0, (hrows a.block a.off (by simp [MemPlace.row])).1⟩
      | succ i =>
        exact h2 i b (by simpa using hb)
    · refine List.nodup_cons.2 ⟨fun hm => ?_, h3⟩
      exact hq2.2.2 (.cell a.block a.off) (by simp [MemPlace.row]) (.cell a.block a.off) (h4 a hm) rfl
    · intro b hb
      rcases List.mem_cons.1 hb with rfl | hb
      · simp [MemPlace.row]
      · exact List.mem_append_right _ (h4 b hb)

/-- n of the refusals lie in their variables, n pointers. -/
def ErrsG (n : Nat) (G : Nat → Nat) (A : Nat → Addr) (w : World) : Prop :=
  (∀ i, i < n → w.cell? ⟨G i, 0, none⟩ = some (.iface 360 (.pointer (some (A i)))) ∧ ∃ c t, w.heap[(A i).block]? = some (.cells c t (0, 0))) ∧ (∀ i j, i < n → j < n → A i = A j → i = j)

theorem ErrsG.keep {n : Nat} {G : Nat → Nat} {A : Nat → Addr} {w w' : World} (h : ErrsG n G A w) (hb : Below w.heap.size w w') : ErrsG n G A w' := by
  refine ⟨fun i hi => ?_, h.2⟩
  obtain ⟨h1, c, t, h2⟩ := h.1 i hi
  have hlt : G i < w.heap.size := World.block_lt_of_cell? w _ h1
  have hlt2 : (A i).block < w.heap.size := by
    rcases Nat.lt_or_ge (A i).block w.heap.size with h' | h'
    · exact h'
    · rw [Array.getElem?_eq_none h'] at h2; cases h2
  exact ⟨(hb.cell (p := ⟨G i, 0, none⟩) hlt).trans h1, c, t, by rw [hb.block _ hlt2]; exact h2⟩

theorem errs_of {W : World} {l : List (String × List UInt8)} {rest : List (String × DataW Unit)} {n : Nat} (G : Nat → Nat) (hl : l.length = n)
    (hg : ∀ i x, l[i]? = some x → Tryz.prog.globalNamed x.1 = some (G i) ∧ (Tryz.prog.globals[G i]?).map (·.type) = some 32) (h : laidMet Tryz.prog (l.map mkErr ++ rest) W) : ∃ A, ErrsG n G A W ∧ ∃ qs, DataW.LaidVars Tryz.prog W rest qs ∧ qs.Nodup := by
  obtain ⟨ps, hv, hnd, hrows⟩ := h
  obtain ⟨xs, h1, h2, h3, _, qs, h5, h6, _⟩ := sents l rest G ps hg hv hnd hrows
  refine ⟨fun i => xs.getD i default, ⟨fun i hi => ?_, fun i j hi hj he => ?_⟩, qs, h5, h6⟩
  · have : xs[i]? = some (xs.getD i default) := by
      rw [List.getD, List.getElem?_eq_getElem (by omega)]; rfl
    exact h2 i _ this
  · have hi' : i < xs.length := by omega
    have hj' : j < xs.length := by omega
    simp only [List.getD, List.getElem?_eq_getElem hi', List.getElem?_eq_getElem hj', Option.getD_some] at he
    have hp := List.pairwise_iff_getElem.1 h3
    rcases Nat.lt_trichotomy i j with h | h | h
    · exact absurd he (hp i j hi' hj' h)
    · exact h
    · exact absurd he.symm (hp j i hj' hi' h)

theorem eq_same (A : Nat → Addr) (i : Nat) (w : World) : (binOp .eql 32 (.iface 360 (.pointer (some (A i)))) (.iface 360 (.pointer (some (A i))))).run Tryz.prog w = .ok (.bool true) w := by
  obtain ⟨i1, hi, hcmp⟩ := Option.map_eq_some_iff.1 compPtr
  obtain ⟨j, hj, _⟩ := Option.map_eq_some_iff.1 sizeErr
  exact run_eql_iface_ptr_same w _ Tryz.underlying32 Tryz.underlying360 hi hcmp hj
theorem eq_other {n : Nat} {G : Nat → Nat} (A : Nat → Addr) (i k : Nat) (w : World) (h : ErrsG n G A w) (hi : i < n) (hk : k < n) (hne : i ≠ k) : (binOp .eql 32 (.iface 360 (.pointer (some (A i)))) (.iface 360 (.pointer (some (A k))))).run Tryz.prog w = .ok (.bool false) w := by
  obtain ⟨i1, hi1, hcmp⟩ := Option.map_eq_some_iff.1 compPtr
  obtain ⟨j, hj, hjs⟩ := Option.map_eq_some_iff.1 sizeErr
  obtain ⟨_, c, t, hb⟩ := h.1 i hi
  obtain ⟨_, c', t', hb'⟩ := h.1 k hk
  exact run_eql_iface_ptr_other w Tryz.underlying32 Tryz.underlying360 hi1 hcmp hj (by rw [hjs]; decide) (fun he => hne (h.2 i k hi hk he)) hb hb'

/-- The places of the refusals in the list of all thirteen. -/
def gAll (i : Nat) : Nat := ([0, 1, 2, 3, 4, 5, 6, 7, 8, 9, 10, 11, 12] : List Nat).getD i 0
/-- The thirteen refusals lie in their variables, thirteen pointers. -/
abbrev ErrsAt (A : Nat → Addr) (w : World) : Prop := ErrsG 13 gAll A w
theorem ErrsAt.below {A : Nat → Addr} {w w' : World} (h : ErrsAt A w) (hb : Below w.heap.size w w') : ErrsAt A w' := ErrsG.keep h hb

end Go.Proofs.YtnaedmmfiiebaaaGreatDoor

namespace Go.Proofs.YtnaedmmfiiebaaaGreatDoor
open Go.RowKit

/-- The slice value v reads as the numbers l. -/
def IntR (w : World) (v : Value) (l : List Int) : Prop := ∃ a cap, v = .slice a l.length cap ∧ l.length ≤ cap ∧ ∀ j (h : j < l.length), ∃ g o, a = some ⟨g, o, none⟩ ∧ w.cell? ⟨g, o + j, none⟩ = some (.int .i64 l[j])
theorem IntR.below {w w' : World} {v : Value} {l : List Int} (h : IntR w v l) (hb : Below w.heap.size w w') : IntR w' v l := by
  obtain ⟨a, cap, rfl, hle, hc⟩ := h
  refine ⟨a, cap, rfl, hle, fun j hj => ?_⟩
  obtain ⟨g, o, ha, hcell⟩ := hc j hj
  exact ⟨g, o, ha, (hb.cell (p := ⟨g, o + j, none⟩) (World.block_lt_of_cell? w _ hcell)).trans hcell⟩

set_option maxHeartbeats 400000 in
theorem dist_any (a b : Int) (w : World) (ha : 0 ≤ a ∧ a ≤ 1152921504606846976) (hb : 0 ≤ b ∧ b ≤ 1152921504606846976) : Calls Tryz.prog 237 #[.int .i64 a, .int .i64 b] w fun e w' => e = .returned (.int .i64 ((a - b).natAbs : Int)) ∧ w = w' := by
  obtain ⟨a0, a1⟩ := ha
  obtain ⟨b0, b1⟩ := hb
  go_enter Tryz.func237, Tryz.ntmps237
  go_wp2
  all_goals
    go_ret
    exact ⟨ret_int (by omega), rfl⟩

set_option maxHeartbeats 400000 in
theorem isSize_any (n : Int) (w : World) : Calls Tryz.prog 262 #[.int .i64 n] w fun e w' => e = .returned (.bool (decide (1 ≤ n ∧ n ≤ 4072))) ∧ w = w' := by
  by_cases h1 : 1 ≤ n
  · by_cases h2 : n ≤ 4072
    · have e1 : decide (1 ≤ n ∧ n ≤ 4072) = true := decide_eq_true ⟨h1, h2⟩
      rw [e1]
      go_enter Tryz.func262, Tryz.ntmps262
      go_wp2
      go_ret
      exact ⟨rfl, rfl⟩
    · have e1 : decide (1 ≤ n ∧ n ≤ 4072) = false := decide_eq_false (fun h => h2 h.2)
      rw [e1]
      go_enter Tryz.func262, Tryz.ntmps262
      go_wp2
      go_ret
      exact ⟨rfl, rfl⟩
  · have e1 : decide (1 ≤ n ∧ n ≤ 4072) = false := decide_eq_false (fun h => h1 h.1)
    rw [e1]
    go_enter Tryz.func262, Tryz.ntmps262
    go_wp2
    go_ret
    exact ⟨rfl, rfl⟩

theorem wrap_sm (x : Int) (h0 : 0 ≤ x) (h1 : x ≤ 2305843009213693952) : IntKind.i64.wrap x = x := by
  rw [IntKind.wrap_i64]; omega

set_option maxHeartbeats 1000000 in
theorem sum_any (a : Option Addr) (cap n : Nat) (l : List Int) (w : World) (hm : n ≤ 17592186044416) (e1 : l.length = n)
    (h1 : ∀ j (h : j < l.length), ∃ g o, a = some ⟨g, o, none⟩ ∧ w.cell? ⟨g, o + j, none⟩ = some (.int .i64 l[j])) :
    Calls Tryz.prog 254 #[.slice a n cap] w fun e w' => ((FineL l ∧ e = .returned (.tuple #[.int .i64 (pre l n), .bool true])) ∨ (¬ FineL l ∧ e = .returned (.tuple #[.int .i64 0, .bool false]))) ∧ w = w' := by
  have HE : Hid (l.length = n) := e1
  have H1 := hide h1
  clear e1 h1
  have HP := hide (pre_zero l)
  go_enter Tryz.func254, Tryz.ntmps254
  go_wp2
  go_loop [4, 9] (fun r i => ∃ k : Nat, k ≤ n ∧ i = .int .i64 k ∧ (∀ j (h : j < l.length), j < k → 1 ≤ l[j] ∧ l[j] ≤ 4072) ∧ (0 ≤ pre l k ∧ pre l k ≤ 4072 * (k : Int)) ∧ r = .int .i64 (pre l k)) (fun _ i => n - (intOf i).toNat)
  case atStart => exact ⟨0, Nat.zero_le _, rfl, fun j h h' => by omega, by rw [HP.out]; omega, by rw [HP.out]⟩
  case round =>
    obtain ⟨k, hk, rfl, hf, hpb, rfl⟩ := hrel
    have HF := hide hf
    clear hf
    by_cases hlt : k < n
    · have hk1 : k < l.length := by have := HE.out; omega
      obtain ⟨g, o, rfl, f1⟩ := H1.out k hk1
      have HS := hide (pre_succ l k hk1)
      obtain ⟨x, hx⟩ : ∃ x, x = l[k] := ⟨_, rfl⟩
      rw [← hx] at f1
      have HX := hide hx
      clear hx H1 HP
      obtain ⟨p, hp⟩ : ∃ p, p = pre l k := ⟨_, rfl⟩
      rw [← hp] at hpb ⊢
      have HPP := hide hp
      have HB := hide hpb
      clear hp hpb
      by_cases hxx : 1 ≤ x ∧ x ≤ 4072
      · have HI : Hid (∀ w, Calls Tryz.prog 262 #[.int .i64 x] w fun e w' => e = .returned (.bool true) ∧ w = w') := fun w => by
          have h := isSize_any x w
          rw [decide_eq_true hxx] at h
          exact h
        have hw : IntKind.i64.wrap (p + x) = p + x := wrap_sm _ (by have := HB.out; omega) (by have := HB.out; omega)
        have HXX := hide hxx
        clear hxx
        go_wp2_with (go_at_call 262; refine (HI.out _).mono ?_; rintro e w' ⟨rfl, rfl⟩)
        go_round
        case rel =>
          refine ⟨k + 1, by omega, by go_num, fun j hj hjk => ?_, ?_, ?_⟩
          · by_cases hjj : j = k
            · subst hjj; rw [← HX.out]; exact HXX.out
            · exact HF.out j hj (by omega)
          · have := HS.out; have := HPP.out; have := HX.out; have := HB.out; have := HXX.out; omega
          · rw [HS.out, ← HPP.out, ← HX.out]
        case measure => simp [intOf]; omega
      · have HI : Hid (∀ w, Calls Tryz.prog 262 #[.int .i64 x] w fun e w' => e = .returned (.bool false) ∧ w = w') := fun w => by
          have h := isSize_any x w
          rw [decide_eq_false hxx] at h
          exact h
        have HNF : Hid (¬ FineL l) := fun hf => hxx (by have := hf k hk1; rw [← HX.out] at this; exact this)
        clear hxx
        go_wp2_with (go_at_call 262; refine (HI.out _).mono ?_; rintro e w' ⟨rfl, rfl⟩)
        go_ret2
        exact ⟨.inr ⟨HNF.out, rfl⟩, rfl⟩
    · have hkn : k = n := by omega
      clear H1
      have HFF : Hid (FineL l) := fun j hj => HF.out j hj (by have := HE.out; omega)
      subst hkn
      obtain ⟨p, hp⟩ : ∃ p, p = pre l k := ⟨_, rfl⟩
      rw [← hp] at hpb ⊢
      have HPP := hide hp
      clear hpb HP hp
      go_wp2
      go_ret2
      exact ⟨.inl ⟨HFF.out, by rw [← HPP.out]; rfl⟩, rfl⟩


/-! The two ways to say how far the sums are apart, by a place, the sum ahead and the rest. -/
set_option maxHeartbeats 400000 in
theorem cutf_any (p a b : Int) (w : World) (ha : 0 ≤ a ∧ a ≤ 1152921504606846976) (hb : 0 ≤ b ∧ b ≤ 1152921504606846976) : Calls Tryz.prog 236 #[.int .i64 p, .int .i64 a, .int .i64 b] w fun e w' => e = .returned (.int .i64 ((a - b).natAbs : Int)) ∧ w = w' := by
  have HD := hide (dist_any a b w ha hb)
  clear ha hb
  go_enter Tryz.func236, Tryz.ntmps236
  go_wp2_with (go_at_call 237; refine HD.out.mono ?_; rintro e w' ⟨rfl, rfl⟩)
  go_ret
  exact ⟨rfl, rfl⟩

end Go.Proofs.YtnaedmmfiiebaaaGreatDoor

namespace Go.Proofs.YtnaedmmfiiebaaaGreatDoor
open Go.RowKit

set_option maxHeartbeats 4000000 in
theorem evenC_any (A : Nat → Addr) (g o cap m n : Nat) (l : List Int) (w : World) (hmn : n ≤ 17592186044416) (hm1 : 1 ≤ m) (hn : n = m + 1) (e1 : l.length = n) (hcap : n ≤ cap) (hE : ErrsG 4 gAll A w)
    (h1 : ∀ j (h : j < l.length), w.cell? ⟨g, o + j, none⟩ = some (.int .i64 l[j])) :
    Calls Tryz.prog 235 #[.slice (some ⟨g, o, none⟩) n cap, .int .i64 2, .func (.func 236) #[] #[]] w fun e w' => ((FineL l ∧ ∃ i : Nat, e = .returned (.tuple #[.int .i64 (i : Int), .nilIface]) ∧ IsBest (gapC l) m i) ∨ (¬ FineL l ∧ e = .returned (.tuple #[.int .i64 0, .iface 360 (.pointer (some (A 0)))]))) ∧ Below w.heap.size w w' := by
  have c0 : w.cell? ⟨0, 0, none⟩ = some (.iface 360 (.pointer (some (A 0)))) := (hE.1 0 (by decide)).1
  have HS := hide (sum_any (some ⟨g, o, none⟩) cap n l w (by omega) e1 (fun j h => ⟨g, o, rfl, h1 j h⟩))
  have hm : m ≤ 17592186044416 := by omega
  have HE : Hid (l.length = n) := e1
  have HN : Hid (n = m + 1) := hn
  have H1 := hide h1
  have HP0 := hide (pre_zero l)
  have hnI : (n : Int) = (m : Int) + 1 := by omega
  have hsl1 : IntKind.i64.wrap ((n : Int) - 2) = (m : Int) - 1 := by rw [IntKind.wrap_i64]; omega
  have hsl2 : IntKind.i64.wrap ((m : Int) - 1 + 1) = (m : Int) := by rw [IntKind.wrap_i64]; omega
  have hlt : ¬ (n : Int) < 2 := by omega
  have hmc : (m : Int) ≤ (cap : Int) := by omega
  have hm0 : (0 : Int) ≤ (m : Int) := by omega
  clear e1 hn h1 hE hnI hmn
  by_cases hF : FineL l
  · have HT := hide (pre_bound hF n (by have := HE.out; omega))
    have HF := hide hF
    have HSS : Hid (Calls Tryz.prog 254 #[.slice (some ⟨g, o, none⟩) n cap] w fun e w' => e = .returned (.tuple #[.int .i64 (pre l n), .bool true]) ∧ w = w') := by
      refine HS.out.mono ?_
      rintro e w' ⟨h | h, rfl⟩
      · exact ⟨h.2, rfl⟩
      · exact absurd hF h.1
    obtain ⟨T, hT⟩ : ∃ T, T = pre l n := ⟨_, rfl⟩
    rw [← hT] at HSS HT
    have HTT := hide hT
    clear hT HS c0 hF
    go_enter Tryz.func235, Tryz.ntmps235
    go_wp2_with (go_at_call 254; refine HSS.out.mono ?_; rintro e w' ⟨rfl, rfl⟩)
    go_loop [8, 10, 11, 12, 38] (fun re be le ah i => ∃ (k best : Nat) (least : Int), k ≤ m ∧ i = .int .i64 k ∧ re = .int .i64 (T - pre l k) ∧ be = .int .i64 (best : Int) ∧ le = .int .i64 least ∧ ah = .int .i64 (pre l k) ∧ ((k = 0 ∧ best = 0 ∧ least = T) ∨ (1 ≤ k ∧ IsBest (gapC l) k best ∧ least = gapC l best))) (fun _ _ _ _ i => m - (intOf i).toNat)
    case atStart => exact ⟨0, 0, T, Nat.zero_le _, rfl, by rw [HP0.out, Int.sub_zero], rfl, rfl, by rw [HP0.out], .inl ⟨rfl, rfl, rfl⟩⟩
    case round =>
      obtain ⟨k, best, least, hk, rfl, rfl, rfl, rfl, rfl, hst⟩ := hrel
      have HST := hide hst
      clear hst
      by_cases hltk : k < m
      · have hk1 : k < l.length := by have := HE.out; have := HN.out; omega
        have f1 := H1.out k hk1
        have HPS := hide (pre_succ l k hk1)
        have HPB := hide (pre_bound HF.out k (by omega))
        have HPB1 := hide (pre_bound HF.out (k + 1) (by omega))
        have HMO := hide (pre_mono HF.out (k + 1) n (by have := HE.out; have := HN.out; omega) (by have := HE.out; omega))
        obtain ⟨x, hx⟩ : ∃ x, x = l[k] := ⟨_, rfl⟩
        rw [← hx] at f1 HPS
        obtain ⟨p, hp⟩ : ∃ p, p = pre l k := ⟨_, rfl⟩
        rw [← hp] at HPB HPS ⊢
        obtain ⟨q, hq⟩ : ∃ q, q = pre l (k + 1) := ⟨_, rfl⟩
        rw [← hq] at HPB1 HPS HMO
        rw [← HTT.out] at HMO
        have HQ := hide hq
        have HKB : Hid ((k : Int) ≤ 17592186044416 ∧ 4072 * ((k : Int) + 1) ≤ 72057594037927936) := ⟨by omega, by omega⟩
        have HQB : Hid (0 ≤ q ∧ q ≤ 1152921504606846976) := ⟨HPB1.out.1, by have := HPB1.out.2; have := HKB.out; omega⟩
        have HRB : Hid (0 ≤ T - q ∧ T - q ≤ 1152921504606846976) := ⟨by have := HMO.out; omega, by have := HT.out.2; have := HPB1.out.1; have := HN.out; omega⟩
        have hw1 : IntKind.i64.wrap (p + x) = q := by rw [← HPS.out]; exact wrap_sm _ HQB.out.1 (by have := HQB.out; omega)
        have hw2 : IntKind.i64.wrap (T - p - x) = T - q := by rw [show T - p - x = T - q by have := HPS.out; omega]; exact wrap_sm _ HRB.out.1 (by have := HRB.out; omega)
        have hw3 : IntKind.i64.wrap ((k : Int) + 1) = ((k + 1 : Nat) : Int) := by rw [IntKind.wrap_i64]; omega
        have HCF : Hid (Calls Tryz.prog 236 #[.int .i64 ((k + 1 : Nat) : Int), .int .i64 q, .int .i64 (T - q)] w fun e w' => e = .returned (.int .i64 ((gapC l (k + 1) : Nat) : Int)) ∧ w = w') := by
          have h := cutf_any ((k + 1 : Nat) : Int) q (T - q) w HQB.out HRB.out
          have e : gapC l (k + 1) = (q - (T - q)).natAbs := by unfold gapC; rw [HE.out, ← HTT.out, ← HQ.out]
          rw [e]; exact h
        have HGL := hide (gapC_lt HF.out (k + 1) (by omega) (by have := HE.out; have := HN.out; omega))
        rw [HE.out, ← HTT.out] at HGL
        obtain ⟨gp, hgp⟩ : ∃ gp : Nat, gp = gapC l (k + 1) := ⟨_, rfl⟩
        rw [← hgp] at HCF HGL
        have HGP := hide hgp
        have hltI : (k : Int) < (m : Int) := by omega
        clear hx hp hq hgp H1 HP0 HSS
        by_cases hless : (gp : Int) < least
        · have HNEW : Hid (IsBest (gapC l) (k + 1) (k + 1)) := by
            rcases HST.out with ⟨rfl, _, _⟩ | ⟨_, hb, he⟩
            · exact IsBest.one _
            · exact hb.stepNew (by rw [← HGP.out]; omega)
          clear HST
          go_wp2_with (go_at_call 236; refine (HCF.out).mono ?_; rintro e w' ⟨rfl, rfl⟩)
          go_round
          case rel => exact ⟨k + 1, k + 1, gp, by omega, rfl, by rw [← HQ.out], rfl, rfl, by rw [← HQ.out], .inr ⟨by omega, HNEW.out, by rw [HGP.out]⟩⟩
          case measure => simp [intOf]; omega
        · have HOLD : Hid (1 ≤ k + 1 ∧ IsBest (gapC l) (k + 1) best ∧ least = gapC l best) := by
            rcases HST.out with ⟨_, _, rfl⟩ | ⟨_, hb, he⟩
            · exact absurd HGL.out hless
            · exact ⟨by omega, hb.stepOld (by rw [← HGP.out]; omega), he⟩
          clear HST
          go_wp2_with (go_at_call 236; refine (HCF.out).mono ?_; rintro e w' ⟨rfl, rfl⟩)
          go_round
          case rel => exact ⟨k + 1, best, least, by omega, rfl, by rw [← HQ.out], rfl, rfl, by rw [← HQ.out], .inr HOLD.out⟩
          case measure => simp [intOf]; omega
      · have hkm : k = m := by omega
        have HFIN : Hid (IsBest (gapC l) m best) := by
          rcases HST.out with ⟨h0, _, _⟩ | ⟨_, hb, _⟩
          · omega
          · rw [← hkm]; exact hb
        subst hkm
        obtain ⟨p, hp⟩ : ∃ p, p = pre l k := ⟨_, rfl⟩
        rw [← hp]
        clear hp HST H1 HSS HP0
        go_wp2
        go_ret2
        exact ⟨.inl ⟨HF.out, best, rfl, HFIN.out⟩, Below.refl _ _⟩
  · have HSS : Hid (Calls Tryz.prog 254 #[.slice (some ⟨g, o, none⟩) n cap] w fun e w' => e = .returned (.tuple #[.int .i64 0, .bool false]) ∧ w = w') := by
      refine HS.out.mono ?_
      rintro e w' ⟨h | h, rfl⟩
      · exact absurd h.1 hF
      · exact ⟨h.2, rfl⟩
    have HF := hide hF
    clear HS hF H1 HP0
    go_enter Tryz.func235, Tryz.ntmps235
    go_wp2_with (go_at_call 254; refine HSS.out.mono ?_; rintro e w' ⟨rfl, rfl⟩)
    go_quiet (fail)
    go_wp2
    go_ret2
    exact ⟨.inr ⟨HF.out, rfl⟩, below_drewN' (Below.refl _ _) _⟩

end Go.Proofs.YtnaedmmfiiebaaaGreatDoor

namespace Go.Proofs.YtnaedmmfiiebaaaGreatDoor
open Go.RowKit

set_option maxHeartbeats 400000 in
theorem evenS_any (A : Nat → Addr) (a : Option Addr) (n cap : Nat) (th : Int) (fv : Value) (w : World) (hn : (n : Int) < th) (_hm : n ≤ 17592186044416) (hE : ErrsG 4 gAll A w) :
    Calls Tryz.prog 235 #[.slice a n cap, .int .i64 th, fv] w fun e w' => e = .returned (.tuple #[.int .i64 0, .iface 360 (.pointer (some (A 3)))]) ∧ Below w.heap.size w w' := by
  have c0 : w.cell? ⟨3, 0, none⟩ = some (.iface 360 (.pointer (some (A 3)))) := (hE.1 3 (by decide)).1
  clear hE
  go_enter Tryz.func235, Tryz.ntmps235
  go_wp2
  go_quiet (fail)
  go_wp2
  go_ret2
  exact ⟨rfl, below_drewN' (Below.refl _ _) _⟩

/-- What Cut and Pivot answer. -/
def CutV (A : Nat → Addr) (th : Nat) (f : Nat → Nat) (l : List Int) (e : Ending) : Prop :=
  (l.length < th ∧ e = .returned (.tuple #[.int .i64 0, .iface 360 (.pointer (some (A 3)))])) ∨ (th ≤ l.length ∧ ¬ FineL l ∧ e = .returned (.tuple #[.int .i64 0, .iface 360 (.pointer (some (A 0)))])) ∨
    (th ≤ l.length ∧ FineL l ∧ ∃ i : Nat, e = .returned (.tuple #[.int .i64 (i : Int), .nilIface]) ∧ IsBest f (l.length - (th - 1)) i)

set_option maxHeartbeats 400000 in
theorem cut_any (A : Nat → Addr) (v : Value) (l : List Int) (w : World) (hm : l.length ≤ 17592186044416) (hr : IntR w v l) (hE : ErrsG 4 gAll A w) :
    Calls Tryz.prog 210 #[v] w fun e w' => CutV A 2 (gapC l) l e ∧ Below w.heap.size w w' := by
  obtain ⟨a, cap, rfl, hcap, hc⟩ := hr
  have H : Hid (Calls Tryz.prog 235 #[.slice a l.length cap, .int .i64 2, .func (.func 236) #[] #[]] w fun e w' => ∃ x y, e = .returned (.tuple #[x, y]) ∧ CutV A 2 (gapC l) l (.returned (.tuple #[x, y])) ∧ Below w.heap.size w w') := by
    by_cases hs : l.length < 2
    · refine (evenS_any A a l.length cap 2 _ w (by omega) hm hE).mono ?_
      rintro e w' ⟨rfl, hb⟩
      exact ⟨_, _, rfl, .inl ⟨hs, rfl⟩, hb⟩
    · obtain ⟨g, o, rfl, _⟩ := hc 0 (by omega)
      refine (evenC_any A g o cap (l.length - 1) l.length l w hm (by omega) (by omega) rfl hcap hE (fun j h => by obtain ⟨g', o', he, hcell⟩ := hc j h; cases he; exact hcell)).mono ?_
      rintro e w' ⟨⟨hf, i, rfl, hi⟩ | ⟨hf, rfl⟩, hb⟩
      · exact ⟨_, _, rfl, .inr (.inr ⟨by omega, hf, i, rfl, hi⟩), hb⟩
      · exact ⟨_, _, rfl, .inr (.inl ⟨by omega, hf, rfl⟩), hb⟩
  clear hc hE hcap
  go_enter Tryz.func210, Tryz.ntmps210
  go_wp2_with (go_at_call 235; refine H.out.mono ?_; rintro e w' ⟨x, y, rfl, hv, hb⟩; have HV := hide hv; clear hv)
  go_ret2
  exact ⟨HV.out, hb⟩

theorem errs_below {n : Nat} {G : Nat → Nat} {A : Nat → Addr} {w w' : World} (h : ErrsG n G A w) (hb : Below w.heap.size w w') : ErrsG n G A w' := ErrsG.keep h hb

end Go.Proofs.YtnaedmmfiiebaaaGreatDoor

namespace Go.Proofs.YtnaedmmfiiebaaaGreatDoor
open Go.RowKit

set_option maxHeartbeats 400000 in
theorem num_nil (w : World) : Calls Tryz.prog 14 #[.nilIface] w fun e w' => e = .returned (.int .i64 0) ∧ w = w' := by
  go_enter Tryz.func14, Tryz.ntmps14
  go_wp2
  go_ret
  exact ⟨rfl, rfl⟩

set_option maxHeartbeats 400000 in
theorem num_arg (A : Nat → Addr) (w : World) (h : ErrsG 4 gAll A w) : Calls Tryz.prog 14 #[.iface 360 (.pointer (some (A 0)))] w fun e w' => e = .returned (.int .i64 1) ∧ w = w' := by
  have c0 : w.cell? ⟨0, 0, none⟩ = some (.iface 360 (.pointer (some (A 0)))) := (h.1 0 (by decide)).1
  have e0 := eq_same A 0
  clear h
  go_enter Tryz.func14, Tryz.ntmps14
  go_wp2
  go_ret
  exact ⟨rfl, rfl⟩

end Go.Proofs.YtnaedmmfiiebaaaGreatDoor

namespace Go.Proofs.YtnaedmmfiiebaaaGreatDoor
open Go.RowKit

/-- What a cut answers, and the refusal's number. -/
def CutN (th : Nat) (f : Nat → Nat) (l : List Int) (i c : Nat) : Prop :=
  (l.length < th ∧ i = 0 ∧ c = 4) ∨ (th ≤ l.length ∧ ¬ FineL l ∧ i = 0 ∧ c = 1) ∨ (th ≤ l.length ∧ FineL l ∧ IsBest f (l.length - (th - 1)) i ∧ c = 0)
/-- A refusal's number. -/
def NumOf (A : Nat → Addr) (ev : Value) (c : Nat) : Prop :=
  (ev = .nilIface ∧ c = 0) ∨ (ev = .iface 360 (.pointer (some (A 0))) ∧ c = 1) ∨ (ev = .iface 360 (.pointer (some (A 1))) ∧ c = 2) ∨ (ev = .iface 360 (.pointer (some (A 2))) ∧ c = 3) ∨ (ev = .iface 360 (.pointer (some (A 3))) ∧ c = 4)
theorem CutV.num {A : Nat → Addr} {th : Nat} {f : Nat → Nat} {l : List Int} {e : Ending} (h : CutV A th f l e) : ∃ (i c : Nat) (ev : Value), e = .returned (.tuple #[.int .i64 (i : Int), ev]) ∧ CutN th f l i c ∧ NumOf A ev c := by
  rcases h with ⟨h1, rfl⟩ | ⟨h1, hf, rfl⟩ | ⟨h1, hf, i, rfl, hi⟩
  · exact ⟨0, 4, _, rfl, .inl ⟨h1, rfl, rfl⟩, .inr (.inr (.inr (.inr ⟨rfl, rfl⟩)))⟩
  · exact ⟨0, 1, _, rfl, .inr (.inl ⟨h1, hf, rfl, rfl⟩), .inr (.inl ⟨rfl, rfl⟩)⟩
  · exact ⟨i, 0, _, rfl, .inr (.inr ⟨h1, hf, hi, rfl⟩), .inl ⟨rfl, rfl⟩⟩
theorem RowR.ints {w : World} {v : Value} {l : List Int} (h : RowR w v (ints l)) : IntR w v l := by
  obtain ⟨a, cap, rfl, hle, _, hc⟩ := h
  rw [ints_length] at hle ⊢
  exact ⟨a, cap, rfl, hle, fun j hj => hc j _ (ints_get l j hj)⟩

end Go.Proofs.YtnaedmmfiiebaaaGreatDoor
