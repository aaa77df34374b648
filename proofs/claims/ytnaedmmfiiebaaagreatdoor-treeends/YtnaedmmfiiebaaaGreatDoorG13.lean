import Derived.Test.YtnaedmmfiiebaaaGreatDoorG02
import Derived.Test.YtnaedmmfiiebaaaGreatDoorG01
import Derived.Test.YtnaedmmfiiebaaaGreatDoorG00
import Derived.Test.YtnaedmmfiiebaaaGreatDoorG03
import Derived.Test.YtnaedmmfiiebaaaGreatDoorG07
namespace Go.Proofs.YtnaedmmfiiebaaaGreatDoor.B
open Go.RowKit

/-! The two ways to say how far the sums are apart, by a place, the sum ahead and the rest. -/
set_option maxHeartbeats 400000 in
set_option maxHeartbeats 400000 in
theorem pivotf_any (B g o n cap p : Nat) (a b x : Int) (w : World) (hB : w.cell? ⟨B, 0, none⟩ = some (.slice (some ⟨g, o, none⟩) n cap)) (hp : p < n) (hx : w.cell? ⟨g, o + p, none⟩ = some (.int .i64 x)) (ha : 0 ≤ a ∧ a ≤ 1152921504606846976) (hb : 0 ≤ b - x ∧ b - x ≤ 1152921504606846976) :
    Calls Tryz.prog 238 #[.int .i64 (p : Int), .int .i64 a, .int .i64 b, .pointer (some ⟨B, 0, none⟩)] w fun e w' => e = .returned (.int .i64 ((a - (b - x)).natAbs : Int)) ∧ w = w' := by
  have HD := hide (dist_any a (b - x) w ha hb)
  have hw : IntKind.i64.wrap (b - x) = b - x := wrap_sm _ (by omega) (by omega)
  have hpi : (p : Int) < (n : Int) := by omega
  clear ha hb
  go_enter Tryz.func238, Tryz.ntmps238
  go_wp2_with (go_at_call 237; refine HD.out.mono ?_; rintro e w' ⟨rfl, rfl⟩)
  go_ret
  exact ⟨rfl, rfl⟩

end Go.Proofs.YtnaedmmfiiebaaaGreatDoor.B

namespace Go.Proofs.YtnaedmmfiiebaaaGreatDoor.B
open Go.RowKit

set_option maxHeartbeats 4000000 in
theorem evenP_any (A : Nat → Addr) (B g o cap m n : Nat) (l : List Int) (w : World) (hmn : n ≤ 17592186044416) (hm1 : 1 ≤ m) (hn : n = m + 2) (e1 : l.length = n) (hcap : n ≤ cap) (hE : ErrsG 4 gAll A w)
    (h1 : ∀ j (h : j < l.length), w.cell? ⟨g, o + j, none⟩ = some (.int .i64 l[j])) (hB : w.cell? ⟨B, 0, none⟩ = some (.slice (some ⟨g, o, none⟩) n cap)) :
    Calls Tryz.prog 235 #[.slice (some ⟨g, o, none⟩) n cap, .int .i64 3, .func (.func 238) #[] #[.pointer (some ⟨B, 0, none⟩)]] w fun e w' => ((FineL l ∧ ∃ i : Nat, e = .returned (.tuple #[.int .i64 (i : Int), .nilIface]) ∧ IsBest (gapP l) m i) ∨ (¬ FineL l ∧ e = .returned (.tuple #[.int .i64 0, .iface 360 (.pointer (some (A 0)))]))) ∧ Below w.heap.size w w' := by
  have c0 : w.cell? ⟨0, 0, none⟩ = some (.iface 360 (.pointer (some (A 0)))) := (hE.1 0 (by decide)).1
  have HS := hide (sum_any (some ⟨g, o, none⟩) cap n l w (by omega) e1 (fun j h => ⟨g, o, rfl, h1 j h⟩))
  have hm : m ≤ 17592186044416 := by omega
  have HE : Hid (l.length = n) := e1
  have HN : Hid (n = m + 2) := hn
  have H1 := hide h1
  have HP0 := hide (pre_zero l)
  have HB := hide hB
  have hnI : (n : Int) = (m : Int) + 2 := by omega
  have hsl1 : IntKind.i64.wrap ((n : Int) - 3) = (m : Int) - 1 := by rw [IntKind.wrap_i64]; omega
  have hsl2 : IntKind.i64.wrap ((m : Int) - 1 + 1) = (m : Int) := by rw [IntKind.wrap_i64]; omega
  have hlt : ¬ (n : Int) < 3 := by omega
  have hmc : (m : Int) ≤ (cap : Int) := by omega
  have hm0 : (0 : Int) ≤ (m : Int) := by omega
  clear e1 hn h1 hE hnI hmn hB
  by_cases hF : FineL l
  · have HT := hide (pre_bound hF n (by have := HE.out; omega))
    have HF := hide hF
    have HSS : Hid (Calls Tryz.prog 254 #[.slice (some ⟨g, o, none⟩) n cap] w fun e w' => e = .returned (.tuple #[.int .i64 (pre l n), .bool true]) ∧ w = w') := by
      refine HS.out.mono ?_
      rintro e w' ⟨h | h, rfl⟩
      · exact ⟨h.2, rfl⟩
      · exact absurd hF h.1
    obtain ⟨T, hT⟩ : ∃ T, T = pre l n := ⟨_, rfl⟩
    rw [← hT] at HSS HT
    have HTT := hide hT
    clear hT HS c0 hF
    go_enter Tryz.func235, Tryz.ntmps235
    go_wp2_with (go_at_call 254; refine HSS.out.mono ?_; rintro e w' ⟨rfl, rfl⟩)
    go_loop [8, 10, 11, 12, 38] (fun re be le ah i => ∃ (k best : Nat) (least : Int), k ≤ m ∧ i = .int .i64 k ∧ re = .int .i64 (T - pre l k) ∧ be = .int .i64 (best : Int) ∧ le = .int .i64 least ∧ ah = .int .i64 (pre l k) ∧ ((k = 0 ∧ best = 0 ∧ least = T) ∨ (1 ≤ k ∧ IsBest (gapP l) k best ∧ least = gapP l best))) (fun _ _ _ _ i => m - (intOf i).toNat)
    case atStart => exact ⟨0, 0, T, Nat.zero_le _, rfl, by rw [HP0.out, Int.sub_zero], rfl, rfl, by rw [HP0.out], .inl ⟨rfl, rfl, rfl⟩⟩
    case round =>
      obtain ⟨k, best, least, hk, rfl, rfl, rfl, rfl, rfl, hst⟩ := hrel
      have HST := hide hst
      clear hst
      by_cases hltk : k < m
      · have hk1 : k < l.length := by have := HE.out; have := HN.out; omega
        have f1 := H1.out k hk1
        have HPS := hide (pre_succ l k hk1)
        have HPB := hide (pre_bound HF.out k (by omega))
        have HPB1 := hide (pre_bound HF.out (k + 1) (by omega))
        have HMO := hide (pre_mono HF.out (k + 1) n (by have := HE.out; have := HN.out; omega) (by have := HE.out; omega))
        obtain ⟨x, hx⟩ : ∃ x, x = l[k] := ⟨_, rfl⟩
        rw [← hx] at f1 HPS
        obtain ⟨p, hp⟩ : ∃ p, p = pre l k := ⟨_, rfl⟩
        rw [← hp] at HPB HPS ⊢
        obtain ⟨q, hq⟩ : ∃ q, q = pre l (k + 1) := ⟨_, rfl⟩
        rw [← hq] at HPB1 HPS HMO
        rw [← HTT.out] at HMO
        have HQ := hide hq
        have HKB : Hid ((k : Int) ≤ 17592186044416 ∧ 4072 * ((k : Int) + 1) ≤ 72057594037927936) := ⟨by omega, by omega⟩
        have HQB : Hid (0 ≤ q ∧ q ≤ 1152921504606846976) := ⟨HPB1.out.1, by have := HPB1.out.2; have := HKB.out; omega⟩
        have HRB : Hid (0 ≤ T - q ∧ T - q ≤ 1152921504606846976) := ⟨by have := HMO.out; omega, by have := HT.out.2; have := HPB1.out.1; have := HN.out; omega⟩
        have hw1 : IntKind.i64.wrap (p + x) = q := by rw [← HPS.out]; exact wrap_sm _ HQB.out.1 (by have := HQB.out; omega)
        have hw2 : IntKind.i64.wrap (T - p - x) = T - q := by rw [show T - p - x = T - q by have := HPS.out; omega]; exact wrap_sm _ HRB.out.1 (by have := HRB.out; omega)
        have hw3 : IntKind.i64.wrap ((k : Int) + 1) = ((k + 1 : Nat) : Int) := by rw [IntKind.wrap_i64]; omega
        have hk2 : k + 1 < l.length := by have := HE.out; have := HN.out; omega
        have HMO2 := hide (pre_mono HF.out (k + 1 + 1) n (by have := HE.out; have := HN.out; omega) (by have := HE.out; omega))
        have HPS2 := hide (pre_succ l (k + 1) hk2)
        have HY := hide (HF.out (k + 1) hk2)
        rw [← HTT.out] at HMO2
        rw [← HQ.out] at HPS2
        have HCF : Hid (Calls Tryz.prog 238 #[.int .i64 ((k + 1 : Nat) : Int), .int .i64 q, .int .i64 (T - q), .pointer (some ⟨B, 0, none⟩)] w fun e w' => e = .returned (.int .i64 ((gapP l (k + 1) : Nat) : Int)) ∧ w = w') := by
          have h := pivotf_any B g o n cap (k + 1) q (T - q) l[k + 1] w HB.out (by have := HE.out; omega) (H1.out (k + 1) hk2) HQB.out ⟨by have := HMO2.out; have := HPS2.out; omega, by have := HRB.out; have := HY.out; omega⟩
          have e : gapP l (k + 1) = (q - (T - q - l[k + 1])).natAbs := by unfold gapP; rw [HE.out, ← HTT.out, HPS2.out, ← HQ.out]; congr 1; omega
          rw [e]; exact h
        have HGL := hide (gapP_lt HF.out (k + 1) (by omega) (by have := HE.out; have := HN.out; omega))
        rw [HE.out, ← HTT.out] at HGL
        obtain ⟨gp, hgp⟩ : ∃ gp : Nat, gp = gapP l (k + 1) := ⟨_, rfl⟩
        rw [← hgp] at HCF HGL
        have HGP := hide hgp
        have hltI : (k : Int) < (m : Int) := by omega
        clear hx hp hq hgp H1 HP0 HSS
        by_cases hless : (gp : Int) < least
        · have HNEW : Hid (IsBest (gapP l) (k + 1) (k + 1)) := by
            rcases HST.out with ⟨rfl, _, _⟩ | ⟨_, hb, he⟩
            · exact IsBest.one _
            · exact hb.stepNew (by rw [← HGP.out]; omega)
          clear HST
          go_wp2_with (go_at_call 238; refine (HCF.out).mono ?_; rintro e w' ⟨rfl, rfl⟩)
          go_round
          case rel => exact ⟨k + 1, k + 1, gp, by omega, rfl, by rw [← HQ.out], rfl, rfl, by rw [← HQ.out], .inr ⟨by omega, HNEW.out, by rw [HGP.out]⟩⟩
          case measure => simp [intOf]; omega
        · have HOLD : Hid (1 ≤ k + 1 ∧ IsBest (gapP l) (k + 1) best ∧ least = gapP l best) := by
            rcases HST.out with ⟨_, _, rfl⟩ | ⟨_, hb, he⟩
            · exact absurd HGL.out hless
            · exact ⟨by omega, hb.stepOld (by rw [← HGP.out]; omega), he⟩
          clear HST
          go_wp2_with (go_at_call 238; refine (HCF.out).mono ?_; rintro e w' ⟨rfl, rfl⟩)
          go_round
          case rel => exact ⟨k + 1, best, least, by omega, rfl, by rw [← HQ.out], rfl, rfl, by rw [← HQ.out], .inr HOLD.out⟩
          case measure => simp [intOf]; omega
      · have hkm : k = m := by omega
        have HFIN : Hid (IsBest (gapP l) m best) := by
          rcases HST.out with ⟨h0, _, _⟩ | ⟨_, hb, _⟩
          · omega
          · rw [← hkm]; exact hb
        subst hkm
        obtain ⟨p, hp⟩ : ∃ p, p = pre l k := ⟨_, rfl⟩
        rw [← hp]
        clear hp HST H1 HSS HP0
        go_wp2
        go_ret2
        exact ⟨.inl ⟨HF.out, best, rfl, HFIN.out⟩, Below.refl _ _⟩
  · have HSS : Hid (Calls Tryz.prog 254 #[.slice (some ⟨g, o, none⟩) n cap] w fun e w' => e = .returned (.tuple #[.int .i64 0, .bool false]) ∧ w = w') := by
      refine HS.out.mono ?_
      rintro e w' ⟨h | h, rfl⟩
      · exact absurd h.1 hF
      · exact ⟨h.2, rfl⟩
    have HF := hide hF
    clear HS hF H1 HP0
    go_enter Tryz.func235, Tryz.ntmps235
    go_wp2_with (go_at_call 254; refine HSS.out.mono ?_; rintro e w' ⟨rfl, rfl⟩)
    go_quiet (fail)
    go_wp2
    go_ret2
    exact ⟨.inr ⟨HF.out, rfl⟩, below_drewN' (Below.refl _ _) _⟩

end Go.Proofs.YtnaedmmfiiebaaaGreatDoor.B

namespace Go.Proofs.YtnaedmmfiiebaaaGreatDoor.B
open Go.RowKit

set_option maxHeartbeats 400000 in
theorem errs_below {n : Nat} {G : Nat → Nat} {A : Nat → Addr} {w w' : World} (h : ErrsG n G A w) (hb : Below w.heap.size w w') : ErrsG n G A w' := ErrsG.keep h hb

set_option maxHeartbeats 400000 in
theorem pivot_any (A : Nat → Addr) (v : Value) (l : List Int) (w : World) (hm : l.length ≤ 17592186044416) (hr : IntR w v l) (hE : ErrsG 4 gAll A w) :
    Calls Tryz.prog 213 #[v] w fun e w' => CutV A 3 (gapP l) l e ∧ Below w.heap.size w w' := by
  have hmf : ∀ (fn : Fn) (first cap : Array Value) (w : World), (Instr.makeFunc fn first cap).run Tryz.prog w = .ok (.func fn first cap) w := fun _ _ _ _ => rfl
  have hbn := below_new w (.cells #[v] 69)
  have hr2 := hr.below hbn
  obtain ⟨a, cap, rfl, hcap, _⟩ := hr
  obtain ⟨a', cap', hve, _, hc⟩ := hr2
  cases hve
  have hE2 := errs_below hE hbn
  have hB : (w.alloc (.cells #[.slice a l.length cap] 69)).cell? ⟨w.heap.size, 0, none⟩ = some (.slice a l.length cap) := (boxed_new w #[.slice a l.length cap] 69).2 0 (by simp)
  have HBN := hide hbn
  have H : Hid (Calls Tryz.prog 235 #[.slice a l.length cap, .int .i64 3, .func (.func 238) #[] #[.pointer (some ⟨w.heap.size, 0, none⟩)]] (w.alloc (.cells #[.slice a l.length cap] 69)) fun e w' => ∃ x y, e = .returned (.tuple #[x, y]) ∧ CutV A 3 (gapP l) l (.returned (.tuple #[x, y])) ∧ Below (w.alloc (.cells #[.slice a l.length cap] 69)).heap.size (w.alloc (.cells #[.slice a l.length cap] 69)) w') := by
    by_cases hs : l.length < 3
    · refine (evenS_any A a l.length cap 3 _ _ (by omega) hm hE2).mono ?_
      rintro e w' ⟨rfl, hb⟩
      exact ⟨_, _, rfl, .inl ⟨hs, rfl⟩, hb⟩
    · obtain ⟨g, o, rfl, _⟩ := hc 0 (by omega)
      refine (evenP_any A w.heap.size g o cap (l.length - 2) l.length l _ hm (by omega) (by omega) rfl hcap hE2 (fun j h => by obtain ⟨g', o', he, hcell⟩ := hc j h; cases he; exact hcell) hB).mono ?_
      rintro e w' ⟨⟨hf, i, rfl, hi⟩ | ⟨hf, rfl⟩, hb⟩
      · exact ⟨_, _, rfl, .inr (.inr ⟨by omega, hf, i, rfl, hi⟩), hb⟩
      · exact ⟨_, _, rfl, .inr (.inl ⟨by omega, hf, rfl⟩), hb⟩
  clear hc hE hcap hE2 hbn
  go_enter Tryz.func213, Tryz.ntmps213
  go_wp2_with (go_at_call 235; refine H.out.mono ?_; rintro e w' ⟨x, y, rfl, hv, hb⟩; have HV := hide hv; have HBB := hide (Below.next HBN.out hb); clear hv hb)
  go_ret2
  exact ⟨HV.out, HBB.out⟩

end Go.Proofs.YtnaedmmfiiebaaaGreatDoor.B

namespace Go.Proofs.YtnaedmmfiiebaaaGreatDoor.B
open Go.RowKit

theorem _root_.Go.Proofs.YtnaedmmfiiebaaaGreatDoor.CutN.boundP {l : List Int} {i : Nat} (h : CutN 3 (gapP l) l i 0) : 1 ≤ i ∧ i + 2 ≤ l.length := by
  rcases h with ⟨_, _, h⟩ | ⟨_, _, _, h⟩ | ⟨h1, _, h2, _⟩
  · omega
  · omega
  · have := h2.1; omega
theorem numOf_nil {A : Nat → Addr} {ev : Value} (h : NumOf A ev 0) : ev = .nilIface := by
  rcases h with ⟨h, _⟩ | ⟨_, h⟩ | ⟨_, h⟩ | ⟨_, h⟩ | ⟨_, h⟩
  · exact h
  all_goals omega
theorem numOf_err {A : Nat → Addr} {ev : Value} {c : Nat} (h : NumOf A ev c) (hc : c ≠ 0) : ∃ k, ev = .iface 360 (.pointer (some (A k))) := by
  rcases h with ⟨_, h⟩ | ⟨h, _⟩ | ⟨h, _⟩ | ⟨h, _⟩ | ⟨h, _⟩
  · omega
  all_goals exact ⟨_, h⟩

/-- What the branch's Cut answers. -/
def BCutV (A : Nat → Addr) (base : Nat) (f : Int) (l : List Lk) (e : Ending) (w : World) : Prop :=
  ∃ (i c : Nat) (key : ByteArray) (f1 f2 : Int) (u1 u2 ev : Value), e = .returned (.tuple #[.agg #[.int .i64 f1, u1], .string key, .agg #[.int .i64 f2, u2], ev]) ∧ CutN 3 (gapP (szsK l)) (szsK l) i c ∧ NumOf A ev c ∧
    ((c = 0 ∧ (∃ h : i < l.length, f1 = f ∧ key = l[i].1 ∧ f2 = l[i].2) ∧ LkO w base u1 (l.take i) ∧ LkO w base u2 (l.drop (i + 1)) ∧ ∀ k, u1.ownBlock = some k → u2.ownBlock ≠ some k) ∨ (c ≠ 0 ∧ f1 = 0 ∧ key = ⟨#[]⟩ ∧ f2 = 0 ∧ u1 = .slice none 0 0 ∧ u2 = .slice none 0 0))

set_option maxRecDepth 20000 in
set_option maxHeartbeats 2000000 in
theorem bcut_any (A : Nat → Addr) (f : Int) (v : Value) (l : List Lk) (w : World) (hok : OkK l) (hm : l.length ≤ 5864062014805) (hr : LkR w v l) (hE : ErrC A w) :
    Calls Tryz.prog 170 #[.agg #[.int .i64 f, v]] w fun e w' => BCutV A w.heap.size f l e w' ∧ Below w.heap.size w w' := by
  obtain ⟨a1, c1, hv⟩ := hr.form
  subst hv
  have hcap := hr.cap
  obtain ⟨n, hn⟩ : ∃ n, n = l.length := ⟨_, rfl⟩
  rw [← hn] at hr hm hcap ⊢
  have q1 := below_new w (.cells #[.int .i64 f, .slice a1 n c1] 150)
  have x1 := RowAt.new w #[.int .i64 f, .slice a1 n c1] 150
  have s1 : (w.alloc (.cells #[.int .i64 f, .slice a1 n c1] 150)).heap.size = w.heap.size + 1 := by simp
  generalize hW1 : w.alloc (.cells #[.int .i64 f, .slice a1 n c1] 150) = W1 at *
  have q2 := below_new W1 (.cells #[.int .i64 0, .slice none 0 0] 150)
  have x2 := RowAt.new W1 #[.int .i64 0, .slice none 0 0] 150
  have s2 : (W1.alloc (.cells #[.int .i64 0, .slice none 0 0] 150)).heap.size = W1.heap.size + 1 := by simp
  generalize hW2 : W1.alloc (.cells #[.int .i64 0, .slice none 0 0] 150) = W2 at *
  have q3 := below_new W2 (.cells #[.int .i64 0, .slice none 0 0] 150)
  have x3 := RowAt.new W2 #[.int .i64 0, .slice none 0 0] 150
  have s3 : (W2.alloc (.cells #[.int .i64 0, .slice none 0 0] 150)).heap.size = W2.heap.size + 1 := by simp
  generalize hW3 : W2.alloc (.cells #[.int .i64 0, .slice none 0 0] 150) = W3 at *
  have hq := Below.next q1 (Below.next q2 q3)
  have HX1 := hide ((x1.below q2).below q3)
  have HX2 := hide (x2.below q3)
  have HX3 := hide x3
  have HQ := hide hq
  have HR := hide (hr.below hq)
  have HE := hide (hE.below hq)
  have HN := hide hn
  have HS := hide (bsizes_any _ l W3 hok (by omega) (hr.below hq))
  have HSZ : Hid (W3.heap.size = w.heap.size + 3 ∧ W2.heap.size = w.heap.size + 2 ∧ W1.heap.size = w.heap.size + 1) := by show _ ∧ _ ∧ _; omega
  have p1 := HX1.out.c1
  have HSL : Hid ((szsK l).length ≤ 17592186044416) := by show _ ≤ _; rw [szsK_len]; omega
  clear q1 q2 q3 x1 x2 x3 s1 s2 s3 hr hE hok hn hq
  go_enter Tryz.func170, Tryz.ntmps170
  go_wp2_with fail
  refine HS.out.mono ?_
  rintro e w1 ⟨u, rfl, hint, hb1⟩
  have HC := hide (pivot_any A u (szsK l) w1 HSL.out hint (HE.out.below hb1).1)
  have HB1 := hide hb1
  clear hint hb1 HS p1
  go_wp2_with fail
  refine HC.out.mono ?_
  rintro e w2 ⟨hv, hb2⟩
  obtain ⟨i, c, ev, rfl, hcn, hno⟩ := hv.num
  have HB2 := hide (Below.next HB1.out hb2)
  have HCN := hide hcn
  have HNO := hide hno
  clear hv hb2 HC HB1
  have hx2 := HX2.out.below HB2.out
  have hx3 := HX3.out.below HB2.out
  have hx1 := HX1.out.below HB2.out
  by_cases hc : c = 0
  · subst hc
    have hev := numOf_nil hno
    subst hev
    obtain ⟨hi1, hi2⟩ := hcn.boundP
    rw [szsK_len, ← HN.out] at hi2
    have hil : i < l.length := by have := HN.out; omega
    have hr2 := HR.out.below HB2.out
    obtain ⟨g, o, rfl, d1, d2⟩ := hr2.spot i hil
    have j0 : (0 : Int) ≤ (i : Int) := by omega
    have j1 : (i : Int) < (n : Int) := by omega
    obtain ⟨p, hp⟩ : ∃ p, p = l[i] := ⟨_, rfl⟩
    rw [← hp] at d1 d2
    have p1 := hx1.c1
    have HI : Hid (∃ h : i < l.length, p = l[i]) := ⟨hil, hp⟩
    have hi3 : i ≤ n := by omega
    have hsl1 := fun W => slToK W (some ⟨g, o, none⟩) n c1 i (by omega)
    obtain ⟨q, hq⟩ : ∃ q, q = i + 1 := ⟨_, rfl⟩
    obtain ⟨a2, hrd, hsl2⟩ := hr2.drop (m := q) (by omega)
    have HQI := hide hq
    have hw1 : IntKind.i64.wrap ((i : Int) + 1) = (q : Int) := by rw [IntKind.wrap_i64]; omega
    have hqn : (q : Int) ≤ (n : Int) := by omega
    have hq0 : (0 : Int) ≤ (q : Int) := by omega
    have hrt := hr2.take (m := i) (by omega)
    have HRD := hide hrd
    have HRT := hide hrt
    have HH1 := hide hx1
    have HH2 := hide hx2
    have HH3 := hide hx3
    clear hp hq hr2 hrd hrt hcn hno hx1 hx2 hx3 hil hi1 hi2
    go_wp2_with fail
    have q4 := below_new w2 (.cells #[.string p.1, .int .i64 p.2] 179)
    have x4 := RowAt.new w2 #[.string p.1, .int .i64 p.2] 179
    have s4 : (w2.alloc (.cells #[.string p.1, .int .i64 p.2] 179)).heap.size = w2.heap.size + 1 := by simp
    generalize w2.alloc (.cells #[.string p.1, .int .i64 p.2] 179) = W4 at *
    have HX4 := hide x4
    have HQ4 := hide q4
    have y1 := HH1.out.below q4
    have k0 := y1.c0
    have k1 := y1.c1
    have q5 := below_new W4 (.cells #[.int .i64 0, .slice none 0 0] 150)
    have x5 := RowAt.new W4 #[.int .i64 0, .slice none 0 0] 150
    have s5 : (W4.alloc (.cells #[.int .i64 0, .slice none 0 0] 150)).heap.size = W4.heap.size + 1 := by simp
    generalize hW5 : W4.alloc (.cells #[.int .i64 0, .slice none 0 0] 150) = W5 at *
    have HX5 := hide x5
    have HQ5 := hide q5
    have z0 := (y1.below q5).c0
    have z1 := (y1.below q5).c1
    have HS5 : Hid (W4.heap.size = w2.heap.size + 1 ∧ W5.heap.size = W4.heap.size + 1 ∧ w.heap.size + 3 ≤ w2.heap.size) := by show _ ∧ _ ∧ _; have := HSZ.out; have := HB2.out.size; omega
    have b1 : ¬ w.heap.size = W4.heap.size := by have := HS5.out; omega
    have b2 : ¬ W4.heap.size = w.heap.size := by have := HS5.out; omega
    have HC1 : Hid (∀ W, Below W4.heap.size W4 W → Calls Tryz.prog 209 #[.slice (some ⟨g, o, none⟩) i c1] W fun e w' => ∃ ua uc, e = .returned (.slice ua i uc) ∧ LkO w' W.heap.size (.slice ua i uc) (l.take i) ∧ Below W.heap.size W w') := fun W h => by
      have hlt : (l.take i).length = i := by rw [List.length_take]; have := HN.out; omega
      refine (kclone_any _ (l.take i) W (by rw [hlt]; omega) ((HRT.out.below q4).below h)).mono ?_
      rintro e w' ⟨u, rfl, ho, hb⟩
      obtain ⟨ua, uc, hu⟩ := ho.form
      rw [hlt] at hu
      subst hu
      exact ⟨ua, uc, rfl, ho, hb⟩
    clear d1 d2 p1 q4 x4 y1 q5 x5 s4 s5
    go_region_held3 (fun w' => w'.cell? ⟨w.heap.size, 0, none⟩ = some (.int .i64 f) ∧ w'.cell? ⟨w.heap.size, 1, none⟩ = some (.slice (some ⟨g, o, none⟩) n c1)) (go_keep)
      (first
        | (go_at_call 209; refine (HC1.out _ ?_).mono ?_; (first | exact (Below.refl _ _).drew | exact HQ5.out.drew); rintro e w5 ⟨ua, uc, rfl, ho, hb⟩; have HO5 := hide ho; have HB5 := hide hb; have m0 : w5.cell? ⟨w.heap.size, 0, none⟩ = some (.int .i64 f) := (by first | exact (((HH1.out.below HQ4.out).below HQ5.out).drew.below hb).c0 | exact ((HH1.out.below HQ4.out).drew.below hb).c0); have m1 : w5.cell? ⟨w.heap.size, 1, none⟩ = some (.slice (some ⟨g, o, none⟩) n c1) := (by first | exact (((HH1.out.below HQ4.out).below HQ5.out).drew.below hb).c1 | exact ((HH1.out.below HQ4.out).drew.below hb).c1); try (have m2 := (HX5.out.drew.below hb).c0; have m3 := (HX5.out.drew.below hb).c1; have m4 := (HX5.out.drew.below hb).free 0; have m5 := (HX5.out.drew.below hb).free 1); have m6 := World.new_ne w5 _ m0; clear ho hb))
    all_goals first
      | (have hx := RowAt.new w5 #[.int .i64 f, .slice ua i uc] 150
         have hq := below_new w5 (.cells #[.int .i64 f, .slice ua i uc] 150)
         have hb7 : Below W4.heap.size W4 (w5.alloc (.cells #[.int .i64 f, .slice ua i uc] 150)) := Below.next (undrewB HB5.out) hq
         have ho7 : LkO (w5.alloc (.cells #[.int .i64 f, .slice ua i uc] 150)) W4.heap.size (.slice ua i uc) (l.take i) := HO5.out.below hq
         have hsz7 : W4.heap.size ≤ w5.heap.size := HB5.out.size
         generalize w5.alloc (.cells #[.int .i64 f, .slice ua i uc] 150) = W7 at *
         obtain ⟨B9, hB9⟩ : ∃ B, B = w5.heap.size := ⟨_, rfl⟩
         rw [← hB9] at hx hsz7 ⊢
         have HBB7 := hide hsz7
         clear hq)
      | (have hx := ((HX5.out.drew.below HB5.out).two (.int .i64 f) (.slice ua i uc))
         have hb7 : Below W4.heap.size W4 ((w5.setCell ⟨W4.heap.size, 0, none⟩ (.int .i64 f)).setCell ⟨W4.heap.size, 1, none⟩ (.slice ua i uc)) := below_two (Below.next HQ5.out (undrewB HB5.out)) (Nat.le_refl _)
         have ho7 : LkO ((w5.setCell ⟨W4.heap.size, 0, none⟩ (.int .i64 f)).setCell ⟨W4.heap.size, 1, none⟩ (.slice ua i uc)) W4.heap.size (.slice ua i uc) (l.take i) := (HO5.out.put2 (g := W4.heap.size) (by have := HS5.out; show W4.heap.size < W5.heap.size; omega) (.int .i64 f) (.slice ua i uc)).mono (by have := HS5.out; show W4.heap.size ≤ W5.heap.size; omega)
         generalize (w5.setCell ⟨W4.heap.size, 0, none⟩ (.int .i64 f)).setCell ⟨W4.heap.size, 1, none⟩ (.slice ua i uc) = W7 at *
         obtain ⟨B9, hB9⟩ : ∃ B, B = W4.heap.size := ⟨_, rfl⟩
         rw [← hB9] at hx ⊢
         have HBB7 : Hid (W4.heap.size ≤ B9) := (by rw [hB9]; exact Nat.le_refl _))
    all_goals
      have HX7 := hide hx
      have HB7 := hide hb7
      have HO7 := hide ho7
      clear hx hb7 ho7 hB9
    all_goals
      try clear hsz7
      try clear m2 m3 m4 m5
      try clear m6
      clear m0 m1 HC1 b1 b2 z0 z1 k0 k1 hsl1 HO5 HB5 HX5 HQ5 hW5 HS5
      have d1 := ((HX4.out).below HB7.out).c0
      have d2 := ((HX4.out).below HB7.out).c1
      have y1 := ((HH1.out.below HQ4.out).below HB7.out)
      have k1 := y1.c1
      have q5 := below_new W7 (.cells #[.int .i64 0, .slice none 0 0] 150)
      have x5 := RowAt.new W7 #[.int .i64 0, .slice none 0 0] 150
      have s5 : (W7.alloc (.cells #[.int .i64 0, .slice none 0 0] 150)).heap.size = W7.heap.size + 1 := by simp
      generalize hW8 : W7.alloc (.cells #[.int .i64 0, .slice none 0 0] 150) = W8 at *
      have HX8 := hide x5
      have HQ8 := hide q5
      have z0 := (((HX4.out).below HB7.out).below q5).c1
      have z1 := (y1.below q5).c1
      have HS8 : Hid (W8.heap.size = W7.heap.size + 1 ∧ w.heap.size + 3 ≤ w2.heap.size ∧ w2.heap.size < W7.heap.size) := by show _ ∧ _ ∧ _; have := HSZ.out; have := HB2.out.size; have := (HX4.out.below HB7.out).lt; omega
      have b1 : ¬ w.heap.size = W7.heap.size := by have := HS8.out; omega
      have b2 : ¬ W7.heap.size = w.heap.size := by have := HS8.out; omega
      have b3 : ¬ w2.heap.size = W7.heap.size := by have := HS8.out; omega
      have b4 : ¬ W7.heap.size = w2.heap.size := by have := HS8.out; omega
      have HC2 : Hid (∀ W, Below W7.heap.size W7 W → Calls Tryz.prog 209 #[.slice a2 (n - q) (c1 - q)] W fun e w' => ∃ va vc, e = .returned (.slice va (n - q) vc) ∧ LkO w' W.heap.size (.slice va (n - q) vc) (l.drop q) ∧ Below W.heap.size W w') := fun W h => by
        have hlt : (l.drop q).length = n - q := by rw [List.length_drop]; have := HN.out; have := HQI.out; omega
        refine (kclone_any _ (l.drop q) W (by rw [hlt]; omega) (((HRD.out.below HQ4.out).below HB7.out).below h)).mono ?_
        rintro e w' ⟨u, rfl, ho, hb⟩
        obtain ⟨ua, uc, hu⟩ := ho.form
        rw [hlt] at hu
        subst hu
        exact ⟨ua, uc, rfl, ho, hb⟩
      generalize n - q = nr at *
      generalize c1 - q = cr at *
      clear q5 x5 y1 s5
      go_wp2_with fail
      go_region_held3 (fun w' => w'.cell? ⟨w2.heap.size, 1, none⟩ = some (.int .i64 p.2) ∧ w'.cell? ⟨w.heap.size, 1, none⟩ = some (.slice (some ⟨g, o, none⟩) n c1)) (go_keep)
        (first
          | (go_at_call 209; refine (HC2.out _ ?_).mono ?_; (first | exact (Below.refl _ _).drew | exact HQ8.out.drew); rintro e w8 ⟨va, vc, rfl, ho, hb⟩; have HO8 := hide ho; have HB8 := hide hb; have m0 : w8.cell? ⟨w2.heap.size, 1, none⟩ = some (.int .i64 p.2) := (by first | exact (((HX4.out.below HB7.out).below HQ8.out).drew.below hb).c1 | exact ((HX4.out.below HB7.out).drew.below hb).c1); have m1 : w8.cell? ⟨w.heap.size, 1, none⟩ = some (.slice (some ⟨g, o, none⟩) n c1) := (by first | exact ((((HH1.out.below HQ4.out).below HB7.out).below HQ8.out).drew.below hb).c1 | exact (((HH1.out.below HQ4.out).below HB7.out).drew.below hb).c1); try (have m2 := (HX8.out.drew.below hb).c0; have m3 := (HX8.out.drew.below hb).c1; have m4 := (HX8.out.drew.below hb).free 0; have m5 := (HX8.out.drew.below hb).free 1); have m6 := World.new_ne w8 _ m0; have m7 := World.new_ne w8 _ m1; clear ho hb))
    all_goals first
      | (have hx := RowAt.new w8 #[.int .i64 p.2, .slice va nr vc] 150
         have hq := below_new w8 (.cells #[.int .i64 p.2, .slice va nr vc] 150)
         have hb7 : Below W7.heap.size W7 (w8.alloc (.cells #[.int .i64 p.2, .slice va nr vc] 150)) := Below.next (undrewB HB8.out) hq
         have ho7 : LkO (w8.alloc (.cells #[.int .i64 p.2, .slice va nr vc] 150)) W7.heap.size (.slice va nr vc) (l.drop q) := HO8.out.below hq
         have hsz7 : W7.heap.size ≤ w8.heap.size := HB8.out.size
         generalize w8.alloc (.cells #[.int .i64 p.2, .slice va nr vc] 150) = W9 at *
         obtain ⟨B10, hB9⟩ : ∃ B, B = w8.heap.size := ⟨_, rfl⟩
         rw [← hB9] at hx hsz7 ⊢
         have HBB9 := hide hsz7
         clear hq)
      | (have hx := ((HX8.out.drew.below HB8.out).two (.int .i64 p.2) (.slice va nr vc))
         have hb7 : Below W7.heap.size W7 ((w8.setCell ⟨W7.heap.size, 0, none⟩ (.int .i64 p.2)).setCell ⟨W7.heap.size, 1, none⟩ (.slice va nr vc)) := below_two (Below.next HQ8.out (undrewB HB8.out)) (Nat.le_refl _)
         have ho7 : LkO ((w8.setCell ⟨W7.heap.size, 0, none⟩ (.int .i64 p.2)).setCell ⟨W7.heap.size, 1, none⟩ (.slice va nr vc)) W7.heap.size (.slice va nr vc) (l.drop q) := (HO8.out.put2 (g := W7.heap.size) (by have := HS8.out; show W7.heap.size < W8.heap.size; omega) (.int .i64 p.2) (.slice va nr vc)).mono (by have := HS8.out; show W7.heap.size ≤ W8.heap.size; omega)
         generalize (w8.setCell ⟨W7.heap.size, 0, none⟩ (.int .i64 p.2)).setCell ⟨W7.heap.size, 1, none⟩ (.slice va nr vc) = W9 at *
         obtain ⟨B10, hB9⟩ : ∃ B, B = W7.heap.size := ⟨_, rfl⟩
         rw [← hB9] at hx ⊢
         have HBB9 : Hid (W7.heap.size ≤ B10) := (by rw [hB9]; exact Nat.le_refl _))
    all_goals
      have HX9 := hide hx
      have HB9 := hide hb7
      have HO9 := hide ho7
      clear hx hb7 ho7 hB9
    all_goals
      try clear hsz7
      try clear m2 m3 m4 m5
      try clear m6 m7
      clear m0 m1 HC2 b1 b2 b3 b4 z0 z1 k1 d1 d2 hsl2 HO8 HB8 HX8 HQ8 hW8
      have y9 := HX7.out.below HB9.out
      have y8 := (HX4.out.below HB7.out).below HB9.out
      have y1 := (((HH2.out.below HQ4.out).below HB7.out).below HB9.out)
      have y2 := (((HH3.out.below HQ4.out).below HB7.out).below HB9.out)
      have e1 := y9.c0
      have e2 := y9.c1
      have e3 := y8.c0
      have e4 := HX9.out.c0
      have e5 := HX9.out.c1
      have e6 := y1.c0
      have e7 := y1.c1
      have e8 := y2.c0
      have e9 := y2.c1
      have f1 := y1.free 0
      have f2 := y1.free 1
      have f3 := y2.free 0
      have f4 := y2.free 1
      have HSS : Hid (W1.heap.size = w.heap.size + 1 ∧ W2.heap.size = w.heap.size + 2 ∧ w.heap.size + 3 ≤ w2.heap.size ∧ w.heap.size + 3 ≤ B9 ∧ w.heap.size + 3 ≤ B10 ∧ w.heap.size + 3 ≤ W4.heap.size ∧ w.heap.size + 3 ≤ W7.heap.size) := by
        have h1 := HSZ.out; have h2 := HBB7.out; have h3 := HBB9.out; have h4 := HQ4.out.size; have h5 := HB7.out.size; have h6 := HS8.out
        exact ⟨h1.2.2, h1.2.1, h6.2.1, by omega, by omega, by omega, by omega⟩
      have g1 : ¬ B9 = W1.heap.size := by have := HSS.out; omega
      have g2 : ¬ W1.heap.size = B9 := by have := HSS.out; omega
      have g3 : ¬ B9 = W2.heap.size := by have := HSS.out; omega
      have g4 : ¬ W2.heap.size = B9 := by have := HSS.out; omega
      have g5 : ¬ B10 = W1.heap.size := by have := HSS.out; omega
      have g6 : ¬ W1.heap.size = B10 := by have := HSS.out; omega
      have g7 : ¬ B10 = W2.heap.size := by have := HSS.out; omega
      have g8 : ¬ W2.heap.size = B10 := by have := HSS.out; omega
      have g9 : ¬ w2.heap.size = W1.heap.size := by have := HSS.out; omega
      have g10 : ¬ W1.heap.size = w2.heap.size := by have := HSS.out; omega
      have g11 : ¬ w2.heap.size = W2.heap.size := by have := HSS.out; omega
      have g12 : ¬ W2.heap.size = w2.heap.size := by have := HSS.out; omega
      have g13 : ¬ W1.heap.size = W2.heap.size := by have := HSS.out; omega
      have g14 : ¬ W2.heap.size = W1.heap.size := by have := HSS.out; omega
      have HY1 := hide y1
      have HY2 := hide y2
      clear y9 y8 y1 y2
      go_wp2_with fail
      go_region_held3 (fun w' => w'.cell? ⟨B9, 0, none⟩ = some (.int .i64 f) ∧ w'.cell? ⟨B9, 1, none⟩ = some (.slice ua i uc) ∧ w'.cell? ⟨w2.heap.size, 0, none⟩ = some (.string p.1) ∧ w'.cell? ⟨B10, 0, none⟩ = some (.int .i64 p.2) ∧ w'.cell? ⟨B10, 1, none⟩ = some (.slice va nr vc)) (go_keep) (fail)
    all_goals
      have r2 : RowAt (((((W9.setCell ⟨W1.heap.size, 0, none⟩ (.int .i64 f)).setCell ⟨W1.heap.size, 1, none⟩ (.slice ua i uc)).setCell ⟨W2.heap.size, 0, none⟩ (.int .i64 p.2)).setCell ⟨W2.heap.size, 1, none⟩ (.slice va nr vc))) W1.heap.size #[.int .i64 f, .slice ua i uc] 150 := ((HY1.out.two _ _).other g13 _).other g13 _
      have r3 : RowAt (((((W9.setCell ⟨W1.heap.size, 0, none⟩ (.int .i64 f)).setCell ⟨W1.heap.size, 1, none⟩ (.slice ua i uc)).setCell ⟨W2.heap.size, 0, none⟩ (.int .i64 p.2)).setCell ⟨W2.heap.size, 1, none⟩ (.slice va nr vc))) W2.heap.size #[.int .i64 p.2, .slice va nr vc] 150 := ((HY2.out.other g14 _).other g14 _).two _ _
      clear e1 e2 e3 e4 e5 e6 e7 e8 e9 f1 f2 f3 f4
      go_wp2_with fail
      have o1 := ((HO7.out.below HB9.out).put2 (g := W1.heap.size) (by have := HSS.out; omega) (.int .i64 f) (.slice ua i uc)).put2 (g := W2.heap.size) (by have := HSS.out; omega) (.int .i64 p.2) (.slice va nr vc)
      have o2 := (HO9.out.put2 (g := W1.heap.size) (by have := HSS.out; omega) (.int .i64 f) (.slice ua i uc)).put2 (g := W2.heap.size) (by have := HSS.out; omega) (.int .i64 p.2) (.slice va nr vc)
      refine bodyPost_ret (results_row_4 rfl _ _ W1.heap.size W2.heap.size 150 150 _ _ (0, 0) (0, 0) _ _ rfl rfl r2.drew r3.drew Tryz.underlying150 Tryz.underlying150 rfl rfl (by kernel_rfl) (by kernel_rfl)) rfl ⟨⟨i, 0, p.1, f, p.2, .slice ua i uc, .slice va nr vc, _, rfl, HCN.out, HNO.out, .inl ⟨rfl, ?_, ?_, ?_, ?_⟩⟩, ?_⟩
      · obtain ⟨h, he⟩ := HI.out
        exact ⟨h, rfl, by rw [he], by rw [he]⟩
      · exact (o1.mono (by have := HSS.out; omega)).drew
      · rw [← HQI.out]; exact (o2.mono (by have := HSS.out; omega)).drew
      · intro k h1 h2
        have a1 := HO7.out.blk k h1
        have a2 := HO9.out.blk k h2
        omega
      · exact below_drewB (below_two (below_two (Below.next HQ.out (Below.next HB2.out (Below.next HQ4.out (Below.next HB7.out HB9.out)))) (by have := HSS.out; omega)) (by have := HSS.out; omega))
  · obtain ⟨k, rfl⟩ := numOf_err hno hc
    have hnn := fun W => iface_ne_nil (some (A k)) W
    have HCZ := hide hc
    have r1 := hx2.c0
    have r2 := hx2.c1
    have r3 := hx3.c0
    have r4 := hx3.c1
    have z1 := hx2.free 0
    have z2 := hx2.free 1
    have z3 := hx3.free 0
    have z4 := hx3.free 1
    have b1 : ¬ W1.heap.size = W2.heap.size := by have := HSZ.out; omega
    have b2 : ¬ W2.heap.size = W1.heap.size := by have := HSZ.out; omega
    have HXX2 := hide hx2
    have HXX3 := hide hx3
    clear hcn hno hc hx1 hx2 hx3
    go_wp2_with fail
    have e2 : RowAt (((((w2.setCell ⟨W1.heap.size, 0, none⟩ (.int .i64 0)).setCell ⟨W1.heap.size, 1, none⟩ (.slice none 0 0)).setCell ⟨W2.heap.size, 0, none⟩ (.int .i64 0)).setCell ⟨W2.heap.size, 1, none⟩ (.slice none 0 0))) W1.heap.size #[.int .i64 0, .slice none 0 0] 150 := ((HXX2.out.two _ _).other b1 _).other b1 _
    have e3 : RowAt (((((w2.setCell ⟨W1.heap.size, 0, none⟩ (.int .i64 0)).setCell ⟨W1.heap.size, 1, none⟩ (.slice none 0 0)).setCell ⟨W2.heap.size, 0, none⟩ (.int .i64 0)).setCell ⟨W2.heap.size, 1, none⟩ (.slice none 0 0))) W2.heap.size #[.int .i64 0, .slice none 0 0] 150 := ((HXX3.out.other b2 _).other b2 _).two _ _
    refine bodyPost_ret (results_row_4 rfl _ _ W1.heap.size W2.heap.size 150 150 _ _ (0, 0) (0, 0) _ _ rfl rfl e2 e3 Tryz.underlying150 Tryz.underlying150 rfl rfl (by kernel_rfl) (by kernel_rfl)) rfl ⟨⟨i, c, _, 0, 0, _, _, _, rfl, HCN.out, HNO.out, .inr ⟨HCZ.out, rfl, rfl, rfl, rfl, rfl⟩⟩, ?_⟩
    exact below_two (below_two (Below.next HQ.out HB2.out) (by have := HSZ.out; omega)) (by have := HSZ.out; omega)

end Go.Proofs.YtnaedmmfiiebaaaGreatDoor.B
