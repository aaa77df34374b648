import Derived.Test.YtnaedmmfiiebaaaGreatDoorG07
import Derived.Test.YtnaedmmfiiebaaaGreatDoorG00
import Derived.WalkMore
import Derived.Test.YtnaedmmfiiebaaaGreatDoorG17
import Derived.BigQuiet
import Derived.Deep.QuietTactic
import Derived.Lib.BufferWrite
import Derived.Deep.WholeRow
import Derived.Laws.CopyOwn
namespace Go.Proofs.YtnaedmmfiiebaaaGreatDoor
open Go.RowKit

def roomF (l : List Pr) (root : Bool) : Option Nat := if (4072 : Int) < wsz (szL l) then some 2 else if l.length = 0 ∨ root = false ∧ wsz (szL l) < 1556 then some 3 else none
def chkW (l : List Pr) (root : Bool) : Option Nat := if l.all mayP = false then some 0 else if ¬ Rise l then some 11 else roomF l root
theorem may_size {l : List Pr} (h : l.all mayP = true) : szL l ≤ 960 * l.length := by
  induction l with
  | nil => exact Nat.le_refl _
  | cons p l ih =>
    simp only [List.all_cons, Bool.and_eq_true] at h
    have h1 := may_parts' h.1
    have h2 := ih h.2
    rw [szL_cons, List.length_cons]; unfold szP; omega
theorem chkW_eq (l : List Pr) (root : Bool) (hm : l.length ≤ 140737488355328) : chkW l root = chk l root := by
  unfold chkW chk
  cases h : l.all mayP with
  | false => rfl
  | true =>
    have hs := may_size h
    have e : roomF l root = if 4072 < szL l then some 2 else if l = [] ∨ root = false ∧ szL l < 1556 then some 3 else none := by
      unfold roomF
      rw [wsz_small (by omega)]
      by_cases h1 : 4072 < szL l
      · rw [if_pos (by omega), if_pos h1]
      · rw [if_neg (by omega), if_neg h1]
        by_cases h2 : l = [] ∨ root = false ∧ szL l < 1556
        · have h3 : l.length = 0 ∨ root = false ∧ ((szL l : Nat) : Int) < 1556 := by
            rcases h2 with h2 | ⟨h2, h3⟩
            · exact .inl (by rw [h2]; rfl)
            · exact .inr ⟨h2, by omega⟩
          rw [if_pos h2, if_pos h3]
        · have h3 : ¬ (l.length = 0 ∨ root = false ∧ ((szL l : Nat) : Int) < 1556) := by
            rintro (h3 | ⟨h3, h4⟩)
            · exact h2 (.inl (List.length_eq_zero_iff.1 h3))
            · exact h2 (.inr ⟨h3, by omega⟩)
          rw [if_neg h2, if_neg h3]
    rw [e]

set_option maxHeartbeats 400000 in
theorem lmay_any (p : Pr) (w : World) :
    Calls Tryz.prog 120 #[.agg #[.string p.1, .string p.2]] w fun e w' => e = .returned (.bool (mayP p)) ∧ Below w.heap.size w w' := by
  have hbn := below_new w (.cells #[.string p.1, .string p.2] 52)
  by_cases h1 : 1 ≤ p.1.size
  · by_cases h2 : p.1.size ≤ 255
    · by_cases h3 : p.2.size ≤ 700
      · have hm : mayP p = true := decide_eq_true ⟨h1, h2, h3⟩
        rw [hm]
        have i1 : (1 : Int) ≤ (p.1.size : Int) := by omega
        have i2 : (p.1.size : Int) ≤ 255 := by omega
        have i3 : (p.2.size : Int) ≤ 700 := by omega
        clear hm
        go_enter Tryz.func120, Tryz.ntmps120
        go_wp2
        go_ret
        exact ⟨rfl, hbn⟩
      · have hm : mayP p = false := decide_eq_false (fun h => h3 h.2.2)
        rw [hm]
        have i1 : (1 : Int) ≤ (p.1.size : Int) := by omega
        have i2 : (p.1.size : Int) ≤ 255 := by omega
        have i3 : ¬ (p.2.size : Int) ≤ 700 := by omega
        clear hm
        go_enter Tryz.func120, Tryz.ntmps120
        go_wp2
        go_ret
        exact ⟨rfl, hbn⟩
    · have hm : mayP p = false := decide_eq_false (fun h => h2 h.2.1)
      rw [hm]
      have i1 : (1 : Int) ≤ (p.1.size : Int) := by omega
      have i2 : ¬ (p.1.size : Int) ≤ 255 := by omega
      clear hm
      go_enter Tryz.func120, Tryz.ntmps120
      go_wp2
      go_ret
      exact ⟨rfl, hbn⟩
  · have hm : mayP p = false := decide_eq_false (fun h => h1 h.1)
    rw [hm]
    have i1 : ¬ (1 : Int) ≤ (p.1.size : Int) := by omega
    clear hm
    go_enter Tryz.func120, Tryz.ntmps120
    go_wp2
    go_ret
    exact ⟨rfl, hbn⟩

set_option maxHeartbeats 800000 in
theorem lroom_any (A : Nat → Addr) (v : Value) (l : List Pr) (root : Bool) (w : World) (hok : OkL l) (hm : l.length ≤ 140737488355328) (hr : PrR w v l) (hE : ErrC A w) :
    Calls Tryz.prog 119 #[v, .bool root] w fun e w' => e = .returned (errV A (roomF l root)) ∧ Below w.heap.size w w' := by
  have HS := hide (lsize_any v l w hok hm hr)
  obtain ⟨a, c, hv⟩ := hr.form
  subst hv
  have HE := hide hE
  obtain ⟨x, hx⟩ : ∃ x, x = wsz (szL l) := ⟨_, rfl⟩
  obtain ⟨n, hn⟩ : ∃ n, n = l.length := ⟨_, rfl⟩
  have HR : Hid (roomF l root = if (4072 : Int) < x then some 2 else if n = 0 ∨ root = false ∧ x < 1556 then some 3 else none) := by rw [hx, hn]; exact rfl
  rw [← hx] at HS
  rw [← hn] at HS hm ⊢
  clear hr hE hx hn hok
  by_cases h1 : (4072 : Int) < x
  · rw [HR.out, if_pos h1]
    go_enter Tryz.func119, Tryz.ntmps119
    go_wp2_with fail
    refine HS.out.mono ?_
    rintro e w1 ⟨rfl, hb1⟩
    have c2 : w1.cell? ⟨2, 0, none⟩ = some (.iface 360 (.pointer (some (A 2)))) := ((HE.out.below hb1).1.1 2 (by decide)).1
    go_wp2
    go_ret
    exact ⟨rfl, hb1⟩
  · by_cases h2 : n = 0
    · subst h2
      rw [HR.out, if_neg h1, if_pos (.inl rfl)]
      go_enter Tryz.func119, Tryz.ntmps119
      go_wp2_with fail
      refine HS.out.mono ?_
      rintro e w1 ⟨rfl, hb1⟩
      have c3 : w1.cell? ⟨3, 0, none⟩ = some (.iface 360 (.pointer (some (A 3)))) := ((HE.out.below hb1).1.1 3 (by decide)).1
      go_wp2
      go_ret
      exact ⟨rfl, hb1⟩
    · have h2' : ((n : Int) == 0) = false := by rw [beq_eq_false_iff_ne]; omega
      cases root with
      | true =>
        rw [HR.out, if_neg h1, if_neg (by simp [h2])]
        go_enter Tryz.func119, Tryz.ntmps119
        go_wp2_with fail
        refine HS.out.mono ?_
        rintro e w1 ⟨rfl, hb1⟩
        go_wp2
        go_ret
        exact ⟨rfl, hb1⟩
      | false =>
        by_cases h3 : x < 1556
        · rw [HR.out, if_neg h1, if_pos (.inr ⟨rfl, h3⟩)]
          go_enter Tryz.func119, Tryz.ntmps119
          go_wp2_with fail
          refine HS.out.mono ?_
          rintro e w1 ⟨rfl, hb1⟩
          have c3 : w1.cell? ⟨3, 0, none⟩ = some (.iface 360 (.pointer (some (A 3)))) := ((HE.out.below hb1).1.1 3 (by decide)).1
          go_wp2
          go_ret
          exact ⟨rfl, hb1⟩
        · rw [HR.out, if_neg h1, if_neg (by simp [h2, h3])]
          go_enter Tryz.func119, Tryz.ntmps119
          go_wp2_with fail
          refine HS.out.mono ?_
          rintro e w1 ⟨rfl, hb1⟩
          go_wp2
          go_ret
          exact ⟨rfl, hb1⟩

end Go.Proofs.YtnaedmmfiiebaaaGreatDoor

namespace Go.Proofs.YtnaedmmfiiebaaaGreatDoor
open Go.RowKit

/-- The fault behind the first k pairs, if all may be. -/
def faultT (l : List Pr) (root : Bool) (k : Nat) : Option Nat := if Rise (l.take k) then roomF l root else some 11
theorem faultT_keep {l : List Pr} {root : Bool} {k : Nat} (hk : k < l.length) (h : ∀ (h0 : 0 < k), ltK (l[k - 1]'(by omega)).1 l[k].1 = true) : faultT l root (k + 1) = faultT l root k := by
  unfold faultT
  have e : Rise (l.take (k + 1)) ↔ Rise (l.take k) := by
    rw [List.take_succ_eq_append_getElem hk, rise_snoc]
    constructor
    · exact fun h => h.1
    · intro hr
      refine ⟨hr, fun h0 => ?_⟩
      simp only [List.length_take, Nat.min_eq_left (Nat.le_of_lt hk), List.getElem_take] at h0 ⊢
      exact h h0
  simp only [e]
theorem faultT_new {l : List Pr} {root : Bool} {k : Nat} (hk : k < l.length) (h0 : 0 < k) (h : ltK (l[k - 1]'(by omega)).1 l[k].1 = false) : faultT l root (k + 1) = some 11 := by
  unfold faultT
  rw [if_neg]
  intro hr
  have := hr (k - 1) (by rw [List.length_take]; omega)
  simp only [List.getElem_take, show k - 1 + 1 = k by omega] at this
  rw [h] at this; cases this

set_option maxRecDepth 20000 in
set_option maxHeartbeats 2000000 in
theorem lcheck_any (A : Nat → Addr) (v : Value) (l : List Pr) (root : Bool) (w : World) (hok : OkL l) (hm : l.length ≤ 140737488355328) (hr : PrR w v l) (hE : ErrC A w) :
    Calls Tryz.prog 79 #[v, .bool root] w fun e w' => e = .returned (errV A (chk l root)) ∧ Below w.heap.size w w' := by
  have HRO := hide (lroom_any A v l root w hok hm hr hE)
  rw [← chkW_eq l root hm]
  obtain ⟨a, cap, rfl, hcap, _, hc⟩ := hr
  have HC := hide hc
  have HE := hide hE
  have HF0 : Hid (faultT l root 0 = roomF l root) := by show _ = _; unfold faultT; rw [if_pos]; simp [rise_nil]
  obtain ⟨n, hn⟩ : ∃ n, n = l.length := ⟨_, rfl⟩
  rw [← hn] at hm HRO ⊢
  have HN := hide hn
  obtain ⟨Q, hQ⟩ : ∃ Q : Ending → World → Prop, Q = fun e w' => e = .returned (errV A (chkW l root)) ∧ Below w.heap.size w w' := ⟨_, rfl⟩
  rw [← hQ]
  have HQ := hide hQ
  clear hc hn hcap hE hok hQ
  go_enter Tryz.func79, Tryz.ntmps79
  go_wp2_with fail
  go_step3
  go_wp2_with fail
  refine HRO.out.mono ?_
  rintro e w1 ⟨rfl, hb1⟩
  have HB1 := hide hb1
  clear hb1 HRO
  rw [← HF0.out]
  go_wp2
  go_step3
  go_wp2
  go_loopw [5, 13] (fun f i wr => ∃ k : Nat, k ≤ n ∧ i = .int .i64 k ∧ f = errV A (faultT l root k) ∧ (∀ j (h : j < l.length), j < k → mayP l[j] = true) ∧ Below w.heap.size w wr) (fun _ i _ => n - (intOf i).toNat)
  case atStart => exact ⟨0, Nat.zero_le _, rfl, rfl, fun j _ h => absurd h (Nat.not_lt_zero _), HB1.out⟩
  case round =>
    obtain ⟨k, hk, rfl, rfl, hpre, hbw⟩ := hrel
    clear HB1 HF0
    have HP := hide hpre
    clear hpre
    by_cases hlt : k < n
    · have hkl : k < l.length := by have := HN.out; omega
      have hltI : (k : Int) < (n : Int) := by omega
      obtain ⟨g, o, rfl, f1, f2⟩ := HC.out k hkl
      have c1 : wr.cell? ⟨g, o + k * 2, none⟩ = some (.string l[k].1) := (hbw.cell (p := ⟨g, o + k * 2, none⟩) (World.block_lt_of_cell? w _ f1)).trans f1
      have c2 : wr.cell? ⟨g, o + k * 2 + 1, none⟩ = some (.string l[k].2) := (hbw.cell (p := ⟨g, o + k * 2 + 1, none⟩) (World.block_lt_of_cell? w _ f2)).trans f2
      have HNX : Hid (mayP l[k] = true → ∀ j (h : j < l.length), j < k + 1 → mayP l[j] = true) := fun hl j h hj => by
        by_cases he : j = k
        · subst he; exact hl
        · exact HP.out j h (by omega)
      have HNO : Hid (mayP l[k] = false → chkW l root = some 0) := fun hl => by
        unfold chkW; rw [if_pos]; rw [List.all_eq_false]; exact ⟨l[k], List.getElem_mem _, by simp [hl]⟩
      have HB := hide (Below.next hbw (below_new wr (.cells #[.string l[k].1, .string l[k].2] 52)))
      have HBX := hide (boxed_new wr #[.string l[k].1, .string l[k].2] 52)
      have HMY := hide (fun W => lmay_any l[k] W)
      obtain ⟨fv, hfv⟩ : ∃ fv, fv = errV A (faultT l root k) := ⟨_, rfl⟩
      rw [← hfv]
      cases hmy : mayP l[k] with
      | false =>
        rw [hmy] at HMY
        have HNO2 := hide (HNO.out hmy)
        obtain ⟨p, hp⟩ : ∃ p, p = l[k] := ⟨_, rfl⟩
        rw [← hp] at c1 c2 HMY HB HBX
        clear hp hfv HNX HNO hmy HC hbw f1 f2
        go_wp2_with fail
        refine (HMY.out _).mono ?_
        rintro e w2 ⟨rfl, hb2⟩
        have HB2 := hide (Below.next HB.out hb2)
        have k0 : w2.cell? ⟨0, 0, none⟩ = some (.iface 360 (.pointer (some (A 0)))) := ((HE.out.below HB2.out).1.1 0 (by decide)).1
        clear hb2 HB HBX HMY c1 c2
        go_wp2
        rw [HQ.out]
        exact ⟨by rw [HNO2.out]; rfl, HB2.out⟩
      | true =>
        rw [hmy] at HMY
        have HNX2 := hide (HNX.out hmy)
        by_cases h0 : k = 0
        · have HK := hide (faultT_keep (l := l) (root := root) hkl (fun h => by omega))
          rw [← HK.out] at hfv
          have HFV := hide hfv
          obtain ⟨p, hp⟩ : ∃ p, p = l[k] := ⟨_, rfl⟩
          rw [← hp] at c1 c2 HMY HB HBX
          have hz : decide ((0 : Int) < (k : Int)) = false := decide_eq_false (by omega)
          have hz2 : decide (0 < k) = false := decide_eq_false (by omega)
          have HH0 := hide h0
          clear hp hfv HNX HNO hmy HC hbw f1 f2 HK h0
          go_wp2_with fail
          refine (HMY.out _).mono ?_
          rintro e w2 ⟨rfl, hb2⟩
          have HB2 := hide (Below.next HB.out hb2)
          have b0 : w2.cell? ⟨wr.heap.size, 0, none⟩ = some (.string p.1) := (HBX.out.below hb2).2 0 (by simp)
          clear hb2 HB HBX HMY c1 c2
          go_wp2
          go_quiet (fail)
          go_wp2
          go_roundw
          case rel => exact ⟨k + 1, by omega, by go_num, HFV.out, HNX2.out, below_drewN' HB2.out _⟩
          case measure => simp [intOf]; omega
        · have hk1l : k - 1 < l.length := by omega
          obtain ⟨g', o', he, d1, d2⟩ := HC.out (k - 1) hk1l
          cases he
          have HKP : Hid (ltK (l[k - 1]'hk1l).1 l[k].1 = true → faultT l root (k + 1) = faultT l root k) := fun h => faultT_keep hkl (fun _ => h)
          have HKN : Hid (ltK (l[k - 1]'hk1l).1 l[k].1 = false → faultT l root (k + 1) = some 11) := fun h => faultT_new hkl (by omega) h
          obtain ⟨p, hp⟩ : ∃ p, p = l[k] := ⟨_, rfl⟩
          obtain ⟨x, hx⟩ : ∃ x, x = (l[k - 1]'hk1l).1 := ⟨_, rfl⟩
          rw [← hp] at c1 c2 HMY HB HBX HKP HKN
          rw [← hx] at d1 HKP HKN
          obtain ⟨k1, hk1⟩ : ∃ k1, k1 = k - 1 := ⟨_, rfl⟩
          have hw1 : IntKind.i64.wrap ((k : Int) - 1) = (k1 : Int) := by rw [IntKind.wrap_i64]; omega
          rw [← hk1] at d1
          have e1 : wr.cell? ⟨g, o + k1 * 2, none⟩ = some (.string x) := (hbw.cell (p := ⟨g, o + k1 * 2, none⟩) (World.block_lt_of_cell? w _ d1)).trans d1
          have hz : (0 : Int) < (k : Int) := by omega
          have hz2 : 0 < k := by omega
          have j1 : (k1 : Int) < (n : Int) := by omega
          have j0 : (0 : Int) ≤ (k1 : Int) := by omega
          have HG1 := hide (World.block_lt_of_cell? wr _ e1)
          clear hp hx HNX HNO hmy HC hbw f1 f2 d1 d2 hk1 hk1l
          cases hb : ltK x p.1 with
          | true =>
            have hbl : Op.bytesLess x.toList p.1.toList = true := hb
            have HK := hide (HKP.out hb)
            rw [← HK.out] at hfv
            have HFV := hide hfv
            clear hb hfv HKP HKN HK
            go_wp2_with fail
            refine (HMY.out _).mono ?_
            rintro e w2 ⟨rfl, hb2⟩
            have HB2 := hide (Below.next HB.out hb2)
            have b0 : w2.cell? ⟨wr.heap.size, 0, none⟩ = some (.string p.1) := (HBX.out.below hb2).2 0 (by simp)
            have b1 : w2.cell? ⟨g, o + k1 * 2, none⟩ = some (.string x) := ((Below.next (below_new wr _) hb2).cell (p := ⟨g, o + k1 * 2, none⟩) HG1.out).trans e1
            clear hb2 HB HBX HMY c1 c2 e1
            go_wp2
            go_quiet (fail)
            go_wp2
            go_roundw
            case rel => exact ⟨k + 1, by omega, by go_num, HFV.out, HNX2.out, below_drewN' HB2.out _⟩
            case measure => simp [intOf]; omega
          | false =>
            have hbl : Op.bytesLess x.toList p.1.toList = false := hb
            have HK := hide (HKN.out hb)
            clear hb hfv HKP HKN
            go_wp2_with fail
            refine (HMY.out _).mono ?_
            rintro e w2 ⟨rfl, hb2⟩
            have HB2 := hide (Below.next HB.out hb2)
            have b0 : w2.cell? ⟨wr.heap.size, 0, none⟩ = some (.string p.1) := (HBX.out.below hb2).2 0 (by simp)
            have b1 : w2.cell? ⟨g, o + k1 * 2, none⟩ = some (.string x) := ((Below.next (below_new wr _) hb2).cell (p := ⟨g, o + k1 * 2, none⟩) HG1.out).trans e1
            have b2 : w2.cell? ⟨11, 0, none⟩ = some (.iface 360 (.pointer (some (A 11)))) := (HE.out.below HB2.out).2
            clear hb2 HB HBX HMY c1 c2 e1
            go_wp2
            go_quiet (fail)
            go_wp2
            go_roundw
            case rel => exact ⟨k + 1, by omega, by go_num, by rw [HK.out]; rfl, HNX2.out, below_drewN' HB2.out _⟩
            case measure => simp [intOf]; omega
    · have hltI : ¬ (k : Int) < (n : Int) := by omega
      have HFIN : Hid (faultT l root k = chkW l root) := by
        have hall : l.take k = l := by rw [List.take_of_length_le]; have := HN.out; omega
        have hmay : l.all mayP = true := List.all_eq_true.2 (fun p hp => by
          obtain ⟨i, hi, rfl⟩ := List.getElem_of_mem hp
          exact HP.out i hi (by have := HN.out; omega))
        show faultT l root k = chkW l root
        unfold faultT chkW
        rw [hall, hmay]
        by_cases hrs : Rise l
        · simp [hrs]
        · simp [hrs]
      have HB := hide hbw
      rw [HFIN.out]
      obtain ⟨fv, hfv⟩ : ∃ fv, fv = errV A (chkW l root) := ⟨_, rfl⟩
      rw [← hfv]
      have HFV := hide hfv
      clear hfv HC hbw HP HFIN
      go_wp2
      rw [HQ.out]
      exact ⟨by rw [← HFV.out], HB.out⟩

end Go.Proofs.YtnaedmmfiiebaaaGreatDoor

namespace Go.Proofs.YtnaedmmfiiebaaaGreatDoor
open Go.RowKit

def isZ (c : UInt8) : Bool := c == 0
def dropZ (l : List UInt8) : List UInt8 := l.dropWhile isZ
def trL (s : ByteArray) : ByteArray := ⟨(dropZ s.data.toList).toArray⟩
def trR (s : ByteArray) : ByteArray := ⟨(dropZ s.data.toList.reverse).reverse.toArray⟩
theorem ext_toList (s : ByteArray) (a b : Nat) : (s.extract a b).data.toList = (s.data.toList.drop a).take (b - a) := by
  rw [ByteArray.data_extract, Array.toList_extract]
theorem ba_ext {x y : ByteArray} (h : x.data.toList = y.data.toList) : x = y := by
  have h2 : x.data = y.data := Array.toList_inj.1 h
  cases x; exact congrArg ByteArray.mk h2
theorem toList_last (x : ByteArray) (k : Nat) (hk : k = x.size - 1) (h : k < x.size) : x.data.toList = x.data.toList.take k ++ [x[k]] := by
  have h1 : k < x.data.toList.length := by rw [bsize]; exact h
  have := List.take_succ_eq_append_getElem h1
  rw [List.take_of_length_le (by rw [bsize]; omega)] at this
  exact this
theorem toList_first (x : ByteArray) (h : 0 < x.size) : x.data.toList = x[0] :: x.data.toList.drop 1 := by
  have h1 : 0 < x.data.toList.length := by rw [bsize]; exact h
  have := List.drop_eq_getElem_cons h1
  rw [List.drop_zero] at this
  exact this
set_option maxHeartbeats 400000 in
theorem trimR_any (s : ByteArray) (w : World) (hs : s.size ≤ 140737488355328) :
    Calls Tryz.prog 245 #[.string s, .int .u8 0] w fun e w' => e = .returned (.string (trR s)) ∧ w' = w := by
  obtain ⟨t, ht⟩ : ∃ t, t = trR s := ⟨_, rfl⟩
  rw [← ht]
  have HT := hide ht
  clear ht
  go_enter Tryz.func245, Tryz.ntmps245
  go_wp2
  go_loop [0] (fun v => ∃ (x : ByteArray), v = .string x ∧ dropZ x.data.toList.reverse = dropZ s.data.toList.reverse ∧ x.size ≤ s.size) (fun v => match v with | .string x => x.size | _ => 0)
  case atStart => exact ⟨s, rfl, rfl, Nat.le_refl _⟩
  case round =>
    obtain ⟨x, rfl, he, hle⟩ := hrel
    have HE := hide he
    clear he
    by_cases h0 : 0 < x.size
    · have h0I : (0 : Int) < (x.size : Int) := by omega
      obtain ⟨k, hk⟩ : ∃ k, k = x.size - 1 := ⟨_, rfl⟩
      have hw : IntKind.i64.wrap ((x.size : Int) - 1) = (k : Int) := by rw [IntKind.wrap_i64]; omega
      have hlt : k < x.size := by omega
      have hltI : (k : Int) < (x.size : Int) := by omega
      have hk0 : (0 : Int) ≤ (k : Int) := by omega
      have hkle : (k : Int) ≤ (x.size : Int) := by omega
      have HK := hide hk
      have HL := hide (toList_last x k hk hlt)
      clear hk
      by_cases hz : x[k] = 0
      · have hz' : ((x[k].toNat : Int) == 0) = true := by rw [hz]; rfl
        have HZ := hide hz
        clear hz
        go_wp2
        go_round
        case rel =>
          refine ⟨_, rfl, ?_, ?_⟩
          · rw [← HE.out, ext_toList, List.drop_zero, Nat.sub_zero]
            conv => rhs; rw [HL.out, HZ.out, List.reverse_append]
            rfl
          · rw [ByteArray.size_extract]; omega
        case measure => simp [ByteArray.size_extract]; omega
      · have hz' : ((x[k].toNat : Int) == 0) = false := by
          rw [beq_eq_false_iff_ne]
          intro h
          exact hz (UInt8.toNat_inj.1 (by simpa using h))
        have HX : Hid (x = t) := by
          have hb : isZ x[k] = false := by simpa [isZ] using hz
          refine ba_ext ?_
          rw [HT.out]
          show _ = (dropZ s.data.toList.reverse).reverse.toArray.toList
          rw [← HE.out, HL.out, List.reverse_append]
          show _ = (List.dropWhile isZ (x[k] :: _)).reverse.toArray.toList
          rw [List.dropWhile_cons_of_neg (by rw [hb]; decide)]
          simp
        clear hz
        go_wp2
        go_ret
        exact ⟨by rw [← HX.out]; rfl, rfl⟩
    · have h0I : ¬ (0 : Int) < (x.size : Int) := by omega
      have HX : Hid (x = t) := by
        refine ba_ext ?_
        rw [HT.out]
        show _ = (dropZ s.data.toList.reverse).reverse.toArray.toList
        have hn : x.data.toList = [] := List.length_eq_zero_iff.1 (by rw [bsize]; omega)
        rw [← HE.out, hn]; rfl
      go_wp2
      go_ret
      exact ⟨by rw [← HX.out]; rfl, rfl⟩

set_option maxHeartbeats 400000 in
theorem trimL_any (s : ByteArray) (w : World) :
    Calls Tryz.prog 244 #[.string s, .int .u8 0] w fun e w' => e = .returned (.string (trL s)) ∧ w' = w := by
  obtain ⟨t, ht⟩ : ∃ t, t = trL s := ⟨_, rfl⟩
  rw [← ht]
  have HT := hide ht
  clear ht
  go_enter Tryz.func244, Tryz.ntmps244
  go_wp2
  go_loop [0] (fun v => ∃ (x : ByteArray), v = .string x ∧ dropZ x.data.toList = dropZ s.data.toList ∧ x.size ≤ s.size) (fun v => match v with | .string x => x.size | _ => 0)
  case atStart => exact ⟨s, rfl, rfl, Nat.le_refl _⟩
  case round =>
    obtain ⟨x, rfl, he, hle⟩ := hrel
    have HE := hide he
    clear he
    by_cases h0 : 0 < x.size
    · have h0I : (0 : Int) < (x.size : Int) := by omega
      have h1I : (1 : Int) ≤ (x.size : Int) := by omega
      have HL := hide (toList_first x h0)
      by_cases hz : x[0] = 0
      · have hz' : ((x[0].toNat : Int) == 0) = true := by rw [hz]; rfl
        have HZ := hide hz
        clear hz
        go_wp2
        go_round
        case rel =>
          refine ⟨_, rfl, ?_, ?_⟩
          · rw [← HE.out, ext_toList, List.take_of_length_le (by rw [List.length_drop, bsize]; omega)]
            conv => rhs; rw [HL.out, HZ.out]
            rfl
          · rw [ByteArray.size_extract]; omega
        case measure => simp [ByteArray.size_extract]; omega
      · have hz' : ((x[0].toNat : Int) == 0) = false := by
          rw [beq_eq_false_iff_ne]
          intro h
          exact hz (UInt8.toNat_inj.1 (by simpa using h))
        have HX : Hid (x = t) := by
          have hb : isZ x[0] = false := by simpa [isZ] using hz
          refine ba_ext ?_
          rw [HT.out]
          show _ = (dropZ s.data.toList).toArray.toList
          rw [← HE.out]
          conv => rhs; rw [HL.out]
          show _ = (List.dropWhile isZ (x[0] :: _)).toArray.toList
          rw [List.dropWhile_cons_of_neg (by rw [hb]; decide)]
          exact HL.out
        clear hz
        go_wp2
        go_ret
        exact ⟨by rw [← HX.out]; rfl, rfl⟩
    · have h0I : ¬ (0 : Int) < (x.size : Int) := by omega
      have HX : Hid (x = t) := by
        refine ba_ext ?_
        rw [HT.out]
        show _ = (dropZ s.data.toList).toArray.toList
        have hn : x.data.toList = [] := List.length_eq_zero_iff.1 (by rw [bsize]; omega)
        rw [← HE.out, hn]; rfl
      go_wp2
      go_ret
      exact ⟨by rw [← HX.out]; rfl, rfl⟩

theorem dropZ_nil (l : List UInt8) : dropZ l = [] ↔ ∀ x ∈ l, isZ x = true := by
  induction l with
  | nil => simp [dropZ]
  | cons a r ih =>
    unfold dropZ at ih ⊢
    cases ha : isZ a with
    | true => rw [List.dropWhile_cons_of_pos ha, ih]; simp [ha]
    | false => rw [List.dropWhile_cons_of_neg (by rw [ha]; decide)]; simp [ha]
theorem dropZ_head (l : List UInt8) (a : UInt8) (r : List UInt8) (h : dropZ l = a :: r) : isZ a = false := by
  induction l with
  | nil => simp [dropZ] at h
  | cons b q ih =>
    unfold dropZ at ih h
    cases hb : isZ b with
    | true => rw [List.dropWhile_cons_of_pos hb] at h; exact ih h
    | false =>
      rw [List.dropWhile_cons_of_neg (by rw [hb]; decide)] at h
      cases h; exact hb
/-- Nothing is left but where a byte is not zero. -/
theorem trim_nil (s : ByteArray) : trL (trR s) = ByteArray.empty ↔ ∀ j, j < s.size → s.data.toList.getD j 0 = 0 := by
  have h1 : trL (trR s) = ByteArray.empty ↔ dropZ (dropZ s.data.toList.reverse).reverse = [] := by
    constructor
    · intro h
      have := congrArg (fun x => x.data.toList) h
      simpa [trL, trR] using this
    · intro h
      refine ba_ext ?_
      simpa [trL, trR] using h
  rw [h1]
  rw [dropZ_nil]
  constructor
  · intro h j hj
    have hz : dropZ s.data.toList.reverse = [] := by
      cases hd : dropZ s.data.toList.reverse with
      | nil => rfl
      | cons a r =>
        exfalso
        have hp := h a (by rw [hd]; simp)
        rw [dropZ_head _ a r hd] at hp; cases hp
    rw [dropZ_nil] at hz
    rw [ba_get s j hj]
    have := hz s[j] (by rw [List.mem_reverse]; show s.data[j] ∈ _; simp)
    simpa [isZ] using this
  · intro h x hx
    rw [List.mem_reverse] at hx
    have hx2 := (List.dropWhile_sublist isZ (l := s.data.toList.reverse)).mem hx
    rw [List.mem_reverse] at hx2
    obtain ⟨j, hj, rfl⟩ := List.getElem_of_mem hx2
    have := h j (by rw [bsize] at hj; exact hj)
    rw [List.getD_eq_getElem?_getD, List.getElem?_eq_getElem hj] at this
    simpa [isZ] using this

theorem empty_iff (s : ByteArray) : s.toList.isEmpty = decide (s = ByteArray.empty) := (decide_eq_emptyBytes s).symm
set_option maxRecDepth 100000 in
set_option maxHeartbeats 1000000 in
theorem trim_any (s : ByteArray) (w : World) (hs : s.size ≤ 140737488355328) :
    Calls Tryz.prog 228 #[.string s, .string ⟨#[0]⟩] w fun e w' => e = .returned (.string (trL (trR s))) ∧ Below w.heap.size w w' := by
  by_cases h0 : s = ⟨#[]⟩
  · subst h0
    have HT : Hid (trL (trR ⟨#[]⟩) = ⟨#[]⟩) := rfl
    rw [HT.out]
    go_enter Tryz.func228, Tryz.ntmps228
    go_wp2
    go_ret
    exact ⟨rfl, Below.refl _ _⟩
  · have hne : s.toList.isEmpty = false := by rw [empty_iff]; exact decide_eq_false h0
    have hne2 : ¬ s.toList = [] := fun h => by rw [h] at hne; cases hne
    have hc0 : (((({ data := #[0] } : ByteArray)[0]).toNat : Nat) : Int) = 0 := rfl
    have HR := hide (fun w => trimR_any s w hs)
    have HL := hide (fun w => trimL_any (trR s) w)
    generalize trL (trR s) = t at *
    generalize trR s = r at *
    go_enter Tryz.func228, Tryz.ntmps228
    go_wp2_with fail
    go_quiet ((first | (go_at_call 245; exact Calls.quiet_of_same (HR.out _)) | (go_at_call 244; exact Calls.quiet_of_same (HL.out _))))
    go_wp2
    go_ret
    exact ⟨rfl, below_drewN' (Below.refl _ _) _⟩

end Go.Proofs.YtnaedmmfiiebaaaGreatDoor

namespace Go.Proofs.YtnaedmmfiiebaaaGreatDoor
open Go.RowKit

theorem size5 : (Tryz.prog.info? 5).map (·.size) = some 1 := by kernel_rfl
/-- Of the blocks that were there all but rb are as they were. -/
structure Sole (rb : Nat) (w w' : World) : Prop where
  os : w'.os = w.os
  tape : w'.tape = w.tape
  output : w'.output = w.output
  size : w.heap.size ≤ w'.heap.size
  block : ∀ k, k < w.heap.size → k ≠ rb → w'.heap[k]? = w.heap[k]?
theorem Sole.refl (rb : Nat) (w : World) : Sole rb w w := ⟨rfl, rfl, rfl, Nat.le_refl _, fun _ _ _ => rfl⟩
theorem Sole.trans {rb : Nat} {a b c : World} (h : Sole rb a b) (k : Sole rb b c) : Sole rb a c :=
  ⟨k.os.trans h.os, k.tape.trans h.tape, k.output.trans h.output, Nat.le_trans h.size k.size, fun i hi hn => (k.block i (Nat.lt_of_lt_of_le hi h.size) hn).trans (h.block i hi hn)⟩
theorem Sole.of_below {rb : Nat} {w w' : World} (h : Below w.heap.size w w') : Sole rb w w' := ⟨h.os, h.tape, h.output, h.size, fun k hk _ => h.block k hk⟩
theorem Sole.set (rb o : Nat) (w : World) (u : Value) : Sole rb w (w.setCell ⟨rb, o, none⟩ u) :=
  ⟨rfl, rfl, rfl, by simp [World.setCell], fun k _ hn => Below.heap_setCell w ⟨rb, o, none⟩ u k (fun e => hn e)⟩
theorem Sole.setRow (rb : Nat) (w : World) (cs : Array Value) : Sole rb w (w.setRow rb cs) :=
  ⟨rfl, rfl, rfl, by simp [World.setRow], fun k _ hn => setRow_other w rb k cs hn⟩
theorem Sole.below {rb : Nat} {w0 w w' : World} (h : Sole rb w w') (hb : Below w0.heap.size w0 w) (hr : w0.heap.size ≤ rb) : Below w0.heap.size w0 w' :=
  hb.trans ⟨h.os, h.tape, h.output, h.size, fun k hk => h.block k (Nat.lt_of_lt_of_le hk hb.size) (by omega)⟩
theorem Sole.cell {rb : Nat} {w w' : World} (h : Sole rb w w') {a : Addr} {v : Value} (hc : w.cell? a = some v) (hn : a.block ≠ rb) : w'.cell? a = some v :=
  (World.cell?_of_block (a := a) (h.block a.block (World.block_lt_of_cell? w a hc) hn)).trans hc

/-- The block g, of a type t, holds just these bytes. -/
def RowT (t : TypeId) (w : World) (g : Nat) (l : List UInt8) : Prop := w.heap[g]? = some (.cells (u8s l).toArray t (0, 0))
theorem RowT.lt {t : TypeId} {w : World} {g : Nat} {l : List UInt8} (h : RowT t w g l) : g < w.heap.size := by
  rcases Nat.lt_or_ge g w.heap.size with h' | h'
  · exact h'
  · unfold RowT at h; rw [Array.getElem?_eq_none h'] at h; cases h
theorem RowT.cell {t : TypeId} {w : World} {g : Nat} {l : List UInt8} (h : RowT t w g l) (j : Nat) (hj : j < l.length) : w.cell? ⟨g, j, none⟩ = some (.int .u8 (l[j].toNat : Int)) := by
  rw [cell_of_row w g j _ _ _ h]
  simpa using u8s_get l j hj
theorem RowT.below {t : TypeId} {w w' : World} {g : Nat} {l : List UInt8} (h : RowT t w g l) (hb : Below w.heap.size w w') : RowT t w' g l := by
  unfold RowT; rw [hb.block g h.lt]; exact h
theorem RowT.sole {t : TypeId} {w w' : World} {g rb : Nat} {l : List UInt8} (h : RowT t w g l) (hb : Sole rb w w') (hn : g ≠ rb) : RowT t w' g l := by
  unfold RowT; rw [hb.block g h.lt hn]; exact h
theorem u8s_splice (l : List UInt8) (o : Nat) (c : List UInt8) : splice (u8s l) o (u8s c) = u8s (splice l o c) := by
  simp [splice, u8s]
end Go.Proofs.YtnaedmmfiiebaaaGreatDoor
