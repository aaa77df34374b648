import Derived.Test.YtdkckbfamecipaaDoorDuMath
import Derived.Test.YtdkckbfamecipaaDoorLErr
import Derived.BigQuiet
import Derived.Deep.QuietTactic
namespace Go.Proofs.YtdkckbfamecipaaDoor
open Go.RowKit

theorem list_eq (a b : ByteArray) : (a.toList == b.toList) = decide (a = b) := by
  rw [ByteArray.toList_eq, ByteArray.toList_eq, Bool.eq_iff_iff, beq_iff_eq, decide_eq_true_iff]
  exact ⟨ba_ext, fun h => by rw [h]⟩
theorem cell_bel {w w' : World} {a : Addr} {v : Value} (hb : Below w.heap.size w w') (h : w.cell? a = some v) : w'.cell? a = some v := (hb.cell (p := a) (World.block_lt_of_cell? w _ h)).trans h
set_option maxHeartbeats 1000000 in
/-- Is that a line that begins so? -/
theorem isline_any (v : Value) (ws : List ByteArray) (f : ByteArray) (m : Nat) (w : World) (hm2 : m ≤ 2) (h : StrR w v ws) :
    Calls Tryd.prog 11 #[v, .string f, .int .i64 (m : Int)] w fun e w' => e = .returned (.bool (isD ws f m)) ∧ w = w' := by
  obtain ⟨a, cap, rfl, hle, hc⟩ := h
  obtain ⟨n, hn⟩ : ∃ n, n = ws.length := ⟨_, rfl⟩
  obtain ⟨b, hb⟩ : ∃ b, b = isD ws f m := ⟨_, rfl⟩
  rw [← hb, ← hn]
  have hw : IntKind.i64.wrap (1 + (m : Int)) = ((1 + m : Nat) : Int) := by rw [IntKind.wrap_i64]; omega
  have hw2 : wrap64 (1 + (m : Int)) = ((1 + m : Nat) : Int) := by unfold wrap64; omega
  generalize hk : 1 + m = k at hw hw2
  by_cases h0 : n = k
  · obtain ⟨g, o, rfl, c0⟩ := hc 0 (by omega)
    obtain ⟨x, hx⟩ : ∃ x, x = ws[0] := ⟨_, rfl⟩
    rw [← hx, Nat.add_zero] at c0
    have HB : Hid (b = decide (x = f)) := by
      show _ = _
      rw [hb]
      unfold isD
      rw [List.getElem?_eq_getElem (by omega), ← hx, decide_eq_true (show ws.length = 1 + m by omega)]
      simp
    have hd : ((n : Int) == (k : Int)) = true := by rw [beq_iff_eq]; omega
    have hl := list_eq x f
    have h1 : (0 : Int) < (n : Int) := by omega
    clear hb hx hc hn h0 hk hle
    generalize decide (x = f) = d at *
    go_enter Tryd.func11, Tryd.ntmps11
    go_wp2
    go_ret
    exact ⟨by rw [HB.out]; rfl, rfl⟩
  · have HB : Hid (b = false) := by
      show _ = _
      rw [hb]
      unfold isD
      rw [decide_eq_false (show ¬ ws.length = 1 + m by omega)]
      rfl
    have hd : ((n : Int) == (k : Int)) = false := by rw [beq_eq_false_iff_ne]; omega
    clear hb hc hn h0 hk hle
    go_enter Tryd.func11, Tryd.ntmps11
    go_wp2
    go_ret
    exact ⟨by rw [HB.out]; rfl, rfl⟩
theorem str_ne' {s : ByteArray} (h : ¬ s.size = 0) : s.toList.isEmpty = false ∧ ¬ s.toList = [] := by
  have hb := bsize s
  rw [← ByteArray.toList_eq] at hb
  cases hs : s.toList with
  | nil => rw [hs] at hb; exact absurd hb.symm h
  | cons x r => exact ⟨rfl, by simp⟩
theorem str_nil' {s : ByteArray} (h : s.size = 0) : s = ⟨#[]⟩ := by
  refine ba_ext ?_
  have := bsize s
  exact List.length_eq_zero_iff.1 (by omega)
theorem mayP_eq (p : Pr) : mayP p = (!(decide (p.1.size = 0) || decide (255 < p.1.size) || decide (700 < p.2.size))) := by
  unfold mayP
  rw [Bool.eq_iff_iff]
  simp only [decide_eq_true_eq, Bool.not_eq_true', Bool.or_eq_false_iff, decide_eq_false_iff_not]
  omega
set_option maxHeartbeats 2000000 in
/-- The fault that a pair brings in, the program's. -/
theorem pfault_any (A : Nat → Addr) (v : Value) (l : List Pr) (p : Pr) (w : World) (hm : l.length ≤ 140737488355328) (h : PrR w v l) (hE : ErrC A w) :
    Calls Tryd.prog 12 #[v, .agg #[.string p.1, .string p.2]] w fun e w' => e = .returned (errV A (faultD l p)) ∧ Below w.heap.size w w' := by
  obtain ⟨a, cap, rfl, hle, hnil, hc⟩ := h
  obtain ⟨n, hn⟩ : ∃ n, n = l.length := ⟨_, rfl⟩
  obtain ⟨o, ho⟩ : ∃ o, o = faultD l p := ⟨_, rfl⟩
  rw [← hn, ← ho]
  have HB0 := hide (below_new w (.cells #[.string p.1, .string p.2] 39))
  have c0 := (hE.1.1 0 (by decide)).1
  have c11 := hE.2
  have k0 : (w.alloc (.cells #[.string p.1, .string p.2] 39)).cell? ⟨2, 0, none⟩ = some (.iface 107 (.pointer (some (A 0)))) := cell_bel HB0.out c0
  have k11 : (w.alloc (.cells #[.string p.1, .string p.2] 39)).cell? ⟨7, 0, none⟩ = some (.iface 107 (.pointer (some (A 11)))) := cell_bel HB0.out c11
  have hb := boxed_new w #[.string p.1, .string p.2] 39
  have b0 : (w.alloc (.cells #[.string p.1, .string p.2] 39)).cell? ⟨w.heap.size, 0, none⟩ = some (.string p.1) := hb.2 0 (by simp)
  have b1 : (w.alloc (.cells #[.string p.1, .string p.2] 39)).cell? ⟨w.heap.size, 1, none⟩ = some (.string p.2) := hb.2 1 (by simp)
  by_cases hp : mayP p = true
  · obtain ⟨h1, h2, h3⟩ := may_parts' hp
    obtain ⟨d0, d1⟩ := str_ne' (show ¬ p.1.size = 0 by omega)
    have i1 : ¬ (p.1.size : Int) > 255 := by omega
    have i2 : ¬ (p.2.size : Int) > 700 := by omega
    rcases Nat.eq_zero_or_pos n with hz | hz
    · have HO : Hid (o = none) := by
        show _ = _
        rw [ho]
        unfold faultD
        rw [if_neg (by rw [hp]; decide), List.length_eq_zero_iff.1 (show l.length = 0 by omega)]
        rfl
      subst hz
      clear hc ho hn hle hnil hm hE c0 c11 hp h1 h2 h3 hb
      obtain ⟨p1, p2⟩ := p
      simp only at *
      go_enter Tryd.func12, Tryd.ntmps12
      go_wp2
      go_quiet (fail)
      go_wp2
      go_ret
      exact ⟨by rw [HO.out]; rfl, below_drewN' HB0.out _⟩
    · obtain ⟨m, hm1⟩ : ∃ m, m + 1 = n := ⟨n - 1, by omega⟩
      have hml : m < l.length := by omega
      obtain ⟨g, o1, rfl, q0, _⟩ := hc m hml
      obtain ⟨x, hx⟩ : ∃ x, x = l[m].1 := ⟨_, rfl⟩
      rw [← hx] at q0
      have q1 : (w.alloc (.cells #[.string p.1, .string p.2] 39)).cell? ⟨g, o1 + m * 2, none⟩ = some (.string x) := cell_bel HB0.out q0
      have hgl : l.getLast? = some l[m] := by
        rw [List.getLast?_eq_getElem?, show l.length - 1 = m by omega, List.getElem?_eq_getElem hml]
      have HO : Hid (o = if ltK x p.1 = true then none else some 11) := by
        show _ = _
        rw [ho]
        unfold faultD
        rw [if_neg (by rw [hp]; decide), hgl, hx]
      have j1 : (n : Int) > 0 := by omega
      have j9 : decide (0 < n) = true := decide_eq_true hz
      have hw : IntKind.i64.wrap ((n : Int) - 1) = (m : Int) := by rw [IntKind.wrap_i64]; omega
      have hw2 : wrap64 ((n : Int) - 1) = (m : Int) := by unfold wrap64; omega
      have j2 : (0 : Int) ≤ (m : Int) := by omega
      have j3 : (m : Int) < (n : Int) := by omega
      obtain ⟨p1, p2⟩ := p
      simp only at *
      have hlt : Op.bytesLess x.toList p1.toList = ltK x p1 := rfl
      generalize ltK x p1 = t at *
      clear hz hm1 hc ho hn hle hnil hm hE c0 c11 hp h1 h2 h3 hb q0 hx hgl
      cases t
      · go_enter Tryd.func12, Tryd.ntmps12
        go_wp2
        go_quiet (fail)
        go_wp2
        go_ret
        exact ⟨by rw [HO.out]; rfl, below_drewN' HB0.out _⟩
      · go_enter Tryd.func12, Tryd.ntmps12
        go_wp2
        go_quiet (fail)
        go_wp2
        go_ret
        exact ⟨by rw [HO.out]; rfl, below_drewN' HB0.out _⟩
  · have HO : Hid (o = some 0) := by
      show _ = _
      rw [ho]
      unfold faultD
      rw [if_pos (by simpa using hp)]
    have hq := mayP_eq p
    rw [show mayP p = false by simpa using hp] at hq
    obtain ⟨p1, p2⟩ := p
    simp only at *
    by_cases z0 : p1.size = 0
    · have hz := str_nil' z0
      subst hz
      clear hc ho hn hle hnil hm hE c11 hp hb hq
      go_enter Tryd.func12, Tryd.ntmps12
      go_wp2
      go_ret
      exact ⟨by rw [HO.out]; rfl, HB0.out⟩
    · obtain ⟨d0, d1⟩ := str_ne' z0
      by_cases z1 : 255 < p1.size
      · have i1 : (p1.size : Int) > 255 := by omega
        clear hc ho hn hle hnil hm hE c11 hp hb hq
        go_enter Tryd.func12, Tryd.ntmps12
        go_wp2
        go_ret
        exact ⟨by rw [HO.out]; rfl, HB0.out⟩
      · have i1 : ¬ (p1.size : Int) > 255 := by omega
        have i2 : (p2.size : Int) > 700 := by
          have : 700 < p2.size := by
            rw [decide_eq_false z0, decide_eq_false z1] at hq
            simpa using hq
          omega
        clear hc ho hn hle hnil hm hE c11 hp hb hq
        go_enter Tryd.func12, Tryd.ntmps12
        go_wp2
        go_ret
        exact ⟨by rw [HO.out]; rfl, HB0.out⟩
set_option maxHeartbeats 2000000 in
/-- The fault that a pair brings in, the document's. -/
theorem rfault_any (v : Value) (l : List Pr) (p : Pr) (w : World) (hm : l.length ≤ 140737488355328) (h : PrR w v l) :
    Calls Tryd.prog 15 #[v, .agg #[.string p.1, .string p.2]] w fun e w' => e = .returned (.int .i64 (numE (faultD l p) : Int)) ∧ Below w.heap.size w w' := by
  obtain ⟨a, cap, rfl, hle, hnil, hc⟩ := h
  obtain ⟨n, hn⟩ : ∃ n, n = l.length := ⟨_, rfl⟩
  obtain ⟨o, ho⟩ : ∃ o, o = faultD l p := ⟨_, rfl⟩
  rw [← hn, ← ho]
  have HB0 := hide (below_new w (.cells #[.string p.1, .string p.2] 39))
  have hb := boxed_new w #[.string p.1, .string p.2] 39
  have b0 : (w.alloc (.cells #[.string p.1, .string p.2] 39)).cell? ⟨w.heap.size, 0, none⟩ = some (.string p.1) := hb.2 0 (by simp)
  have b1 : (w.alloc (.cells #[.string p.1, .string p.2] 39)).cell? ⟨w.heap.size, 1, none⟩ = some (.string p.2) := hb.2 1 (by simp)
  by_cases hp : mayP p = true
  · obtain ⟨h1, h2, h3⟩ := may_parts' hp
    have i0 : ¬ (p.1.size : Int) < 1 := by omega
    have i1 : ¬ (p.1.size : Int) > 255 := by omega
    have i2 : ¬ (p.2.size : Int) > 700 := by omega
    rcases Nat.eq_zero_or_pos n with hz | hz
    · have HO : Hid (o = none) := by
        show _ = _
        rw [ho]
        unfold faultD
        rw [if_neg (by rw [hp]; decide), List.length_eq_zero_iff.1 (show l.length = 0 by omega)]
        rfl
      subst hz
      clear hc ho hn hle hnil hm hp h1 h2 h3 hb
      obtain ⟨p1, p2⟩ := p
      simp only at *
      go_enter Tryd.func15, Tryd.ntmps15
      go_wp2
      go_quiet (fail)
      go_wp2
      go_ret
      exact ⟨by rw [HO.out]; rfl, below_drewN' HB0.out _⟩
    · obtain ⟨m, hm1⟩ : ∃ m, m + 1 = n := ⟨n - 1, by omega⟩
      have hml : m < l.length := by omega
      obtain ⟨g, o1, rfl, q0, _⟩ := hc m hml
      obtain ⟨x, hx⟩ : ∃ x, x = l[m].1 := ⟨_, rfl⟩
      rw [← hx] at q0
      have q1 : (w.alloc (.cells #[.string p.1, .string p.2] 39)).cell? ⟨g, o1 + m * 2, none⟩ = some (.string x) := cell_bel HB0.out q0
      have hgl : l.getLast? = some l[m] := by
        rw [List.getLast?_eq_getElem?, show l.length - 1 = m by omega, List.getElem?_eq_getElem hml]
      have HO : Hid (o = if ltK x p.1 = true then none else some 11) := by
        show _ = _
        rw [ho]
        unfold faultD
        rw [if_neg (by rw [hp]; decide), hgl, hx]
      have j1 : (n : Int) > 0 := by omega
      have j9 : decide (0 < n) = true := decide_eq_true hz
      have hw : IntKind.i64.wrap ((n : Int) - 1) = (m : Int) := by rw [IntKind.wrap_i64]; omega
      have hw2 : wrap64 ((n : Int) - 1) = (m : Int) := by unfold wrap64; omega
      have j2 : (0 : Int) ≤ (m : Int) := by omega
      have j3 : (m : Int) < (n : Int) := by omega
      obtain ⟨p1, p2⟩ := p
      simp only at *
      have hlt : Op.bytesLess x.toList p1.toList = ltK x p1 := rfl
      generalize ltK x p1 = t at *
      clear hz hm1 hc ho hn hle hnil hm hp h1 h2 h3 hb q0 hx hgl
      cases t
      · go_enter Tryd.func15, Tryd.ntmps15
        go_wp2
        go_quiet (fail)
        go_wp2
        go_ret
        exact ⟨by rw [HO.out]; rfl, below_drewN' HB0.out _⟩
      · go_enter Tryd.func15, Tryd.ntmps15
        go_wp2
        go_quiet (fail)
        go_wp2
        go_ret
        exact ⟨by rw [HO.out]; rfl, below_drewN' HB0.out _⟩
  · have HO : Hid (o = some 0) := by
      show _ = _
      rw [ho]
      unfold faultD
      rw [if_pos (by simpa using hp)]
    have hq := mayP_eq p
    rw [show mayP p = false by simpa using hp] at hq
    obtain ⟨p1, p2⟩ := p
    simp only at *
    by_cases z0 : p1.size = 0
    · have i0 : (p1.size : Int) < 1 := by omega
      clear hc ho hn hle hnil hm hp hb hq
      go_enter Tryd.func15, Tryd.ntmps15
      go_wp2
      go_ret
      exact ⟨by rw [HO.out]; rfl, HB0.out⟩
    · have i0 : ¬ (p1.size : Int) < 1 := by omega
      by_cases z1 : 255 < p1.size
      · have i1 : (p1.size : Int) > 255 := by omega
        clear hc ho hn hle hnil hm hp hb hq
        go_enter Tryd.func15, Tryd.ntmps15
        go_wp2
        go_ret
        exact ⟨by rw [HO.out]; rfl, HB0.out⟩
      · have i1 : ¬ (p1.size : Int) > 255 := by omega
        have i2 : (p2.size : Int) > 700 := by
          have : 700 < p2.size := by
            rw [decide_eq_false z0, decide_eq_false z1] at hq
            simpa using hq
          omega
        clear hc ho hn hle hnil hm hp hb hq
        go_enter Tryd.func15, Tryd.ntmps15
        go_wp2
        go_ret
        exact ⟨by rw [HO.out]; rfl, HB0.out⟩
end Go.Proofs.YtdkckbfamecipaaDoor
