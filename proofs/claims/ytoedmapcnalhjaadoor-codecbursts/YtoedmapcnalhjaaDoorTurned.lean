import Derived.Test.YtoedmapcnalhjaaDoorBurst
namespace Go.Proofs.YtoedmapcnalhjaaDoor
open Go.RowKit

theorem pow_lt_256 (s : Nat) (h : s < 8) : 2 ^ s < 256 := Nat.pow_lt_pow_right (m := s) (n := 8) (by decide) h
theorem xor_u8_toNat (c p : Nat) (hc : c < 256) (hp : p < 256) : (UInt8.ofNat (c ^^^ p)).toNat = c ^^^ p := by
  have : c ^^^ p < 2 ^ 8 := Nat.xor_lt_two_pow hc hp
  simp only [UInt8.toNat_ofNat']
  omega
theorem xor_u8 (c s : Nat) (hc : c < 256) (hp : 2 ^ s < 256) : bits BinOp.xor IntKind.u8 (c : Int) (2 ^ s % 256) = ((UInt8.ofNat (c ^^^ 2 ^ s)).toNat : Int) := by
  have h := u8_xor_nat c (2 ^ s) hc hp
  have e : ((2 ^ s : Nat) : Int) = 2 ^ s % 256 := by
    have e2 : ((2 ^ s : Nat) : Int) = (2 : Int) ^ s := by simp
    rw [← e2]
    exact (Int.emod_eq_of_lt (Int.natCast_nonneg _) (Int.ofNat_lt.2 hp)).symm
  rw [← e, h, xor_u8_toNat c _ hc hp]
theorem u8s_set (q : List UInt8) (j : Nat) (d : UInt8) : (u8s q).set j (.int .u8 (d.toNat : Int)) = u8s (q.set j d) := by
  simp [u8s, List.map_set]
theorem pow_mul_xor (n a b : Nat) : 2 ^ n * (a ^^^ b) = (2 ^ n * a) ^^^ (2 ^ n * b) := by
  have := Nat.shiftLeft_xor_distrib (a := a) (b := b) (i := n)
  simpa [Nat.shiftLeft_eq, Nat.mul_comm] using this
theorem leNat_set (l : List UInt8) : ∀ (j s : Nat) (hj : j < l.length) (_ : s < 8) (d : UInt8), d.toNat = l[j].toNat ^^^ 2 ^ s → leNat (l.set j d) = leNat l ^^^ 2 ^ (8 * j + s) := by
  induction l with
  | nil => intro j s hj; simp at hj
  | cons c r ih =>
    intro j s hj hs d hd
    cases j with
    | zero =>
      simp only [List.set_cons_zero, leNat, List.getElem_cons_zero] at hd ⊢
      rw [hd, Nat.mul_zero, Nat.zero_add, Nat.xor_assoc, Nat.xor_assoc, Nat.xor_comm (2 ^ s)]
    | succ j =>
      simp only [List.set_cons_succ, leNat, List.getElem_cons_succ] at hd ⊢
      rw [ih j s (by simpa using hj) hs d hd, pow_mul_xor, ← Nat.pow_add, ← Nat.xor_assoc, show 8 + (8 * j + s) = 8 * (j + 1) + s by omega]

set_option maxHeartbeats 400000 in
theorem turned_rd (v : Value) (l : List UInt8) (at' turn : Nat) (w : World) (hm : l.length ≤ 140737488355328) (hat : at' ≤ 8 * l.length) (_hturn : turn < 4294967296) (hr : Rd w v l) :
    Calls Tryd.prog 17 #[v, .int .i64 (at' : Int), .int .u32 (turn : Int)] w fun e w' => ∃ (v' : Value) (T : Nat) (q : List UInt8) (bb : Bool), e = .returned (.tuple #[v', .bool bb]) ∧
      w'.ownsRow w.heap.size 5 1 v' l.length (u8s q) ∧ q.length = l.length ∧ leNat q = leNat l ^^^ (2 ^ at' * T) ∧ T < 2 ^ 32 ∧ (bb = true → T ≠ 0) ∧ Below w.heap.size w w' := by
  go_enter Tryd.func17, Tryd.ntmps17
  go_wp2_with (go_at_call 22; refine (copy_rd v l _ hm hr).mono ?_; rintro e w1 ⟨v1, rfl, hown1, hb1⟩)
  obtain ⟨a0, cap, rfl⟩ : ∃ a0 cap, v1 = .slice a0 l.length cap := by
    rcases hown1.2 with ⟨h', h0⟩ | ⟨g, cap, cur, h', _⟩
    · exact ⟨none, 0, by rw [h', h0]⟩
    · exact ⟨_, cap, h'⟩
  go_loopw [9, 10] (fun b i wr => ∃ (k T : Nat) (q : List UInt8) (bb : Bool), k ≤ 32 ∧ i = .int .i64 k ∧ b = .bool bb ∧ T < 2 ^ k ∧ (bb = true → T ≠ 0) ∧
      wr.ownsRow w.heap.size 5 1 (.slice a0 l.length cap) l.length (u8s q) ∧ q.length = l.length ∧ leNat q = leNat l ^^^ (2 ^ at' * T) ∧ Below w.heap.size w wr) (fun _ i _ => 32 - (intOf i).toNat)
  case atStart => exact ⟨0, 0, l, false, by omega, rfl, rfl, by decide, (fun h => by cases h), hown1, rfl, by simp, hb1⟩
  case round =>
    obtain ⟨k, T, q, bb, hk, rfl, rfl, hT, hbb, hown, hql, hle, hb⟩ := hrel
    by_cases hlt : k < 32
    · have HL : Hid (leNat q = leNat l ^^^ (2 ^ at' * T)) := hle
      have HB : Hid (bb = true → T ≠ 0) := hbb
      have HQ : Hid (q.length = l.length) := hql
      have HO : Hid (wr.ownsRow w.heap.size 5 1 (.slice a0 l.length cap) l.length (u8s q)) := hown
      have hT1 : T < 2 ^ (k + 1) := Nat.lt_of_lt_of_le hT (Nat.pow_le_pow_right (by decide) (by omega))
      have HT : Hid (T < 2 ^ k) := hT
      clear hle hbb hql hown hown1 hb1 hr hT
      by_cases hbit : (bits BinOp.and IntKind.u32 ((turn : Int) / 2 ^ k) 1 == 1) = true
      · by_cases hin : at' + k < 8 * l.length
        · obtain ⟨g, cap', he, hg0, hg⟩ := HO.out.form (by omega)
          cases he
          have hj : (at' + k) / 8 < q.length := by rw [HQ.out]; omega
          have hcell : wr.cell? ⟨g, (at' + k) / 8, none⟩ = some (.int .u8 (q[(at' + k) / 8].toNat : Int)) := by
            rw [HO.out.cellAt _ (by omega), u8s_get q _ hj]
          have hfr : wr.frozen? ⟨g, (at' + k) / 8, none⟩ = false := HO.out.frozenAt _
          obtain ⟨c, hc⟩ : ∃ c : Nat, c = q[(at' + k) / 8].toNat := ⟨_, rfl⟩
          rw [← hc] at hcell
          have HC : Hid (c = q[(at' + k) / 8].toNat) := hc
          have hc256 : c < 256 := by rw [hc]; exact UInt8.toNat_lt _
          clear hc
          have hs : 2 ^ ((at' + k) % 8) < 256 := pow_lt_256 _ (by omega)
          have e1 : bits BinOp.xor IntKind.u8 (c : Int) (2 ^ ((at' + k) % 8) % 256) = ((UInt8.ofNat (c ^^^ 2 ^ ((at' + k) % 8))).toNat : Int) := xor_u8 c _ hc256 hs
          have hd : (UInt8.ofNat (c ^^^ 2 ^ ((at' + k) % 8))).toNat = c ^^^ 2 ^ ((at' + k) % 8) := xor_u8_toNat c _ hc256 hs
          obtain ⟨d, HD⟩ : ∃ d : UInt8, d = UInt8.ofNat (c ^^^ 2 ^ ((at' + k) % 8)) := ⟨_, rfl⟩
          rw [← HD] at e1 hd
          have R := HO.out.stored ((at' + k) / 8) (.int .u8 (d.toNat : Int))
          have HR : Hid ((wr.setCell ⟨g, (at' + k) / 8, none⟩ (.int .u8 (d.toNat : Int))).ownsRow w.heap.size 5 1 (.slice (some ⟨g, 0, none⟩) l.length cap) l.length (u8s (q.set ((at' + k) / 8) d))) := by
            have := R.1
            rw [u8s_set] at this
            exact this
          have HLE : Hid (leNat (q.set ((at' + k) / 8) d) = leNat l ^^^ (2 ^ at' * (T ^^^ 2 ^ k))) := by
            show leNat _ = _
            rw [leNat_set q ((at' + k) / 8) ((at' + k) % 8) hj (by omega) d (by rw [hd, HC.out]), HL.out, show 8 * ((at' + k) / 8) + (at' + k) % 8 = at' + k by omega, pow_mul_xor, Nat.xor_assoc, Nat.pow_add]
          have HTT : Hid (T ^^^ 2 ^ k < 2 ^ (k + 1) ∧ T ^^^ 2 ^ k ≠ 0) := ⟨Nat.xor_lt_two_pow hT1 (Nat.pow_lt_pow_right (by decide) (by omega)), by
            intro h
            have : T = 2 ^ k := by
              have h2 : (T ^^^ 2 ^ k) ^^^ 2 ^ k = 0 ^^^ 2 ^ k := by rw [h]
              rwa [Nat.xor_assoc, Nat.xor_self, Nat.xor_zero, Nat.zero_xor] at h2
            have := HT.out
            omega⟩
          clear R hd HD hs
          go_wp2
          go_roundw
          case rel => exact ⟨k + 1, T ^^^ 2 ^ k, q.set ((at' + k) / 8) d, true, by omega, by go_num, rfl, HTT.out.1, (fun _ => HTT.out.2), HR.out, by rw [List.length_set]; exact HQ.out, HLE.out, hb.setCell (by exact hg0) _⟩
          case measure => simp [intOf]; omega
        · go_wp2
          go_roundw
          case rel => exact ⟨k + 1, T, q, bb, by omega, by go_num, rfl, hT1, HB.out, HO.out, HQ.out, HL.out, hb⟩
          case measure => simp [intOf]; omega
      · go_wp2
        go_roundw
        case rel => exact ⟨k + 1, T, q, bb, by omega, by go_num, rfl, hT1, HB.out, HO.out, HQ.out, HL.out, hb⟩
        case measure => simp [intOf]; omega
    · have hk32 : k = 32 := by omega
      have HX : Hid (T < 2 ^ 32) := by show T < 2 ^ 32; rw [← hk32]; exact hT
      clear hk32 hT hr hown1 hb1
      have HL : Hid (leNat q = leNat l ^^^ (2 ^ at' * T)) := hle
      have HB : Hid (bb = true → T ≠ 0) := hbb
      clear hle hbb
      go_wp2
      go_ret2
      exact ⟨_, T, q, bb, rfl, hown, hql, HL.out, HX.out, HB.out, hb⟩

end Go.Proofs.YtoedmapcnalhjaaDoor
