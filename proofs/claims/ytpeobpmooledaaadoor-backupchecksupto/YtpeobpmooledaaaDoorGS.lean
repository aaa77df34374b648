import Derived.KernelRfl
import Derived.Test.YtpeobpmooledaaaDoorKit
import Derived.Laws.BitsAllLaws
namespace Go.Proofs.YtpeobpmooledaaaDoor

def tabL : List Nat := [0, 274646895, 549293790, 820201905, 1098587580, 1361435347, 1640403810, 1905808397, 2197175160, 2460548119, 2722870694, 2987750089, 3280807620, 3553878443, 3811616794, 4084100981]
def tab (i : Nat) : Nat := tabL.getD i 0
def tstep (x : Nat) : Nat := (x / 16) ^^^ tab (x % 16)
def crcByte (x b : Nat) : Nat := tstep (tstep (x ^^^ b))
def crcReg (x : Nat) (l : List UInt8) : Nat := l.foldl (fun r b => crcByte r b.toNat) x
def nt (x : Nat) : Nat := 4294967295 - x
def bstep (y : Nat) : Nat := if y % 2 = 1 then (y / 2) ^^^ 2197175160 else y / 2
def bsteps : Nat → Nat → Nat
  | 0, y => y
  | n + 1, y => bsteps n (bstep y)

theorem nt_lt (x : Nat) : nt x < 4294967296 := by unfold nt; omega
theorem nt_nt (x : Nat) (h : x < 4294967296) : nt (nt x) = x := by unfold nt; omega
theorem nt_xor (x : Nat) (hx : x < 4294967296) : 4294967295 ^^^ x = nt x := by
  unfold nt
  apply Nat.eq_of_testBit_eq
  intro i
  rw [Nat.testBit_xor]
  have h1 : (4294967295 : Nat) = 2 ^ 32 - 1 := rfl
  have h2 : 4294967295 - x = 2 ^ 32 - (x + 1) := by omega
  rw [h2, Nat.testBit_two_pow_sub_succ hx, h1, Nat.testBit_two_pow_sub_one]
  by_cases hi : i < 32
  · simp [hi]
  · have : x.testBit i = false := Nat.testBit_lt_two_pow (Nat.lt_of_lt_of_le hx (Nat.pow_le_pow_right (n := 2) (i := 32) (by decide) (by omega)))
    simp [hi, this]

theorem tab_lt (i : Nat) : tab i < 4294967296 := by
  unfold tab tabL
  rcases Nat.lt_or_ge i 16 with h | h
  · have : ∀ j : Fin 16, [0, 274646895, 549293790, 820201905, 1098587580, 1361435347, 1640403810, 1905808397, 2197175160, 2460548119, 2722870694, 2987750089, 3280807620, 3553878443, 3811616794, 4084100981].getD j.1 0 < 4294967296 := by decide
    exact this ⟨i, h⟩
  · rw [List.getD, List.getElem?_eq_none (by simpa using h)]; decide
theorem tstep_lt (y : Nat) (hy : y < 4294967296) : tstep y < 4294967296 := by
  unfold tstep
  exact Nat.xor_lt_two_pow (n := 32) (by omega) (tab_lt _)
theorem crcByte_lt (y b : Nat) (hy : y < 4294967296) (hb : b < 256) : crcByte y b < 4294967296 :=
  tstep_lt _ (tstep_lt _ (Nat.xor_lt_two_pow (n := 32) hy (by omega)))
theorem crcReg_lt (l : List UInt8) : ∀ x, x < 4294967296 → crcReg x l < 4294967296 := by
  induction l with
  | nil => intro x h; exact h
  | cons c r ih => intro x h; exact ih _ (crcByte_lt x c.toNat h (UInt8.toNat_lt c))
theorem take_next (l : List UInt8) (k : Nat) (h : k < l.length) : l.take (k + 1) = l.take k ++ [l[k]] := List.take_succ_eq_append_getElem h
theorem crcReg_snoc (x : Nat) (l : List UInt8) (c : UInt8) : crcReg x (l ++ [c]) = crcByte (crcReg x l) c.toNat := by
  simp [crcReg, List.foldl_append]
theorem crcReg_append (x : Nat) (a b : List UInt8) : crcReg x (a ++ b) = crcReg (crcReg x a) b := by
  simp [crcReg, List.foldl_append]

theorem xor_half (a b : Nat) : (a ^^^ b) / 2 = (a / 2) ^^^ (b / 2) := by
  have := Nat.shiftRight_xor_distrib (a := a) (b := b) (i := 1)
  simpa [Nat.shiftRight_eq_div_pow] using this
theorem xor_par (a b : Nat) : (a ^^^ b) % 2 = (a % 2 + b % 2) % 2 := by
  have h := Nat.xor_mod_two_eq_one (a := a) (b := b)
  rcases Nat.mod_two_eq_zero_or_one a with ha | ha <;> rcases Nat.mod_two_eq_zero_or_one b with hb | hb <;> rcases Nat.mod_two_eq_zero_or_one (a ^^^ b) with hc | hc <;> simp_all
theorem bstep_xor (a b : Nat) : bstep (a ^^^ b) = bstep a ^^^ bstep b := by
  unfold bstep
  rw [xor_half, xor_par]
  rcases Nat.mod_two_eq_zero_or_one a with ha | ha <;> rcases Nat.mod_two_eq_zero_or_one b with hb | hb <;> simp only [ha, hb]
  · simp
  · simp [Nat.xor_assoc]
  · simp [Nat.xor_assoc, Nat.xor_comm (b / 2)]
  · have : (a / 2 ^^^ 2197175160) ^^^ (b / 2 ^^^ 2197175160) = (a / 2 ^^^ b / 2) ^^^ (2197175160 ^^^ 2197175160) := by
      rw [Nat.xor_assoc, Nat.xor_assoc, Nat.xor_comm 2197175160, Nat.xor_assoc]
    rw [if_neg (by decide), if_pos trivial, if_pos trivial, this, Nat.xor_self, Nat.xor_zero]
theorem bsteps_xor (n : Nat) : ∀ a b, bsteps n (a ^^^ b) = bsteps n a ^^^ bsteps n b := by
  induction n with
  | zero => intro a b; rfl
  | succ n ih => intro a b; show bsteps n (bstep (a ^^^ b)) = _; rw [bstep_xor, ih]; rfl
theorem bsteps_add (m n y : Nat) : bsteps (m + n) y = bsteps n (bsteps m y) := by
  induction m generalizing y with
  | zero => simp [bsteps]
  | succ m ih => rw [Nat.succ_add]; exact ih _
theorem bsteps_shift (n : Nat) : ∀ z, bsteps n (2 ^ n * z) = z := by
  induction n with
  | zero => intro z; simp [bsteps]
  | succ n ih =>
    intro z
    show bsteps n (bstep (2 ^ (n + 1) * z)) = z
    have e : 2 ^ (n + 1) * z = 2 * (2 ^ n * z) := by rw [Nat.pow_succ]; simp [Nat.mul_assoc, Nat.mul_left_comm]
    have h : bstep (2 ^ (n + 1) * z) = 2 ^ n * z := by
      rw [e]; unfold bstep
      rw [if_neg (by omega)]; omega
    rw [h, ih]
theorem split16 (y : Nat) : y = (2 ^ 4 * (y / 16)) ^^^ (y % 16) := by
  apply Nat.eq_of_testBit_eq
  intro i
  rw [Nat.testBit_xor, Nat.testBit_two_pow_mul, show y % 16 = y % 2 ^ 4 from rfl, Nat.testBit_mod_two_pow, show y / 16 = y / 2 ^ 4 from rfl, Nat.testBit_div_two_pow]
  by_cases h : i < 4
  · simp [h, Nat.not_le.2 h]
  · have h4 : 4 ≤ i := by omega
    simp [h, h4, Nat.sub_add_cancel h4]
theorem tab_steps (r : Nat) (h : r < 16) : bsteps 4 r = tab r := by
  have : ∀ j : Fin 16, bsteps 4 j.1 = tab j.1 := by decide
  exact this ⟨r, h⟩
theorem tstep_eq (y : Nat) : tstep y = bsteps 4 y := by
  conv => rhs; rw [split16 y]
  rw [bsteps_xor, bsteps_shift, tab_steps _ (by omega)]; rfl
theorem crcByte_eq (x b : Nat) : crcByte x b = bsteps 8 (x ^^^ b) := by
  unfold crcByte
  rw [tstep_eq, tstep_eq, ← bsteps_add]

theorem bstep_lt (y : Nat) (h : y < 4294967296) : bstep y < 4294967296 := by
  unfold bstep
  split
  · exact Nat.xor_lt_two_pow (n := 32) (by omega) (by decide)
  · omega
theorem bsteps_lt (n : Nat) : ∀ y, y < 4294967296 → bsteps n y < 4294967296 := by
  induction n with
  | zero => intro y h; exact h
  | succ n ih => intro y h; exact ih _ (bstep_lt y h)
theorem bstep_zero (y : Nat) (h : y < 4294967296) (h0 : bstep y = 0) : y = 0 := by
  unfold bstep at h0
  split at h0
  · have : y / 2 = 2197175160 := by
      have h1 : (y / 2 ^^^ 2197175160) ^^^ 2197175160 = 0 ^^^ 2197175160 := by rw [h0]
      rwa [Nat.xor_assoc, Nat.xor_self, Nat.xor_zero, Nat.zero_xor] at h1
    omega
  · omega
theorem bsteps_zero (n : Nat) : ∀ y, y < 4294967296 → bsteps n y = 0 → y = 0 := by
  induction n with
  | zero => intro y _ h; exact h
  | succ n ih => intro y h h0; exact bstep_zero y h (ih _ (bstep_lt y h) h0)

/-- The bytes as one number, the first byte lowest. -/
def leNat : List UInt8 → Nat
  | [] => 0
  | c :: r => c.toNat ^^^ (2 ^ 8 * leNat r)
theorem crcReg_le (l : List UInt8) : ∀ x, crcReg x l = bsteps (8 * l.length) (x ^^^ leNat l) := by
  induction l with
  | nil => intro x; simp [crcReg, leNat, bsteps]
  | cons c r ih =>
    intro x
    show crcReg (crcByte x c.toNat) r = _
    rw [ih, crcByte_eq, List.length_cons, show 8 * (r.length + 1) = 8 + 8 * r.length by omega, bsteps_add]
    congr 1
    show _ = bsteps 8 (x ^^^ (c.toNat ^^^ 2 ^ 8 * leNat r))
    rw [← Nat.xor_assoc, bsteps_xor 8 (x ^^^ c.toNat), bsteps_shift]

theorem burst_tells (M E N at' T : Nat) (hat : at' ≤ N) (hT : T < 4294967296) (h0 : T ≠ 0) : bsteps N (M ^^^ E) ≠ bsteps N (M ^^^ (E ^^^ (2 ^ at' * T))) := by
  intro h
  rw [← Nat.xor_assoc, bsteps_xor N (M ^^^ E)] at h
  have hz : bsteps N (2 ^ at' * T) = 0 := by
    have h1 : bsteps N (M ^^^ E) ^^^ bsteps N (M ^^^ E) = bsteps N (M ^^^ E) ^^^ (bsteps N (M ^^^ E) ^^^ bsteps N (2 ^ at' * T)) := by rw [← h]
    rwa [Nat.xor_self, ← Nat.xor_assoc, Nat.xor_self, Nat.zero_xor, eq_comm] at h1
  rw [show N = at' + (N - at') by omega, bsteps_add, bsteps_shift] at hz
  exact h0 (bsteps_zero _ _ hT hz)

end Go.Proofs.YtpeobpmooledaaaDoor

namespace Go.Proofs.YtpeobpmooledaaaDoor
open Go.RowKit

theorem ret_nat {k : IntKind} {a b : Nat} (h : a = b) : Ending.returned (.int k (a : Int)) = .returned (.int k (b : Int)) := by rw [h]
theorem not_u32 (x : Nat) (hx : x < 4294967296) : bits BinOp.xor IntKind.u32 IntKind.u32.max (x : Int) = ((nt x : Nat) : Int) := by
  have h : IntKind.u32.max = ((4294967295 : Nat) : Int) := rfl
  rw [h, u32_xor_nat _ _ (by omega) hx]
  exact congrArg Nat.cast (nt_xor x hx)
theorem xor_tab (y : Nat) (hy : y < 4294967296) : bits BinOp.xor IntKind.u32 ((y : Int) / 16) ((tab (y % 16) : Nat) : Int) = ((tstep y : Nat) : Int) := by
  have := u32_xor_nat (y / 16) (tab (y % 16)) (by omega) (tab_lt _)
  rw [← show (((y / 16 : Nat) : Nat) : Int) = (y : Int) / 16 from by omega]
  exact this
theorem and15 (y : Nat) (hy : y < 4294967296) : bits BinOp.and IntKind.u32 (y : Int) 15 = ((y % 16 : Nat) : Int) := by
  have := u32_and_nat y 15 hy (by omega)
  rw [nat_mask4] at this
  exact this

set_option maxHeartbeats 400000 in
theorem crcMore_ne (x : Nat) (b off len cap : Nat) (l : List UInt8) (w : World) (hx : x < 4294967296) (hlen : l.length = len) (hm : len ≤ 140737488355328)
    (hc : ∀ j (h : j < l.length), w.cell? ⟨b, off + j, none⟩ = some (.int .u8 (l[j].toNat : Int)))
    (ht : ∀ j, j < 16 → w.cell? ⟨13, j, none⟩ = some (.int .u32 (tab j : Nat))) :
    Calls Tryd.prog 22 #[.int .u32 (x : Int), .slice (some ⟨b, off, none⟩) len cap] w fun e w' => e = .returned (.int .u32 ((nt (crcReg (nt x) l) : Nat) : Int)) ∧ w = w' := by
  have hnt := not_u32 x hx
  have hy : nt x < 4294967296 := nt_lt x
  go_enter Tryd.func22, Tryd.ntmps22
  go_wp2
  go_loop [5, 12] (fun r i => ∃ k y : Nat, k ≤ len ∧ y < 4294967296 ∧ i = .int .i64 k ∧ r = .int .u32 (y : Int) ∧ y = crcReg (nt x) (l.take k)) (fun _ i => len - (intOf i).toNat)
  case atStart => exact ⟨0, nt x, Nat.zero_le _, hy, rfl, rfl, rfl⟩
  case round =>
    obtain ⟨k, y, hk, hy, rfl, rfl, hyr⟩ := hrel
    have HY : Hid (y = crcReg (nt x) (l.take k)) := hyr
    clear hyr
    by_cases hlt : k < len
    · have hck := hc k (by omega)
      obtain ⟨c, hcd⟩ : ∃ c : Nat, c = (l[k]'(by omega)).toNat := ⟨_, rfl⟩
      have hc256 : c < 256 := by rw [hcd]; exact UInt8.toNat_lt _
      rw [← hcd] at hck
      have HC : Hid (c = (l[k]'(by omega)).toNat) := hcd
      clear hcd
      have hcm : (c : Int) % 4294967296 = (c : Int) := by omega
      obtain ⟨y1, hy1⟩ : ∃ y1 : Nat, y1 = y ^^^ c := ⟨_, rfl⟩
      have hy1b : y1 < 4294967296 := by rw [hy1]; exact Nat.xor_lt_two_pow (n := 32) hy (by omega)
      have e1 : bits BinOp.xor IntKind.u32 (y : Int) (c : Int) = (y1 : Int) := by rw [hy1]; exact u32_xor_nat y c hy (by omega)
      have e2 : bits BinOp.and IntKind.u32 (y1 : Int) 15 = ((y1 % 16 : Nat) : Int) := and15 y1 hy1b
      have t1 := ht (y1 % 16) (by omega)
      have b1 : (0 : Int) ≤ ((y1 % 16 : Nat) : Int) := by omega
      have b2 : ((y1 % 16 : Nat) : Int) < 16 := by omega
      obtain ⟨y2, hy2⟩ : ∃ y2 : Nat, y2 = tstep y1 := ⟨_, rfl⟩
      have hy2b : y2 < 4294967296 := by rw [hy2]; exact tstep_lt y1 hy1b
      have e3 : bits BinOp.xor IntKind.u32 ((y1 : Int) / 16) ((tab (y1 % 16) : Nat) : Int) = (y2 : Int) := by rw [hy2]; exact xor_tab y1 hy1b
      have e4 : bits BinOp.and IntKind.u32 (y2 : Int) 15 = ((y2 % 16 : Nat) : Int) := and15 y2 hy2b
      have t2 := ht (y2 % 16) (by omega)
      have b3 : (0 : Int) ≤ ((y2 % 16 : Nat) : Int) := by omega
      have b4 : ((y2 % 16 : Nat) : Int) < 16 := by omega
      obtain ⟨y3, hy3⟩ : ∃ y3 : Nat, y3 = tstep y2 := ⟨_, rfl⟩
      have hy3b : y3 < 4294967296 := by rw [hy3]; exact tstep_lt y2 hy2b
      have e5 : bits BinOp.xor IntKind.u32 ((y2 : Int) / 16) ((tab (y2 % 16) : Nat) : Int) = (y3 : Int) := by rw [hy3]; exact xor_tab y2 hy2b
      have HR : Hid (y3 = crcReg (nt x) (l.take (k + 1))) := by
        show y3 = _
        rw [take_next l k (by omega), crcReg_snoc, ← HY.out, ← HC.out, hy3, hy2, hy1]; rfl
      clear hy1 hy2 hy3 hc ht
      go_wp2
      go_round
      case rel => exact ⟨k + 1, y3, by omega, hy3b, by go_num, rfl, HR.out⟩
      case measure => simp [intOf]; omega
    · have hke : l.take k = l := List.take_of_length_le (by omega)
      have hnt2 := not_u32 y hy
      have HE : Hid (y = crcReg (nt x) l) := by
        show y = _
        rw [HY.out, hke]
      clear hke hc ht
      go_wp2
      go_ret
      exact ⟨ret_nat (congrArg nt HE.out), rfl⟩

end Go.Proofs.YtpeobpmooledaaaDoor

namespace Go.Proofs.YtpeobpmooledaaaDoor
open Go.RowKit

/-- The slice value v reads as the bytes l. -/
def Rd (w : World) (v : Value) (l : List UInt8) : Prop :=
  (v = .slice none 0 0 ∧ l = []) ∨ ∃ g cap, v = .slice (some ⟨g, 0, none⟩) l.length cap ∧ l.length ≤ cap ∧ cap ≤ maxLen ∧ g < w.heap.size ∧ (∀ j (h : j < l.length), w.cell? ⟨g, j, none⟩ = some (.int .u8 (l[j].toNat : Int)))
def Tab (w : World) : Prop := (∀ j, j < 16 → w.cell? ⟨13, j, none⟩ = some (.int .u32 (tab j : Nat))) ∧ 13 < w.heap.size
def crcV (l : List UInt8) : Nat := nt (crcReg (nt 0) l)

theorem rd_of_owns {w : World} {base n : Nat} {v : Value} {l : List UInt8} (h : w.ownsRow base 5 1 v n (u8s l)) : Rd w v l := by
  have hl := h.1
  rw [u8s_length, Nat.mul_one] at hl
  subst hl
  by_cases h0 : l.length = 0
  · rcases h.2 with ⟨h', _⟩ | ⟨g, cap, cur, h', hb, hg, hn, hc, _, _⟩
    · exact .inl ⟨h', List.length_eq_zero_iff.1 h0⟩
    · refine .inr ⟨g, cap, h', hn, hc, ?_, fun j hj => by omega⟩
      rcases Nat.lt_or_ge g w.heap.size with hlt | hge
      · exact hlt
      · rw [Array.getElem?_eq_none hge] at hg; cases hg
  · obtain ⟨g, cap, rfl, hb, hlt⟩ := h.form (by omega)
    refine .inr ⟨g, cap, rfl, ?_, ?_, hlt, fun j hj => by rw [h.cellAt j (by omega), u8s_get l j hj]⟩
    · rcases h.2 with ⟨h', _⟩ | ⟨g', cap', cur, h', _, _, hn, hc, _, _⟩
      · cases h'
      · cases h'; exact hn
    · rcases h.2 with ⟨h', _⟩ | ⟨g', cap', cur, h', _, _, hn, hc, _, _⟩
      · cases h'
      · cases h'; exact hc
theorem Rd.below {w w' : World} {v : Value} {l : List UInt8} (h : Rd w v l) (hb : Below w.heap.size w w') : Rd w' v l := by
  rcases h with h | ⟨g, cap, hv, h1, h2, h3, h4⟩
  · exact .inl h
  · exact .inr ⟨g, cap, hv, h1, h2, Nat.lt_of_lt_of_le h3 hb.size, fun j hj => (hb.cell (p := ⟨g, j, none⟩) h3).trans (h4 j hj)⟩
theorem Tab.below {w w' : World} (h : Tab w) (hb : Below w.heap.size w w') : Tab w' :=
  ⟨fun j hj => (hb.cell (p := ⟨13, j, none⟩) h.2).trans (h.1 j hj), Nat.lt_of_lt_of_le h.2 hb.size⟩

set_option maxHeartbeats 400000 in
theorem crcMore_nil (x : Nat) (w : World) (hx : x < 4294967296) :
    Calls Tryd.prog 22 #[.int .u32 (x : Int), .slice none 0 0] w fun e w' => e = .returned (.int .u32 ((nt (nt x) : Nat) : Int)) ∧ w = w' := by
  have hnt := not_u32 x hx
  have hnt2 := not_u32 (nt x) (nt_lt x)
  go_enter Tryd.func22, Tryd.ntmps22
  go_wp2
  go_loop [5, 12] (fun r i => i = .int .i64 0 ∧ r = .int .u32 (nt x : Int)) (fun _ i => 0)
  case atStart => exact ⟨rfl, rfl⟩
  case round =>
    obtain ⟨rfl, rfl⟩ := hrel
    go_wp2
    go_ret
    exact ⟨rfl, rfl⟩

theorem crcMore_rd (x : Nat) (X : Int) (v : Value) (l : List UInt8) (w : World) (hX : X = (x : Int)) (hx : x < 4294967296) (hm : l.length ≤ 140737488355328) (hr : Rd w v l) (ht : Tab w) :
    Calls Tryd.prog 22 #[.int .u32 X, v] w fun e w' => e = .returned (.int .u32 ((nt (crcReg (nt x) l) : Nat) : Int)) ∧ w = w' := by
  subst hX
  rcases hr with ⟨rfl, rfl⟩ | ⟨g, cap, rfl, h1, h2, h3, h4⟩
  · exact crcMore_nil x w hx
  · exact crcMore_ne x g 0 l.length cap l w hx rfl hm (fun j hj => by rw [Nat.zero_add]; exact h4 j hj) ht.1

set_option maxHeartbeats 400000 in
theorem crc_rd (v : Value) (l : List UInt8) (w : World) (hm : l.length ≤ 140737488355328) (hr : Rd w v l) (ht : Tab w) :
    Calls Tryd.prog 19 #[v] w fun e w' => e = .returned (.int .u32 ((crcV l : Nat) : Int)) ∧ w = w' := by
  have H := crcMore_rd 0 0 v l w rfl (by decide) hm hr ht
  have HH : Hid (Calls Tryd.prog 22 #[.int .u32 0, v] w fun e w' => e = .returned (.int .u32 ((nt (crcReg (nt 0) l) : Nat) : Int)) ∧ w = w') := H
  clear H hr ht
  go_enter Tryd.func19, Tryd.ntmps19
  go_wp2_with (go_at_call 22; refine HH.out.mono ?_; rintro e w' ⟨rfl, rfl⟩)
  go_ret
  exact ⟨rfl, rfl⟩

end Go.Proofs.YtpeobpmooledaaaDoor
