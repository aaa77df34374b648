import Derived.Test.YtageokjobbjddaaGreatDoorPParse
namespace Go.Proofs.YtageokjobbjddaaGreatDoor
open Go.RowKit

set_option maxHeartbeats 4000000 in
set_option maxRecDepth 100000 in
theorem synerr_any (fn s : ByteArray) (te : TypeId) (pe : Value) (w : World) (hs : s.size ≤ 281474976710656) (hv : w.cell? ⟨19, 0, none⟩ = some (.iface te pe)) :
    Calls Tryz.prog 116 #[.string fn, .string s] w fun e w' => (∃ N, e = .returned (.pointer (some ⟨N, 0, none⟩))) ∧ Below w.heap.size w w' := by
  have hG : 19 < w.heap.size := World.block_lt_of_cell? w _ hv
  have hvd : w.drew.cell? ⟨19, 0, none⟩ = some (.iface te pe) := hv
  go_enter Tryz.func116, Tryz.ntmps116
  go_wp2
  go_region_with (
      go_at_call 114
      refine (slclone_any s _ hs).mono ?_
      rintro e w2 ⟨rfl, hbel⟩
      have hv2 : w2.cell? ⟨19, 0, none⟩ = some (.iface te pe) := (hbel.cell (show (⟨19, 0, none⟩ : Addr).block < w.drew.heap.size from hG)).trans hvd)
  all_goals (
    go_wp2
    go_ret
    have hs2 : w.heap.size ≤ w2.heap.size := hbel.size
    exact ⟨⟨_, rfl⟩, ((Below.drew (Below.refl _ w)).trans hbel).alloc hs2 _⟩)

theorem compIn : (Tryz.prog.info? 144).map (·.comparable) = some true := by kernel_rfl
set_option maxHeartbeats 4000000 in
set_option maxRecDepth 100000 in
theorem toerr_any (fn s : ByteArray) (b1 b2 : Int) (te : TypeId) (pe : Value) (w : World) (hs : s.size ≤ 281474976710656) (hv : w.cell? ⟨19, 0, none⟩ = some (.iface te pe)) :
    Calls Tryz.prog 104 #[.string fn, .string s, .int .i64 b1, .int .i64 b2, .iface 144 (.int .i64 2)] w fun e w' => (∃ N, e = .returned (.iface 147 (.pointer (some ⟨N, 0, none⟩)))) ∧ Below w.heap.size w w' := by
  have heq : ∀ W, (binOp .eql 36 (.iface 144 (.int .i64 2)) (.iface 144 (.int .i64 2))).run Tryz.prog W = .ok (.bool true) W := fun W => Lib.run_eql_iface_int W 2 2 Tryz.underlying36 compIn Tryz.underlying144
  have HS := hide (synerr_any fn s te pe w hs hv)
  clear hv
  go_enter Tryz.func104, Tryz.ntmps104
  go_wp2_with (go_at_call 116; refine HS.out.mono ?_; rintro e w2 ⟨⟨N, rfl⟩, h3⟩)
  go_ret
  exact ⟨⟨N, rfl⟩, h3⟩

/-- What strconv.ParseUint answers of two hexadecimal digits. -/
def PuV (o : Option Nat) (e : Ending) : Prop := (∃ n, o = some n ∧ e = .returned (.tuple #[.int .u64 (n : Int), .nilIface])) ∨ (o = none ∧ ∃ N, e = .returned (.tuple #[.int .u64 0, .iface 147 (.pointer (some ⟨N, 0, none⟩))]))
set_option maxHeartbeats 4000000 in
set_option maxRecDepth 100000 in
theorem puint_any (t : ByteArray) (h2 : t.size = 2) (te : TypeId) (pe : Value) (w : World) (hv : w.cell? ⟨19, 0, none⟩ = some (.iface te pe)) :
    Calls Tryz.prog 106 #[.string t, .int .i64 16, .int .i64 8] w fun e w' => PuV (par16 0 t.data.toList) e ∧ Below w.heap.size w w' := by
  have hG : 19 < w.heap.size := World.block_lt_of_cell? w _ hv
  have HI := hide (ipuint_any t h2 w)
  have HT : Hid (∀ W, Below w.heap.size w W → Calls Tryz.prog 104 #[.string ⟨#[80, 97, 114, 115, 101, 85, 105, 110, 116]⟩, .string t, .int .i64 16, .int .i64 8, .iface 144 (.int .i64 2)] W fun e w' => (∃ N, e = .returned (.iface 147 (.pointer (some ⟨N, 0, none⟩)))) ∧ Below w.heap.size w w') := fun W hW =>
    (toerr_any _ t 16 8 te pe W (by omega) ((hW.cell (p := ⟨19, 0, none⟩) hG).trans hv)).mono fun e w' ⟨h1, h2⟩ => ⟨h1, Below.next hW h2⟩
  clear hv hG
  generalize par16 0 t.data.toList = o at *
  cases o with
  | some n =>
    go_enter Tryz.func106, Tryz.ntmps106
    go_wp2_with (go_at_call 121; refine HI.out.mono ?_; rintro e w1 ⟨rfl, hb1⟩; unfold parV)
    go_ret2
    exact ⟨.inl ⟨n, rfl, rfl⟩, hb1⟩
  | none =>
    go_enter Tryz.func106, Tryz.ntmps106
    go_wp2_with (first | (go_at_call 121; refine HI.out.mono ?_; rintro e w1 ⟨rfl, hb1⟩; unfold parV) | (go_at_call 104; refine (HT.out _ hb1).mono ?_; rintro e w2 ⟨⟨N, rfl⟩, hb2⟩))
    go_ret2
    exact ⟨.inr ⟨rfl, N, rfl⟩, hb2⟩
theorem hexI_hexN (c : UInt8) : hexI c = (match hexN c with | some d => (d : Int) | none => -1) := by
  unfold hexI hexN digitB
  by_cases h1 : 48 ≤ c.toNat ∧ c.toNat ≤ 57
  · rw [if_pos (by simpa using h1), if_pos h1]; simp only; omega
  · rw [if_neg (by simpa using h1), if_neg h1]
    by_cases h2 : 97 ≤ c.toNat ∧ c.toNat ≤ 102
    · rw [if_pos h2, if_pos h2]; simp only; omega
    · rw [if_neg h2, if_neg h2]
      by_cases h3 : 65 ≤ c.toNat ∧ c.toNat ≤ 70
      · rw [if_pos h3, if_pos h3]; simp only; omega
      · rw [if_neg h3, if_neg h3]
theorem escX_par (a b : UInt8) (r : List UInt8) : escX (a :: b :: r) = (match par16 0 [a, b] with | some n => (UInt8.ofNat n, 4) | none => (0, 0)) := by
  show (if hexI a < 0 ∨ hexI b < 0 then ((0 : UInt8), 0) else (UInt8.ofNat (16 * hexI a + hexI b).toNat, 4)) = _
  rw [hexI_hexN a, hexI_hexN b]
  cases h1 : hexN a with
  | none => simp [par16, h1]
  | some x =>
    cases h2 : hexN b with
    | none => simp [par16, h1, h2]
    | some y =>
      simp only [par16, h1, h2]
      rw [if_neg (by omega)]
      simp only [Nat.zero_mul, Nat.zero_add]
      rw [show (16 * (x : Int) + (y : Int)).toNat = x * 16 + y by omega]
theorem par16_lt {h l : UInt8} {n : Nat} (hp : par16 0 [h, l] = some n) : n < 256 := by
  cases h1 : hexN h with
  | none => simp [par16, h1] at hp
  | some a =>
    cases h2 : hexN l with
    | none => simp [par16, h1, h2] at hp
    | some b =>
      simp [par16, h1, h2] at hp
      have := hexN_lt h1
      have := hexN_lt h2
      omega
end Go.Proofs.YtageokjobbjddaaGreatDoor
