import Derived.Test.YtgljkgkophaefabDoorRdr
namespace Go.Proofs.YtgljkgkophaefabDoor
open Go.RowKit

def S (l : List UInt8) : ByteArray := ⟨l.toArray⟩
theorem S_size (l : List UInt8) : (S l).size = l.length := by simp [S, ByteArray.size]
theorem S_head (a b : List UInt8) : (S (a ++ b)).extract 0 a.length = S a := by
  apply ByteArray.ext
  simp [S, ByteArray.data_extract]
theorem S_tail (a b : List UInt8) : (S (a ++ b)).extract a.length (S (a ++ b)).size = S b := by
  apply ByteArray.ext
  simp [S, ByteArray.data_extract, ByteArray.size]
/-- What is behind a step of the reader: so much is left, and else all is as it was. -/
structure Rest (rb : Nat) (w w' : World) (t : List UInt8) : Prop where
  at_ : RdAt w' rb (S t)
  sole : Sole rb w w'
theorem Rest.trans {rb : Nat} {a b c : World} {s t : List UInt8} (h : Rest rb a b s) (k : Rest rb b c t) : Rest rb a c t := ⟨k.at_, h.sole.trans k.sole⟩

theorem take_has (rb n : Nat) (a b : List UInt8) (w : World) (hr : RdAt w rb (S (a ++ b))) (hn : a.length = n) :
    Calls Tryd.prog 52 #[.pointer (some ⟨rb, 0, none⟩), .int .i64 (n : Int)] w fun e w' => e = .returned (.string (S a)) ∧ Rest rb w w' b := by
  subst hn
  refine (take_ok rb a.length _ w hr (by rw [S_size]; simp)).mono ?_
  rintro e w' ⟨rfl, rfl⟩
  refine ⟨by rw [S_head], ?_, Sole.set _ _ _ _⟩
  have := hr.set (S b)
  rw [S_tail]
  exact this

set_option maxHeartbeats 400000 in
theorem next_ok (rb : Nat) (c : UInt8) (b : List UInt8) (w : World) (hr : RdAt w rb (S (c :: b))) :
    Calls Tryd.prog 45 #[.pointer (some ⟨rb, 0, none⟩)] w fun e w' => e = .returned (.int .u8 (c.toNat : Int)) ∧ Rest rb w w' b := by
  have T : Hid (Calls Tryd.prog 52 #[.pointer (some ⟨rb, 0, none⟩), .int .i64 1] w fun e w' => e = .returned (.string (S [c])) ∧ Rest rb w w' b) := take_has rb 1 [c] b w hr rfl
  clear hr
  go_enter Tryd.func45, Tryd.ntmps45
  go_wp2_with fail
  refine T.out.mono ?_
  rintro e w1 ⟨rfl, hR⟩
  have HR : Hid (Rest rb w w1 b) := hR
  clear hR T
  obtain ⟨s, hs⟩ : ∃ s, s = S [c] := ⟨_, rfl⟩
  have h0 : s.size = 1 := by rw [hs]; rfl
  have h1 : (0 : Int) < (s.size : Int) := by omega
  have h2 : s[0] = c := by subst hs; rfl
  rw [← hs]
  clear hs
  go_wp2_with fail
  go_ret
  exact ⟨rfl, HR.out⟩

set_option maxHeartbeats 400000 in
theorem next_no (aT : Addr) (rb : Nat) (w : World) (ht : TextAt aT w) (hr : RdAt w rb (S [])) :
    Calls Tryd.prog 45 #[.pointer (some ⟨rb, 0, none⟩)] w fun e w' => e = gone aT ∧ w = w' := by
  have T : Hid (Calls Tryd.prog 52 #[.pointer (some ⟨rb, 0, none⟩), .int .i64 1] w fun e w' => e = gone aT ∧ w = w') := take_no aT rb 1 (S []) w ht hr (by decide)
  clear hr ht
  go_enter Tryd.func45, Tryd.ntmps45
  go_wp2_with fail
  refine T.out.mono ?_
  rintro e w1 ⟨rfl, rfl⟩
  exact ⟨rfl, rfl, rfl⟩

theorem TextAt.sole {aT : Addr} {rb : Nat} {w w' : World} (h : TextAt aT w) (hs : Sole rb w w') (hn : rb ≠ 1) : TextAt aT w' := hs.cell h (fun e => hn e.symm)

set_option maxHeartbeats 400000 in
theorem flag_any (aT : Addr) (rb : Nat) (t : List UInt8) (w : World) (ht : TextAt aT w) (hr : RdAt w rb (S t)) (hn : rb ≠ 1) :
    Calls Tryd.prog 46 #[.pointer (some ⟨rb, 0, none⟩)] w fun e w' => (∃ c b, t = c :: b ∧ c.toNat ≤ 1 ∧ e = .returned (.int .i64 (c.toNat : Int)) ∧ Rest rb w w' b) ∨ (e = gone aT ∧ Sole rb w w' ∧ ∀ c b, t = c :: b → ¬ c.toNat ≤ 1) := by
  cases t with
  | nil =>
    have T := next_no aT rb w ht hr
    have NO : Hid (∀ (c : UInt8) b, ([] : List UInt8) = c :: b → ¬ c.toNat ≤ 1) := fun c b h => by cases h
    clear ht hr
    go_enter Tryd.func46, Tryd.ntmps46
    go_wp2_with fail
    refine T.mono ?_
    rintro e w1 ⟨rfl, rfl⟩
    exact ⟨rfl, .inr ⟨rfl, Sole.refl _ _, NO.out⟩⟩
  | cons c b =>
    have T := next_ok rb c b w hr
    have HT : Hid (TextAt aT w) := ht
    clear ht hr
    go_enter Tryd.func46, Tryd.ntmps46
    go_wp2_with fail
    refine T.mono ?_
    rintro e w1 ⟨rfl, hR⟩
    have HR : Hid (Rest rb w w1 b) := hR
    have HG : Hid (TextAt aT w1) := HT.out.sole hR.sole hn
    clear hR T
    by_cases hc : c.toNat ≤ 1
    · have h1 : ¬ (1 : Int) < (c.toNat : Int) := by omega
      have h2 : IntKind.i64.wrap (c.toNat : Int) = (c.toNat : Int) := wrap_i64 _ (by omega) (by omega)
      go_wp2_with fail
      go_ret
      exact .inl ⟨c, b, rfl, hc, rfl, HR.out⟩
    · have h1 : (1 : Int) < (c.toNat : Int) := by omega
      go_wp2_with fail
      refine (giveUp_any aT _ _ HG.out).mono ?_
      rintro e w2 ⟨rfl, rfl⟩
      exact ⟨rfl, .inr ⟨rfl, HR.out.sole, fun c' b' h => by cases h; exact hc⟩⟩

/-- The number behind a byte 00: is the zero the text's own? -/
def zeroOk (c : UInt8) : Prop := c = 0 ∨ c = 255
set_option maxHeartbeats 400000 in
theorem zero_any (aT : Addr) (rb : Nat) (t : List UInt8) (w : World) (ht : TextAt aT w) (hr : RdAt w rb (S t)) (hn : rb ≠ 1) :
    Calls Tryd.prog 53 #[.pointer (some ⟨rb, 0, none⟩)] w fun e w' => (∃ b, t = 255 :: b ∧ e = .returned (.bool true) ∧ Rest rb w w' b) ∨ (∃ b, t = 0 :: b ∧ e = .returned (.bool false) ∧ Rest rb w w' b) ∨ (e = gone aT ∧ Sole rb w w' ∧ ∀ c b, t = c :: b → ¬ zeroOk c) := by
  cases t with
  | nil =>
    have T := next_no aT rb w ht hr
    have NO : Hid (∀ (c : UInt8) b, ([] : List UInt8) = c :: b → ¬ zeroOk c) := fun c b h => by cases h
    clear ht hr
    go_enter Tryd.func53, Tryd.ntmps53
    go_wp2_with fail
    refine T.mono ?_
    rintro e w1 ⟨rfl, rfl⟩
    exact ⟨rfl, .inr (.inr ⟨rfl, Sole.refl _ _, NO.out⟩)⟩
  | cons c b =>
    have T := next_ok rb c b w hr
    have HT : Hid (TextAt aT w) := ht
    clear ht hr
    go_enter Tryd.func53, Tryd.ntmps53
    go_wp2_with fail
    refine T.mono ?_
    rintro e w1 ⟨rfl, hR⟩
    have HR : Hid (Rest rb w w1 b) := hR
    have HG : Hid (TextAt aT w1) := HT.out.sole hR.sole hn
    clear hR T
    by_cases h0 : c = 0
    · subst h0
      go_wp2_with fail
      go_ret
      exact .inr (.inl ⟨b, rfl, rfl, HR.out⟩)
    · by_cases h255 : c = 255
      · subst h255
        clear h0
        go_wp2_with fail
        go_ret
        exact .inl ⟨b, rfl, rfl, HR.out⟩
      · have g0 : ((c.toNat : Int) == 0) = false := by simp; intro e; exact h0 (UInt8.toNat_inj.1 (by rw [e]; rfl))
        have d0 : decide (c = 0) = false := by simpa using h0
        have d1 : decide (c = 255) = false := by simpa using h255
        have g1 : ((c.toNat : Int) == 255) = false := by
          simp; intro e; exact h255 (UInt8.toNat_inj.1 (by have : c.toNat = 255 := by omega
                                                           rw [this]; rfl))
        have NO : Hid (¬ zeroOk c) := fun h => h.elim h0 h255
        have n0 : ((c.toNat : Int) != 0) = true := by simpa using g0
        have n1 : ((c.toNat : Int) != 255) = true := by simpa using g1
        clear d0 d1 h0 h255
        go_wp2_with fail
        refine (giveUp_any aT _ _ HG.out).mono ?_
        rintro e w2 ⟨rfl, rfl⟩
        exact ⟨rfl, .inr (.inr ⟨rfl, HR.out.sole, fun c' b' h => by cases h; exact NO.out⟩)⟩

end Go.Proofs.YtgljkgkophaefabDoor
