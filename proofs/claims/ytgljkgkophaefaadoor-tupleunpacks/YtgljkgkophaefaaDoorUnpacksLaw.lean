import Derived.Test.YtgljkgkophaefaaDoorPl3
import Derived.Test.YtgljkgkophaefaaDoorUnp
import Derived.Test.YtgljkgkophaefaaDoorRPack
import Derived.Test.YtgljkgkophaefaaDoorErrsG
import Derived.Test.YtgljkgkophaefaaDoorSame
namespace Go.Proofs.YtgljkgkophaefaaDoor
open Go.RowKit

theorem encL_inj {r : Nat} : ∀ (l m : List It), (∀ x ∈ l, VI r x) → (∀ x ∈ m, VI r x) → encL l = encL m → l = m
  | [], [], _, _, _ => rfl
  | [], y :: m, _, hm, h => by
    simp only [encL] at h
    rw [y.enc_eq] at h; cases h
  | x :: l, [], _, _, h => by
    simp only [encL] at h
    rw [x.enc_eq] at h; cases h
  | x :: l, y :: m, hl, hm, h => by
    simp only [encL] at h
    obtain ⟨rfl, e⟩ := enc_uniq (hl x (by simp)) (hm y (by simp)) h
    rw [encL_inj l m (fun z hz => hl z (by simp [hz])) (fun z hz => hm z (by simp [hz])) e]
theorem pack_of {l : List It} {s : ByteArray} (h : VL 4 l) (e : s.data.toList = encL l) (hs : s.size ≤ 65536) : packF l = 0 ∧ packT l = s := by
  have hl : (encL l).length ≤ 65536 := by rw [← e]; simpa using hs
  have h0 : packF l = 0 := by unfold packF; rw [if_pos h.fault, if_neg (by omega)]
  refine ⟨h0, ?_⟩
  unfold packT
  rw [if_pos h0, ← e]
theorem of_pack {l : List It} {s : ByteArray} (hk : OkR 4 l) (h0 : packF l = 0) (hT : packT l = s) : VL 4 l ∧ s.data.toList = encL l := by
  have hf : faultR 4 l = 0 := by
    unfold packF at h0
    split at h0
    · assumption
    · exact h0
  refine ⟨VL.of hf hk, ?_⟩
  rw [← hT]
  unfold packT
  rw [if_pos h0]

def RUnpR (s : ByteArray) (w : World) (e : Ending) (w' : World) : Prop :=
  (∃ l a c, s.data.toList = encL l ∧ VL 4 l ∧ s.size ≤ 65536 ∧ e = .returned (.tuple #[.slice a l.length c, .int .i64 0]) ∧ ItsAt w' anyB (.slice a l.length c) l ∧ Below w.heap.size w w') ∨
  ((s.size ≤ 65536 → ∀ l, VL 4 l → s.data.toList ≠ encL l) ∧ e = .returned (.tuple #[.slice none 0 0, .int .i64 2]) ∧ Below w.heap.size w w')

set_option maxHeartbeats 1000000 in
theorem runpack_any (s : ByteArray) (w : World) : Calls Tryd.prog 8 #[.string s] w (RUnpR s w) := by
  by_cases hs : s.size ≤ 65536
  · have g1 : ¬ (65536 : Int) < (s.size : Int) := by omega
    have b1 := below_new w (.cells #[.string s, .int .i64 0, .bool false] 55)
    have p1 : PlAt (w.alloc (.cells #[.string s, .int .i64 0, .bool false] 55)) w.heap.size s 0 false := heap_alloc_new w _
    have I := pitems_any w.heap.size 4 0 rfl s 0 _ p1 (by omega) hs
    have hsz1 : (w.alloc (.cells #[.string s, .int .i64 0, .bool false] 55)).heap.size = w.heap.size + 1 := by simp
    have HS : Hid (s.size ≤ 65536) := hs
    have HB1 : Hid (Below w.heap.size w (w.alloc (.cells #[.string s, .int .i64 0, .bool false] 55))) := b1
    clear p1 b1 hs
    go_enter Tryd.func8, Tryd.ntmps8
    go_wp2_with fail
    refine I.mono ?_
    rintro e w2 ⟨l, v, j, lo, rfl, hown, h9, hl, hj, hP, hF⟩
    obtain ⟨av, cv, rfl⟩ := hown.form
    have hs := HS.out
    have HF : Hid (∀ m, VL 4 m → s.data.toList = encL m → l = m ∧ lo = false) := fun m hm e => by
      obtain ⟨h1, _, h3⟩ := hF m [] hm (by simpa [fin, D] using e)
      exact ⟨h1, h3⟩
    have hB2 : Below w.heap.size w w2 := hP.sole.below HB1.out (Nat.le_refl _)
    have i2 := (hown.at' (by omega)).any
    have e2 := hP.at_.c2
    have hokr := i2.okR 4
    have R := rpack_any l (.slice av l.length cv) w2 i2 (fun _ => by omega)
    have HB2 : Hid (Below w.heap.size w w2) := hB2
    clear I hF hP hown hB2 HB1
    cases lo with
    | true =>
      have HN : Hid (∀ l, VL 4 l → s.data.toList ≠ encL l) := fun m hm e => by cases (HF.out m hm e).2
      clear HF R i2
      go_wp2_with fail
      go_ret2
      exact .inr ⟨fun _ => HN.out, rfl, HB2.out⟩
    | false =>
      have HO : Hid (OkR 4 l) := hokr
      have HI2 : Hid (ItsAt w2 anyB (.slice av l.length cv) l) := i2
      have HPK : Hid (∀ m, VL 4 m → s.data.toList = encL m → packF l = 0 ∧ packT l = s) := fun m hm e => by
        obtain ⟨rfl, _⟩ := HF.out m hm e
        exact pack_of hm e HS.out
      have HOF : Hid (packF l = 0 → packT l = s → VL 4 l ∧ s.data.toList = encL l) := fun a b => of_pack HO.out a b
      clear HF hokr HO i2
      generalize packT l = T at *
      generalize packF l = f at *
      go_wp2_with fail
      refine R.mono ?_
      rintro e w3 ⟨rfl, hb3⟩
      have HB3 : Hid (Below w.heap.size w w3) := Below.next HB2.out hb3
      have HI3 : Hid (ItsAt w3 anyB (.slice av l.length cv) l) := HI2.out.keep hb3
      clear R hb3 HB2 HI2
      by_cases h0 : f = 0
      · subst h0
        by_cases hT : T = s
        · subst hT
          obtain ⟨q1, q2⟩ := HOF.out rfl rfl
          have HV : Hid (VL 4 l ∧ T.data.toList = encL l) := ⟨q1, q2⟩
          clear q1 q2 HOF HPK
          go_wp2_with fail
          go_ret2
          exact .inl ⟨l, av, cv, HV.out.2, HV.out.1, HS.out, rfl, HI3.out, HB3.out⟩
        · have hT' : T.toList ≠ s.toList := fun e => hT (by
            rw [ByteArray.toList_eq, ByteArray.toList_eq] at e
            exact ByteArray.ext (Array.toList_inj.1 e))
          have g2 : (T.toList == s.toList) = false := by simpa using hT'
          have g3 : (T.toList != s.toList) = true := by simpa using hT'
          have HN : Hid (∀ l, VL 4 l → s.data.toList ≠ encL l) := fun m hm e => hT (HPK.out m hm e).2
          clear HPK HOF hT
          go_wp2_with fail
          go_ret2
          exact .inr ⟨fun _ => HN.out, rfl, HB3.out⟩
      · have g2 : ((f : Int) != 0) = true := by simp; exact h0
        have HN : Hid (∀ l, VL 4 l → s.data.toList ≠ encL l) := fun m hm e => h0 (HPK.out m hm e).1
        clear HPK HOF
        go_wp2_with fail
        go_ret2
        exact .inr ⟨fun _ => HN.out, rfl, HB3.out⟩
  · have g1 : (65536 : Int) < (s.size : Int) := by omega
    go_enter Tryd.func8, Tryd.ntmps8
    go_wp2_with fail
    go_ret2
    exact .inr ⟨fun h => absurd h hs, rfl, Below.refl _ _⟩

set_option maxHeartbeats 1000000 in
theorem unpackslaw_any (A : Nat → Addr) (s : ByteArray) (w : World) (hE : ErrsAt 13 gAll A w) :
    Calls Tryd.prog 3 #[.string s] w fun e w' => e = .returned (.bool true) ∧ Below w.heap.size w w' := by
  have U := unpack_any (A 1) s w (hE.1 1 (by decide)).1
  go_enter Tryd.func3, Tryd.ntmps3
  go_wp2_with fail
  refine U.mono ?_
  rintro e w1 (⟨l, v, base, hl, hvl, hs, rfl, hba, hown, hb1⟩ | ⟨hno, rfl, hb1⟩)
  · have R := runpack_any s w1
    obtain ⟨av, cv, rfl⟩ := hown.form
    have i1 := (hown.at' (by have := hvl.len; omega)).any
    clear U hown hE
    go_wp2_with fail
    refine R.mono ?_
    rintro e w2 (⟨m, am, cm, hm, hvm, -, rfl, i2, hb2⟩ | ⟨hno, -, -⟩)
    rotate_left
    · exact absurd hl (hno hs l hvl)
    have e1 : l = m := encL_inj _ _ hvl.each hvm.each (by rw [← hl, ← hm])
    subst e1
    have SM := sameItems_any _ l l (.slice av l.length cv) (.slice am l.length cm) w2 (Nat.le_refl _) (i1.keep hb2) i2
    have B2 := Below.next hb1 hb2
    clear R i1 i2 hb1 hb2 hm hvm hl hvl hs hba
    go_wp2_with fail
    refine SM.mono ?_
    rintro e w3 ⟨b, rfl, hb, hb3⟩
    have hbt : b = true := by simpa using hb
    subst hbt
    have B3 := Below.next B2 hb3
    clear SM hb B2 hb3
    go_wp2_with fail
    refine (num_nil w3).mono ?_
    rintro e w4 ⟨rfl, rfl⟩
    go_wp2_with fail
    go_ret
    exact ⟨rfl, B3⟩
  · have R := runpack_any s w1
    have hE1 := hE.keep hb1
    clear U hE
    go_wp2_with fail
    refine R.mono ?_
    rintro e w2 (⟨m, am, cm, hm, hvm, this, rfl, i2, hb2⟩ | ⟨hno2, rfl, hb2⟩)
    · exact absurd hm (hno this m hvm)
    have SM := sameItems_any _ [] [] (.slice none 0 0) (.slice none 0 0) w2 (Nat.le_refl _) (its_nil _ _ _ _) (its_nil _ _ _ _)
    have B2 := Below.next hb1 hb2
    have hE2 := hE1.keep hb2
    clear R hb1 hb2 hno hno2 hE1
    go_wp2_with fail
    refine SM.mono ?_
    rintro e w3 ⟨b, rfl, hb, hb3⟩
    have hbt : b = true := by simpa using hb
    subst hbt
    have B3 := Below.next B2 hb3
    have N := num_text A w3 (hE2.keep hb3)
    clear SM hb B2 hb3 hE2
    go_wp2_with fail
    refine N.mono ?_
    rintro e w4 ⟨rfl, rfl⟩
    go_wp2_with fail
    go_ret
    exact ⟨rfl, B3⟩

end Go.Proofs.YtgljkgkophaefaaDoor
