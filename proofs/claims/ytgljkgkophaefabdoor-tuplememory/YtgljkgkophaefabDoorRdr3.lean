import Derived.Test.YtgljkgkophaefabDoorRdr2
import Derived.Test.YtgljkgkophaefabDoorPack
import Derived.Laws.BitsAllLaws
namespace Go.Proofs.YtgljkgkophaefabDoor
open Go.RowKit

theorem S_toList (t : List UInt8) : (S t).toList = t := by rw [ByteArray.toList_eq]; rfl
set_option maxHeartbeats 400000 in
theorem atEnd_top (rb : Nat) (t : List UInt8) (w : World) (hr : RdAt w rb (S t)) :
    Calls Tryd.prog 37 #[.pointer (some ⟨rb, 0, none⟩), .int .i64 0] w fun e w' => e = .returned (.bool (t == [])) ∧ Below w.heap.size w w' := by
  have c0 := hr.cell
  have h1 := S_toList t
  have h2 : (⟨#[]⟩ : ByteArray).toList = [] := by rw [ByteArray.toList_eq]
  clear hr
  generalize S t = s at *
  go_enter Tryd.func37, Tryd.ntmps37
  go_wp2_with fail
  go_ret
  exact ⟨ret_bool (by cases t <;> rfl), Below.refl _ _⟩

set_option maxHeartbeats 400000 in
theorem atEnd_in (rb : Nat) (d : Int) (hd : 0 < d) (t : List UInt8) (w : World) (hr : RdAt w rb (S t)) :
    Calls Tryd.prog 37 #[.pointer (some ⟨rb, 0, none⟩), .int .i64 d] w fun e w' => (∃ b, t = 0 :: b ∧ e = .returned (.bool true) ∧ Rest rb w w' b) ∨ ((∀ b, t ≠ 0 :: b) ∧ e = .returned (.bool false) ∧ Below w.heap.size w w') := by
  have c0 := hr.cell
  have d0 : (d == 0) = false := by simp; omega
  have h2 : (⟨#[]⟩ : ByteArray).toList = [] := by rw [ByteArray.toList_eq]
  cases t with
  | nil =>
    have h1 := S_toList []
    clear hr
    generalize S [] = s at *
    go_enter Tryd.func37, Tryd.ntmps37
    go_wp2_with fail
    go_ret
    exact .inr ⟨(fun b h => List.cons_ne_nil 0 b h.symm), rfl, Below.refl _ _⟩
  | cons c b =>
    have T := next_ok rb c b w hr
    have h1 := S_toList (c :: b)
    have h3 : (0 : Int) < ((S (c :: b)).size : Int) := by rw [S_size, List.length_cons]; omega
    obtain ⟨s, hs⟩ : ∃ s, s = S (c :: b) := ⟨_, rfl⟩
    have h5 : 0 < s.size := by rw [hs, S_size]; simp
    have h4 : s[0]'h5 = c := by subst hs; rfl
    rw [← hs] at h1 h3 c0
    clear hr hs
    by_cases hc : c = 0
    · subst hc
      go_enter Tryd.func37, Tryd.ntmps37
      go_wp2_with fail
      refine T.mono ?_
      rintro e w1 ⟨rfl, hR⟩
      have HR : Hid (Rest rb w w1 b) := hR
      clear hR T
      go_wp2_with fail
      go_ret
      exact .inl ⟨b, rfl, rfl, HR.out⟩
    · have g0 : ((c.toNat : Int) == 0) = false := by simp; intro e; exact hc (UInt8.toNat_inj.1 (by rw [e]; rfl))
      have g1 : ((c.toNat : Int) != 0) = true := by simpa using g0
      have HC : Hid (c ≠ 0) := hc
      clear T hc
      go_enter Tryd.func37, Tryd.ntmps37
      go_wp2_with fail
      go_ret
      exact .inr ⟨(fun b h => HC.out (List.cons.inj h).1), rfl, Below.refl _ _⟩

/-- The number that bytes give, the highest first. -/
def beN (l : List UInt8) : Nat := l.foldl (fun n c => n * 256 + c.toNat) 0
theorem beN_snoc (l : List UInt8) (c : UInt8) : beN (l ++ [c]) = beN l * 256 + c.toNat := by simp [beN, List.foldl_append]
theorem beN_lt (l : List UInt8) : beN l < 256 ^ l.length := by
  suffices h : ∀ (n : Nat) (l : List UInt8), l.length = n → beN l < 256 ^ n from h _ l rfl
  intro n
  induction n with
  | zero => intro l h; obtain rfl := List.length_eq_zero_iff.1 h; simp [beN]
  | succ n ih =>
    intro l h
    have hne : l ≠ [] := by intro e; rw [e] at h; simp at h
    have e := List.dropLast_concat_getLast hne
    have h1 := ih l.dropLast (by rw [List.length_dropLast]; omega)
    rw [← e, beN_snoc, Nat.pow_succ]
    have := UInt8.toNat_lt (l.getLast hne)
    omega
theorem or_join (y c : Nat) (hy : y < 72057594037927936) (hc : c < 256) : bits BinOp.or IntKind.u64 ((y : Int) * 256) (c : Int) = ((y * 256 + c : Nat) : Int) := by
  have h := u64_or_nat (y * 256) c (by omega) (by omega)
  rw [nat_join 8 (y * 256) c (by omega) (by simpa using hc)] at h
  rw [← h]
  rfl
theorem byteAt_of (m i : Nat) (c : UInt8) (h : m / 2 ^ (8 * i) % 256 = c.toNat) : byteAt m i = c := by
  unfold byteAt; rw [h]; simp
theorem be8_beN (a b c d e f g h : UInt8) : be8 (beN [a, b, c, d, e, f, g, h]) = [a, b, c, d, e, f, g, h] := by
  have := UInt8.toNat_lt a; have := UInt8.toNat_lt b; have := UInt8.toNat_lt c; have := UInt8.toNat_lt d
  have := UInt8.toNat_lt e; have := UInt8.toNat_lt f; have := UInt8.toNat_lt g; have := UInt8.toNat_lt h
  have hb : beN [a, b, c, d, e, f, g, h] = ((((((((0 * 256 + a.toNat) * 256 + b.toNat) * 256 + c.toNat) * 256 + d.toNat) * 256 + e.toNat) * 256 + f.toNat) * 256 + g.toNat) * 256 + h.toNat) := rfl
  unfold be8
  rw [hb]
  rw [byteAt_of _ 7 a (by simp only [Nat.reduceMul, Nat.reducePow]; omega), byteAt_of _ 6 b (by simp only [Nat.reduceMul, Nat.reducePow]; omega), byteAt_of _ 5 c (by simp only [Nat.reduceMul, Nat.reducePow]; omega), byteAt_of _ 4 d (by simp only [Nat.reduceMul, Nat.reducePow]; omega), byteAt_of _ 3 e (by simp only [Nat.reduceMul, Nat.reducePow]; omega), byteAt_of _ 2 f (by simp only [Nat.reduceMul, Nat.reducePow]; omega), byteAt_of _ 1 g (by simp only [Nat.reduceMul, Nat.reducePow]; omega), byteAt_of _ 0 h (by simp only [Nat.reduceMul, Nat.reducePow]; omega)]
theorem eight (l : List UInt8) (h : l.length = 8) : be8 (beN l) = l := by
  match l, h with
  | [a, b, c, d, e, f, g, h'], _ => exact be8_beN a b c d e f g h'

set_option maxHeartbeats 400000 in
theorem num_ok (rb : Nat) (a b : List UInt8) (w : World) (hr : RdAt w rb (S (a ++ b))) (ha : a.length = 8) :
    Calls Tryd.prog 47 #[.pointer (some ⟨rb, 0, none⟩)] w fun e w' => e = .returned (.int .i64 ((beN a : Int) - 9223372036854775808)) ∧ Rest rb w w' b := by
  have T := take_has rb 8 a b w hr ha
  clear hr
  go_enter Tryd.func47, Tryd.ntmps47
  go_wp2_with fail
  refine T.mono ?_
  rintro e w1 ⟨rfl, hR⟩
  have HR : Hid (Rest rb w w1 b) := hR
  clear hR T
  obtain ⟨s, hs⟩ : ∃ s, s = S a := ⟨_, rfl⟩
  have hsz : s.size = 8 := by rw [hs, S_size]; exact ha
  have hget : ∀ k (h : k < a.length) (h' : k < s.size), s[k] = a[k] := fun k h h' => by subst hs; rfl
  rw [← hs]
  clear hs
  have HV : Hid (beN (a.take 8) = beN a ∧ beN a < 18446744073709551616) := by
    refine ⟨by rw [List.take_of_length_le (by omega)], ?_⟩
    have := beN_lt a
    rw [ha] at this
    exact this
  go_wp2_with fail
  go_loop [4, 8] (fun r i => ∃ k y : Nat, k ≤ 8 ∧ i = .int .i64 k ∧ r = .int .u64 (y : Int) ∧ y = beN (a.take k)) (fun _ i => 8 - (intOf i).toNat)
  case atStart => exact ⟨0, 0, by omega, rfl, rfl, rfl⟩
  case round =>
    obtain ⟨k, y, hk, rfl, rfl, hyr⟩ := hrel
    have HY : Hid (y = beN (a.take k)) := hyr
    clear hyr
    by_cases hlt : k < 8
    · have hka : k < a.length := by omega
      have hks : k < s.size := by omega
      have hg := hget k hka hks
      obtain ⟨c, hcd⟩ : ∃ c : UInt8, c = a[k] := ⟨_, rfl⟩
      rw [← hcd] at hg
      have hc256 : c.toNat < 256 := UInt8.toNat_lt _
      have HR2 : Hid (y * 256 + c.toNat = beN (a.take (k + 1))) := by
        show y * 256 + c.toNat = _
        rw [List.take_succ_eq_append_getElem hka, beN_snoc, ← HY.out, hcd]
      have hyb : y < 72057594037927936 := by
        rw [HY.out]
        have h := beN_lt (a.take k)
        rw [List.length_take, Nat.min_eq_left (by omega)] at h
        exact Nat.lt_of_lt_of_le h (Nat.le_trans (Nat.pow_le_pow_right (n := 256) (i := k) (j := 7) (by decide) (by omega)) (by decide))
      have e1 := or_join y c.toNat hyb hc256
      have k0 : (0 : Int) ≤ (k : Int) := by omega
      have k1 : (k : Int) < (s.size : Int) := by omega
      clear hcd hget
      go_wp2
      go_round
      case rel => exact ⟨k + 1, y * 256 + c.toNat, by omega, by go_num, by go_num, HR2.out⟩
      case measure => simp [intOf]; omega
    · have hke : k = 8 := by omega
      subst hke
      have HE : Hid (y = beN a ∧ y < 18446744073709551616) := by
        have h1 := HV.out
        have h2 := HY.out
        exact ⟨by rw [h2, h1.1], by rw [h2, h1.1]; exact h1.2⟩
      have hw : IntKind.i64.wrap (IntKind.u64.wrap ((y : Int) - 9223372036854775808)) = (y : Int) - 9223372036854775808 := by
        have := HE.out.2
        simp [IntKind.wrap, IntKind.bits, IntKind.signed]
        omega
      clear hget
      go_wp2
      go_ret
      exact ⟨by rw [← HE.out.1]; rfl, HR.out⟩

set_option maxHeartbeats 400000 in
theorem num_no (aT : Addr) (rb : Nat) (t : List UInt8) (w : World) (ht : TextAt aT w) (hr : RdAt w rb (S t)) (hl : t.length < 8) :
    Calls Tryd.prog 47 #[.pointer (some ⟨rb, 0, none⟩)] w fun e w' => e = gone aT ∧ w = w' := by
  have T : Hid (Calls Tryd.prog 52 #[.pointer (some ⟨rb, 0, none⟩), .int .i64 8] w fun e w' => e = gone aT ∧ w = w') := take_no aT rb 8 (S t) w ht hr (by rw [S_size]; exact hl)
  clear hr ht
  go_enter Tryd.func47, Tryd.ntmps47
  go_wp2_with fail
  refine T.out.mono ?_
  rintro e w1 ⟨rfl, rfl⟩
  exact ⟨rfl, rfl, rfl⟩

theorem num_any (aT : Addr) (rb : Nat) (t : List UInt8) (w : World) (ht : TextAt aT w) (hr : RdAt w rb (S t)) :
    Calls Tryd.prog 47 #[.pointer (some ⟨rb, 0, none⟩)] w fun e w' => (∃ n b, t = num8 n ++ b ∧ -9223372036854775808 ≤ n ∧ n ≤ 9223372036854775807 ∧ e = .returned (.int .i64 n) ∧ Rest rb w w' b) ∨ (e = gone aT ∧ Sole rb w w' ∧ t.length < 8) := by
  by_cases hl : t.length < 8
  · refine (num_no aT rb t w ht hr hl).mono ?_
    rintro e w' ⟨rfl, rfl⟩
    exact .inr ⟨rfl, Sole.refl _ _, hl⟩
  · have h8 : (t.take 8).length = 8 := by rw [List.length_take]; omega
    refine (num_ok rb (t.take 8) (t.drop 8) w (by rw [List.take_append_drop]; exact hr) h8).mono ?_
    rintro e w' ⟨rfl, hR⟩
    have hb := beN_lt (t.take 8)
    rw [h8] at hb
    refine .inl ⟨_, t.drop 8, ?_, by omega, by omega, rfl, hR⟩
    unfold num8 biased
    rw [Int.sub_add_cancel, Int.toNat_natCast, eight _ h8, List.take_append_drop]

theorem encT_cons (x : UInt8) (s : List UInt8) : encT (x :: s) = (if x = 0 then [0, 255] else [x]) ++ encT s := by simp [encT, escL]
theorem escL_snoc (p : List UInt8) (x : UInt8) : escL (p ++ [x]) = escL p ++ (if x = 0 then [0, 255] else [x]) := by simp [escL]
theorem t_plain {c : UInt8} {r s b : List UInt8} (hc : c ≠ 0) (h : c :: r = encT s ++ b) : ∃ s', s = c :: s' ∧ r = encT s' ++ b := by
  cases s with
  | nil => simp [encT, escL] at h; exact absurd h.1 hc
  | cons x s =>
    rw [encT_cons] at h
    by_cases hx : x = 0
    · rw [if_pos hx] at h; simp at h; exact absurd h.1 hc
    · rw [if_neg hx] at h
      simp only [List.cons_append, List.nil_append, List.cons.injEq] at h
      exact ⟨s, by rw [h.1], h.2⟩
theorem t_own {r s b : List UInt8} (h : 0 :: 255 :: r = encT s ++ b) : ∃ s', s = 0 :: s' ∧ r = encT s' ++ b := by
  cases s with
  | nil => simp [encT, escL] at h
  | cons x s =>
    rw [encT_cons] at h
    by_cases hx : x = 0
    · rw [if_pos hx] at h; simp only [List.cons_append, List.nil_append, List.cons.injEq, true_and] at h; exact ⟨s, by rw [hx], h⟩
    · rw [if_neg hx] at h
      simp only [List.cons_append, List.nil_append, List.cons.injEq] at h
      exact absurd h.1.symm hx
theorem t_none {s b : List UInt8} : [] ≠ encT s ++ b := by
  intro h; have := congrArg List.length h; simp [encT] at this
theorem t_bad {r s b : List UInt8} (hr : ∀ c b, r = c :: b → ¬ zeroOk c) (h : 0 :: r = encT s ++ b) : False := by
  cases s with
  | nil => simp [encT, escL] at h; exact hr _ _ h (.inl rfl)
  | cons x s =>
    rw [encT_cons] at h
    by_cases hx : x = 0
    · rw [if_pos hx] at h; simp only [List.cons_append, List.nil_append, List.cons.injEq, true_and] at h; exact hr _ _ h (.inr rfl)
    · rw [if_neg hx] at h
      simp only [List.cons_append, List.nil_append, List.cons.injEq] at h
      exact absurd h.1.symm hx
def lenOf : Value → Nat | .slice _ n _ => n | _ => 0
theorem owns_sole {w w' : World} {rb b e size n : Nat} {v : Value} {xs : List Value} (ho : w.ownsRow b e size v n xs) (hs : Sole rb w w') (hr : rb < b) : w'.ownsRow b e size v n xs := by
  refine ⟨ho.1, ?_⟩
  rcases ho.2 with h' | ⟨g, cap, cur, h', h1, hg, hrr⟩
  · exact .inl h'
  · refine .inr ⟨g, cap, cur, h', h1, ?_, hrr⟩
    have hlt : g < w.heap.size := by
      rcases Nat.lt_or_ge g w.heap.size with hlt | hge
      · exact hlt
      · rw [Array.getElem?_eq_none hge] at hg; cases hg
    rw [hs.block g hlt (by omega)]
    exact hg
theorem RdAt.keepB {w w' : World} {rb base : Nat} {t : ByteArray} (h : RdAt w rb t) (hb : Below base w w') (hr : rb < base) : RdAt w' rb t := by
  unfold RdAt; rw [hb.block rb hr]; exact h
theorem Sole.then {rb base : Nat} {w a b : World} (h : Sole rb w a) (k : Below base a b) (hb : base = w.heap.size) : Sole rb w b :=
  ⟨k.os.trans h.os, k.tape.trans h.tape, k.output.trans h.output, Nat.le_trans h.size k.size, fun i hi hn => (k.block i (by omega)).trans (h.block i hi hn)⟩
/-- So far the text's bytes are p, and cur is left. -/
structure Mid (t p cur : List UInt8) : Prop where
  eq : t = escL p ++ cur
  all : ∀ s b, t = encT s ++ b → ∃ s2, s = p ++ s2 ∧ cur = encT s2 ++ b
theorem Mid.plain {t p r : List UInt8} {c : UInt8} (h : Mid t p (c :: r)) (hc : c ≠ 0) : Mid t (p ++ [c]) r := by
  refine ⟨by rw [h.eq, escL_snoc, if_neg hc, List.append_assoc]; rfl, fun s b e => ?_⟩
  obtain ⟨s2, rfl, e2⟩ := h.all s b e
  obtain ⟨s3, rfl, e3⟩ := t_plain hc e2
  exact ⟨s3, by simp, e3⟩
theorem Mid.own {t p r : List UInt8} (h : Mid t p (0 :: 255 :: r)) : Mid t (p ++ [0]) r := by
  refine ⟨by rw [h.eq, escL_snoc, if_pos rfl, List.append_assoc]; rfl, fun s b e => ?_⟩
  obtain ⟨s2, rfl, e2⟩ := h.all s b e
  obtain ⟨s3, rfl, e3⟩ := t_own e2
  exact ⟨s3, by simp, e3⟩
theorem Mid.none {t p : List UInt8} (h : Mid t p []) : ∀ s b, t ≠ encT s ++ b := fun s b e => by
  obtain ⟨s2, _, e2⟩ := h.all s b e
  exact t_none e2
theorem Mid.bad {t p r : List UInt8} (h : Mid t p (0 :: r)) (hr : ∀ c b, r = c :: b → ¬ zeroOk c) : ∀ s b, t ≠ encT s ++ b := fun s b e => by
  obtain ⟨s2, _, e2⟩ := h.all s b e
  exact t_bad hr e2
theorem Mid.len {t p cur : List UInt8} (h : Mid t p cur) : p.length + cur.length ≤ t.length := by
  have := escL_len p
  rw [h.eq, List.length_append]
  omega

set_option maxHeartbeats 400000 in
theorem text_any (aT : Addr) (rb : Nat) (t : List UInt8) (w : World) (ht : TextAt aT w) (hr : RdAt w rb (S t)) (hn : rb ≠ 1) (hs : t.length ≤ 65536) :
    Calls Tryd.prog 48 #[.pointer (some ⟨rb, 0, none⟩)] w fun e w' => (∃ s b, t = encT s ++ b ∧ e = .returned (.string (S s)) ∧ Rest rb w w' b) ∨ (e = gone aT ∧ Sole rb w w' ∧ ∀ s b, t ≠ encT s ++ b) := by
  obtain ⟨i0, hi, hz0, hz1, hz2⟩ := info_parts Tryd.info5
  go_enter Tryd.func48, Tryd.ntmps48
  go_wp2_with fail
  have hlt := hr.lt
  go_loopw [3] (fun v wr => ∃ (p cur : List UInt8) (a : Option Addr) (c : Nat), v = .slice a p.length c ∧ Mid t p cur ∧ wr.ownsRow w.heap.size 5 1 v p.length (u8s p) ∧ Rest rb w wr cur) (fun v _ => t.length - lenOf v)
  case atStart => exact ⟨[], t, none, 0, rfl, ⟨rfl, fun s b e => ⟨s, rfl, e⟩⟩, World.ownsRow_nil _ _ _ _, hr, Sole.refl _ _⟩
  case round =>
    obtain ⟨p, cur, ap, cp, rfl, hM, hown, hR⟩ := hrel
    have hsz := hR.sole.size
    have hT := ht.sole hR.sole hn
    have hml := hM.len
    have HM : Hid (Mid t p cur) := hM
    clear hM
    cases cur with
    | nil =>
      have T := next_no aT rb wr hT hR.at_
      have NO : Hid (∀ s b, t ≠ encT s ++ b) := HM.out.none
      have HS : Hid (Sole rb w wr) := hR.sole
      clear hT ht hr hR HM
      go_wp2_with fail
      refine T.mono ?_
      rintro e w1 ⟨rfl, rfl⟩
      exact ⟨rfl, .inr ⟨rfl, HS.out, NO.out⟩⟩
    | cons c r =>
      have T := next_ok rb c r wr hR.at_
      have HL : Hid (p.length + 1 ≤ t.length) := by
        show _ ≤ _
        rw [List.length_cons] at hml; omega
      have hpb : p.length ≤ 65536 := by rw [List.length_cons] at hml; omega
      have HW : Hid (Rest rb w wr (c :: r)) := hR
      have HT : Hid (TextAt aT w) := ht
      clear hR ht hr hT hml hs
      go_wp2_with fail
      refine T.mono ?_
      rintro e w1 ⟨rfl, hR⟩
      have HR1 : Hid (Rest rb w w1 r) := HW.out.trans hR
      have hown1 := owns_sole hown hR.sole hlt
      have hsz1 := hR.sole.size
      clear hown hR T HW
      by_cases hc : c = 0
      · subst hc
        have Z := zero_any aT rb r w1 (HT.out.sole HR1.out.sole hn) HR1.out.at_ hn
        clear HT
        go_wp2_with fail
        refine Z.mono ?_
        rintro e w2 (⟨b, rfl, rfl, hR2⟩ | ⟨b, rfl, rfl, hR2⟩ | ⟨rfl, hS2, hno⟩)
        · have HM2 : Hid (Mid t (p ++ [0]) b) := HM.out.own
          have HR : Hid (Rest rb w w2 b) := HR1.out.trans hR2
          have hown := owns_sole hown1 hR2.sole hlt
          have hsz2 := hR2.sole.size
          clear HM HR1 hR2 Z hown1
          have hm1 : p.length + 1 ≤ maxLen := by unfold maxLen; omega
          have hm2 : (p.length + 1) * 1 ≤ 140737488355328 := by omega
          go_wp2_with (first
            | (at_builtin; refine wpList_append_lies _ rfl _ _ 52 rfl w.heap.size 5 i0 (.int .u8 0) 1 1 Tryd.underlying52 hi hz0 hz1 hz2 rfl (by decide) _ _ _ rfl (hown.alloc _) ⟨w2.heap.size, 0, none⟩ 1 1 [.int .u8 0] rfl rfl (news1 _ (w2.heap.size) 0 (by simp)) (u8s_single _) (by decide) hm1 hm2 (by simp; omega) (w2.heap.size + 1) (by simp) ?_))
          intro g cap w3 hown' hgrow hat hlg
          obtain ⟨hown2, hb1⟩ := pushed (es := [0]) (by omega) hown hown' hgrow
          have HR3 : Hid (Rest rb w w3 b) := ⟨HR.out.at_.keepB hb1 hlt, HR.out.sole.then hb1 rfl⟩
          have HO : Hid (w3.ownsRow w.heap.size 5 1 (.slice (some ⟨g, 0, none⟩) (p.length + 1) cap) (p ++ [0]).length (u8s (p ++ [0]))) := hown2
          clear hown' hgrow hown hat hlg hb1 hown2 HR
          go_wp2_with fail
          go_roundw
          case rel => exact ⟨p ++ [0], b, some ⟨g, 0, none⟩, cap, by simp, HM2.out, HO.out, HR3.out⟩
          case measure => have := HL.out; simp [lenOf]; omega
        · have HF : Hid (t = encT p ++ b) := by
            show t = _
            rw [HM.out.eq, encT, List.append_assoc]; rfl
          have HR : Hid (Rest rb w w2 b) := HR1.out.trans hR2
          have hown := owns_sole hown1 hR2.sole hlt
          have hcv : (convert 52 9 (.slice ap p.length cp)).run Tryd.prog w2 = .ok (.string (S p)) w2 := conv_back hown
          clear HM HR1 hR2 Z hown1 hown
          go_wp2_with fail
          go_ret
          exact .inl ⟨p, b, HF.out, rfl, HR.out⟩
        · have NO : Hid (∀ s b, t ≠ encT s ++ b) := HM.out.bad hno
          exact ⟨rfl, .inr ⟨rfl, HR1.out.sole.trans hS2, NO.out⟩⟩
      · have HM2 : Hid (Mid t (p ++ [c]) r) := HM.out.plain hc
        have g0 : ((c.toNat : Int) == 0) = false := by simp; intro e; exact hc (UInt8.toNat_inj.1 (by rw [e]; rfl))
        have HR := HR1
        have hown := hown1
        clear HM HR1 hc hown1 HT
        have hm1 : p.length + 1 ≤ maxLen := by unfold maxLen; omega
        have hm2 : (p.length + 1) * 1 ≤ 140737488355328 := by omega
        go_wp2_with (first
          | (at_builtin; refine wpList_append_lies _ rfl _ _ 52 rfl w.heap.size 5 i0 (.int .u8 0) 1 1 Tryd.underlying52 hi hz0 hz1 hz2 rfl (by decide) _ _ _ rfl (hown.alloc _) ⟨w1.heap.size, 0, none⟩ 1 1 [.int .u8 (c.toNat : Int)] rfl rfl (news1 _ (w1.heap.size) (c.toNat : Int) (by simp)) (u8s_single _) (by decide) hm1 hm2 (by simp; omega) (w1.heap.size + 1) (by simp) ?_))
        intro g cap w3 hown' hgrow hat hlg
        obtain ⟨hown2, hb1⟩ := pushed (es := [c]) (by omega) hown hown' hgrow
        have HR3 : Hid (Rest rb w w3 r) := ⟨HR.out.at_.keepB hb1 hlt, HR.out.sole.then hb1 rfl⟩
        have HO : Hid (w3.ownsRow w.heap.size 5 1 (.slice (some ⟨g, 0, none⟩) (p.length + 1) cap) (p ++ [c]).length (u8s (p ++ [c]))) := hown2
        clear hown' hgrow hown hat hlg hb1 hown2 HR
        go_wp2_with fail
        go_roundw
        case rel => exact ⟨p ++ [c], r, some ⟨g, 0, none⟩, cap, by simp, HM2.out, HO.out, HR3.out⟩
        case measure => have := HL.out; simp [lenOf]; omega

end Go.Proofs.YtgljkgkophaefabDoor
