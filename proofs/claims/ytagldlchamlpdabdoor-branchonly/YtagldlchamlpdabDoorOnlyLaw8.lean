import Derived.Test.YtagldlchamlpdabDoorBackLaw8
namespace Go.Proofs.YtagldlchamlpdabDoor
open Go.RowKit

theorem decB_len {n : Nat} {b : List UInt8} (h : DecB n b) : (brL (cellsB b n)).length + 1 = n := by
  have hl := cellsB_len b n
  have ho := h.2.1
  cases hc : cellsB b n with
  | nil => rw [hc] at ho; cases ho
  | cons c cs =>
    rw [hc] at hl
    simp only [brL, List.drop_succ_cons, List.drop_zero, List.length_map]
    simpa using hl
theorem decB_ok {n : Nat} {b : List UInt8} (h : DecB n b) : OkK (brL (cellsB b n)) := fun p hp => by
  have := mayK_parts ((chkB_none h.2.2).2.2.1 p hp)
  omega
theorem decB_nb {n : Nat} {b : List UInt8} (h : DecB n b) : n ≤ 2036 := h.1.1.1

set_option maxRecDepth 20000 in
set_option maxHeartbeats 8000000 in
theorem only_any (A : Nat → Addr) (c : Int) (s : ByteArray) (w : World) (hE : ErrsG 13 gAll A w) :
    Calls Tryd.prog 3 #[.agg #[.int .i64 c, .string s]] w fun e w' => e = .returned (.bool true) ∧ Below w.heap.size w w' := by
  have q0 := below_new w (.cells #[.int .i64 c, .string s] 23)
  have x0 := RowAt.new w #[.int .i64 c, .string s] 23
  generalize hW0 : w.alloc (.cells #[.int .i64 c, .string s] 23) = W0 at *
  have HX := hide x0
  have HQ := hide q0
  have HE := hide (hE.keep q0)
  have hst : StrR W0 (.slice none 0 0) [] := ⟨none, 0, rfl, Nat.le_refl _, fun j h => by simp at h⟩
  have HBK := hide (back_any A (.slice none 0 0) [] 3 0 ⟨#[]⟩ W0 (Nat.zero_le _) hst ⟨by decide, by decide⟩ HE.out)
  clear q0 x0 hE hst
  go_enter Tryd.func3, Tryd.ntmps3
  go_wp2_with fail
  refine HBK.out.mono ?_
  rintro e w1 ⟨rfl, hb1⟩
  have HB1 := hide hb1
  have p0 := (HX.out.below hb1).c0
  have p1 := (HX.out.below hb1).c1
  have HDE := hide (bdec_any A c s w1 (errK_all (HE.out.keep hb1)))
  clear hb1 HBK
  go_wp2_with fail
  refine HDE.out.mono ?_
  rintro e w2 ⟨hv, hb2⟩
  rcases hv with ⟨hc0, hd, u, rfl, ho⟩ | ⟨hno, rfl⟩
  · obtain ⟨n, hn⟩ : ∃ n, n = c.toNat := ⟨_, rfl⟩
    have hcn : c = (n : Int) := by omega
    rw [← hn] at hd ho ⊢
    obtain ⟨l, hl⟩ : ∃ l, l = brL (cellsB s.data.toList n) := ⟨_, rfl⟩
    obtain ⟨f, hf⟩ : ∃ f, f = brF (cellsB s.data.toList n) := ⟨_, rfl⟩
    have hck : chkB f l true = none := by rw [hl, hf]; exact hd.2.2
    have hen : encK f l = s := by
      refine ba_ext' ?_
      have := decB_enc hd
      rw [← hl, ← hf] at this
      simpa [encK] using this
    have hlen : l.length + 1 = n := by rw [hl]; exact decB_len hd
    have hok : OkK l := by rw [hl]; exact decB_ok hd
    have hnb := decB_nb hd
    rw [← hl] at ho
    rw [← hf]
    obtain ⟨ua, uc, hu⟩ := ho.form
    subst hu
    obtain ⟨k, hk⟩ : ∃ k, k = l.length := ⟨_, rfl⟩
    rw [← hk] at ho ⊢
    have q3 := below_new w2 (.cells #[.int .i64 f, .slice ua k uc] 30)
    have x3 := RowAt.new w2 #[.int .i64 f, .slice ua k uc] 30
    generalize hW3 : w2.alloc (.cells #[.int .i64 f, .slice ua k uc] 30) = W3 at *
    have HB3 := hide (Below.next HB1.out (Below.next hb2 q3))
    have HX3 := hide x3
    have HRL := hide (ho.at.below q3)
    have wn : IntKind.i64.wrap ((k : Int) + 1) = c := by rw [IntKind.wrap_i64]; omega
    have HC1 : Hid (Calls Tryd.prog 11 #[.agg #[.int .i64 f, .slice ua k uc], .bool true] W3 fun e w' => e = .returned .nilIface ∧ Below W3.heap.size W3 w') := by
      have := bcheck_any A f _ l true W3 hok (by omega) HRL.out (errK_all (HE.out.keep HB3.out))
      rw [hck] at this
      exact this
    have HEN : Hid (∀ W, Below W3.heap.size W3 W → Calls Tryd.prog 12 #[.agg #[.int .i64 f, .slice ua k uc]] W fun e w' => e = .returned (.tuple #[.string s, .nilIface]) ∧ Below W.heap.size W w') := fun W h => by
      refine (benc_any A f _ l W hok (by omega) (HRL.out.below h) (errK_all (HE.out.keep (Below.next HB3.out h)))).mono ?_
      rintro e w' ⟨hv, hb⟩
      rcases hv with ⟨_, rfl⟩ | ⟨k', h1, _⟩
      · exact ⟨by rw [hen], hb⟩
      · rw [hck] at h1; cases h1
    have r0 := x3.c0
    have r1 := x3.c1
    have es : (s.toList == s.toList) = true := by simp
    have ec : (c == c) = true := by simp
    clear hn hcn hl hf hck hen hlen hok hnb ho hk q3 x3 hb2 hd hc0 p0 p1 HDE
    go_wp2_with fail
    refine HC1.out.mono ?_
    rintro e w4 ⟨rfl, hb4⟩
    have HB4 := hide hb4
    clear hb4 HC1 r0 r1
    have r0 := (HX3.out.below HB4.out).c0
    have r1 := (HX3.out.below HB4.out).c1
    go_wp2_with fail
    refine (HEN.out _ HB4.out).mono ?_
    rintro e w5 ⟨rfl, hb5⟩
    have HB5 := hide (Below.next HB3.out (Below.next HB4.out hb5))
    have HB35 := hide (Below.next HB4.out hb5)
    clear hb5 HEN r0 r1 HB4
    have r0 := (HX3.out.below HB35.out).c0
    have r1 := (HX3.out.below HB35.out).c1
    have p0 := (HX.out.below HB5.out).c0
    have p1 := (HX.out.below HB5.out).c1
    have HBF := hide (Below.next HQ.out HB5.out)
    go_wp2
    go_ret
    exact ⟨rfl, HBF.out⟩
  · have q3 := below_new w2 (.cells #[.int .i64 0, .slice none 0 0] 30)
    have x3 := RowAt.new w2 #[.int .i64 0, .slice none 0 0] 30
    have HB3 := hide (Below.next HB1.out (Below.next hb2 q3))
    have r0 := x3.c0
    have r1 := x3.c1
    have hnn := fun W => iface_ne_nil (some (A 1)) W
    clear q3 x3 hb2 hno p0 p1 HDE
    go_wp2_with fail
    generalize w2.alloc (.cells #[.int .i64 0, .slice none 0 0] 30) = W3 at *
    refine (sameb_same 0 _ _ [] W3 (Nat.zero_le _) (LkR.nil _) (LkR.nil _)).mono ?_
    rintro e w4 ⟨rfl, hb4⟩
    have HB4 := hide (Below.next HB3.out hb4)
    have HN1 := hide (num_text A w4 ((HE.out.keep HB4.out).weak (by decide)))
    have HBF := hide (Below.next HQ.out HB4.out)
    clear hb4 r0 r1
    go_wp2_with fail
    refine HN1.out.mono ?_
    rintro e w5 ⟨rfl, rfl⟩
    go_wp2
    go_ret
    exact ⟨rfl, HBF.out⟩

end Go.Proofs.YtagldlchamlpdabDoor
