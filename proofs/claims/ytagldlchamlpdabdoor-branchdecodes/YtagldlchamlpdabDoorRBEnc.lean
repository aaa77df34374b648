import Derived.Test.YtagldlchamlpdabDoorBEncode
import Derived.Test.YtagldlchamlpdabDoorRBCheck
import Derived.Test.YtagldlchamlpdabDoorRLay
namespace Go.Proofs.YtagldlchamlpdabDoor
open Go.RowKit

theorem be_four (n : Nat) : beBytes n 4 = [UInt8.ofNat (n / 16777216), UInt8.ofNat (n / 65536), UInt8.ofNat (n / 256), UInt8.ofNat n] := by
  unfold beBytes digs dig
  simp [List.range, List.range.loop]

set_option maxRecDepth 20000 in
set_option maxHeartbeats 1000000 in
theorem rfour_any (m : Nat) (w : World) (hm : m < 1048576) :
    Calls Tryd.prog 68 #[.int .i64 (m : Int)] w fun e w' => e = .returned (.string (cellC m)) ∧ Below w.heap.size w w' := by
  have hcs : #[Value.int .u8 ((m : Int) / 16777216), Value.int .u8 ((m : Int) / 65536), Value.int .u8 ((m : Int) / 256 % 256), Value.int .u8 ((m : Int) % 256)] = (u8s (beBytes m 4)).toArray := by
    rw [be_four]
    simp [u8s]
    omega
  have hq := below_new w (.cells #[Value.int .u8 ((m : Int) / 16777216), Value.int .u8 ((m : Int) / 65536), Value.int .u8 ((m : Int) / 256 % 256), Value.int .u8 ((m : Int) % 256)] 5)
  have hx := boxed_new w #[Value.int .u8 ((m : Int) / 16777216), Value.int .u8 ((m : Int) / 65536), Value.int .u8 ((m : Int) / 256 % 256), Value.int .u8 ((m : Int) % 256)] 5
  have hL := beBytes_len m 4 (by decide)
  obtain ⟨cc, hcc⟩ : ∃ cc, cc = cellC m := ⟨_, rfl⟩
  have cv : (convert 96 9 (.slice (some ⟨w.heap.size, 0, none⟩) 4 4)).run Tryd.prog (w.alloc (.cells #[Value.int .u8 ((m : Int) / 16777216), Value.int .u8 ((m : Int) / 65536), Value.int .u8 ((m : Int) / 256 % 256), Value.int .u8 ((m : Int) % 256)] 5)) = .ok (.string cc) (w.alloc (.cells #[Value.int .u8 ((m : Int) / 16777216), Value.int .u8 ((m : Int) / 65536), Value.int .u8 ((m : Int) / 256 % 256), Value.int .u8 ((m : Int) % 256)] 5)) := by
    rw [hcc]
    refine run_str _ _ (beBytes m 4) ⟨_, _, by rw [hL], fun j hj => ⟨_, 0, rfl, ?_⟩⟩ (by rw [hL]; decide)
    rw [hcs] at hx ⊢
    rw [Nat.zero_add]
    have := hx.2 j (by simpa [u8s_length] using hj)
    rw [this]
    have e := u8s_get (beBytes m 4) j hj
    rw [← e]
    simp
  have HCC := hide hcc
  have HQ := hide hq
  clear hcs hq hx hL hcc
  go_enter Tryd.func68, Tryd.ntmps68
  go_wp2
  go_ret
  exact ⟨by rw [← HCC.out]; rfl, HQ.out⟩

/-- What the document's Encode answers. -/
def RBEncV (f : Int) (l : List Lk) (e : Ending) : Prop :=
  (chkB f l true = none ∧ e = .returned (.tuple #[.string (encK f l), .int .i64 0])) ∨ (∃ k, chkB f l true = some k ∧ e = .returned (.tuple #[.string ⟨#[]⟩, .int .i64 ((k + 1 : Nat) : Int)]))

theorem conv1 (W : World) (b : Nat) (x : UInt8) (hc : W.cell? ⟨b, 0, none⟩ = some (.int .u8 (x.toNat : Int))) : (convert 96 9 (.slice (some ⟨b, 0, none⟩) 1 1)).run Tryd.prog W = .ok (.string ⟨[x].toArray⟩) W := by
  refine run_str _ _ [x] ⟨_, _, rfl, fun j hj => ⟨_, 0, rfl, ?_⟩⟩ (by simp)
  have hj0 : j = 0 := by simpa using hj
  subst hj0
  exact hc

set_option maxRecDepth 20000 in
set_option maxHeartbeats 4000000 in
theorem rbenc_any (f : Int) (v : Value) (l : List Lk) (w : World) (hm : l.length ≤ 5864062014805) (hr : LkR w v l) :
    Calls Tryd.prog 38 #[.agg #[.int .i64 f, v]] w fun e w' => RBEncV f l e ∧ Below w.heap.size w w' := by
  obtain ⟨a, cap, hv⟩ := hr.form
  subst hv
  obtain ⟨n, hn⟩ : ∃ n, n = l.length := ⟨_, rfl⟩
  rw [← hn] at hr ⊢
  have q0 := below_new w (.cells #[.int .i64 f, .slice a n cap] 30)
  have x0 := RowAt.new w #[.int .i64 f, .slice a n cap] 30
  generalize hW0 : w.alloc (.cells #[.int .i64 f, .slice a n cap] 30) = W0 at *
  have p0 := x0.c0
  have p1 := x0.c1
  have HX := hide x0
  have HQ := hide q0
  have HR := hide (hr.below q0)
  have HN := hide hn
  have HCK := hide (rbcheck_any f _ l true W0 hm (hr.below q0))
  cases hck : chkB f l true with
  | some k =>
    rw [hck] at HCK
    have HV : Hid (chkB f l true = some k) := hck
    obtain ⟨k1, hk1⟩ : ∃ k1, k1 = k + 1 := ⟨_, rfl⟩
    have HK : Hid (Calls Tryd.prog 67 #[.agg #[.int .i64 f, .slice a n cap], .bool true] W0 fun e w' => e = .returned (.int .i64 (k1 : Int)) ∧ Below W0.heap.size W0 w') := by rw [hk1]; exact HCK.out
    have hd0 : ((k1 : Int) != 0) = true := by rw [bne_iff_ne]; omega
    have HK1 := hide hk1
    clear hr hck q0 x0 hn hm HCK hk1
    go_enter Tryd.func38, Tryd.ntmps38
    go_wp2_with fail
    refine HK.out.mono ?_
    rintro e w1 ⟨rfl, hb1⟩
    have HB := hide (Below.next HQ.out hb1)
    clear hb1
    go_wp2
    go_ret2
    exact ⟨.inr ⟨k, HV.out, by rw [← HK1.out]; rfl⟩, HB.out⟩
  | none =>
    rw [hck] at HCK
    obtain ⟨h1, h2, h3, h4, h5, h6, h7⟩ := chkB_none hck
    have hlen := szB_len l
    have HMAY := hide h3
    have HSZ : Hid (sizeL (cellsK f l) ≤ 4072) := by rw [size_cellsK]; exact h6
    have hnl : n ≤ 581 := by omega
    have HV : Hid (chkB f l true = none) := hck
    have HK : Hid (Calls Tryd.prog 67 #[.agg #[.int .i64 f, .slice a n cap], .bool true] W0 fun e w' => e = .returned (.int .i64 0) ∧ Below W0.heap.size W0 w') := HCK.out
    obtain ⟨m, hm2⟩ : ∃ m : Nat, f = (m : Int) := by
      have : 2 ≤ f ∧ f < 1048576 := of_decide_eq_true h2
      exact ⟨f.toNat, by omega⟩
    have hmb : m < 1048576 := by
      have : 2 ≤ f ∧ f < 1048576 := of_decide_eq_true h2
      omega
    have HC := hide (fun W => rfour_any m W hmb)
    subst hm2
    have HL0 : Hid ([cellC m] = cellsK (m : Int) (l.take 0)) := by show _ = _; simp [cellsK]
    clear hr hck h1 h2 h3 h4 h5 h6 h7 hlen hn hm q0 x0 hmb HCK
    go_enter Tryd.func38, Tryd.ntmps38
    go_wp2_with fail
    refine HK.out.mono ?_
    rintro e w1 ⟨rfl, hb1⟩
    have HB1 := hide hb1
    clear hb1 p0 p1 HK
    have p0 := (HX.out.below HB1.out).c0
    go_wp2_with fail
    refine (HC.out _).mono ?_
    rintro e w2 ⟨rfl, hb2⟩
    have HB2 := hide (Below.next HB1.out hb2)
    clear hb2 p0 HC HB1
    have q2 := below_new w2 (.cells #[.string (cellC m)] 9)
    have o2 : (w2.alloc (.cells #[.string (cellC m)] 9)).ownsRow w2.heap.size 9 1 (.slice (some ⟨w2.heap.size, 0, none⟩) 1 1) 1 (strs [cellC m]) := World.ownsRow_lit w2 #[.string (cellC m)] 1 (Nat.le_refl _) (by decide) rfl
    rw [HL0.out] at o2
    obtain ⟨cc, hcc⟩ : ∃ cc, cc = cellC m := ⟨_, rfl⟩
    rw [← hcc] at q2 o2 ⊢
    generalize hW2 : w2.alloc (.cells #[.string cc] 9) = W2 at *
    have HB3 := hide (Below.next HB2.out q2)
    have HO2 := hide o2
    have HS2 := hide HB2.out.size
    clear q2 o2 hcc HL0
    go_wp2
    go_loopw [5, 6] (fun u i wr => ∃ k : Nat, k ≤ n ∧ i = .int .i64 k ∧ wr.ownsRow W0.heap.size 9 1 u (k + 1) (strs (cellsK (m : Int) (l.take k))) ∧ Below W0.heap.size W0 wr) (fun _ i _ => n - (intOf i).toNat)
    case atStart => exact ⟨0, Nat.zero_le _, rfl, owns_base HO2.out HS2.out, HB3.out⟩
    case round =>
      obtain ⟨k, hk, rfl, hown, hbw⟩ := hrel
      clear HO2 HB3
      have htk : (cellsK (m : Int) (l.take k)).length = k + 1 := by rw [cellsK_len, List.length_take]; have := HN.out; omega
      obtain ⟨ua, uc, hu⟩ : ∃ a c, u5 = .slice a (k + 1) c := by
        rcases hown.2 with ⟨rfl, h⟩ | ⟨g, cap, cur, rfl, _⟩
        · omega
        · exact ⟨_, _, rfl⟩
      subst hu
      have p1 := (HX.out.below hbw).c1
      by_cases hlt : k < n
      · have hkl : k < l.length := by have := HN.out; omega
        obtain ⟨g, o, rfl, c1, c2⟩ := (HR.out.below hbw).spot k hkl
        have HS := hide (cellsK_take (m : Int) l k hkl)
        have hmay := mayK_parts (HMAY.out l[k] (List.getElem_mem _))
        have HPA := hide (cellK_parts l[k])
        obtain ⟨cm, hcm⟩ : ∃ m : Nat, l[k].2 = (m : Int) := ⟨l[k].2.toNat, by omega⟩
        rw [hcm] at c2 HPA
        rw [Int.toNat_natCast] at HPA
        obtain ⟨ck, hck⟩ : ∃ ck, ck = cellK l[k] := ⟨_, rfl⟩
        rw [← hck] at HPA HS
        have hcmb : cm < 1048576 := by omega
        have hszb : l[k].1.size ≤ 255 := hmay.2.1
        generalize l[k].1 = s1 at *
        have q2 := below_new wr (.cells #[.string s1, .int .i64 (cm : Int)] 54)
        have x2 := RowAt.new wr #[.string s1, .int .i64 (cm : Int)] 54
        have HC := hide (fun W => rfour_any cm W hcmb)
        obtain ⟨t1, ht1⟩ : ∃ t, t = lenC s1.size := ⟨_, rfl⟩
        obtain ⟨t2, ht2⟩ : ∃ t, t = cellC cm := ⟨_, rfl⟩
        have z1 : t1.size = 1 := by rw [ht1]; rfl
        have z2 : t2.size = 4 := by rw [ht2]; exact cellC_size cm
        rw [← ht1] at HPA
        rw [← ht2] at HC HPA
        have a1 : ∀ w, (Op.stringOp .add t1 s1).run Tryd.prog w = .ok (.string (t1 ++ s1)) w := fun w => run_string_add_sum (P := Tryd.prog) (w := w) _ _ (by rw [z1]; omega)
        have a2 : ∀ w, (Op.stringOp .add (t1 ++ s1) t2).run Tryd.prog w = .ok (.string (t1 ++ s1 ++ t2)) w := fun w => run_string_add_sum (P := Tryd.prog) (w := w) _ _ (by rw [ByteArray.size_append, z1, z2]; omega)
        have hw8 : IntKind.u8.wrap (s1.size : Int) = (s1.size : Int) := by rw [IntKind.wrap_u8]; omega
        have HCV : Hid (∀ W : World, (convert 96 9 (.slice (some ⟨W.heap.size, 0, none⟩) 1 1)).run Tryd.prog (W.alloc (.cells #[.int .u8 (s1.size : Int)] 5)).drew = .ok (.string t1) (W.alloc (.cells #[.int .u8 (s1.size : Int)] 5)).drew) := fun W => by
          rw [ht1]
          refine conv1 _ _ (UInt8.ofNat s1.size) ?_
          have := (boxed_new W #[.int .u8 (s1.size : Int)] 5).2 0 (by simp)
          have e : ((UInt8.ofNat s1.size).toNat : Int) = (s1.size : Int) := by simp; omega
          rw [e]
          exact this
        have HCW : Hid (∀ W : World, (convert 96 9 (.slice (some ⟨W.heap.size, 0, none⟩) 1 1)).run Tryd.prog (W.alloc (.cells #[.int .u8 (s1.size : Int)] 5)) = .ok (.string t1) (W.alloc (.cells #[.int .u8 (s1.size : Int)] 5))) := fun W => by
          rw [ht1]
          refine conv1 _ _ (UInt8.ofNat s1.size) ?_
          have := (boxed_new W #[.int .u8 (s1.size : Int)] 5).2 0 (by simp)
          have e : ((UInt8.ofNat s1.size).toNat : Int) = (s1.size : Int) := by simp; omega
          rw [e]
          exact this
        have HT1 := hide ht1
        have hltI : (k : Int) < (n : Int) := by omega
        have j0 : (0 : Int) ≤ (k : Int) := by omega
        have hw9 : (s1.size : Int) % 256 = (s1.size : Int) := by omega
        generalize hW3 : wr.alloc (.cells #[.string s1, .int .i64 (cm : Int)] 54) = W3 at *
        have HX2 := hide x2
        have HBW := hide (Below.next hbw q2)
        have HO := hide (own_below hown q2)
        have b0 := x2.c0
        have b1 := x2.c1
        have cv1 := HCV.out W3
        have cv1d := HCW.out W3
        have q3 := below_new W3 (.cells #[.int .u8 (s1.size : Int)] 5)
        have HQ3 := hide q3
        have HC3 : Hid (∀ W, Below (W3.alloc (.cells #[.int .u8 (s1.size : Int)] 5)).drew.heap.size (W3.alloc (.cells #[.int .u8 (s1.size : Int)] 5)).drew W → (convert 96 9 (.slice (some ⟨W3.heap.size, 0, none⟩) 1 1)).run Tryd.prog W = .ok (.string t1) W) := fun W hW => by
          rw [HT1.out]
          refine conv1 _ _ (UInt8.ofNat s1.size) ?_
          have hb := (boxed_new W3 #[.int .u8 (s1.size : Int)] 5).below (undrewB hW)
          have := hb.2 0 (by simp)
          have e : ((UInt8.ofNat s1.size).toNat : Int) = (s1.size : Int) := by simp; omega
          rw [e]
          exact this
        have b2 := (x2.below q3).c0
        have b3 := (x2.below q3).c1
        clear hbw hown q2 x2 ht1 ht2 hcm hmay hcmb hck q3
        go_wp2_with fail
        go_region_held (fun w' => w'.cell? ⟨wr.heap.size, 0, none⟩ = some (.string s1) ∧ w'.cell? ⟨wr.heap.size, 1, none⟩ = some (.int .i64 (cm : Int))) (go_keep)
          (first
            | (go_at_call 68; refine (HC.out _).mono ?_; rintro e w3 ⟨rfl, hb3⟩; have hb3' : Below W3.heap.size W3 w3 := (by first | exact undrewB hb3 | exact Below.next HQ3.out (undrewB hb3)); have HB3 := hide hb3'; have m0 := (HX2.out.below hb3').c0; have m1 := (HX2.out.below hb3').c1; have cv2 := HCV.out w3; have cv2d := HCW.out w3; have m6 := World.new_ne w3 _ m0; try (have cv3 := HC3.out w3 hb3); clear hb3 hb3'))
        all_goals first
          | (obtain ⟨W5, hW5, hb5⟩ : ∃ W5, W5 = w3.alloc (.cells #[.int .u8 (s1.size : Int)] 5) ∧ Below W3.heap.size W3 W5 := ⟨_, rfl, Below.next HB3.out (below_new w3 _)⟩
             rw [← hW5])
          | (obtain ⟨W5, hW5, hb5⟩ : ∃ W5, W5 = w3 ∧ Below W3.heap.size W3 W5 := ⟨_, rfl, HB3.out⟩
             rw [← hW5])
        all_goals
          rw [HPA.out]
          obtain ⟨a3, cp3, w4, hrun, hown1, hb4, _⟩ := push_str W0.heap.size _ _ ck 9 W5 W0 W0.heap.size (k + 1) htk (own_below HO.out hb5) (by omega) (Nat.le_trans HBW.out.size hb5.size) (Nat.le_refl _) (Below.next HBW.out hb5)
          rw [← HS.out] at hown1
          have HO4 := hide hown1
          have HB4 := hide hb4
          try clear cv3
          clear hown1 hb4 hb5 hW5 HC HS HBW HO htk c1 c2 cv1 cv1d cv2 cv2d m0 m1 m6 b0 b1 b2 b3 p1 a1 a2
          go_wp2_with (first | (at_builtin; have h0 := hrun; clear hrun; refine wpList_append_run 25 rfl (.tmp 43) (.tmp 45) rfl rfl _ _ rfl rfl _ _ h0 ?_; clear h0))
          go_wp2
          go_roundw
          case rel => exact ⟨k + 1, by omega, by go_num, HO4.out, HB4.out⟩
          case measure => simp [intOf]; omega
      · have hkn : k = n := by omega
        have hall : l.take k = l := by rw [List.take_of_length_le]; have := HN.out; omega
        rw [hall] at hown
        have hs := (rowR_of_owns hown).strs
        have HLY := hide (rlay_any _ (cellsK (m : Int) l) wr (by have := HSZ.out; omega) hs)
        have HBW := hide (Below.next HQ.out hbw)
        have hltI : ¬ (k : Int) < (n : Int) := by omega
        clear hbw hown hkn hs hall htk
        go_wp2_with fail
        refine HLY.out.mono ?_
        rintro e w3 ⟨⟨s, c, rfl, hv⟩, hb3⟩
        have hv2 : s = encK (m : Int) l ∧ c = 0 := by
          rcases hv with ⟨_, h1, h2⟩ | ⟨h, _⟩
          · exact ⟨h1, h2⟩
          · exact absurd HSZ.out h
        obtain ⟨rfl, rfl⟩ := hv2
        have HB3 := hide (Below.next HBW.out hb3)
        clear hv hb3 HLY
        go_wp2
        go_ret2
        exact ⟨.inl ⟨HV.out, rfl⟩, HB3.out⟩

end Go.Proofs.YtagldlchamlpdabDoor
