import Derived.Test.YtdacbajiapdiiaaDoorLBegun
import Derived.Test.YtdacbajiapdiiaaDoorLRise
import Derived.Test.YtdacbajiapdiiaaDoorLSame
import Derived.Test.YtdacbajiapdiiaaDoorLErr13
import Derived.Test.YtdacbajiapdiiaaDoorLErr2
namespace Go.Proofs.YtdacbajiapdiiaaDoor
open Go.RowKit

theorem ok_of_may {l : List Pr} (hmay : ∀ p ∈ l, mayP p = true) : OkL l := fun p hp => by
  have := may_parts' (hmay p hp); omega

set_option maxRecDepth 40000 in
set_option maxHeartbeats 8000000 in
theorem back_any (A : Nat → Addr) (l0 : List Pr) (a : Option Addr) (c : Nat) (key value s : ByteArray) (root : Bool) (cn : Int) (w : World) (hl : l0.length ≤ 4398046510976) (hr : PrR w (.slice a l0.length c) l0) (hE : ErrsG 13 gAll A w) :
    Calls Tryd.prog 4 #[.agg #[.slice a l0.length c, .string key, .string value, .bool root, .int .i64 cn, .string s]] w fun e w' => e = .returned (.bool true) ∧ Below w.heap.size w w' := by
  have hb0 := below_new w (.cells #[.slice a l0.length c, .string key, .string value, .bool root, .int .i64 cn, .string s] 37)
  have hx0 := boxed_new w #[.slice a l0.length c, .string key, .string value, .bool root, .int .i64 cn, .string s] 37
  obtain ⟨W0, hW0⟩ : ∃ W0, W0 = w.alloc (.cells #[.slice a l0.length c, .string key, .string value, .bool root, .int .i64 cn, .string s] 37) := ⟨_, rfl⟩
  rw [← hW0] at hb0 hx0
  have hb1 := below_new W0 (.cells #[.slice a l0.length c, .string key, .string value, .bool root] 24)
  have hx1 := boxed_new W0 #[.slice a l0.length c, .string key, .string value, .bool root] 24
  obtain ⟨W1, hW1⟩ : ∃ W1, W1 = W0.alloc (.cells #[.slice a l0.length c, .string key, .string value, .bool root] 24) := ⟨_, rfl⟩
  rw [← hW1] at hb1 hx1
  have hb2 := below_new W1 (.cells #[.int .i64 cn, .string s] 35)
  have hx2 := boxed_new W1 #[.int .i64 cn, .string s] 35
  obtain ⟨W2, hW2⟩ : ∃ W2, W2 = W1.alloc (.cells #[.int .i64 cn, .string s] 35) := ⟨_, rfl⟩
  rw [← hW2] at hb2 hx2
  have HB2 := hide (Below.next hb0 (Below.next hb1 hb2))
  have HX3 := hide (hx1.below hb2)
  have HX4 := hide hx2
  have HE13 := hide (hE.keep HB2.out)
  have HEC := hide (errC_all HE13.out)
  have HBG := hide (begun_any A W2 HEC.out)
  have HR0 := hide (hr.below HB2.out)
  have hn1 : ¬ w.heap.size = W0.heap.size := by rw [hW0]; simp
  go_enter Tryd.func4, Tryd.ntmps4
  go_wp2_with fail
  rw [← hW0, ← hW1, ← hW2]
  obtain ⟨b3, hb3⟩ : ∃ b3, b3 = w.heap.size + 1 := ⟨_, rfl⟩
  obtain ⟨b4, hb4⟩ : ∃ b4, b4 = b3 + 1 := ⟨_, rfl⟩
  have s0 : W0.heap.size = b3 := by rw [hb3, hW0]; simp
  have s1 : W1.heap.size = b4 := by rw [hb4, hb3, hW1, hW0]; simp
  rw [← hb3, ← hb4]
  rw [s0] at HX3
  rw [s1] at HX4
  refine HBG.out.mono ?_
  rintro e w1 ⟨rfl, hb1'⟩
  have HBW1 := hide hb1'
  have HRI : Hid (Calls Tryd.prog 16 #[.slice a l0.length c, .int .i64 4072] w1 fun e w' => ∃ u, e = .returned u ∧ PrO w' w1.heap.size u (risL 4072 l0) ∧ Below w1.heap.size w1 w') := rising_any _ l0 4072 w1 hl (by decide) (HR0.out.below hb1')
  have k0 : w1.cell? ⟨b3, 0, none⟩ = some (.slice a l0.length c) := (HX3.out.below hb1').2 0 (by simp)
  clear hb0 hx0 hb1 hx1 hb2 hx2 hW0 hW1 hW2 hE hr HBG HR0 hb1' hb3 hb4 hn1 s0 s1
  go_wp2_with fail
  refine HRI.out.mono ?_
  rintro e w2 ⟨u, rfl, hown, hb2⟩
  obtain ⟨l, hle⟩ : ∃ l, l = risL 4072 l0 := ⟨_, rfl⟩
  obtain ⟨hmay, hrise, hsz, hlen⟩ := risK_ok 4072 l0 l0.length
  have hrl : risK 4072 l0 l0.length = l := by rw [hle]; rfl
  rw [hrl] at hmay hrise hsz
  rw [← hle] at hown
  have hln := szL_len l
  have HBW2 := hide (Below.next HBW1.out hb2)
  have HEN := hide (lenc_any A u l w2 (ok_of_may hmay) (by omega) hown.at (HEC.out.below HBW2.out))
  obtain ⟨ua, uc, hu⟩ := hown.form
  obtain ⟨n, hn⟩ : ∃ n, n = l.length := ⟨_, rfl⟩
  rw [← hn] at hu
  subst hu
  have HO := hide hown
  have HN := hide hn
  have hn9 : n ≤ 814 := by omega
  have hck : n ≠ 0 → chk l true = none := fun h => chk_of hmay hrise hsz (fun he => h (by rw [hn, he]; rfl)) (fun h => by cases h)
  have hck0 : n = 0 → ∃ k, chk l true = some k := fun h => by
    have he : l = [] := List.length_eq_zero_iff.1 (by rw [← hn]; exact h)
    exact ⟨3, by rw [he]; rfl⟩
  clear hb2 HRI HBW1 k0 hown hmay hrise hle hrl hlen hsz hln hn
  go_wp2_with fail
  refine HEN.out.mono ?_
  rintro e w3 ⟨hv, hb3⟩
  have HBW3 := hide (Below.next HBW2.out hb3)
  have HO3 := hide (HO.out.below hb3)
  clear hb3 HEN HBW2 HO
  by_cases h0 : n = 0
  · obtain ⟨k, hk⟩ := hck0 h0
    have hv2 : e = .returned (.tuple #[.string ⟨#[]⟩, .iface 119 (.pointer (some (A k)))]) := by
      rcases hv with ⟨h, _⟩ | ⟨k', h, he⟩
      · rw [hk] at h; cases h
      · rw [hk] at h; cases h; exact he
    subst hv2
    have heq := fun W => iface_ne_nil (some (A k)) W
    have heq2 := fun W => iface_eq_nil (some (A k)) W
    have hz1 : decide ((0 : Int) < (n : Int)) = false := decide_eq_false (by omega)
    have hz2 : decide (0 < n) = false := decide_eq_false (by omega)
    have HH0 := hide h0
    have HBZ := HBW3
    clear hv hk hck hck0 h0 HBW3 HO3
    obtain ⟨wz, hwz⟩ : ∃ wz, wz = w3 := ⟨_, rfl⟩
    subst hwz
    have b40 : wz.cell? ⟨b4, 0, none⟩ = some (.int .i64 cn) := (HX4.out.below HBZ.out).2 0 (by simp)
    have b41 : wz.cell? ⟨b4, 1, none⟩ = some (.string s) := (HX4.out.below HBZ.out).2 1 (by simp)
    have HD4 := hide (ldec_any A cn s wz (HEC.out.below HBZ.out))
    go_wp2_with fail
    refine HD4.out.mono ?_
    rintro e wy ⟨hv, hby⟩
    have HBY := hide (Below.next HBZ.out hby)
    clear hby HD4 b40 b41
    rcases hv with ⟨hc0, hdo, u9, rfl, ho9⟩ | ⟨hno9, rfl⟩
    · have hcl := decL_len cn.toNat s.data.toList
      have hlay := dec_enc hdo
      have hch : chk (decL cn.toNat s.data.toList) true = none := hdo.2.2
      obtain ⟨L, hL⟩ : ∃ L, L = decL cn.toNat s.data.toList := ⟨_, rfl⟩
      rw [← hL] at ho9 hcl hlay hch
      have henc : encL L = s := ba_ext' (by simp only [encL]; exact hlay)
      have hcn : (L.length : Int) = cn := by rw [hcl]; omega
      have hln9 := szL_len L
      have hsz9 := (chk_none hch).2.2.1
      have HEN := hide (lenc_any A u9 L wy (ok_of_may (chk_none hch).1) (by omega) ho9.at (HEC.out.below HBY.out))
      have HCK : Hid (∀ W, Below wy.heap.size wy W → Calls Tryd.prog 10 #[u9, .bool true] W fun e w' => e = .returned .nilIface ∧ Below W.heap.size W w') := fun W h => by
        have := lcheck_any A u9 L true W (ok_of_may (chk_none hch).1) (by omega) (ho9.below h).at ((HEC.out.below HBY.out).below h)
        rw [hch] at this
        exact this
      obtain ⟨la, lc, hlf⟩ := ho9.form
      obtain ⟨ln, hlne⟩ : ∃ ln, ln = L.length := ⟨_, rfl⟩
      rw [← hlne] at hlf hcn
      subst hlf
      have HHC := hide hch
      have HEQ := hide henc
      clear hdo ho9 hL hcl hlay hch henc hln9 hsz9 hlne
      go_wp2_with fail
      refine HEN.out.mono ?_
      rintro e wx ⟨hv, hbx⟩
      have hv2 : e = .returned (.tuple #[.string s, .nilIface]) := by
        rcases hv with ⟨_, h⟩ | ⟨k, h, _⟩
        · rw [← HEQ.out]; exact h
        · rw [HHC.out] at h; cases h
      subst hv2
      have HCKX := hide (HCK.out wx hbx)
      have HBX := hide (Below.next HBY.out hbx)
      have c40 : wx.cell? ⟨b4, 0, none⟩ = some (.int .i64 cn) := (HX4.out.below HBX.out).2 0 (by simp)
      have c41 : wx.cell? ⟨b4, 1, none⟩ = some (.string s) := (HX4.out.below HBX.out).2 1 (by simp)
      have e1 : ((ln : Int) == cn) = true := by rw [hcn]; simp
      have HCE := hide hcn
      clear hv hbx HEN HCK HBY HHC HEQ hcn
      go_wp2_with fail
      refine HCKX.out.mono ?_
      rintro e wv ⟨rfl, hbv⟩
      have HBV := hide (Below.next HB2.out (Below.next HBX.out hbv))
      clear hbv HBX HCKX c40 c41
      go_wp2
      go_ret
      exact ⟨rfl, HBV.out⟩
    · have hnn := fun W => iface_ne_nil (some (A 1)) W
      have HNM9 : Hid (Calls Tryd.prog 13 #[.iface 119 (.pointer (some (A 1)))] wy fun e w' => e = .returned (.int .i64 2) ∧ wy = w') := num_err A (some 1) wy (HE13.out.keep HBY.out) (.inr (.inr (.inl rfl)))
      have HBV := hide (Below.next HB2.out HBY.out)
      clear hno9 HBY
      go_wp2_with fail
      refine HNM9.out.mono ?_
      rintro e wv ⟨rfl, rfl⟩
      go_wp2
      go_ret
      exact ⟨rfl, HBV.out⟩
  · have hk := hck h0
    have hv2 : e = .returned (.tuple #[.string (encL l), .nilIface]) := by
      rcases hv with ⟨_, h⟩ | ⟨k', h, _⟩
      · exact h
      · rw [hk] at h; cases h
    subst hv2
    have hED := enc_dec hk
    have hone := fun m (h : DecOk m (layL (l.map cellP))) => dec_one hk h
    have hdl : (encL l).data.toList = layL (l.map cellP) := by simp [encL]
    obtain ⟨S, hS⟩ : ∃ S, S = encL l := ⟨_, rfl⟩
    rw [← hS] at hdl ⊢
    rw [← hdl] at hED hone
    have HD1 := hide (ldec_any A (n : Int) S w3 (HEC.out.below HBW3.out))
    obtain ⟨n1, hn1⟩ : ∃ n1, n1 = n + 1 := ⟨_, rfl⟩
    obtain ⟨n2, hn2⟩ : ∃ n2, n2 = n - 1 := ⟨_, rfl⟩
    have w1e : IntKind.i64.wrap ((n : Int) + 1) = (n1 : Int) := by rw [IntKind.wrap_i64]; omega
    have w2e : IntKind.i64.wrap ((n : Int) - 1) = (n2 : Int) := by rw [IntKind.wrap_i64]; omega
    have HNE : Hid (∀ m : Nat, m ≠ n → ¬ (0 ≤ (m : Int) ∧ DecOk (m : Int).toNat S.data.toList)) := fun m hm h => by
      have := hone m (by have := h.2; simpa using this)
      exact hm (by rw [this, HN.out])
    have HED : Hid (DecOk (n : Int).toNat S.data.toList ∧ decL (n : Int).toNat S.data.toList = l) := by rw [Int.toNat_natCast, HN.out]; exact hED
    have HNN : Hid (n1 ≠ n ∧ n2 ≠ n) := ⟨by omega, by omega⟩
    have hz1 : (0 : Int) < (n : Int) := by omega
    have hz2 : 0 < n := by omega
    clear hv hk hck hck0 hED hone hdl hS hn1 hn2
    go_wp2_with fail
    refine HD1.out.mono ?_
    rintro e w4 ⟨hv, hb4⟩
    have hv2 : ∃ u1, e = .returned (.tuple #[u1, .nilIface]) ∧ PrO w4 w3.heap.size u1 l := by
      rcases hv with ⟨_, _, u1, he, ho⟩ | ⟨h, _⟩
      · rw [HED.out.2] at ho; exact ⟨u1, he, ho⟩
      · exact absurd ⟨by omega, HED.out.1⟩ h
    obtain ⟨u1, rfl, ho1⟩ := hv2
    have HBW4 := hide (Below.next HBW3.out hb4)
    have HO4 := hide (HO3.out.below hb4)
    have HO14 := hide ho1
    have HD2 := hide (ldec_any A (n1 : Int) S w4 (HEC.out.below HBW4.out))
    clear hv hb4 HBW3 HO3 ho1 HD1
    go_wp2_with fail
    refine HD2.out.mono ?_
    rintro e w5 ⟨hv, hb5⟩
    have hv2 : e = .returned (.tuple #[.slice none 0 0, .iface 119 (.pointer (some (A 1)))]) := by
      rcases hv with ⟨h0, h1, _⟩ | ⟨_, h⟩
      · exact absurd ⟨h0, h1⟩ (HNE.out n1 HNN.out.1)
      · exact h
    subst hv2
    have HBW5 := hide (Below.next HBW4.out hb5)
    have HO5 := hide (HO4.out.below hb5)
    have HO15 := hide (HO14.out.below hb5)
    have HD3 := hide (ldec_any A (n2 : Int) S w5 (HEC.out.below HBW5.out))
    clear hv hb5 HBW4 HO4 HO14 HD2
    go_wp2_with fail
    refine HD3.out.mono ?_
    rintro e w6 ⟨hv, hb6⟩
    have hv2 : e = .returned (.tuple #[.slice none 0 0, .iface 119 (.pointer (some (A 1)))]) := by
      rcases hv with ⟨h0, h1, _⟩ | ⟨_, h⟩
      · exact absurd ⟨h0, h1⟩ (HNE.out n2 HNN.out.2)
      · exact h
    subst hv2
    have HBW6 := hide (Below.next HBW5.out hb6)
    have HSM := hide (samep_same _ u1 l w6 (by rw [← HN.out]; omega) (HO5.out.below hb6).at (HO15.out.below hb6).at)
    clear hv hb6 HBW5 HO5 HO15 HD3 HNE HNN HED
    go_wp2_with fail
    refine HSM.out.mono ?_
    rintro e wz ⟨rfl, hbz⟩
    have HBZ := hide (Below.next HBW6.out hbz)
    have HNM : Hid (Calls Tryd.prog 13 #[.iface 119 (.pointer (some (A 1)))] wz fun e w' => e = .returned (.int .i64 2) ∧ wz = w') := num_err A (some 1) wz (HE13.out.keep HBZ.out) (.inr (.inr (.inl rfl)))
    have hnn0 := fun W => iface_ne_nil (some (A 1)) W
    clear hbz HBW6 HSM
    go_wp2_with fail
    refine HNM.out.mono ?_
    rintro e wz' ⟨rfl, rfl⟩
    go_wp2_with fail
    refine HNM.out.mono ?_
    rintro e wz' ⟨rfl, rfl⟩
    clear hnn0
    have b40 : wz.cell? ⟨b4, 0, none⟩ = some (.int .i64 cn) := (HX4.out.below HBZ.out).2 0 (by simp)
    have b41 : wz.cell? ⟨b4, 1, none⟩ = some (.string s) := (HX4.out.below HBZ.out).2 1 (by simp)
    have HD4 := hide (ldec_any A cn s wz (HEC.out.below HBZ.out))
    go_wp2_with fail
    refine HD4.out.mono ?_
    rintro e wy ⟨hv, hby⟩
    have HBY := hide (Below.next HBZ.out hby)
    clear hby HD4 b40 b41
    rcases hv with ⟨hc0, hdo, u9, rfl, ho9⟩ | ⟨hno9, rfl⟩
    · have hcl := decL_len cn.toNat s.data.toList
      have hlay := dec_enc hdo
      have hch : chk (decL cn.toNat s.data.toList) true = none := hdo.2.2
      obtain ⟨L, hL⟩ : ∃ L, L = decL cn.toNat s.data.toList := ⟨_, rfl⟩
      rw [← hL] at ho9 hcl hlay hch
      have henc : encL L = s := ba_ext' (by simp only [encL]; exact hlay)
      have hcn : (L.length : Int) = cn := by rw [hcl]; omega
      have hln9 := szL_len L
      have hsz9 := (chk_none hch).2.2.1
      have HEN := hide (lenc_any A u9 L wy (ok_of_may (chk_none hch).1) (by omega) ho9.at (HEC.out.below HBY.out))
      have HCK : Hid (∀ W, Below wy.heap.size wy W → Calls Tryd.prog 10 #[u9, .bool true] W fun e w' => e = .returned .nilIface ∧ Below W.heap.size W w') := fun W h => by
        have := lcheck_any A u9 L true W (ok_of_may (chk_none hch).1) (by omega) (ho9.below h).at ((HEC.out.below HBY.out).below h)
        rw [hch] at this
        exact this
      obtain ⟨la, lc, hlf⟩ := ho9.form
      obtain ⟨ln, hlne⟩ : ∃ ln, ln = L.length := ⟨_, rfl⟩
      rw [← hlne] at hlf hcn
      subst hlf
      have HHC := hide hch
      have HEQ := hide henc
      clear hdo ho9 hL hcl hlay hch henc hln9 hsz9 hlne
      go_wp2_with fail
      refine HEN.out.mono ?_
      rintro e wx ⟨hv, hbx⟩
      have hv2 : e = .returned (.tuple #[.string s, .nilIface]) := by
        rcases hv with ⟨_, h⟩ | ⟨k, h, _⟩
        · rw [← HEQ.out]; exact h
        · rw [HHC.out] at h; cases h
      subst hv2
      have HCKX := hide (HCK.out wx hbx)
      have HBX := hide (Below.next HBY.out hbx)
      have c40 : wx.cell? ⟨b4, 0, none⟩ = some (.int .i64 cn) := (HX4.out.below HBX.out).2 0 (by simp)
      have c41 : wx.cell? ⟨b4, 1, none⟩ = some (.string s) := (HX4.out.below HBX.out).2 1 (by simp)
      have e1 : ((ln : Int) == cn) = true := by rw [hcn]; simp
      have HCE := hide hcn
      clear hv hbx HEN HCK HBY HHC HEQ hcn
      go_wp2_with fail
      refine HCKX.out.mono ?_
      rintro e wv ⟨rfl, hbv⟩
      have HBV := hide (Below.next HB2.out (Below.next HBX.out hbv))
      clear hbv HBX HCKX c40 c41
      go_wp2
      go_ret
      exact ⟨rfl, HBV.out⟩
    · have hnn := fun W => iface_ne_nil (some (A 1)) W
      have HNM9 : Hid (Calls Tryd.prog 13 #[.iface 119 (.pointer (some (A 1)))] wy fun e w' => e = .returned (.int .i64 2) ∧ wy = w') := num_err A (some 1) wy (HE13.out.keep HBY.out) (.inr (.inr (.inl rfl)))
      have HBV := hide (Below.next HB2.out HBY.out)
      clear hno9 HBY
      go_wp2_with fail
      refine HNM9.out.mono ?_
      rintro e wv ⟨rfl, rfl⟩
      go_wp2
      go_ret
      exact ⟨rfl, HBV.out⟩

end Go.Proofs.YtdacbajiapdiiaaDoor
