import Derived.Test.YtdacbajiapdiiabDoorCBegun
namespace Go.Proofs.YtdacbajiapdiiabDoor
open Go.RowKit

def RReadV (c : Int) (s : ByteArray) (w : World) (e : Ending) (w' : World) : Prop :=
  (0 ≤ c ∧ OkR s.data.toList c.toNat ∧ ∃ a cp, e = .returned (.tuple #[.slice a c.toNat cp, .int .i64 0]) ∧ w'.ownsRow w.heap.size 9 1 (.slice a c.toNat cp) c.toNat (strs (cellsB s.data.toList c.toNat))) ∨
    (¬ (0 ≤ c ∧ OkR s.data.toList c.toNat) ∧ e = .returned (.tuple #[.slice none 0 0, .int .i64 2]))

theorem w_one (x : Nat) (h : x < 256) : IntKind.i64.wrap (x : Int) = (x : Int) := by rw [IntKind.wrap_i64]; omega
theorem w_mul (x : Nat) (h : x < 256) : IntKind.i64.wrap ((x : Int) * 256) = (x : Int) * 256 := by rw [IntKind.wrap_i64]; omega
theorem w_add (x y e : Nat) (h : x < 256) (k : y < 256) (he : e = x * 256 + y) : IntKind.i64.wrap ((x : Int) * 256 + (y : Int)) = (e : Int) := by rw [IntKind.wrap_i64]; omega
theorem v_one (x : Nat) (h : x < 256) : wrap64 (x : Int) = (x : Int) := by unfold wrap64; omega
theorem v_mul (x : Nat) (h : x < 256) : wrap64 ((x : Int) * 256) = (x : Int) * 256 := by unfold wrap64; omega
theorem v_add (x y e : Nat) (h : x < 256) (k : y < 256) (he : e = x * 256 + y) : wrap64 ((x : Int) * 256 + (y : Int)) = (e : Int) := by unfold wrap64; omega

set_option maxRecDepth 100000 in
set_option maxHeartbeats 4000000 in
theorem rread_in (n : Nat) (s : ByteArray) (w : World) (hn : n ≤ 2036) (hsz : s.size = 4072) :
    Calls Tryd.prog 25 #[.int .i64 (n : Int), .string s] w fun e w' => RReadV n s w e w' ∧ Below w.heap.size w w' := by
  have HSZ := hide hsz
  have d1 : ((s.size : Int) != 4072) = false := by rw [hsz]; rfl
  have hnI : (n : Int) ≤ 2036 := by omega
  have hn1 : ¬ (n : Int) < 0 := by omega
  have hn2 : ¬ (2036 : Int) < (n : Int) := by omega
  have hn0 : (0 : Int) ≤ (n : Int) := by omega
  have hwn : IntKind.i64.wrap (2 * (n : Int)) = ((endB s.data.toList n 0 : Nat) : Int) := by rw [IntKind.wrap_i64]; show _ = ((2 * n : Nat) : Int); omega
  have HLB : Hid (s.data.toList.length = 4072) := by show _ = _; rw [bsize]; exact hsz
  clear hsz
  go_enter Tryd.func25, Tryd.ntmps25
  go_wp2_with fail
  go_loopw [6, 7, 8] (fun lv at' i wr => ∃ (k cb : Nat) (ab : Option Addr), k ≤ n ∧ i = .int .i64 k ∧ lv = .slice ab k cb ∧ at' = .int .i64 ((endB s.data.toList n k : Nat) : Int) ∧ endB s.data.toList n k ≤ 4072 ∧ (∀ i, i < k → endB s.data.toList n i ≤ endB s.data.toList n (i + 1) ∧ endB s.data.toList n (i + 1) ≤ 4072) ∧ wr.ownsRow w.heap.size 9 1 (.slice ab k cb) k (strs ((cellsB s.data.toList n).take k)) ∧ Below w.heap.size w wr) (fun _ _ i _ => n - (intOf i).toNat)
  case atStart => exact ⟨0, 0, none, Nat.zero_le _, rfl, rfl, rfl, by show 2 * n ≤ 4072; omega, fun i h => by omega, World.ownsRow_nil _ _ _ _, Below.refl _ _⟩
  case round =>
    obtain ⟨k, cb, ab, hk, rfl, rfl, rfl, h4, hends, hown, hbw⟩ := hrel
    have HEN := hide hends
    clear hends hwn
    by_cases hlt : k < n
    · obtain ⟨p, hp⟩ : ∃ p, p = 2 * k := ⟨_, rfl⟩
      obtain ⟨q, hq⟩ : ∃ q, q = p + 1 := ⟨_, rfl⟩
      have hw : IntKind.i64.wrap (2 * (k : Int)) = (p : Int) := by rw [IntKind.wrap_i64]; omega
      have hw2 : IntKind.i64.wrap ((p : Int) + 1) = (q : Int) := by rw [IntKind.wrap_i64]; omega
      have g1' : p < s.size := by have := HSZ.out; omega
      have g2' : q < s.size := by have := HSZ.out; omega
      have g1 : (p : Int) < (s.size : Int) := by omega
      have g2 : (q : Int) < (s.size : Int) := by omega
      have p0 : (0 : Int) ≤ (p : Int) := by omega
      have q0 : (0 : Int) ≤ (q : Int) := by omega
      obtain ⟨a, ha⟩ : ∃ a, a = endB s.data.toList n k := ⟨_, rfl⟩
      obtain ⟨e, he⟩ : ∃ e, e = endB s.data.toList n (k + 1) := ⟨_, rfl⟩
      have hes : e = s[p].toNat * 256 + s[q].toNat := by
        rw [he]
        show slotN s.data.toList k = _
        subst hq hp
        unfold slotN
        rw [ba_get s _ g1', ba_get s _ g2']
      obtain ⟨x, hx⟩ : ∃ x : Nat, x = s[p].toNat := ⟨_, rfl⟩
      obtain ⟨y, hy⟩ : ∃ y : Nat, y = s[q].toNat := ⟨_, rfl⟩
      have hxl : x < 256 := by rw [hx]; exact s[p].toNat_lt
      have hyl : y < 256 := by rw [hy]; exact s[q].toNat_lt
      rw [← hx, ← hy] at hes
      have HXY : Hid (s[p].toNat = x ∧ s[q].toNat = y) := ⟨hx.symm, hy.symm⟩
      have ex : ((s[p].toNat : Nat) : Int) = (x : Int) := by rw [hx]
      have ey : ((s[q].toNat : Nat) : Int) = (y : Int) := by rw [hy]
      have HW := hide (And.intro (And.intro ex ey) (And.intro (And.intro (w_one x hxl) (w_one y hyl)) (And.intro (And.intro (w_mul x hxl) (w_add x y e hxl hyl hes)) (And.intro (And.intro (v_one x hxl) (v_one y hyl)) (And.intro (v_mul x hxl) (v_add x y e hxl hyl hes))))))
      have HW2 := hide (And.intro hw hw2)
      clear ex ey hw hw2 HXY
      rw [← ha] at h4 ⊢
      have HA : Hid (a = endB s.data.toList n k ∧ e = endB s.data.toList n (k + 1)) := ⟨ha, he⟩
      have HOW := hide hown
      have HBW := hide hbw
      have hltI : (k : Int) < (n : Int) := by omega
      clear ha he hown hbw hx hy hp hq hes
      by_cases hbad : e < a
      · have hbadI : (e : Int) < (a : Int) := by omega
        have HV : Hid (¬ (0 ≤ (n : Int) ∧ OkR s.data.toList (n : Int).toNat)) := fun h => by
          have := (h.2.2.1 k hlt).1
          rw [Int.toNat_natCast, ← HA.out.1, ← HA.out.2] at this
          omega
        obtain ⟨⟨ex, ey⟩, ⟨w1, w2⟩, ⟨w3, w4⟩, ⟨v1, v2⟩, v3, v4⟩ := HW.out
        obtain ⟨hw, hw2⟩ := HW2.out
        clear HW HW2
        go_wp2
        go_quiet (fail)
        go_wp2
        go_ret2
        exact ⟨.inr ⟨HV.out, rfl⟩, below_drewN' HBW.out _⟩
      · have hbadI : ¬ (e : Int) < (a : Int) := by omega
        by_cases hbig : 4072 < e
        · have hbigI : (4072 : Int) < (e : Int) := by omega
          have HV : Hid (¬ (0 ≤ (n : Int) ∧ OkR s.data.toList (n : Int).toNat)) := fun h => by
            have := (h.2.2.1 k hlt).2
            rw [Int.toNat_natCast, ← HA.out.2] at this
            omega
          obtain ⟨⟨ex, ey⟩, ⟨w1, w2⟩, ⟨w3, w4⟩, ⟨v1, v2⟩, v3, v4⟩ := HW.out
          obtain ⟨hw, hw2⟩ := HW2.out
          clear HW HW2
          go_wp2
          go_quiet (fail)
          go_wp2
          go_ret2
          exact ⟨.inr ⟨HV.out, rfl⟩, below_drewN' HBW.out _⟩
        · have hbigI : ¬ (4072 : Int) < (e : Int) := by omega
          have s1 : (a : Int) ≤ (e : Int) := by omega
          have s2 : (e : Int) ≤ (s.size : Int) := by have := HSZ.out; omega
          have s3 : (0 : Int) ≤ (a : Int) := by omega
          have hkc : k < (cellsB s.data.toList n).length := by rw [cellsB_len]; exact hlt
          have HC : Hid (s.extract a e = (cellsB s.data.toList n)[k]) := by
            refine ba_ext ?_
            rw [ext_toList, cellsB_get, HA.out.1, HA.out.2]; rfl
          obtain ⟨cx, hcx⟩ : ∃ cx, cx = s.extract a e := ⟨_, rfl⟩
          have HAP : Hid (∀ W : World, Below w.heap.size w W → W.ownsRow w.heap.size 9 1 (.slice ab k cb) k (strs ((cellsB s.data.toList n).take k)) → ∃ a' cap' w', (Builtin.append_ #[53, 53] 53 #[.slice ab k cb, .slice (some ⟨W.heap.size, 0, none⟩) 1 1]).run Tryd.prog (W.alloc (.cells #[.string cx] 9)) = .ok (.slice a' (k + 1) cap') w' ∧ w'.ownsRow w.heap.size 9 1 (.slice a' (k + 1) cap') (k + 1) (strs ((cellsB s.data.toList n).take (k + 1))) ∧ Below w.heap.size w w') := fun W hbW hoW => by
            obtain ⟨a2, c2, w2, hrun2, ho2, hg2⟩ := append_row 53 9 _ 16 info9 Tryd.underlying53 rfl w.heap.size k (.slice ab k cb) _ (W.alloc (.cells #[.string cx] 9)) (owns_below hoW (below_new W _)) (.slice (some ⟨W.heap.size, 0, none⟩) 1 1) (strs [cx]) (lit_row W (strs [cx]) 9 1 rfl (by decide)) (strs_one _) (by rw [strs_length]; show (k + 1) * 16 ≤ _; omega) (by decide) (by have := hbW.size; simp; omega)
            rw [strs_length, show ([cx] : List ByteArray).length = 1 from rfl] at hrun2 ho2
            rw [← strs_append, hcx, HC.out, ← List.take_succ_eq_append_getElem hkc] at ho2
            exact ⟨a2, c2, w2, hrun2, ho2, (hbW.alloc (by have := hbW.size; omega) _).grown hg2 (by have := hbW.size; simp; omega) (fun j hj => (hoW.lt j hj).1)⟩
          have HOD : Hid (∀ m, (wr.drewN m).ownsRow w.heap.size 9 1 (.slice ab k cb) k (strs ((cellsB s.data.toList n).take k))) := fun m => HOW.out
          have HBD : Hid (∀ m, Below w.heap.size w (wr.drewN m)) := fun m => below_drewN' HBW.out m
          have hcx2 : s.extract a e = cx := hcx.symm
          clear hcx HC HOW HBW
          obtain ⟨⟨ex, ey⟩, ⟨w1, w2⟩, ⟨w3, w4⟩, ⟨v1, v2⟩, v3, v4⟩ := HW.out
          obtain ⟨hw, hw2⟩ := HW2.out
          clear HW HW2
          go_wp2
          go_quiet (fail)
          clear ex ey w1 w2 w3 w4 v1 v2 v3 v4 hw hw2
          obtain ⟨a2, c2, w2, hrun2, ho2, hb2⟩ := HAP.out (wr.drewN nq) (HBD.out nq) (HOD.out nq)
          have HO2 := hide ho2
          have HB2 := hide hb2
          clear ho2 hb2 HAP HOD HBD
          go_wp2_with (first | (at_builtin; refine wpList_append_run 53 rfl (.tmp 49) (.tmp 54) rfl rfl _ _ rfl rfl _ _ hrun2 ?_))
          refine ⟨⟨k + 1, c2, a2, by omega, by go_num, rfl, by rw [← HA.out.2], by rw [← HA.out.2]; omega, fun i hi => ?_, HO2.out, HB2.out⟩, ?_⟩
          · by_cases hik : i = k
            · subst hik; rw [← HA.out.1, ← HA.out.2]; omega
            · exact HEN.out i (by omega)
          · simp only [intOf]
            omega
    · have hkn : k = n := by omega
      have hltI : ¬ (k : Int) < (n : Int) := by omega
      subst hkn
      have HOW : Hid (wr.ownsRow w.heap.size 9 1 (.slice ab k cb) k (strs (cellsB s.data.toList k))) := by
        rw [List.take_of_length_le (by rw [cellsB_len]; exact Nat.le_refl _)] at hown; exact hown
      have HBW := hide hbw
      obtain ⟨a, ha⟩ : ∃ a, a = endB s.data.toList k k := ⟨_, rfl⟩
      rw [← ha] at h4 ⊢
      have HAE := hide ha
      clear ha hown hbw
      go_wp2_with fail
      generalize wr = W1 at *
      go_loop [10] (fun i => ∃ j : Nat, a ≤ j ∧ j ≤ 4072 ∧ i = .int .i64 j ∧ ∀ q, a ≤ q → q < j → s.data.toList.getD q 0 = 0) (fun i => 4072 - (intOf i).toNat)
      case atStart => exact ⟨a, Nat.le_refl _, h4, rfl, fun q h1 h2 => by omega⟩
      case round =>
        obtain ⟨j, hj1, hj2, rfl, hz⟩ := hrel
        have HZ := hide hz
        clear hz
        by_cases hj : j < 4072
        · have js : j < s.size := by have := HSZ.out; omega
          have jI : (j : Int) < (s.size : Int) := by omega
          have j4 : (j : Int) < 4072 := by omega
          have HG := hide (ba_get s j js)
          by_cases hb : s[j] = 0
          · have d2 : ((s[j].toNat : Int) != 0) = false := by rw [hb]; rfl
            have HB0 := hide hb
            clear hb
            go_wp2
            go_round
            case rel =>
              refine ⟨j + 1, by omega, by omega, by go_num, fun q h1 h2 => ?_⟩
              by_cases hq : q = j
              · subst hq; rw [HG.out]; exact HB0.out
              · exact HZ.out q h1 (by omega)
            case measure => simp [intOf]; omega
          · have d2 : ((s[j].toNat : Int) != 0) = true := by
              rw [bne_iff_ne]
              intro h
              exact hb (UInt8.toNat_inj.1 (by simpa using h))
            have HV : Hid (¬ (0 ≤ (k : Int) ∧ OkR s.data.toList (k : Int).toNat)) := fun h => hb (by
              have := h.2.2.2 j (by rw [Int.toNat_natCast, ← HAE.out]; exact hj1) hj
              rw [HG.out] at this; exact this)
            clear hb
            go_wp2
            go_ret2
            exact ⟨.inr ⟨HV.out, rfl⟩, HBW.out⟩
        · have j4 : ¬ (j : Int) < 4072 := by omega
          have HOK : Hid (OkR s.data.toList k) := ⟨⟨hn, HLB.out⟩, HEN.out, fun q h1 h2 => HZ.out q (by rw [HAE.out]; exact h1) (by omega)⟩
          clear HZ
          go_wp2
          go_ret2
          exact ⟨.inl ⟨hn0, HOK.out, ab, cb, rfl, HOW.out⟩, HBW.out⟩

set_option maxHeartbeats 1000000 in
theorem rread_any (c : Int) (s : ByteArray) (w : World) :
    Calls Tryd.prog 25 #[.int .i64 c, .string s] w fun e w' => RReadV c s w e w' ∧ Below w.heap.size w w' := by
  by_cases h : (0 ≤ c ∧ c ≤ 2036) ∧ s.size = 4072
  · obtain ⟨n, rfl⟩ := Int.eq_ofNat_of_zero_le h.1.1
    exact rread_in n s w (by omega) h.2
  · have HV : Hid (¬ (0 ≤ c ∧ OkR s.data.toList c.toNat)) := fun hh => h ⟨⟨hh.1, by have := hh.2.1.1; omega⟩, by have := hh.2.1.2; rw [bsize] at this; exact this⟩
    by_cases h1 : c < 0
    · clear h
      go_enter Tryd.func25, Tryd.ntmps25
      go_wp2
      go_ret2
      exact ⟨.inr ⟨HV.out, rfl⟩, Below.refl _ _⟩
    · by_cases h2 : 2036 < c
      · clear h
        go_enter Tryd.func25, Tryd.ntmps25
        go_wp2
        go_ret2
        exact ⟨.inr ⟨HV.out, rfl⟩, Below.refl _ _⟩
      · have d1 : ((s.size : Int) != 4072) = true := by
          rw [bne_iff_ne]; intro he
          exact h ⟨⟨by omega, by omega⟩, by omega⟩
        clear h
        go_enter Tryd.func25, Tryd.ntmps25
        go_wp2
        go_ret2
        exact ⟨.inr ⟨HV.out, rfl⟩, Below.refl _ _⟩

end Go.Proofs.YtdacbajiapdiiabDoor
