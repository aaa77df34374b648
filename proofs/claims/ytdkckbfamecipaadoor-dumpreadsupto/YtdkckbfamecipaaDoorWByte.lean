import Derived.Test.YtdkckbfamecipaaDoorWParse2
import Derived.OwnWalk
namespace Go.Proofs.YtdkckbfamecipaaDoor
open Go.RowKit

/-- What cutByte answers. -/
def ByV (l : List UInt8) (e : Ending) : Prop := ∃ (b : UInt8) (q : ByteArray) (ok : Bool), e = .returned (.tuple #[.int .u8 (b.toNat : Int), .string q, .bool ok]) ∧ byteD l = (if ok = true then some (b, q.data.toList) else none)
theorem conv_u8 (n : Nat) (h : n < 256) : ((UInt8.ofNat n).toNat : Int) = (n : Int) := by
  rw [UInt8.toNat_ofNat', Nat.mod_eq_of_lt h]
set_option maxHeartbeats 4000000 in
set_option maxRecDepth 100000 in
theorem byte_any (s : ByteArray) (te : TypeId) (pe : Value) (w : World) (h0 : 0 < s.size) (hs : s.size ≤ 140737488355328) (hv : w.cell? ⟨19, 0, none⟩ = some (.iface te pe)) :
    Calls Tryd.prog 32 #[.string s] w fun e w' => ByV s.data.toList e ∧ Below w.heap.size w w' := by
  have HL := hide (toList_first s h0)
  have h0I : (0 : Int) < (s.size : Int) := by omega
  have h1I : (1 : Int) ≤ (s.size : Int) := by omega
  obtain ⟨Q, hQ⟩ : ∃ Q : Ending → Prop, Q = ByV s.data.toList := ⟨_, rfl⟩
  rw [← hQ]
  have HQ : Hid (∀ (b : UInt8) (q : ByteArray) (ok : Bool), byteD s.data.toList = (if ok = true then some (b, q.data.toList) else none) → Q (.returned (.tuple #[.int .u8 (b.toNat : Int), .string q, .bool ok]))) := fun b q ok h => by rw [hQ]; exact ⟨b, q, ok, rfl, h⟩
  clear hQ
  have HD1 : Hid ((s.extract 1 s.size).data.toList = s.data.toList.drop 1) := by
    show _ = _
    rw [ba_tail]; rfl
  by_cases hc : s[0] = 92
  · have hcI : ((s[0].toNat : Int) != 92) = false := by rw [hc]; rfl
    by_cases h2 : 2 ≤ s.size
    · have h2I : (2 : Int) ≤ (s.size : Int) := by omega
      have h2I' : (1 : Int) < (s.size : Int) := by omega
      have h2N' : 1 < s.size := by omega
      have HL2 : Hid (s.data.toList = (92 : UInt8) :: s[1] :: s.data.toList.drop 2) := by
        show _ = _
        have := drop_cons s 1 h2N'
        rw [HL.out, this, hc]; simp
      have HN := hide (needs_any s[1])
      have HD2 : Hid ((s.extract 2 s.size).data.toList = s.data.toList.drop 2) := by
        show _ = _
        rw [ba_tail]; rfl
      by_cases hn : needB s[1] = true
      · rw [hn] at HN
        have HR : Hid (Q (.returned (.tuple #[.int .u8 (s[1].toNat : Int), .string (s.extract 2 s.size), .bool true]))) := HQ.out _ _ true (by
          rw [if_pos rfl, HD2.out, HL2.out, byteD_cons, if_pos rfl, escD_cons, if_pos ((need_iff _).1 hn)]; simp)
        clear hn hc
        go_enter Tryd.func32, Tryd.ntmps32
        go_wp2_with (go_at_call 44; refine (HN.out _).mono ?_; rintro e w1 ⟨rfl, rfl⟩)
        go_quiet (fail)
        go_wp2
        go_ret3
        exact ⟨HR.out, below_drewN' (Below.refl _ _) _⟩
      · have hnf : needB s[1] = false := by simpa using hn
        rw [hnf] at HN
        have hnn : ¬ (s[1] = 34 ∨ s[1] = 92) := fun h => hn ((need_iff _).2 h)
        by_cases hx : s[1] = 120
        · by_cases h4 : 4 ≤ s.size
          · have h4I : (4 : Int) ≤ (s.size : Int) := by omega
            have hxI : ((s[1].toNat : Int) == 120) = true := by rw [hx]; rfl
            obtain ⟨t, ht⟩ : ∃ t, t = s.extract 2 4 := ⟨_, rfl⟩
            have h2' : 2 < s.size := by omega
            have h3' : 3 < s.size := by omega
            have htl : t.data.toList = [s[2], s[3]] := by
              rw [ht, ext_toList, drop_cons s 2 h2', drop_cons s 3 h3']; rfl
            have hts : t.size = 2 := by rw [← bsize, htl]; rfl
            have HL4 : Hid (s.data.toList = (92 : UInt8) :: 120 :: s[2] :: s[3] :: s.data.toList.drop 4) := by
              show _ = _
              rw [← drop_cons s 3 h3', ← drop_cons s 2 h2', ← hx]
              exact HL2.out
            have HD4 : Hid ((s.extract 4 s.size).data.toList = s.data.toList.drop 4) := by
              show _ = _
              rw [ba_tail]; rfl
            have HPU := hide (puint_any t hts te pe w hv)
            rw [htl] at HPU
            have HT : Hid (t = s.extract 2 4) := ht
            have hbd : byteD s.data.toList = (match hex2 s[2] s[3] with | some b => some (b, s.data.toList.drop 4) | none => none) := by
              conv => lhs; rw [HL4.out, byteD_cons, if_pos rfl, escD_cons, if_neg (by decide), if_pos rfl]
              rfl
            rw [hex2_par] at hbd
            rcases hp : par16 0 [s[2], s[3]] with _ | n
            · rw [hp] at HPU hbd
              have HR : Hid (∀ b : UInt8, Q (.returned (.tuple #[.int .u8 (b.toNat : Int), .string (s.extract 4 s.size), .bool false]))) := fun b => HQ.out _ _ false (by rw [hbd]; simp)
              have HR0 := hide (HR.out 0)
              clear hbd hp hn hnn hx hc htl hts ht hv
              go_enter Tryd.func32, Tryd.ntmps32
              go_wp2_with (first | (go_at_call 44; refine (HN.out _).mono ?_; rintro e w1 ⟨rfl, rfl⟩))
              rw [← HT.out]
              refine HPU.out.mono ?_
              rintro e w1 ⟨⟨n, h, _⟩ | ⟨_, M, rfl⟩, hb1⟩
              · cases h
              go_wp2
              go_quiet (fail)
              go_wp2
              go_ret3
              exact ⟨HR0.out, below_drewN' hb1 _⟩
            · rw [hp] at HPU hbd
              have hn256 := par16_lt hp
              have hcv : IntKind.u8.wrap (n : Int) = ((UInt8.ofNat n).toNat : Int) := by
                rw [conv_u8 n hn256, IntKind.wrap_u8]; omega
              have HR : Hid (Q (.returned (.tuple #[.int .u8 ((UInt8.ofNat n).toNat : Int), .string (s.extract 4 s.size), .bool true]))) := HQ.out _ _ true (by rw [hbd, if_pos rfl, HD4.out]; simp)
              obtain ⟨bn, hbn⟩ : ∃ bn : Int, bn = ((UInt8.ofNat n).toNat : Int) := ⟨_, rfl⟩
              rw [← hbn] at HR hcv
              clear hbd hp hn hnn hx hc htl hts ht hv hbn
              go_enter Tryd.func32, Tryd.ntmps32
              go_wp2_with (first | (go_at_call 44; refine (HN.out _).mono ?_; rintro e w1 ⟨rfl, rfl⟩))
              rw [← HT.out]
              refine HPU.out.mono ?_
              rintro e w1 ⟨⟨n', h, rfl⟩ | ⟨h, _⟩, hb1⟩
              rotate_left
              · cases h
              simp only [Option.some.injEq] at h
              subst h
              go_wp2
              go_quiet (fail)
              go_wp2
              go_ret3
              exact ⟨HR.out, below_drewN' hb1 _⟩
          · have h4I : ¬ (4 : Int) ≤ (s.size : Int) := by omega
            have HR : Hid (Q (.returned (.tuple #[.int .u8 ((0 : UInt8).toNat : Int), .string ⟨#[]⟩, .bool false]))) := HQ.out _ _ false (by
              rw [if_neg (by decide)]
              rw [HL2.out, byteD_cons, if_pos rfl, escD_cons, if_neg hnn, if_pos hx]
              have hl : (s.data.toList.drop 2).length ≤ 1 := by rw [List.length_drop, bsize]; omega
              match s.data.toList.drop 2, hl with
              | [], _ => rfl
              | [_], _ => rfl)
            clear hn hnn hx hc
            go_enter Tryd.func32, Tryd.ntmps32
            go_wp2_with (go_at_call 44; refine (HN.out _).mono ?_; rintro e w1 ⟨rfl, rfl⟩)
            go_ret3
            exact ⟨HR.out, Below.refl _ _⟩
        · have hxI : ((s[1].toNat : Int) == 120) = false := u8_ne (k := 120) (by decide) hx
          have HR : Hid (Q (.returned (.tuple #[.int .u8 ((0 : UInt8).toNat : Int), .string ⟨#[]⟩, .bool false]))) := HQ.out _ _ false (by
            rw [if_neg (by decide)]
            rw [HL2.out, byteD_cons, if_pos rfl, escD_cons, if_neg hnn, if_neg hx])
          clear hn hnn hx hc
          by_cases h4 : 4 ≤ s.size
          · have h4I : (4 : Int) ≤ (s.size : Int) := by omega
            go_enter Tryd.func32, Tryd.ntmps32
            go_wp2_with (go_at_call 44; refine (HN.out _).mono ?_; rintro e w1 ⟨rfl, rfl⟩)
            go_ret3
            exact ⟨HR.out, Below.refl _ _⟩
          · have h4I : ¬ (4 : Int) ≤ (s.size : Int) := by omega
            go_enter Tryd.func32, Tryd.ntmps32
            go_wp2_with (go_at_call 44; refine (HN.out _).mono ?_; rintro e w1 ⟨rfl, rfl⟩)
            go_ret3
            exact ⟨HR.out, Below.refl _ _⟩
    · have h2I : ¬ (2 : Int) ≤ (s.size : Int) := by omega
      have h4I : ¬ (4 : Int) ≤ (s.size : Int) := by omega
      have HR : Hid (Q (.returned (.tuple #[.int .u8 ((0 : UInt8).toNat : Int), .string ⟨#[]⟩, .bool false]))) := HQ.out _ _ false (by
        rw [if_neg (by decide), HL.out, hc, List.drop_eq_nil_of_le (by rw [bsize]; omega)]
        rfl)
      clear hc
      go_enter Tryd.func32, Tryd.ntmps32
      go_wp2
      go_ret3
      exact ⟨HR.out, Below.refl _ _⟩
  · have hcI : ((s[0].toNat : Int) != 92) = true := by
      rw [bne_iff_ne]
      intro e
      exact hc (UInt8.toNat_inj.1 (show _ = 92 by omega))
    have HS := hide (seen_any s[0])
    have HR : Hid (Q (.returned (.tuple #[.int .u8 (s[0].toNat : Int), .string (s.extract 1 s.size), .bool (seenB s[0])]))) := HQ.out _ _ _ (by
      rw [HD1.out]
      conv => lhs; rw [HL.out, byteD_cons, if_neg hc])
    clear hc hv
    go_enter Tryd.func32, Tryd.ntmps32
    go_wp2
    go_quiet ((go_at_call 43; exact Calls.quiet_of_same ((HS.out _).mono fun e w1 hh => ⟨hh.1, hh.2.symm⟩)))
    go_wp2
    go_ret3
    exact ⟨HR.out, below_drewN' (Below.refl _ _) _⟩
end Go.Proofs.YtdkckbfamecipaaDoor
