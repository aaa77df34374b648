import Derived.Test.YtageokjobbjddaaGreatDoorGRV
namespace Go.Proofs.YtageokjobbjddaaGreatDoor
open Go.RowKit

theorem Bs.in_quo {z : Bool} {r m : List UInt8} (h : Bs z (34 :: r) m) : ∃ m', m = 34 :: m' ∧ Bs (!z) r m' := by
  cases h with
  | quo _ h2 => exact ⟨_, rfl, h2⟩
  | one _ _ h1 _ _ _ => exact absurd rfl h1
theorem Bs.in_sp {r m : List UInt8} (h : Bs false (32 :: r) m) : ∃ m', Bs false r m' := by
  cases h with
  | sp _ h2 => exact ⟨_, h2⟩
  | one _ _ _ h1 _ _ => exact absurd ⟨rfl, rfl⟩ h1
theorem Bs.in_one {z : Bool} {c : UInt8} {r m : List UInt8} (h : Bs z (c :: r) m) (h1 : c ≠ 34) (h2 : ¬ (z = false ∧ c = 32)) (h3 : ¬ (z = true ∧ c = 92)) : ∃ m', Bs z r m' := by
  cases h with
  | esc _ _ => exact absurd ⟨rfl, rfl⟩ h3
  | quo _ _ => exact absurd rfl h1
  | sp _ _ => exact absurd ⟨rfl, rfl⟩ h2
  | one _ _ _ _ _ h => exact ⟨_, h⟩
theorem Bs.in_esc {r m : List UInt8} (h : Bs true (92 :: r) m) : ∃ c r' m', r = c :: r' ∧ Bs true r' m' := by
  cases h with
  | esc c h2 => exact ⟨c, _, _, rfl, h2⟩
  | one _ _ _ _ h3 _ => exact absurd ⟨rfl, rfl⟩ h3
/-- Where blanks stands: the bytes that are written, and what may come yet. -/
structure BlS (s : ByteArray) (I : Nat) (z : Bool) (o : List UInt8) : Prop where
  wf : ∃ m, Bs z (s.data.toList.drop I) m
  out : ∃ p, o = 32 :: p ∧ ∀ m, Bs z (s.data.toList.drop I) m → Bs false s.data.toList (p ++ m)
theorem BlS.start {s : ByteArray} (h : ∃ m, Bs false s.data.toList m) : BlS s 0 false [32] := ⟨by rw [List.drop_zero]; exact h, [], rfl, fun m hm => by rw [List.drop_zero] at hm; exact hm⟩
theorem BlS.done {s : ByteArray} {z : Bool} {o : List UInt8} {I : Nat} (h : BlS s I z o) (hI : ¬ I < s.size) : ∃ p, o = 32 :: p ∧ Bs false s.data.toList p := by
  obtain ⟨p, rfl, hp⟩ := h.out
  rw [q_drop_end s I (by omega)] at hp
  have := hp [] (.nil _)
  rw [List.append_nil] at this
  exact ⟨p, rfl, this⟩
theorem BlS.one {s : ByteArray} {I : Nat} {z : Bool} {o : List UInt8} (h : BlS s I z o) (hI : I < s.size) (h1 : s[I] ≠ 34) (h2 : ¬ (z = false ∧ s[I] = 32)) (h3 : ¬ (z = true ∧ s[I] = 92)) : BlS s (I + 1) z (o ++ [s[I]]) := by
  obtain ⟨p, rfl, hp⟩ := h.out
  obtain ⟨m0, hm0⟩ := h.wf
  rw [q_drop s I hI] at hp hm0
  exact ⟨hm0.in_one h1 h2 h3, p ++ [s[I]], rfl, fun m hm => by rw [List.append_assoc]; exact hp _ (.one z _ h1 h2 h3 hm)⟩
theorem BlS.quo {s : ByteArray} {I : Nat} {z : Bool} {o : List UInt8} (h : BlS s I z o) (hI : I < s.size) (h1 : s[I] = 34) : BlS s (I + 1) (!z) (o ++ [s[I]]) := by
  obtain ⟨p, rfl, hp⟩ := h.out
  obtain ⟨m0, hm0⟩ := h.wf
  rw [q_drop s I hI, h1] at hp hm0
  obtain ⟨m1, rfl, h2⟩ := hm0.in_quo
  exact ⟨⟨m1, h2⟩, p ++ [s[I]], rfl, fun m hm => by rw [List.append_assoc, h1]; exact hp _ (.quo z hm)⟩
theorem BlS.sp {s : ByteArray} {I : Nat} {o : List UInt8} (h : BlS s I false o) (hI : I < s.size) (h1 : s[I] = 32) (k : Nat) : BlS s (I + 1) false (o ++ [s[I]] ++ List.replicate k 32) := by
  obtain ⟨p, rfl, hp⟩ := h.out
  obtain ⟨m0, hm0⟩ := h.wf
  rw [q_drop s I hI, h1] at hp hm0
  exact ⟨hm0.in_sp, p ++ [s[I]] ++ List.replicate k 32, rfl, fun m hm => by rw [List.append_assoc, List.append_assoc, h1]; exact hp _ (.sp k hm)⟩
theorem BlS.esc {s : ByteArray} {I : Nat} {o : List UInt8} (h : BlS s I true o) (hI : I < s.size) (h1 : s[I] = 92) : ∃ hI2 : I + 1 < s.size, BlS s (I + 2) true (o ++ [s[I]] ++ [s[I + 1]]) := by
  obtain ⟨p, rfl, hp⟩ := h.out
  obtain ⟨m0, hm0⟩ := h.wf
  rw [q_drop s I hI, h1] at hp hm0
  obtain ⟨c, r', m', hr, h2⟩ := hm0.in_esc
  have hI2 : I + 1 < s.size := by
    rcases Nat.lt_or_ge (I + 1) s.size with h | h
    · exact h
    · rw [q_drop_end s (I + 1) (by omega)] at hr; cases hr
  rw [q_drop s (I + 1) hI2] at hr hp
  obtain ⟨rfl, rfl⟩ := List.cons.inj hr
  exact ⟨hI2, ⟨m', h2⟩, p ++ [s[I]] ++ [s[I + 1]], rfl, fun m hm => by rw [List.append_assoc, List.append_assoc, h1]; exact hp _ (.esc _ hm)⟩
theorem rep_snoc (k : Nat) : List.replicate k (32 : UInt8) ++ [32] = List.replicate (k + 1) 32 := by rw [List.replicate_succ', ]
set_option maxHeartbeats 8000000 in
set_option maxRecDepth 100000 in
theorem blanks_any (s : ByteArray) (lv : Value) (l : List Int) (w : World) (hs : s.size ≤ 1000000) (hl : InsAt w lv l) (hwf : ∃ m, Bs false s.data.toList m) :
    Calls Tryz.prog 8 #[.string s, lv] w fun e w' => ∃ m : List UInt8, e = .returned (.string ⟨(32 :: (m ++ [32])).toArray⟩) ∧ Bs false s.data.toList m ∧ m.length ≤ 2000000 ∧ Below w.heap.size w w' := by
  obtain ⟨la, lc, rfl⟩ := hl.form
  have hl2 := hl.len
  have HL := hide (fun W (hW : Below w.heap.size w W) => hl.keep hW)
  have HPK := hide (fun k W => kpick_any k 20 W (by decide) (by decide))
  have HB0 := hide (byt_one w 32)
  have HG0 := hide (Gr.of (below_new w (.cells #[.int .u8 32] 5)) (Nat.le_refl _))
  have HS0 := hide (BlS.start hwf)
  clear hl hwf
  go_enter Tryz.func8, Tryz.ntmps8
  go_wp2_with fail
  go_loopw [5, 6, 7, 8, 9] (fun ov zv nv iv _ wr => ∃ (I : Nat) (z : Bool) (n : Nat) (o : List UInt8) (a : Option Addr) (c : Nat), ov = .slice a o.length c ∧ zv = .bool z ∧ nv = .int .i64 (n : Int) ∧ iv = .int .i64 (I : Int) ∧ I ≤ s.size ∧ n ≤ I ∧ 1 ≤ o.length ∧ o.length ≤ 65537 + I ∧ Hid (BlS s I z o) ∧ Hid (Byt wr w.heap.size (.slice a o.length c) o) ∧ Hid (Gr w.heap.size w wr)) (fun _ _ _ iv _ _ => s.size - (intOf iv).toNat)
  case atStart => exact ⟨0, false, 0, [32], _, 1, rfl, rfl, rfl, rfl, Nat.zero_le _, Nat.le_refl _, by decide, by decide, HS0.out, HB0.out, HG0.out⟩
  case round =>
    obtain ⟨I, z, n, o, a, c, rfl, rfl, rfl, rfl, hI, hnI, ho1, ho, hst, hby, hgr⟩ := hrel
    have hbs : w.heap.size ≤ wr.heap.size := hgr.out.size
    by_cases hlt : I < s.size
    · have j1 : (I : Int) < (s.size : Int) := by omega
      have j0 : (0 : Int) ≤ (I : Int) := by omega
      obtain ⟨a3, c3, w3, hr3, hb3, hg3⟩ := byt_push hby.out [s[I]] #[.int .u8 (s[I].toNat : Int)] 1 rfl rfl (by decide) (by omega) hbs wr.heap.size rfl
      have hle : (o ++ [s[I]]).length = o.length + 1 := by simp
      rw [hle] at hr3
      have HR3 := hide hr3
      have HB3 := hide hb3
      have HG3 := hide (hgr.out.trans hg3)
      have hbs3 : w.heap.size ≤ w3.heap.size := HG3.out.size
      clear hr3 hb3 hg3 hby hgr
      by_cases hA : z = true ∧ s[I] = 92
      · obtain ⟨rfl, h92⟩ := hA
        have e92 : ((s[I].toNat : Int) == 92) = true := by rw [h92]; rfl
        obtain ⟨hI2, hst2⟩ := hst.out.esc hlt h92
        have k1 : (I : Int) + 1 < (s.size : Int) := by omega
        have k0 : (0 : Int) ≤ (I : Int) + 1 := by omega
        obtain ⟨a4, c4, w4, hr4, hb4, hg4⟩ := byt_push HB3.out [s[I + 1]] #[.int .u8 (s[I + 1].toNat : Int)] 1 rfl rfl (by decide) (by omega) hbs3 w3.heap.size rfl
        have hle4 : (o ++ [s[I]] ++ [s[I + 1]]).length = o.length + 1 + 1 := by simp
        rw [hle4, hle] at hr4
        have HR4 := hide hr4
        have HB4 := hide hb4
        have HG4 := hide (HG3.out.trans hg4)
        have HST := hide hst2
        clear hr4 hb4 hg4 hst hst2 h92
        go_wp2_with (first
          | (at_builtin; refine wpList_append_run2 48 48 rfl _ _ rfl rfl _ _ rfl rfl _ _ HR3.out ?_)
          | (at_builtin; refine wpList_append_run2 48 48 rfl _ _ rfl rfl _ _ rfl rfl _ _ HR4.out ?_)
          | fail)
        go_roundw
        case rel => exact ⟨I + 2, true, n, o ++ [s[I]] ++ [s[I + 1]], a4, c4, by rw [hle4], rfl, rfl, by go_num, by omega, by omega, by rw [hle4]; omega, by rw [hle4]; omega, HST, HB4, HG4⟩
        case measure => simp [intOf]; omega
      by_cases hB : s[I] = 34
      · have e34 : ((s[I].toNat : Int) == 34) = true := by rw [hB]; rfl
        have e92 : ((s[I].toNat : Int) == 92) = false := by rw [hB]; rfl
        have e32 : ((s[I].toNat : Int) == 32) = false := by rw [hB]; rfl
        have HST := hide (hst.out.quo hlt hB)
        clear hst hA hB
        rcases Bool.eq_false_or_eq_true z with rfl | rfl
        all_goals
          go_wp2_with (first
            | (at_builtin; refine wpList_append_run2 48 48 rfl _ _ rfl rfl _ _ rfl rfl _ _ HR3.out ?_)
            | fail)
          go_roundw
          case rel => exact ⟨I + 1, _, n, o ++ [s[I]], a3, c3, by rw [hle], rfl, rfl, by go_num, by omega, by omega, by rw [hle]; omega, by rw [hle]; omega, HST, HB3, HG3⟩
          case measure => simp [intOf]; omega
      have e34 : ((s[I].toNat : Int) == 34) = false := u8_ne (k := 34) (by decide) hB
      by_cases hC : z = false ∧ s[I] = 32
      · obtain ⟨rfl, h32⟩ := hC
        have e32 : ((s[I].toNat : Int) == 32) = true := by rw [h32]; rfl
        have HST := hide (hst.out.sp hlt h32)
        clear hst hA hB h32
        go_wp2_with (first
          | (at_builtin; refine wpList_append_run2 48 48 rfl _ _ rfl rfl _ _ rfl rfl _ _ HR3.out ?_)
          | fail)
        go_loopw [5, 9] (fun ov kv wq => ∃ (K j : Nat) (a : Option Addr) (c : Nat), ov = .slice a (o ++ [s[I]] ++ List.replicate j 32).length c ∧ kv = .int .i64 (K : Int) ∧ K ≤ l.length ∧ (o ++ [s[I]] ++ List.replicate j 32).length ≤ 65538 + I ∧ Hid (Byt wq w.heap.size (.slice a (o ++ [s[I]] ++ List.replicate j 32).length c) (o ++ [s[I]] ++ List.replicate j 32)) ∧ Hid (Gr w.heap.size w wq)) (fun _ kv _ => l.length - (intOf kv).toNat)
        case atStart => exact ⟨0, 0, a3, c3, by simp, rfl, Nat.zero_le _, by simp; omega, by simpa using HB3, HG3⟩
        case round =>
          obtain ⟨K, j, a5, c5, rfl, rfl, hK, hlj, hby, hgr⟩ := hrel
          have hbq : w.heap.size ≤ wr.heap.size := hgr.out.size
          have HSJ := hide (HST.out j)
          generalize hp : o ++ [s[I]] ++ List.replicate j 32 = p at *
          have hp1 : 1 ≤ p.length := by rw [← hp]; simp; omega
          have HP := hide hp
          clear hp
          by_cases hk : K < l.length
          · have k1 : (K : Int) < (l.length : Int) := by omega
            have k0 : (0 : Int) ≤ (K : Int) := by omega
            by_cases hq : p.length ≤ 65536
            · have q1 : (p.length : Int) ≤ 65536 := by omega
              obtain ⟨g, off, rfl, hcell⟩ := (HL.out wr hgr.out.bel).get K hk
              obtain ⟨a6, c6, w6, hr6, hb6, hg6⟩ := byt_push hby.out [32] #[.int .u8 32] 1 rfl rfl (by decide) (by omega) hbq wr.heap.size rfl
              have HR6 := hide hr6
              have HB6 := hide hb6
              have HG6 := hide (hgr.out.trans hg6)
              have hle6 : (p ++ [32]).length = p.length + 1 := by simp
              have hep : p ++ [32] = o ++ [s[I]] ++ List.replicate (j + 1) 32 := by rw [← HP.out, List.append_assoc, rep_snoc]
              have HEP := hide hep
              clear hr6 hb6 hg6 hep
              go_wp2_with fail
              refine (HPK.out _ _).mono ?_
              rintro e w7 ⟨r, rfl, hr0, hr20, rfl⟩
              rcases Bool.eq_false_or_eq_true (r == ((n : Int) + 1) % 20) with hE | hE
              · go_wp2_with (first
                  | (at_builtin; refine wpList_append_run2 48 48 rfl _ _ rfl rfl _ _ rfl rfl _ _ HR6.out ?_)
                  | fail)
                go_roundw
                case rel => exact ⟨K + 1, j + 1, a6, c6, by rw [← HEP.out, hle6], by go_num, by omega, by rw [← HEP.out, hle6]; omega, by rw [← HEP.out]; exact HB6, HG6⟩
                case measure => simp [intOf]; omega
              · go_wp2_with fail
                go_roundw
                case rel => exact ⟨K + 1, j, _, c5, by rw [HP.out], by go_num, by omega, by rw [HP.out]; exact hlj, by rw [HP.out]; exact hby, hgr⟩
                case measure => simp [intOf]; omega
            · have q1 : ¬ (p.length : Int) ≤ 65536 := by omega
              go_wp2_with fail
              go_roundw
              case rel => exact ⟨I + 1, false, n + 1, p, a5, c5, rfl, rfl, by go_num, by go_num, by omega, by omega, hp1, by omega, HSJ, hby, hgr⟩
              case measure => simp [intOf]; omega
          · have k1 : ¬ (K : Int) < (l.length : Int) := by omega
            go_wp2_with fail
            go_roundw
            case rel => exact ⟨I + 1, false, n + 1, p, a5, c5, rfl, rfl, by go_num, by go_num, by omega, by omega, hp1, by omega, HSJ, hby, hgr⟩
            case measure => simp [intOf]; omega
      · have hD2 : ¬ (z = true ∧ s[I] = 92) := hA
        have HST := hide (hst.out.one hlt hB hC hD2)
        have hcase : (z = true ∧ ((s[I].toNat : Int) == 92) = false ∧ ((s[I].toNat : Int) == 32) = true) ∨ (z = true ∧ ((s[I].toNat : Int) == 92) = false ∧ ((s[I].toNat : Int) == 32) = false) ∨ (z = false ∧ ((s[I].toNat : Int) == 32) = false) := by
          rcases Bool.eq_false_or_eq_true z with rfl | rfl
          · have h1 : s[I] ≠ 92 := fun e => hA ⟨rfl, e⟩
            rcases Bool.eq_false_or_eq_true ((s[I].toNat : Int) == 32) with h2 | h2
            · exact .inl ⟨rfl, u8_ne (k := 92) (by decide) h1, h2⟩
            · exact .inr (.inl ⟨rfl, u8_ne (k := 92) (by decide) h1, h2⟩)
          · exact .inr (.inr ⟨rfl, u8_ne (k := 32) (by decide) (fun e => hC ⟨rfl, e⟩)⟩)
        clear hst hA hB hC hD2
        rcases hcase with ⟨rfl, f1, f2⟩ | ⟨rfl, f1, f2⟩ | ⟨rfl, f2⟩
        all_goals
          go_wp2_with (first
            | (at_builtin; refine wpList_append_run2 48 48 rfl _ _ rfl rfl _ _ rfl rfl _ _ HR3.out ?_)
            | fail)
          go_roundw
          case rel => exact ⟨I + 1, _, n, o ++ [s[I]], a3, c3, by rw [hle], rfl, rfl, by go_num, by omega, by omega, by rw [hle]; omega, by rw [hle]; omega, HST, HB3, HG3⟩
          case measure => simp [intOf]; omega
    · have j1 : ¬ (I : Int) < (s.size : Int) := by omega
      obtain ⟨p, hp, hbp⟩ := hst.out.done hlt
      obtain ⟨a3, c3, w3, hr3, hb3, hg3⟩ := byt_push hby.out [32] #[.int .u8 32] 1 rfl rfl (by decide) (by omega) hbs wr.heap.size rfl
      have hle : (o ++ [32]).length = o.length + 1 := by simp
      have hcv := conv_back hb3
      rw [hle] at hr3 hcv
      have HR3 := hide hr3
      have HEND : Hid (∃ m : List UInt8, Ending.returned (.string (⟨(o ++ [32]).toArray⟩ : ByteArray)) = .returned (.string ⟨(32 :: (m ++ [32])).toArray⟩) ∧ Bs false s.data.toList m ∧ m.length ≤ 2000000 ∧ Below w.heap.size w w3) :=
        ⟨p, by rw [hp]; rfl, hbp, by rw [hp, List.length_cons] at ho; omega, (hgr.out.trans hg3).bel⟩
      clear hr3 hb3 hg3 hby hgr hp hbp hst
      go_wp2_with (first
        | (at_builtin; refine wpList_append_run2 48 48 rfl _ _ rfl rfl _ _ rfl rfl _ _ HR3.out ?_)
        | fail)
      go_ret
      exact HEND.out
end Go.Proofs.YtageokjobbjddaaGreatDoor
