import Derived.Test.YtageokjobbjddaaGreatDoorPParse2
namespace Go.Proofs.YtageokjobbjddaaGreatDoor
open Go.RowKit

/-! The byte that stands first between quotes. -/
def byteD (l : List UInt8) : UInt8 × Nat :=
  match l with
  | [] => (0, 0)
  | c :: r => if c = 92 then escD (c :: r) else if c.toNat < 32 ∨ 126 < c.toNat then (0, 0) else (c, 1)
theorem lst_four (s : ByteArray) (h : 3 < s.size) : s.data.toList.drop 2 = s[2] :: s[3] :: s.data.toList.drop 4 := by
  rw [q_drop s 2 (by omega)]
  congr 1
  exact q_drop s 3 h
theorem ext_two (s : ByteArray) (h : 3 < s.size) : (s.extract 2 4).data.toList = [s[2], s[3]] := by
  have := ex_sub s 2 2
  rw [this, lst_four s h]
  rfl
set_option maxHeartbeats 4000000 in
set_option maxRecDepth 100000 in
theorem preadb_any (s : ByteArray) (te : TypeId) (pe : Value) (w : World) (h0 : 0 < s.size) (hs : s.size ≤ 1000000) (hv : w.cell? ⟨19, 0, none⟩ = some (.iface te pe)) :
    Calls Tryz.prog 86 #[.string s] w fun e w' => e = .returned (.tuple #[.int .u8 ((byteD s.data.toList).1.toNat : Int), .int .i64 ((byteD s.data.toList).2 : Nat)]) ∧ Below w.heap.size w w' := by
  obtain ⟨r, hr⟩ : ∃ r, r = byteD s.data.toList := ⟨_, rfl⟩
  rw [← hr]
  have h0I : (0 : Int) < (s.size : Int) := by omega
  have hl0 : s.data.toList = s[0] :: s.data.toList.drop 1 := by
    have := q_drop s 0 h0
    rwa [List.drop_zero] at this
  rw [hl0, byteD] at hr
  have HBR : Hid (Below w.heap.size w w) := Below.refl _ _
  by_cases h92 : s[0] = 92
  · have g0 : s[0] = 92 := h92
    rw [if_pos h92] at hr
    by_cases h2 : 1 < s.size
    · have h2I : (2 : Int) ≤ (s.size : Int) := by omega
      have h2J : (1 : Int) < (s.size : Int) := by omega
      rw [q_drop s 1 h2, escD] at hr
      have HR := hide hr
      obtain ⟨x, hx⟩ : ∃ x : UInt8, x = s[1] := ⟨_, rfl⟩
      have hxx : s[1] = x := hx.symm
      rw [← hx] at HR
      clear hr hx hl0
      by_cases hq : x = 34 ∨ x = 92
      · have HE : Hid (r = (x, 2)) := by show _ = _; rw [HR.out, if_pos hq]
        clear HR
        rcases hq with rfl | rfl
        all_goals
          go_enter Tryz.func86, Tryz.ntmps86
          go_wp2
          go_ret2
          exact ⟨by rw [HE.out]; rfl, HBR.out⟩
      · have g1 : ((x.toNat : Int) == 34) = false := u8_ne (k := 34) (by decide) fun e => hq (.inl e)
        have g2 : ((x.toNat : Int) == 92) = false := u8_ne (k := 92) (by decide) fun e => hq (.inr e)
        have HR2 := hide HR.out
        rw [if_neg hq] at HR2
        clear HR hq
        by_cases h120 : x = 120
        · rw [if_pos h120] at HR2
          subst h120
          clear g1 g2
          by_cases h4 : 3 < s.size
          · have h4I : (4 : Int) ≤ (s.size : Int) := by omega
            have h4J : (2 : Int) ≤ 4 := by omega
            have HR3 : Hid (r = (match par16 0 [s[2], s[3]] with | some n => (UInt8.ofNat n, 4) | none => (0, 0))) := by
              show _ = _
              rw [HR2.out, show (1 : Nat) + 1 = 2 from rfl, lst_four s h4, escX_par]
              rfl
            have hz : (s.extract 2 4).size = 2 := by rw [ByteArray.size_extract]; omega
            have HP := hide (puint_any (s.extract 2 4) hz te pe w hv)
            rw [ext_two s h4] at HP
            have HLT : Hid (∀ n, par16 0 [s[2], s[3]] = some n → n < 256) := fun n hn => par16_lt hn
            generalize par16 0 [s[2], s[3]] = o at HR3 HP HLT
            clear HR2 hv hz
            go_enter Tryz.func86, Tryz.ntmps86
            go_wp2_with fail
            refine HP.out.mono ?_
            rintro e w1 ⟨hpu, hb⟩
            rcases hpu with ⟨n, ho, rfl⟩ | ⟨ho, N, rfl⟩
            · have HE : Hid (r = (UInt8.ofNat n, 4)) := by show _ = _; rw [HR3.out, ho]
              have hn := HLT.out n ho
              have HV : Hid ((UInt8.ofNat n).toNat = n) := by show _ = _; simp [Nat.mod_eq_of_lt hn]
              clear HR3 HLT ho HP
              go_wp2
              go_ret2
              exact ⟨by rw [HE.out]; simp only [HV.out]; rfl, hb⟩
            · have HE : Hid (r = (0, 0)) := by show _ = _; rw [HR3.out, ho]
              clear HR3 HLT ho HP
              go_wp2
              go_ret2
              exact ⟨by rw [HE.out]; rfl, hb⟩
          · have h4I : ¬ (4 : Int) ≤ (s.size : Int) := by omega
            have HE : Hid (r = (0, 0)) := by
              show _ = _
              rw [HR2.out, show (1 : Nat) + 1 = 2 from rfl]
              by_cases h3 : 2 < s.size
              · rw [q_drop s 2 h3, q_drop_end s 3 (by omega)]; rfl
              · rw [q_drop_end s 2 (by omega)]; rfl
            clear HR2 hv
            go_enter Tryz.func86, Tryz.ntmps86
            go_wp2
            go_ret2
            exact ⟨by rw [HE.out]; rfl, HBR.out⟩
        · have g3 : ((x.toNat : Int) == 120) = false := u8_ne (k := 120) (by decide) h120
          have HE : Hid (r = (0, 0)) := by show _ = _; rw [HR2.out, if_neg h120]
          clear HR2 h120 hv
          by_cases h4 : 3 < s.size
          · have h4I : (4 : Int) ≤ (s.size : Int) := by omega
            go_enter Tryz.func86, Tryz.ntmps86
            go_wp2
            go_ret2
            exact ⟨by rw [HE.out]; rfl, HBR.out⟩
          · have h4I : ¬ (4 : Int) ≤ (s.size : Int) := by omega
            go_enter Tryz.func86, Tryz.ntmps86
            go_wp2
            go_ret2
            exact ⟨by rw [HE.out]; rfl, HBR.out⟩
    · have h2I : ¬ (2 : Int) ≤ (s.size : Int) := by omega
      have h4I : ¬ (4 : Int) ≤ (s.size : Int) := by omega
      have HE : Hid (r = (0, 0)) := by show _ = _; rw [hr, q_drop_end s 1 (by omega)]; rfl
      clear hr hl0 hv
      go_enter Tryz.func86, Tryz.ntmps86
      go_wp2
      go_ret2
      exact ⟨by rw [HE.out]; rfl, HBR.out⟩
  · rw [if_neg h92] at hr
    have g0 : ((s[0].toNat : Int) == 92) = false := u8_ne (k := 92) (by decide) h92
    have HR := hide hr
    obtain ⟨x, hx⟩ : ∃ x : UInt8, x = s[0] := ⟨_, rfl⟩
    have hxx : s[0] = x := hx.symm
    rw [← hx] at HR g0
    clear hr hx hl0 h92 hv
    by_cases hlo : x.toNat < 32
    · have hloI : (x.toNat : Int) < 32 := by omega
      have HE : Hid (r = (0, 0)) := by show _ = _; rw [HR.out, if_pos (.inl hlo)]
      clear HR hlo
      go_enter Tryz.func86, Tryz.ntmps86
      go_wp2
      go_ret2
      exact ⟨by rw [HE.out]; rfl, HBR.out⟩
    · have hloI : ¬ (x.toNat : Int) < 32 := by omega
      by_cases hhi : 126 < x.toNat
      · have hhiI : (126 : Int) < (x.toNat : Int) := by omega
        have HE : Hid (r = (0, 0)) := by show _ = _; rw [HR.out, if_pos (.inr hhi)]
        clear HR hlo hhi
        go_enter Tryz.func86, Tryz.ntmps86
        go_wp2
        go_ret2
        exact ⟨by rw [HE.out]; rfl, HBR.out⟩
      · have hhiI : ¬ (126 : Int) < (x.toNat : Int) := by omega
        have HE : Hid (r = (x, 1)) := by show _ = _; rw [HR.out, if_neg (by omega)]
        clear HR hlo hhi
        go_enter Tryz.func86, Tryz.ntmps86
        go_wp2
        go_ret2
        exact ⟨by rw [HE.out]; rfl, HBR.out⟩
end Go.Proofs.YtageokjobbjddaaGreatDoor
