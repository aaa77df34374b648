import Derived.Test.YtageokjobbjddaaGreatDoorGRA
import Derived.Test.YtageokjobbjddaaGreatDoorPTxt
import Derived.Lib.SplitLaws
namespace Go.Proofs.YtageokjobbjddaaGreatDoor
open Go.RowKit

/-! The shelf's searches, at this seat. -/
theorem cut_one : ∀ (l : List UInt8), (∃ a b, l = a ++ 96 :: b ∧ (96 : UInt8) ∉ a ∧ Lib.cut l [96] = (a, b, true)) ∨ ((96 : UInt8) ∉ l ∧ Lib.cut l [96] = (l, [], false))
  | [] => .inr ⟨by simp, by decide⟩
  | c :: r => by
    by_cases h : c = 96
    · subst h
      refine .inl ⟨[], r, rfl, by simp, ?_⟩
      have hix : Lib.index (96 :: r) [96] = 0 := by rw [Lib.index]; simp [List.isPrefixOf]
      simp [Lib.cut, hix]
    · have hp : ([96] : List UInt8).isPrefixOf (c :: r) = false := by simp [List.isPrefixOf, Ne.symm h]
      have hix : Lib.index (c :: r) [96] = if Lib.index r [96] == -1 then -1 else Lib.index r [96] + 1 := by rw [Lib.index, hp]; simp
      have hge := Lib.index_ge r [96]
      rcases cut_one r with ⟨a, b, h1, h2, h3⟩ | ⟨h1, h2⟩
      · have h0 : 0 ≤ Lib.index r [96] := by
          rcases Int.lt_or_le (Lib.index r [96]) 0 with hn | hn
          · rw [Lib.cut, if_neg (by omega)] at h3; cases h3
          · exact hn
        have hix2 : Lib.index (c :: r) [96] = Lib.index r [96] + 1 := by rw [hix, if_neg (by rw [beq_iff_eq]; omega)]
        rw [Lib.cut, if_pos h0] at h3
        obtain ⟨h4, h5⟩ := Prod.mk.inj h3
        obtain ⟨h6, _⟩ := Prod.mk.inj h5
        refine .inl ⟨c :: a, b, by rw [h1]; rfl, by simp [Ne.symm h, h2], ?_⟩
        rw [Lib.cut, if_pos (by omega), hix2, show (Lib.index r [96] + 1).toNat = (Lib.index r [96]).toNat + 1 by omega, List.take_succ_cons, h4]
        rw [show (Lib.index r [96]).toNat + 1 + [(96 : UInt8)].length = ((Lib.index r [96]).toNat + [(96 : UInt8)].length) + 1 by omega, List.drop_succ_cons, h6]
      · have h0 : Lib.index r [96] < 0 := by
          rcases Int.lt_or_le (Lib.index r [96]) 0 with hn | hn
          · exact hn
          · rw [Lib.cut, if_pos hn] at h2; exact absurd (congrArg (fun x => x.2.2) h2) (by simp)
        have hix2 : Lib.index (c :: r) [96] = -1 := by rw [hix, if_pos (by rw [beq_iff_eq]; omega)]
        exact .inr ⟨by simp [Ne.symm h, h1], by rw [Lib.cut, hix2]; rfl⟩
theorem scut_any (s : ByteArray) (m : Int) (w : World) (hs : s.size ≤ 1000000) (hm : w.cell? ⟨14, 0, none⟩ = some (.int .i64 m)) :
    Calls Tryz.prog 83 #[.string s, .string ⟨#[96]⟩] w fun e w' => e = .returned (.tuple #[.string ⟨(Lib.cut s.data.toList [96]).1.toArray⟩, .string ⟨(Lib.cut s.data.toList [96]).2.1.toArray⟩, .bool (Lib.cut s.data.toList [96]).2.2]) ∧ Below w.heap.size w w' :=
  (Any.strings_Cut Tryz.lays145 s ⟨#[96]⟩ m w (by omega) hm).mono fun e w' ⟨h1, n, h2⟩ => ⟨h1, by rw [h2]; exact below_drewN' (Below.refl _ _) n⟩
theorem scont_any (s : ByteArray) (t : ByteArray) (m : Int) (w : World) (hs : s.size ≤ 1000000) (hm : w.cell? ⟨14, 0, none⟩ = some (.int .i64 m)) :
    Calls Tryz.prog 69 #[.string s, .string t] w fun e w' => e = .returned (.bool (Lib.contains s.data.toList t.data.toList)) ∧ w' = w := Any.strings_Contains Tryz.lays144 s t m w (by omega) hm
theorem striml_any (s : ByteArray) (w : World) :
    Calls Tryz.prog 46 #[.string s, .string ⟨#[32]⟩] w fun e w' => e = .returned (.string ⟨(s.data.toList.dropWhile (· == 32)).toArray⟩) ∧ w' = w := Any.strings_TrimLeft_one Tryz.lays161 s 32 (by decide) w
theorem shasp_any (s p : ByteArray) (w : World) :
    Calls Tryz.prog 126 #[.string s, .string p] w fun e w' => e = .returned (.bool (p.data.toList.isPrefixOf s.data.toList)) ∧ w' = w := Any.stringslite_HasPrefix Tryz.lays206 s p w
def cutpD (s p : ByteArray) : ByteArray × Bool := if p.data.toList.isPrefixOf s.data.toList = true then (s.extract p.size s.size, true) else (s, false)
theorem pre_len {l m : List UInt8} (h : l.isPrefixOf m = true) : l.length ≤ m.length := (List.isPrefixOf_iff_prefix.1 h).length_le
set_option maxRecDepth 100000 in
theorem slcutp_any (s p : ByteArray) (w : World) :
    Calls Tryz.prog 108 #[.string s, .string p] w fun e w' => e = .returned (.tuple #[.string (cutpD s p).1, .bool (cutpD s p).2]) ∧ w' = w := by
  have HH := hide (shasp_any s p w)
  obtain ⟨r, hr⟩ : ∃ r, r = cutpD s p := ⟨_, rfl⟩
  rw [← hr]
  cases hp : p.data.toList.isPrefixOf s.data.toList with
  | true =>
    have hl := pre_len hp
    rw [q_len, q_len] at hl
    rw [hp] at HH
    have h1 : (p.size : Int) ≤ (s.size : Int) := by omega
    have h2 : (0 : Int) ≤ (p.size : Int) := by omega
    have HE : Hid (r = (s.extract p.size s.size, true)) := by show _ = _; rw [hr, cutpD, if_pos hp]
    clear hp hr
    go_enter Tryz.func108, Tryz.ntmps108
    go_wp2_with fail
    refine HH.out.mono ?_
    rintro e w' ⟨rfl, rfl⟩
    clear HH
    go_wp2_with fail
    go_ret2
    exact ⟨by rw [HE.out]; rfl, rfl⟩
  | false =>
    rw [hp] at HH
    have HE : Hid (r = (s, false)) := by show _ = _; rw [hr, cutpD, hp, if_neg (by simp)]
    clear hp hr
    go_enter Tryz.func108, Tryz.ntmps108
    go_wp2_with fail
    refine HH.out.mono ?_
    rintro e w' ⟨rfl, rfl⟩
    clear HH
    go_wp2_with fail
    go_ret2
    exact ⟨by rw [HE.out]; rfl, rfl⟩
theorem scutp_any (s p : ByteArray) (w : World) :
    Calls Tryz.prog 88 #[.string s, .string p] w fun e w' => e = .returned (.tuple #[.string (cutpD s p).1, .bool (cutpD s p).2]) ∧ w' = w := by
  go_enter Tryz.func88, Tryz.ntmps88
  go_wp2_with fail
  refine (slcutp_any s p w).mono ?_
  rintro e w' ⟨rfl, rfl⟩
  go_wp2_with fail
  go_ret2
  exact ⟨rfl, rfl⟩
end Go.Proofs.YtageokjobbjddaaGreatDoor
