import Derived.Test.YtgljkgkophaefaaDoorUnp
import Derived.Test.YtgljkgkophaefaaDoorErrsG
namespace Go.Proofs.YtgljkgkophaefaaDoor
open Go.RowKit

theorem encL_inj {r : Nat} : ∀ (l m : List It), (∀ x ∈ l, VI r x) → (∀ x ∈ m, VI r x) → encL l = encL m → l = m
  | [], [], _, _, _ => rfl
  | [], y :: m, _, hm, h => by
    simp only [encL] at h
    rw [y.enc_eq] at h; cases h
  | x :: l, [], _, _, h => by
    simp only [encL] at h
    rw [x.enc_eq] at h; cases h
  | x :: l, y :: m, hl, hm, h => by
    simp only [encL] at h
    obtain ⟨rfl, e⟩ := enc_uniq (hl x (by simp)) (hm y (by simp)) h
    rw [encL_inj l m (fun z hz => hl z (by simp [hz])) (fun z hz => hm z (by simp [hz])) e]
theorem pack_of {l : List It} {s : ByteArray} (h : VL 4 l) (e : s.data.toList = encL l) (hs : s.size ≤ 65536) : packF l = 0 ∧ packT l = s := by
  have hl : (encL l).length ≤ 65536 := by rw [← e]; simpa using hs
  have h0 : packF l = 0 := by unfold packF; rw [if_pos h.fault, if_neg (by omega)]
  refine ⟨h0, ?_⟩
  unfold packT
  rw [if_pos h0, ← e]
theorem flag_one : VL 4 [.mk 2 1 ⟨#[]⟩ []] := by
  refine ⟨by simp, fun x hx => ?_⟩
  rw [List.mem_singleton.1 hx]
  exact plain_item 4 2 1 _ (by simp [fits, fitB, It.kind, It.num, It.text, It.list, ByteArray.toList_eq]) (by decide) (ok_mk' _ _ _ _ (by decide) (by decide) (by decide) (by decide) (by decide))
theorem flag_one_enc : encL [.mk 2 1 ⟨#[]⟩ []] = [2, 1] := by
  simp only [encL, It.enc, bodyOf, List.append_nil]
  decide

set_option maxHeartbeats 1000000 in
theorem onlylaw_any (A : Nat → Addr) (s : ByteArray) (w : World) (hE : ErrsAt 13 gAll A w) :
    Calls Tryd.prog 5 #[.string s] w fun e w' => e = .returned (.bool true) ∧ Below w.heap.size w w' := by
  go_enter Tryd.func5, Tryd.ntmps5
  go_wp2_with fail
  refine (seven_any (A 0) (A 2) w hE.two).mono ?_
  rintro e w1 ⟨rfl, hb1⟩
  have hE1 := hE.keep hb1
  clear hE
  go_wp2_with fail
  refine (unpack_any (A 1) ⟨#[2, 1]⟩ w1 (hE1.1 1 (by decide)).1).mono ?_
  rintro e w2 (⟨l, v, base, hl, hvl, -, rfl, hba, hown, hb2⟩ | ⟨hno, -, -⟩)
  rotate_left
  · exact absurd flag_one_enc.symm (hno (by decide) _ flag_one)
  have e1 : l = [.mk 2 1 ⟨#[]⟩ []] := encL_inj _ _ hvl.each flag_one.each (by rw [← hl, flag_one_enc])
  subst e1
  have hE2 := hE1.keep hb2
  have hat := hown.at' (by simp)
  obtain ⟨a, g, off, cap, l, vs, hlen, ha, hok, h0, h1, h2, h3, hin⟩ := hat
  obtain ⟨rfl, -⟩ := ha (by simp)
  have c0 : w2.cell? ⟨g, off, none⟩ = some (.int .i64 2) := by simpa [It.kind] using h0 0 (by simp)
  have c1 : w2.cell? ⟨g, off + 1, none⟩ = some (.int .i64 1) := by simpa [It.num] using h1 0 (by simp)
  have hB2 := Below.next hb1 hb2
  have hlen1 : [It.mk 2 1 ⟨#[]⟩ []].length = 1 := rfl
  rw [hlen1]
  clear hlen ha hok h0 h1 h2 h3 hin hown hl hvl hE1 hb1 hb2 hba hlen1
  have hT2 : TextAt (A 1) w2 := (hE2.1 1 (by decide)).1
  have U := unpack_any (A 1) s w2 hT2
  have HE2 : Hid (ErrsAt 13 gAll A w2) := hE2
  have HB2 : Hid (Below w.heap.size w w2) := hB2
  clear hT2 hE2 hB2
  go_wp2_with fail
  refine U.mono ?_
  rintro e w3 (⟨l, v, base, hl, hvl, hs, rfl, hba, hown, hb3⟩ | ⟨-, rfl, hb3⟩)
  · have hE3 := HE2.out.keep hb3
    obtain ⟨hp0, hp1⟩ := pack_of hvl hl hs
    have P := pack_any (A 0) (A 2) l v w3 (hown.at' (by have := hvl.len; omega)).any hE3.two (fun _ => by rw [← hl]; have := hs; simp; omega)
    rw [hp0, hp1] at P
    have HP : Hid (Calls Tryd.prog 17 #[v] w3 fun e w' => e = .returned (.tuple #[.string s, .nilIface]) ∧ Below w3.heap.size w3 w') := P
    have HB3 : Hid (Below w.heap.size w w3) := Below.next HB2.out hb3
    obtain ⟨av, cv, rfl⟩ := hown.form
    clear P hp0 hp1 hE3 hb3 HE2 HB2 hl hvl hs hba hown U
    go_wp2_with fail
    refine HP.out.mono ?_
    rintro e w4 ⟨rfl, hb4⟩
    have HB4 : Hid (Below w.heap.size w w4) := Below.next HB3.out hb4
    clear HP HB3 hb4
    go_wp2_with fail
    go_ret
    exact ⟨rfl, HB4.out⟩
  · have N := num_text A w3 (HE2.out.keep hb3)
    have HB3 : Hid (Below w.heap.size w w3) := Below.next HB2.out hb3
    clear hb3 HE2 HB2 U
    go_wp2_with fail
    refine N.mono ?_
    rintro e w4 ⟨rfl, rfl⟩
    go_wp2_with fail
    go_ret
    exact ⟨rfl, HB3.out⟩

end Go.Proofs.YtgljkgkophaefaaDoor
