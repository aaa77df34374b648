import Derived.Test.YtgljkgkophaefabDoorUnp
import Derived.Test.YtgljkgkophaefabDoorErrsG
import Derived.Test.YtgljkgkophaefabDoorSeven
import Derived.Test.YtgljkgkophaefabDoorSame
namespace Go.Proofs.YtgljkgkophaefabDoor
open Go.RowKit

theorem encL_inj {r : Nat} : ∀ (l m : List It), (∀ x ∈ l, VI r x) → (∀ x ∈ m, VI r x) → encL l = encL m → l = m
  | [], [], _, _, _ => rfl
  | [], y :: m, _, hm, h => by
    simp only [encL] at h
    rw [y.enc_eq] at h; cases h
  | x :: l, [], _, _, h => by
    simp only [encL] at h
    rw [x.enc_eq] at h; cases h
  | x :: l, y :: m, hl, hm, h => by
    simp only [encL] at h
    obtain ⟨rfl, e⟩ := enc_uniq (hl x (by simp)) (hm y (by simp)) h
    rw [encL_inj l m (fun z hz => hl z (by simp [hz])) (fun z hz => hm z (by simp [hz])) e]
theorem tidy_VL {l : List It} (h : TidyT 4 l) : VL 4 l := VL.of (TidyT.fault 4 l h) (TidyT.okR 4 l h)
theorem encL_len (l : List It) : l.length ≤ (encL l).length := by
  induction l with
  | nil => simp
  | cons x r ih => simp only [encL, List.length_append, List.length_cons, x.enc_eq]; omega

set_option maxHeartbeats 1000000 in
theorem backlaw_any (aA aT aM : Addr) (l : List It) (v : Value) (w : World) (hv : ItsAt w anyB v l) (he : Errs2 aA aM w) (ht : TextAt aT w) :
    Calls Tryd.prog 3 #[v] w fun e w' => e = .returned (.bool true) ∧ Below w.heap.size w w' := by
  go_enter Tryd.func3, Tryd.ntmps3
  go_wp2_with fail
  refine (tidy_any 4 l _ _ w (by omega) (by rfl) hv).mono ?_
  rintro e w1 ⟨v1, q, rfl, o1, tq, lq, -, hb1⟩
  have he1 := he.keep hb1
  have ht1 : TextAt aT w1 := cell_below hb1 ht
  have hp0 := tidy_packF tq
  have hpl := tidy_enc tq
  have hpT : packT q = ⟨(encL q).toArray⟩ := by unfold packT; rw [if_pos hp0]
  have i1 := (o1.at' (by omega)).any
  have P := pack_any aA aM q v1 w1 i1 he1 (fun _ => by omega)
  rw [hp0, hpT] at P
  have HP : Hid (Calls Tryd.prog 8 #[v1] w1 fun e w' => e = .returned (.tuple #[.string ⟨(encL q).toArray⟩, .nilIface]) ∧ Below w1.heap.size w1 w') := P
  clear P hp0 hpT hv he ht o1
  obtain ⟨a1, c1, rfl⟩ := i1.form
  go_wp2_with fail
  refine HP.out.mono ?_
  rintro e w2 ⟨rfl, hb2⟩
  have B2 := Below.next hb1 hb2
  have i2 := i1.keep hb2
  have he2 := he1.keep hb2
  have ht2 : TextAt aT w2 := cell_below hb2 ht1
  have U := unpack_any aT ⟨(encL q).toArray⟩ w2 ht2
  have hsz : (⟨(encL q).toArray⟩ : ByteArray).size = (encL q).length := S_size _
  clear HP i1 he1 ht1 hb1 hb2 ht2
  go_wp2_with fail
  refine U.mono ?_
  rintro e w3 (⟨m, vm, base, hm, hvm, hs, rfl, hba, om, hb3⟩ | ⟨hno, -, -⟩)
  rotate_left
  · exact absurd rfl (hno (by rw [hsz]; omega) q (tidy_VL tq))
  have e1 : q = m := encL_inj _ _ (tidy_VL tq).each hvm.each hm
  subst e1
  have i3 := i2.keep hb3
  have im := (om.at' (by omega)).any
  have he3 := he2.keep hb3
  have B3 := Below.next B2 hb3
  have SM := sameItems_any _ q q (.slice a1 q.length c1) vm w3 (Nat.le_refl _) i3 im
  have hql := encL_len q
  obtain ⟨am, cm, rfl⟩ := om.form
  clear U i2 he2 B2 hb3 om hm hvm hba hs i3 im
  go_wp2_with fail
  refine SM.mono ?_
  rintro e w4 ⟨b, rfl, hb, hb4⟩
  have hbt : b = true := by simpa using hb
  subst hbt
  have he4 := he3.keep hb4
  have B4 := Below.next B3 hb4
  have SV := seven_any aA aM w4 he4
  obtain ⟨n, hn⟩ : ∃ n : Nat, n = (encL q).length := ⟨_, rfl⟩
  obtain ⟨s, hss⟩ : ∃ s : ByteArray, s = ⟨(encL q).toArray⟩ := ⟨_, rfl⟩
  rw [← hss] at hsz ⊢
  have hcmp : (q.length : Int) ≤ (s.size : Int) := by rw [hsz]; omega
  clear SM hb he3 B3 hb4 he4 hss hsz hql hpl hn tq
  go_wp2_with fail
  refine SV.mono ?_
  rintro e w5 ⟨rfl, hb5⟩
  have B5 := Below.next B4 hb5
  clear SV hb5 B4
  go_wp2_with fail
  go_ret
  exact ⟨rfl, B5⟩

end Go.Proofs.YtgljkgkophaefabDoor
