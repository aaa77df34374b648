import Derived.Test.YtdieacdkomiooabDoorR1B
import Derived.Deep.RegionLaw
namespace Go.Proofs.YtdieacdkomiooabDoor
open Go.RowKit Go.Maps

set_option maxRecDepth 100000 in
set_option maxHeartbeats 1600000 in
theorem looks_any (b c : Nat) (F G : Nat → Prop) (d r : Dev) (wr : World) (h1 : DevAt wr b F d) (h2 : RAt wr c G r) (es : r.size = d.size) (ed : r.dur = d.dur) (ep : r.pend = d.pend) (ex : r.dead = d.dead) (hp : d.pend.length ≤ 5864062014805) :
    Calls Tryd.prog 24 #[.pointer (some ⟨b, 0, none⟩), .pointer (some ⟨c, 0, none⟩)] wr fun e w' => e = .returned (.bool true) ∧ Below wr.heap.size wr w' := by
  have hdl : d.dur.length ≤ 5864062014805 := Nat.le_trans h1.ok.dur_len (by omega)
  have H1 : Hid (∀ w', Below wr.heap.size wr w' → DevAt w' b F d) := fun w' hb => h1.below hb
  have H2 : Hid (∀ w', Below wr.heap.size wr w' → RAt w' c G r) := fun w' hb => h2.below hb
  have HD : Hid (∀ w', Below wr.heap.size wr w' → Calls Tryd.prog 14 #[.pointer (some ⟨b, 0, none⟩)] w' fun e w'' => ∃ v, e = .returned v ∧ w''.ownsRow w'.heap.size 68 2 v d.dur.length (secCells d.dur) ∧ Below w'.heap.size w' w'') := fun w' hb => durable_any b F d w' (H1.out w' hb)
  have HP : Hid (∀ w', Below wr.heap.size wr w' → Calls Tryd.prog 15 #[.pointer (some ⟨b, 0, none⟩)] w' fun e w'' => ∃ v, e = .returned v ∧ w''.ownsRow w'.heap.size 68 2 v d.pend.length (secCells d.pend) ∧ Below w'.heap.size w' w'') := fun w' hb => pending_any b F d w' (H1.out w' hb) hp
  have HRD : Hid (∀ w', Below wr.heap.size wr w' → Calls Tryd.prog 61 #[.pointer (some ⟨c, 0, none⟩)] w' fun e w'' => ∃ v, e = .returned v ∧ w''.ownsRow w'.heap.size 68 2 v d.dur.length (secCells d.dur) ∧ Below w'.heap.size w' w'') := fun w' hb => by
    have := rdur_any c G r w' (H2.out w' hb) (by rw [ed]; exact hdl)
    rw [ed] at this; exact this
  have HRP : Hid (∀ w', Below wr.heap.size wr w' → Calls Tryd.prog 62 #[.pointer (some ⟨c, 0, none⟩)] w' fun e w'' => ∃ v, e = .returned v ∧ w''.ownsRow w'.heap.size 68 2 v d.pend.length (secCells d.pend) ∧ Below w'.heap.size w' w'') := fun w' hb => by
    have := rpend_any c G r w' (H2.out w' hb) (by rw [ep]; exact hp)
    rw [ep] at this; exact this
  have HS : Hid (∀ w', Below wr.heap.size wr w' → Calls Tryd.prog 38 #[.pointer (some ⟨b, 0, none⟩)] w' fun e w'' => e = .returned (.int .i64 d.size) ∧ w' = w'') := fun w' hb => size_any b F d w' (H1.out w' hb)
  have HRS : Hid (∀ w', Below wr.heap.size wr w' → Calls Tryd.prog 64 #[.pointer (some ⟨c, 0, none⟩)] w' fun e w'' => e = .returned (.int .i64 d.size) ∧ w' = w'') := fun w' hb => by
    have := rsize_any c G r w' (H2.out w' hb)
    rw [es] at this; exact this
  have HX : Hid (∀ w', Below wr.heap.size wr w' → Calls Tryd.prog 42 #[.pointer (some ⟨b, 0, none⟩)] w' fun e w'' => e = .returned (.bool d.dead) ∧ w' = w'') := fun w' hb => dead_any b F d w' (H1.out w' hb)
  have HRX : Hid (∀ w', Below wr.heap.size wr w' → Calls Tryd.prog 65 #[.pointer (some ⟨c, 0, none⟩)] w' fun e w'' => e = .returned (.bool d.dead) ∧ w' = w'') := fun w' hb => by
    have := rdead_any c G r w' (H2.out w' hb)
    rw [ex] at this; exact this
  have HSA : Hid (∀ w' va vb, SecsIn w' va d.dur → SecsIn w' vb d.dur → Calls Tryd.prog 51 #[va, vb] w' fun e w'' => e = .returned (.bool true) ∧ Below w'.heap.size w' w'') := fun w' va vb ha hb => sames_any d.dur va vb w' ha hb
  have HSP : Hid (∀ w' va vb, SecsIn w' va d.pend → SecsIn w' vb d.pend → Calls Tryd.prog 51 #[va, vb] w' fun e w'' => e = .returned (.bool true) ∧ Below w'.heap.size w' w'') := fun w' va vb ha hb => sames_any d.pend va vb w' ha hb
  have HDI : Hid (∀ (w' : World) (n : Nat) v, w'.ownsRow n 68 2 v d.dur.length (secCells d.dur) → SecsIn w' v d.dur) := fun w' n v h => secsIn_own h hdl
  have HPI : Hid (∀ (w' : World) (n : Nat) v, w'.ownsRow n 68 2 v d.pend.length (secCells d.pend) → SecsIn w' v d.pend) := fun w' n v h => secsIn_own h hp
  clear h1 h2 es ed ep ex hp hdl H1 H2
  generalize d.dur.length = nd at *
  generalize d.pend.length = np at *
  generalize d.size = sz at *
  generalize d.dead = dd at *
  go_enter Tryd.func24, Tryd.ntmps24
  go_wp2_with fail
  refine (HD.out wr (Below.refl _ _)).mono ?_
  rintro e w1 ⟨v1, rfl, hv1, hb1⟩
  have HV1 := Hid.mk'' (HDI.out w1 _ v1 hv1)
  have HB1 := Hid.mk'' hb1
  obtain ⟨a1, c1, rfl, -⟩ := owns_form hv1
  clear hv1 hb1
  go_wp2_with fail
  refine (HRD.out w1 HB1.out).mono ?_
  rintro e w2 ⟨v2, rfl, hv2, hb2⟩
  have HS2 := Hid.mk'' (HSA.out w2 _ v2 (HV1.out.keep hb2) (HDI.out w2 _ v2 hv2))
  have HB2 := Hid.mk'' (Below.next HB1.out hb2)
  obtain ⟨a2, c2, rfl, -⟩ := owns_form hv2
  clear hv2 hb2 HV1 HB1
  go_wp2_with fail
  refine HS2.out.mono ?_
  rintro e w3 ⟨rfl, hb3⟩
  have HB3 := Hid.mk'' (Below.next HB2.out hb3)
  clear hb3 HB2 HS2
  go_wp2_with fail
  refine (HP.out w3 HB3.out).mono ?_
  rintro e w4 ⟨v4, rfl, hv4, hb4⟩
  have HV4 := Hid.mk'' (HPI.out w4 _ v4 hv4)
  have HB4 := Hid.mk'' (Below.next HB3.out hb4)
  obtain ⟨a4, c4, rfl, -⟩ := owns_form hv4
  clear hv4 hb4 HB3
  go_wp2_with fail
  refine (HRP.out w4 HB4.out).mono ?_
  rintro e w5 ⟨v5, rfl, hv5, hb5⟩
  have HS5 := Hid.mk'' (HSP.out w5 _ v5 (HV4.out.keep hb5) (HPI.out w5 _ v5 hv5))
  have HB5 := Hid.mk'' (Below.next HB4.out hb5)
  obtain ⟨a5, c5, rfl, -⟩ := owns_form hv5
  clear hv5 hb5 HV4 HB4
  go_wp2_with fail
  refine HS5.out.mono ?_
  rintro e w6 ⟨rfl, hb6⟩
  have HB6 := Hid.mk'' (Below.next HB5.out hb6)
  clear hb6 HB5 HS5
  go_wp2_with fail
  refine (HS.out w6 HB6.out).mono ?_
  rintro e w' ⟨rfl, rfl⟩
  go_wp2_with fail
  refine (HRS.out w6 HB6.out).mono ?_
  rintro e w' ⟨rfl, rfl⟩
  go_wp2_with fail
  refine (HX.out w6 HB6.out).mono ?_
  rintro e w' ⟨rfl, rfl⟩
  go_wp2_with fail
  refine (HRX.out w6 HB6.out).mono ?_
  rintro e w' ⟨rfl, rfl⟩
  go_wp2_with fail
  go_ret
  exact ⟨rfl, HB6.out⟩

end Go.Proofs.YtdieacdkomiooabDoor
