import Derived.Test.YtdieacdkomiooabDoorSmallT
import Derived.Test.YtdieacdkomiooabDoorTwoB
namespace Go.Proofs.YtdieacdkomiooabDoor
open Go.RowKit Go.Maps

set_option maxRecDepth 100000 in
set_option maxHeartbeats 1600000 in
theorem same_any (r : SaidD) (va1 va2 vb1 vb2 : Value) (w : World) (ha1 : BytesIn w va1 r.bytes) (ha2 : SecsIn w va2 r.secs) (hb1 : BytesIn w vb1 r.bytes) (hb2 : SecsIn w vb2 r.secs) :
    Calls Tryd.prog 17 #[.agg #[.int .i64 (r.err : Int), va1, va2, .int .i64 r.a, .int .i64 r.b, .int .i64 r.c], .agg #[.int .i64 (r.err : Int), vb1, vb2, .int .i64 r.a, .int .i64 r.b, .int .i64 r.c]] w fun e w' => e = .returned (.bool true) ∧ Below w.heap.size w w' := by
  obtain ⟨W, hW⟩ : ∃ W, W = (w.alloc (.cells #[.int .i64 (r.err : Int), va1, va2, .int .i64 r.a, .int .i64 r.b, .int .i64 r.c] 38)).alloc (.cells #[.int .i64 (r.err : Int), vb1, vb2, .int .i64 r.a, .int .i64 r.b, .int .i64 r.c] 38) := ⟨_, rfl⟩
  have hb0 : Below w.heap.size w W := by rw [hW]; exact Below.next (below_new _ _) (below_new _ _)
  have x1 : Boxed w.heap.size [.int .i64 (r.err : Int), va1, va2, .int .i64 r.a, .int .i64 r.b, .int .i64 r.c] W := by rw [hW]; exact (boxed_new w #[.int .i64 (r.err : Int), va1, va2, .int .i64 r.a, .int .i64 r.b, .int .i64 r.c] 38).below (below_new _ _)
  have x2 : Boxed (w.heap.size + 1) [.int .i64 (r.err : Int), vb1, vb2, .int .i64 r.a, .int .i64 r.b, .int .i64 r.c] W := by
    have := boxed_new (w.alloc (.cells #[.int .i64 (r.err : Int), va1, va2, .int .i64 r.a, .int .i64 r.b, .int .i64 r.c] 38)) #[.int .i64 (r.err : Int), vb1, vb2, .int .i64 r.a, .int .i64 r.b, .int .i64 r.c] 38
    rw [hW]; simpa using this
  have HSB : Hid (Calls Tryd.prog 50 #[va1, vb1] W fun e w' => e = .returned (.bool true) ∧ Below W.heap.size W w') := sameb_any r.bytes va1 vb1 W (ha1.keep hb0) (hb1.keep hb0)
  have HSS : Hid (∀ w', Below W.heap.size W w' → Calls Tryd.prog 51 #[va2, vb2] w' fun e w'' => e = .returned (.bool true) ∧ Below w'.heap.size w' w'') := fun w' h' => sames_any r.secs va2 vb2 w' ((ha2.keep hb0).keep h') ((hb2.keep hb0).keep h')
  have o1 : va1.oneCell' = true := by obtain ⟨_, _, _, _, h, _⟩ := ha1; rw [h]; rfl
  have o2 : va2.oneCell' = true := by obtain ⟨_, _, _, _, h, _⟩ := ha2; rw [h]; rfl
  have o3 : vb1.oneCell' = true := by obtain ⟨_, _, _, _, h, _⟩ := hb1; rw [h]; rfl
  have o4 : vb2.oneCell' = true := by obtain ⟨_, _, _, _, h, _⟩ := hb2; rw [h]; rfl
  have c1 : W.cell? ⟨w.heap.size, 1, none⟩ = some va1 := x1.2 1 (by simp)
  have d1 : W.cell? ⟨w.heap.size + 1, 1, none⟩ = some vb1 := x2.2 1 (by simp)
  have X1 := Hid.mk2 x1
  have X2 := Hid.mk2 x2
  have HB0 := Hid.mk2 hb0
  have HWD := Hid.mk2 hW
  rw [hW] at c1 d1
  clear ha1 ha2 hb1 hb2 hb0 x1 x2 hW
  generalize (r.err : Int) = E at *
  generalize r.a = ra at *
  generalize r.b = rb at *
  generalize r.c = rc at *
  go_enter Tryd.func17, Tryd.ntmps17
  go_wp2_with fail
  rw [← HWD.out]
  refine HSB.out.mono ?_
  rintro e w1 ⟨rfl, h1⟩
  have HS2 := Hid.mk2 (HSS.out w1 h1)
  have c2 : w1.cell? ⟨w.heap.size, 2, none⟩ = some va2 := (X1.out.below h1).2 2 (by simp)
  have d2 : w1.cell? ⟨w.heap.size + 1, 2, none⟩ = some vb2 := (X2.out.below h1).2 2 (by simp)
  have H1 := Hid.mk2 h1
  clear h1 c1 d1 HSB
  go_wp2_with fail
  refine HS2.out.mono ?_
  rintro e w2 ⟨rfl, h2⟩
  have h12 := Below.next H1.out h2
  have Y1 := X1.out.below h12
  have Y2 := X2.out.below h12
  have p0 : w2.cell? ⟨w.heap.size, 0, none⟩ = some (.int .i64 E) := Y1.2 0 (by simp)
  have p3 : w2.cell? ⟨w.heap.size, 3, none⟩ = some (.int .i64 ra) := Y1.2 3 (by simp)
  have p4 : w2.cell? ⟨w.heap.size, 4, none⟩ = some (.int .i64 rb) := Y1.2 4 (by simp)
  have p5 : w2.cell? ⟨w.heap.size, 5, none⟩ = some (.int .i64 rc) := Y1.2 5 (by simp)
  have q0 : w2.cell? ⟨w.heap.size + 1, 0, none⟩ = some (.int .i64 E) := Y2.2 0 (by simp)
  have q3 : w2.cell? ⟨w.heap.size + 1, 3, none⟩ = some (.int .i64 ra) := Y2.2 3 (by simp)
  have q4 : w2.cell? ⟨w.heap.size + 1, 4, none⟩ = some (.int .i64 rb) := Y2.2 4 (by simp)
  have q5 : w2.cell? ⟨w.heap.size + 1, 5, none⟩ = some (.int .i64 rc) := Y2.2 5 (by simp)
  have H2 := Hid.mk2 (Below.next HB0.out h12)
  clear h2 h12 Y1 Y2 HS2 HSS c2 d2
  go_wp2_with fail
  go_ret
  exact ⟨rfl, H2.out⟩

set_option maxRecDepth 100000 in
set_option maxHeartbeats 1600000 in
theorem shown_any (b c : Nat) (F G : Nat → Prop) (d r : Dev) (wr : World) (h1 : DevAt wr b F d) (h2 : DevAt wr c G r) (es : r.size = d.size) (ed : r.dur = d.dur) (ep : r.pend = d.pend) (ex : r.dead = d.dead) (hp : d.pend.length ≤ 5864062014805) :
    Calls Tryd.prog 18 #[.pointer (some ⟨b, 0, none⟩), .pointer (some ⟨c, 0, none⟩)] wr fun e w' => e = .returned (.bool true) ∧ Below wr.heap.size wr w' := by
  have hdl : d.dur.length ≤ 5864062014805 := Nat.le_trans h1.ok.dur_len (by omega)
  have H1 : Hid (∀ w', Below wr.heap.size wr w' → DevAt w' b F d) := fun w' hb => h1.below hb
  have H2 : Hid (∀ w', Below wr.heap.size wr w' → DevAt w' c G r) := fun w' hb => h2.below hb
  have HD : Hid (∀ w', Below wr.heap.size wr w' → Calls Tryd.prog 14 #[.pointer (some ⟨b, 0, none⟩)] w' fun e w'' => ∃ v, e = .returned v ∧ w''.ownsRow w'.heap.size 68 2 v d.dur.length (secCells d.dur) ∧ Below w'.heap.size w' w'') := fun w' hb => durable_any b F d w' (H1.out w' hb)
  have HP : Hid (∀ w', Below wr.heap.size wr w' → Calls Tryd.prog 15 #[.pointer (some ⟨b, 0, none⟩)] w' fun e w'' => ∃ v, e = .returned v ∧ w''.ownsRow w'.heap.size 68 2 v d.pend.length (secCells d.pend) ∧ Below w'.heap.size w' w'') := fun w' hb => pending_any b F d w' (H1.out w' hb) hp
  have HRD : Hid (∀ w', Below wr.heap.size wr w' → Calls Tryd.prog 14 #[.pointer (some ⟨c, 0, none⟩)] w' fun e w'' => ∃ v, e = .returned v ∧ w''.ownsRow w'.heap.size 68 2 v d.dur.length (secCells d.dur) ∧ Below w'.heap.size w' w'') := fun w' hb => by
    have := durable_any c G r w' (H2.out w' hb)
    rw [ed] at this; exact this
  have HRP : Hid (∀ w', Below wr.heap.size wr w' → Calls Tryd.prog 15 #[.pointer (some ⟨c, 0, none⟩)] w' fun e w'' => ∃ v, e = .returned v ∧ w''.ownsRow w'.heap.size 68 2 v d.pend.length (secCells d.pend) ∧ Below w'.heap.size w' w'') := fun w' hb => by
    have := pending_any c G r w' (H2.out w' hb) (by rw [ep]; exact hp)
    rw [ep] at this; exact this
  have HS : Hid (∀ w', Below wr.heap.size wr w' → Calls Tryd.prog 38 #[.pointer (some ⟨b, 0, none⟩)] w' fun e w'' => e = .returned (.int .i64 d.size) ∧ w' = w'') := fun w' hb => size_any b F d w' (H1.out w' hb)
  have HRS : Hid (∀ w', Below wr.heap.size wr w' → Calls Tryd.prog 38 #[.pointer (some ⟨c, 0, none⟩)] w' fun e w'' => e = .returned (.int .i64 d.size) ∧ w' = w'') := fun w' hb => by
    have := size_any c G r w' (H2.out w' hb)
    rw [es] at this; exact this
  have HX : Hid (∀ w', Below wr.heap.size wr w' → Calls Tryd.prog 42 #[.pointer (some ⟨b, 0, none⟩)] w' fun e w'' => e = .returned (.bool d.dead) ∧ w' = w'') := fun w' hb => dead_any b F d w' (H1.out w' hb)
  have HRX : Hid (∀ w', Below wr.heap.size wr w' → Calls Tryd.prog 42 #[.pointer (some ⟨c, 0, none⟩)] w' fun e w'' => e = .returned (.bool d.dead) ∧ w' = w'') := fun w' hb => by
    have := dead_any c G r w' (H2.out w' hb)
    rw [ex] at this; exact this
  have HSA : Hid (∀ w' va vb, SecsIn w' va d.dur → SecsIn w' vb d.dur → Calls Tryd.prog 51 #[va, vb] w' fun e w'' => e = .returned (.bool true) ∧ Below w'.heap.size w' w'') := fun w' va vb ha hb => sames_any d.dur va vb w' ha hb
  have HSP : Hid (∀ w' va vb, SecsIn w' va d.pend → SecsIn w' vb d.pend → Calls Tryd.prog 51 #[va, vb] w' fun e w'' => e = .returned (.bool true) ∧ Below w'.heap.size w' w'') := fun w' va vb ha hb => sames_any d.pend va vb w' ha hb
  have HDI : Hid (∀ (w' : World) (n : Nat) v, w'.ownsRow n 68 2 v d.dur.length (secCells d.dur) → SecsIn w' v d.dur) := fun w' n v h => secsIn_own h hdl
  have HPI : Hid (∀ (w' : World) (n : Nat) v, w'.ownsRow n 68 2 v d.pend.length (secCells d.pend) → SecsIn w' v d.pend) := fun w' n v h => secsIn_own h hp
  clear h1 h2 es ed ep ex hp hdl H1 H2
  generalize d.dur.length = nd at *
  generalize d.pend.length = np at *
  generalize d.size = sz at *
  generalize d.dead = dd at *
  go_enter Tryd.func18, Tryd.ntmps18
  go_wp2_with fail
  refine (HS.out wr (Below.refl _ _)).mono ?_
  rintro e w1 ⟨rfl, rfl⟩
  go_wp2_with fail
  refine (HRS.out wr (Below.refl _ _)).mono ?_
  rintro e w1 ⟨rfl, rfl⟩
  go_wp2_with fail
  refine (HX.out wr (Below.refl _ _)).mono ?_
  rintro e w1 ⟨rfl, rfl⟩
  go_wp2_with fail
  refine (HRX.out wr (Below.refl _ _)).mono ?_
  rintro e w1 ⟨rfl, rfl⟩
  clear HS HRS HX HRX
  go_wp2_with fail
  refine (HD.out wr (Below.refl _ _)).mono ?_
  rintro e w1 ⟨v1, rfl, hv1, hb1⟩
  have HV1 := Hid.mk2 (HDI.out w1 _ v1 hv1)
  have HB1 := Hid.mk2 hb1
  obtain ⟨a1, c1, rfl, -⟩ := owns_form hv1
  clear hv1 hb1
  go_wp2_with fail
  refine (HRD.out w1 HB1.out).mono ?_
  rintro e w2 ⟨v2, rfl, hv2, hb2⟩
  have HS2 := Hid.mk2 (HSA.out w2 _ v2 (HV1.out.keep hb2) (HDI.out w2 _ v2 hv2))
  have HB2 := Hid.mk2 (Below.next HB1.out hb2)
  obtain ⟨a2, c2, rfl, -⟩ := owns_form hv2
  clear hv2 hb2 HV1 HB1
  go_wp2_with fail
  refine HS2.out.mono ?_
  rintro e w3 ⟨rfl, hb3⟩
  have HB3 := Hid.mk2 (Below.next HB2.out hb3)
  clear hb3 HB2 HS2
  go_wp2_with fail
  refine (HP.out w3 HB3.out).mono ?_
  rintro e w4 ⟨v4, rfl, hv4, hb4⟩
  have HV4 := Hid.mk2 (HPI.out w4 _ v4 hv4)
  have HB4 := Hid.mk2 (Below.next HB3.out hb4)
  obtain ⟨a4, c4, rfl, -⟩ := owns_form hv4
  clear hv4 hb4 HB3
  go_wp2_with fail
  refine (HRP.out w4 HB4.out).mono ?_
  rintro e w5 ⟨v5, rfl, hv5, hb5⟩
  have HS5 := Hid.mk2 (HSP.out w5 _ v5 (HV4.out.keep hb5) (HPI.out w5 _ v5 hv5))
  have HB5 := Hid.mk2 (Below.next HB4.out hb5)
  obtain ⟨a5, c5, rfl, -⟩ := owns_form hv5
  clear hv5 hb5 HV4 HB4
  go_wp2_with fail
  refine HS5.out.mono ?_
  rintro e w6 ⟨rfl, hb6⟩
  have HB6 := Hid.mk2 (Below.next HB5.out hb6)
  clear hb6 HS5 HB5
  go_wp2_with fail
  go_ret
  exact ⟨rfl, HB6.out⟩

end Go.Proofs.YtdieacdkomiooabDoor
