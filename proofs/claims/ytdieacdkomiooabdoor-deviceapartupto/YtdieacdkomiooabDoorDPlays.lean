import Derived.Test.YtdieacdkomiooabDoorGC
import Derived.Deep.RegionHeld3
namespace Go.Proofs.YtdieacdkomiooabDoor
open Go.RowKit Go.Maps

theorem ropen_all {w : World} {b : Nat} {F : Nat → Prop} {d : Dev} {lv : Value} (h : RBody w b F d (.slice none 0 0) lv (.slice none 0 0) (.slice none 0 0)) (ha : d.arms = []) (ho : d.Ok) : RAll w b F d 0 := by
  refine ⟨_, _, _, _, h, ⟨_, World.ownsRow_nil _ _ _ _⟩, fun g hg => by simp [Value.ownBlock] at hg, ?_, fun g _ => by simp [Value.ownBlock], ho⟩
  rw [ha]
  exact .inl ⟨rfl, rfl⟩
theorem newD_arms (n : Int) (l : List Sec) : ({ newDev n with dur := l } : Dev).arms = [] := rfl
theorem shortD_none {d : Dev} (h : d.arms = []) : shortD d = d := by
  obtain ⟨sz, dur, pend, arms, dead, nr, nw, ns⟩ := d
  simp only at h
  subst h
  rfl
/-- What a round of DevicePlays holds. -/
structure PlayAt (A : Nat → Addr) (W wr : World) (b : Nat) (F : Nat → Prop) (c : Nat) (G : Nat → Prop) (d : Dev) (T : Nat) (steps : List Stp) (k : Nat) : Prop where
  duo : Duo A W wr b F (shortD d) c G d T
  fine : Fine steps k d T
/-- A step's own box. -/
structure Five (w : World) (p : Nat) (s : Stp) (fv : Value) : Prop where
  s0 : w.cell? ⟨p, 0, none⟩ = some (.int .i64 s.kind)
  s1 : w.cell? ⟨p, 1, none⟩ = some (.int .i64 s.sector)
  s2 : w.cell? ⟨p, 2, none⟩ = some (.int .i64 s.n)
  s3 : w.cell? ⟨p, 3, none⟩ = some (.string s.data)
  s4 : w.cell? ⟨p, 4, none⟩ = some fv
theorem Five.step {w w' : World} {p : Nat} {s : Stp} {fv : Value} {G G' : Nat → Prop} (h : Five w p s fv) (hs : Step G G' w w') (hp : ¬ G p) : Five w' p s fv :=
  ⟨hs.cell h.s0 hp, hs.cell h.s1 hp, hs.cell h.s2 hp, hs.cell h.s3 hp, hs.cell h.s4 hp⟩
theorem Five.below {w w' : World} {p : Nat} {s : Stp} {fv : Value} (h : Five w p s fv) (hb : Below w.heap.size w w') : Five w' p s fv :=
  ⟨cell_below hb h.s0, cell_below hb h.s1, cell_below hb h.s2, cell_below hb h.s3, cell_below hb h.s4⟩
/-- The rows of an answer. -/
def RowsAt (w : World) (G : Nat → Prop) (r : SaidD) (vb vs : Value) : Prop := ∃ n, RowAt w G n 5 1 vb r.bytes.length (u8s r.bytes) ∧ RowAt w G n 68 2 vs r.secs.length (secCells r.secs)
/-- Between the two devices' steps. -/
structure MidA (A : Nat → Addr) (W w : World) (b : Nat) (F : Nat → Prop) (c : Nat) (G : Nat → Prop) (d : Dev) (T : Nat) (s : Stp) (vb vs : Value) : Prop where
  duo : Duo A W w b F (shortD (d.actF s).1) c G d T
  rows : RowsAt w G (d.actF s).2 vb vs
theorem actF_lens (d : Dev) (s : Stp) (h : d.Ok) (hp : d.pend.length ≤ 5864062014805) : (d.actF s).2.bytes.length ≤ 140737488355328 ∧ (d.actF s).2.secs.length ≤ 5864062014805 := by
  unfold Dev.actF
  split
  · simp [said0]
  · exact act_lens d s h hp
theorem play_act {A : Nat → Addr} {W wr : World} {b c : Nat} {F G : Nat → Prop} {d : Dev} {T : Nat} {steps : List Stp} {k : Nat} (P : PlayAt A W wr b F c G d T steps k) (hl : steps.length ≤ 1048576) (hk : k < steps.length) (s : Stp) (fv : Value) (hfx : FatesIn W fv s.fates) (hn : s.n < 9223372036854775808) (hd : s.data.size ≤ 1048576)
    (p : Nat) (hp : wr.heap.size ≤ p) (w' : World) (hb : Below wr.heap.size wr w') (h5 : Five w' p s fv) :
    Calls Tryd.prog 11 #[.pointer (some ⟨b, 0, none⟩), .agg #[.int .i64 s.kind, .int .i64 s.sector, .int .i64 s.n, .string s.data, fv]] w' fun e w'' => ∃ va vc sa sc F6, e = .returned (.agg #[.int .i64 ((d.actF s).2.err : Int), .slice va (d.actF s).2.bytes.length vc, .slice sa (d.actF s).2.secs.length sc, .int .i64 (d.actF s).2.a, .int .i64 (d.actF s).2.b, .int .i64 (d.actF s).2.c]) ∧
      MidA A W w'' b F6 c G d T s (.slice va (d.actF s).2.bytes.length vc) (.slice sa (d.actF s).2.secs.length sc) ∧ Five w'' p s fv := by
  have h1 := P.fine.pend
  have h2 := P.fine.more
  refine ((P.duo.up hb).act s fv hfx (stpOk_of (k := k) hn hd (by exact h1) (by omega)) (by show ((d.arms.map _).length + 1) * 32 ≤ _; rw [List.length_map]; omega)).mono ?_
  rintro e w'' ⟨vb, vs, F6, Q, hs⟩
  rw [short_act] at Q
  have q1 := Q.rb
  have q2 := Q.rs
  simp only [] at q1 q2
  obtain ⟨va, vc, rfl, -⟩ := owns_form q1.1
  obtain ⟨sa, sc, rfl, -⟩ := owns_form q2.1
  exact ⟨va, vc, sa, sc, F6, Q.ret, ⟨Q.duo, _, q1, q2⟩, h5.step hs (fun hf => by have := P.duo.one.dev.lt p hf; omega)⟩
/-- Behind both devices' steps. -/
structure EndA (A : Nat → Addr) (W w : World) (b : Nat) (F : Nat → Prop) (c : Nat) (G : Nat → Prop) (d : Dev) (T : Nat) (steps : List Stp) (k : Nat) (s : Stp) (vb vs ub us : Value) : Prop where
  play : PlayAt A W w b F c G (d.actF s).1 T steps (k + 1)
  both : Both w (d.actF s).2 vb vs ub us
theorem play_told {A : Nat → Addr} {W wr : World} {b c : Nat} {F G F6 : Nat → Prop} {d : Dev} {T : Nat} {steps : List Stp} {k : Nat} (P : PlayAt A W wr b F c G d T steps k) (hS : StepsT steps) (hl : steps.length ≤ 1048576) (hk : k < steps.length) (s : Stp) (hsk : steps[k] = s) (fv : Value) (hfx : FatesIn W fv s.fates) (hd : s.data.size ≤ 1048576)
    (p : Nat) (hp : wr.heap.size ≤ p) (w2 : World) (vb vs : Value) (M : MidA A W w2 b F6 c G d T s vb vs) (w' : World) (hb : Below w2.heap.size w2 w') (h5 : Five w' p s fv) :
    Calls Tryd.prog 23 #[.pointer (some ⟨c, 0, none⟩), .agg #[.int .i64 s.kind, .int .i64 s.sector, .int .i64 s.n, .string s.data, fv]] w' fun e w'' => ∃ va vc sa sc G6 T6, e = .returned (.agg #[.int .i64 ((d.actF s).2.err : Int), .slice va (d.actF s).2.bytes.length vc, .slice sa (d.actF s).2.secs.length sc, .int .i64 (d.actF s).2.a, .int .i64 (d.actF s).2.b, .int .i64 (d.actF s).2.c]) ∧
      EndA A W w'' b F6 c G6 d T6 steps k s vb vs (.slice va (d.actF s).2.bytes.length vc) (.slice sa (d.actF s).2.secs.length sc) ∧ Five w'' p s fv := by
  have hf := P.fine
  have htold := hf.told hS hk hl (by rw [hsk]; exact hd)
  rw [hsk] at htold
  have hln := actF_lens d s M.duo.two.ok (by have := hf.pend; omega)
  refine ((M.duo.up hb).told s fv hfx htold).mono ?_
  rintro e w'' ⟨ub, us, G6, T6, Q, hs, hT⟩
  have q1 := Q.rb
  have q2 := Q.rs
  obtain ⟨va, vc, rfl, -⟩ := owns_form q1.1
  obtain ⟨sa, sc, rfl, -⟩ := owns_form q2.1
  obtain ⟨n, r1, r2⟩ := M.rows
  have r1' := (r1.up hb).step hs
  have r2' := (r2.up hb).step hs
  have hnx := hf.next (T' := T6) hS hk (by rw [hsk]; exact hd) (by rw [hsk]; exact hT)
  rw [hsk] at hnx
  exact ⟨va, vc, sa, sc, G6, T6, Q.ret, ⟨⟨Q.duo, hnx⟩, ⟨bytesIn_own r1'.1 hln.1, secsIn_own r2'.1 hln.2, bytesIn_own q1.1 hln.1, secsIn_own q2.1 hln.2⟩⟩, h5.step hs (fun hg => by have := P.duo.two.lt p hg; omega)⟩
theorem PlayAt.up {A : Nat → Addr} {W wr w' : World} {b c : Nat} {F G : Nat → Prop} {d : Dev} {T : Nat} {steps : List Stp} {k : Nat} (P : PlayAt A W wr b F c G d T steps k) (hb : Below wr.heap.size wr w') : PlayAt A W w' b F c G d T steps k := ⟨P.duo.up hb, P.fine⟩
theorem play_looks {A : Nat → Addr} {W wr : World} {b c : Nat} {F G : Nat → Prop} {d : Dev} {T : Nat} {steps : List Stp} {k : Nat} (P : PlayAt A W wr b F c G d T steps k) (hk : k ≤ 1048577) (w' : World) (hb : Below wr.heap.size wr w') :
    Calls Tryd.prog 24 #[.pointer (some ⟨b, 0, none⟩), .pointer (some ⟨c, 0, none⟩)] w' fun e w'' => e = .returned (.bool true) ∧ Below w'.heap.size w' w'' :=
  looks_any b c F G (shortD d) d w' (P.up hb).duo.one.dev (P.up hb).duo.two.at' rfl rfl rfl rfl (by have := P.fine.pend; show d.pend.length ≤ _; omega)

set_option maxRecDepth 100000 in
set_option maxHeartbeats 3200000 in
theorem dplays_any (base : Nat) (A : Nat → Addr) (X : Int) (fv sv : Value) (first : List Sec) (steps : List Stp) (w : World) (hE : ErrsB base A w) (hfv : SecsIn w fv first) (hfl : first.length ≤ 1048576) (hsv : StepsIn w sv steps) (hst : StepsT steps) :
    Calls Tryd.prog 4 #[.agg #[.int .i64 X, fv, sv]] w fun e w' => e = .returned (.bool true) ∧ Below w.heap.size w w' := by
  obtain ⟨W, hW⟩ : ∃ W, W = w.alloc (.cells #[.int .i64 X, fv, sv] 25) := ⟨_, rfl⟩
  have hb0 : Below w.heap.size w W := by rw [hW]; exact below_new _ _
  have hbx : Boxed w.heap.size [.int .i64 X, fv, sv] W := by rw [hW]; exact boxed_new w #[.int .i64 X, fv, sv] 25
  have HE : Hid (ErrsB base A W) := hE.up hb0
  have HFV : Hid (SecsIn W fv first) := hfv.keep hb0
  have HTH : Hid (StepsIn W sv steps) := hsv.keep hb0
  have HSC : Hid (∀ w', Below W.heap.size W w' → Calls Tryd.prog 20 #[fv] w' fun e w'' => ∃ v', e = .returned v' ∧ w''.ownsRow w'.heap.size 68 2 v' first.length (secCells first) ∧ Below w'.heap.size w' w'') := fun w' hb' => sectors_any first _ w' (HFV.out.keep hb')
  have HOP0 : Hid (∀ w' v n, Below W.heap.size W w' → w'.ownsRow n 68 2 v first.length (secCells first) → Calls Tryd.prog 19 #[.int .i64 X, v] w' (OpenPost A w' X first)) := fun w' v n hb' hr => open_any base A X first v w' (HE.out.up hb') ⟨hr.1, hr.2.imp id fun ⟨g, cap, cur, q1, _, q3⟩ => ⟨g, cap, cur, q1, Nat.zero_le _, q3⟩⟩ (by omega)
  have HRO0 : Hid (∀ w', Below W.heap.size W w' → Calls Tryd.prog 21 #[.int .i64 X, fv] w' (ROpenPost w' X first)) := fun w' hb' => ropen_any X first fv w' (HFV.out.keep hb')
  have HSL : Hid (steps.length ≤ 1048576) := by obtain ⟨_, _, _, _, _, _, h, _⟩ := hsv; exact h
  have HST := Hid.mk2 hst
  obtain ⟨fa, fcap, fn, rfl⟩ : ∃ a c n, fv = .slice a c n := by obtain ⟨a, c, _, _, h, _⟩ := hfv; exact ⟨a, _, c, h⟩
  obtain ⟨N, ta, tc, hsve, hN⟩ : ∃ N ta tc, sv = .slice ta N tc ∧ N = steps.length := by
    obtain ⟨a, c, _, _, _, h1, h2, _⟩ := hsv
    exact ⟨_, a, c, h1, rfl⟩
  have HN := Hid.mk2 hN
  subst hsve
  have HBX := Hid.mk2 hbx
  have HB0 : Hid (Below w.heap.size w W) := hb0
  have HWD := Hid.mk2 hW
  have c0 : W.cell? ⟨w.heap.size, 0, none⟩ = some (.int .i64 X) := hbx.2 0 (by simp)
  have c1 : W.cell? ⟨w.heap.size, 1, none⟩ = some (.slice fa fcap fn) := hbx.2 1 (by simp)
  clear hfv hsv hE hfl hb0 hbx hN hst
  cases hop : opens (newDev X).size 0 first
  · have HOP : Hid (∀ w' v n, Below W.heap.size W w' → w'.ownsRow n 68 2 v first.length (secCells first) → Calls Tryd.prog 19 #[.int .i64 X, v] w' fun e w'' => e = .returned (.tuple #[.pointer none, .iface 175 (.pointer (some (A 0)))]) ∧ Below w'.heap.size w' w'') := fun w' v n hb' hr => (HOP0.out w' v n hb' hr).mono fun e w'' h => by
      rcases h with ⟨h, _⟩ | ⟨_, h1, h2⟩
      · rw [hop] at h; cases h
      · exact ⟨h1, h2⟩
    have HRO : Hid (∀ w', Below W.heap.size W w' → Calls Tryd.prog 21 #[.int .i64 X, .slice fa fcap fn] w' fun e w'' => e = .returned (.tuple #[.pointer none, .int .i64 1]) ∧ Below w'.heap.size w' w'') := fun w' hb' => (HRO0.out w' hb').mono fun e w'' h => by
      rcases h with ⟨h, _⟩ | ⟨_, h1, h2⟩
      · rw [hop] at h; cases h
      · exact ⟨h1, h2⟩
    have HNM : Hid (∀ w', Below W.heap.size W w' → Calls Tryd.prog 22 #[.iface 175 (.pointer (some (A 0)))] w' fun e w'' => e = .returned (.int .i64 1) ∧ w' = w'') := fun w' hb' => num_any A w' (HE.out.up hb').at' 1 (by simp)
    clear hop HOP0 HRO0 HST HTH HSL
    go_enter Tryd.func4, Tryd.ntmps4
    go_wp2_with fail
    rw [← HWD.out]
    clear hW
    go_region_held3 (fun w' => w'.cell? ⟨w.heap.size, 0, none⟩ = some (.int .i64 X) ∧ w'.cell? ⟨w.heap.size, 1, none⟩ = some (.slice fa fcap fn)) (go_keep)
      (first
        | (go_at_call 20; refine (HSC.out _ (by first | exact bdrew1 (Below.refl _ _) | exact Below.refl _ _)).mono ?_; rintro e w1 ⟨v1, rfl, hv1, hbd⟩; have hb1 : Below W.heap.size W w1 := (by first | exact undrew hbd | exact hbd); clear hbd; have y0 := cell_below hb1 c0; have y1 := cell_below hb1 c1; obtain ⟨va, vc, rfl, -⟩ := owns_form hv1)
        | (go_at_call 19; refine (HOP.out _ _ _ hb1 hv1).mono ?_; rintro e w2 ⟨rfl, hb2'⟩; have hb2 := Below.next hb1 hb2'; have u0 := cell_below hb2' y0; have u1 := cell_below hb2' y1))
    all_goals
      have HB2 := Hid.mk2 hb2
      have HR2 := Hid.mk2 (HRO.out w2 hb2)
      clear hb2 hb2' hb1 hv1 y0 y1 HSC HOP
      go_wp2_with fail
      refine HR2.out.mono ?_
      rintro e w3 ⟨rfl, hb3⟩
      have HB3 := Hid.mk2 (Below.next HB2.out hb3)
      have HN3 := Hid.mk2 (HNM.out w3 (Below.next HB2.out hb3))
      have hne1 := run_eql_pointer_nil (P := Tryd.prog) w3 29 none Tryd.underlying29
      have hne2 := run_eql_pointer_nil (P := Tryd.prog) w3 53 none Tryd.underlying53
      clear HR2 hb3
      go_wp2_with fail
      refine HN3.out.mono ?_
      rintro e w4 ⟨rfl, rfl⟩
      go_wp2_with fail
      go_ret
      exact ⟨rfl, Below.next HB0.out HB3.out⟩
  · obtain ⟨D, hD⟩ : ∃ D : Dev, D = { newDev X with dur := openD first } := ⟨_, rfl⟩
    have HDA : Hid (D.arms = [] ∧ D.pend = []) := by rw [hD]; exact ⟨rfl, rfl⟩
    have HOP : Hid (∀ w' v n, Below W.heap.size W w' → w'.ownsRow n 68 2 v first.length (secCells first) → Calls Tryd.prog 19 #[.int .i64 X, v] w' fun e w'' => ∃ b F, e = .returned (.tuple #[.pointer (some ⟨b, 0, none⟩), .nilIface]) ∧ DevAt w'' b F D ∧ Below w'.heap.size w' w'' ∧ ∀ k, F k → w'.heap.size ≤ k) := fun w' v n hb' hr => (HOP0.out w' v n hb' hr).mono fun e w'' h => by
      rcases h with ⟨_, h⟩ | ⟨h, _⟩
      · rw [hD]; exact h
      · rw [hop] at h; cases h
    have HRO : Hid (∀ w', Below W.heap.size W w' → Calls Tryd.prog 21 #[.int .i64 X, .slice fa fcap fn] w' fun e w'' => ∃ c G, e = .returned (.tuple #[.pointer (some ⟨c, 0, none⟩), .int .i64 0]) ∧ (∃ lv, RBody w'' c G D (.slice none 0 0) lv (.slice none 0 0) (.slice none 0 0)) ∧ Below w'.heap.size w' w'' ∧ ∀ k, G k → w'.heap.size ≤ k) := fun w' hb' => (HRO0.out w' hb').mono fun e w'' h => by
      rcases h with ⟨_, h⟩ | ⟨h, _⟩
      · rw [hD]; exact h
      · rw [hop] at h; cases h
    have HNM : Hid (∀ w', Below W.heap.size W w' → Calls Tryd.prog 22 #[.nilIface] w' fun e w'' => e = .returned (.int .i64 0) ∧ w' = w'') := fun w' hb' => num_any A w' (HE.out.up hb').at' 0 (by simp)
    clear hop HOP0 HRO0 hD
    go_enter Tryd.func4, Tryd.ntmps4
    go_wp2_with fail
    rw [← HWD.out]
    clear hW
    go_region_held3 (fun w' => w'.cell? ⟨w.heap.size, 0, none⟩ = some (.int .i64 X) ∧ w'.cell? ⟨w.heap.size, 1, none⟩ = some (.slice fa fcap fn)) (go_keep)
      (first
        | (go_at_call 20; refine (HSC.out _ (by first | exact bdrew1 (Below.refl _ _) | exact Below.refl _ _)).mono ?_; rintro e w1 ⟨v1, rfl, hv1, hbd⟩; have hb1 : Below W.heap.size W w1 := (by first | exact undrew hbd | exact hbd); clear hbd; have y0 := cell_below hb1 c0; have y1 := cell_below hb1 c1; obtain ⟨va, vc, rfl, -⟩ := owns_form hv1)
        | (go_at_call 19; refine (HOP.out _ _ _ hb1 hv1).mono ?_; rintro e w2 ⟨b, F, rfl, hd2, hb2', hf2⟩; have hb2 := Below.next hb1 hb2'; have u0 := cell_below hb2' y0; have u1 := cell_below hb2' y1))
    have HB2 := Hid.mk2 hb2
    have HD2 := Hid.mk2 hd2
    have HF2 : Hid (∀ k, F k → W.heap.size ≤ k) := fun k hk => Nat.le_trans hb1.size (hf2 k hk)
    have HR2 := Hid.mk2 (HRO.out w2 hb2)
    clear hb2 hb2' hb1 hv1 y0 y1 HSC HOP hd2 hf2
    go_wp2_with fail
    refine HR2.out.mono ?_
    rintro e w3 ⟨c, G, rfl, ⟨lv, hr3⟩, hb3, hg3⟩
    have HB3 := Hid.mk2 (Below.next HB2.out hb3)
    have HN3 := Hid.mk2 (HNM.out w3 (Below.next HB2.out hb3))
    have hne1 := run_eql_pointer_nil (P := Tryd.prog) w3 29 (some ⟨b, 0, none⟩) Tryd.underlying29
    have hne2 := run_eql_pointer_nil (P := Tryd.prog) w3 53 (some ⟨c, 0, none⟩) Tryd.underlying53
    have HPL : Hid (PlayAt A W w3 b F c G D 0 steps 0) := by
      refine ⟨⟨?_, ropen_all hr3 HDA.out.1 HD2.out.ok, fun k hk => ?_, fun k hf hg => ?_⟩, ?_⟩
      · rw [shortD_none HDA.out.1]
        exact ⟨HD2.out.below hb3, HB3.out, HF2.out, HE.out.here.up HB3.out⟩
      · have := hg3 k hk; have := HB2.out.size; omega
      · have := HD2.out.lt k hf; have := hg3 k hg; omega
      · refine ⟨by rw [HDA.out.2]; simp, by rw [HDA.out.1]; simp, ?_, fun a ha => by rw [HDA.out.1] at ha; cases ha⟩
        rw [HDA.out.1]
        have := HST.out.tot
        simp [armSum]; exact this
    clear HR2 hb3 hr3 hg3 u0 u1
    go_wp2_with fail
    refine HN3.out.mono ?_
    rintro e w4 ⟨rfl, rfl⟩
    clear HN3 HNM HRO HF2 HD2 HB2
    go_wp2_with fail
    go_loopw [7] (fun i wr => ∃ (k : Nat) (F' G' : Nat → Prop) (d : Dev) (T : Nat), k ≤ N ∧ i = .int .i64 (k : Int) ∧ PlayAt A W wr b F' c G' d T steps k) (fun i _ => N - (intOf i).toNat)
    case atStart => exact ⟨0, F, G, D, 0, Nat.zero_le _, rfl, HPL.out⟩
    case round =>
      obtain ⟨k, F5, G5, d, T, hk, rfl, P⟩ := hrel
      have HP := Hid.mk2 P
      have b2 : wr.cell? ⟨w.heap.size, 2, none⟩ = some (.slice ta N tc) := (HBX.out.below P.duo.one.bel).2 2 (by simp)
      have hNb : N ≤ 1048576 := by rw [HN.out]; exact HSL.out
      clear HPL
      by_cases hlt : k < N
      · obtain ⟨a', cap', g, off, fvs, h1, h2, h3, h4, h5⟩ := HTH.out
        simp only [Value.slice.injEq] at h1
        obtain ⟨rfl, hl', rfl⟩ := h1
        obtain rfl := h3 (by omega)
        have hkl : k < steps.length := by omega
        obtain ⟨⟨x0, x1, x2, x3, x4⟩, hfx, hnx, hdx⟩ := h5 k hkl (by omega)
        replace x0 := cell_below P.duo.one.bel x0
        replace x1 := cell_below P.duo.one.bel x1
        replace x2 := cell_below P.duo.one.bel x2
        replace x3 := cell_below P.duo.one.bel x3
        replace x4 := cell_below P.duo.one.bel x4
        have k0 : (0 : Int) ≤ (k : Int) := Int.natCast_nonneg _
        have k1 : (k : Int) < (N : Int) := by omega
        have HSK : Hid (∃ h : k < steps.length, steps[k] = steps[k]) := ⟨hkl, rfl⟩
        generalize hsk : steps[k] = sk at *
        generalize hfk : fvs[k]'(by omega) = fk at *
        obtain ⟨fka, fkc, rfl⟩ : ∃ a c, fk = .slice a sk.fates.length c := by obtain ⟨a, c, _, _, h, _⟩ := hfx; exact ⟨a, c, h⟩
        obtain ⟨W1, hW1⟩ : ∃ W1, W1 = wr.alloc (.cells #[.int .i64 sk.kind, .int .i64 sk.sector, .int .i64 sk.n, .string sk.data, .slice fka sk.fates.length fkc] 35) := ⟨_, rfl⟩
        have hbw : Below wr.heap.size wr W1 := by rw [hW1]; exact below_new _ _
        have hbx1 : Boxed wr.heap.size [.int .i64 sk.kind, .int .i64 sk.sector, .int .i64 sk.n, .string sk.data, .slice fka sk.fates.length fkc] W1 := by rw [hW1]; exact boxed_new wr #[.int .i64 sk.kind, .int .i64 sk.sector, .int .i64 sk.n, .string sk.data, .slice fka sk.fates.length fkc] 35
        have h5W : Five W1 wr.heap.size sk (.slice fka sk.fates.length fkc) := ⟨hbx1.2 0 (by simp), hbx1.2 1 (by simp), hbx1.2 2 (by simp), hbx1.2 3 (by simp), hbx1.2 4 (by simp)⟩
        have HA := Hid.mk2 (fun w' hb' => play_act P HSL.out hkl sk (.slice fka sk.fates.length fkc) hfx hnx hdx wr.heap.size (Nat.le_refl _) w' (Below.next hbw hb') (h5W.below hb'))
        have HTL := Hid.mk2 (fun (w2 : World) (F6 : Nat → Prop) vb vs (M : MidA A W w2 b F6 c G5 d T sk vb vs) (h5 : Five w2 wr.heap.size sk (.slice fka sk.fates.length fkc)) w' hb' => play_told P HST.out HSL.out hkl sk hsk (.slice fka sk.fates.length fkc) hfx hdx wr.heap.size (Nat.le_refl _) w2 vb vs M w' hb' (h5.below hb'))
        have HSM := Hid.mk2 (fun (w3 : World) (F6 G6 : Nat → Prop) T6 vb vs ub us (E : EndA A W w3 b F6 c G6 d T6 steps k sk vb vs ub us) w' (hb' : Below w3.heap.size w3 w') => same_any (d.actF sk).2 vb vs ub us w' (E.both.keep hb').a1 (E.both.keep hb').a2 (E.both.keep hb').b1 (E.both.keep hb').b2)
        have HLK := Hid.mk2 (fun (w3 : World) (F6 G6 : Nat → Prop) T6 vb vs ub us (E : EndA A W w3 b F6 c G6 d T6 steps k sk vb vs ub us) w' (hb' : Below w3.heap.size w3 w') => play_looks E.play (by omega) w' hb')
        have e0 := h5W.s0
        have e1 := h5W.s1
        have e2 := h5W.s2
        have e3 := h5W.s3
        have e4 := h5W.s4
        have HW1 := Hid.mk2 hW1
        clear P hfx hbw hbx1 h2 h3 h4 h5 hsk hfk hdx hnx hl' hkl HSK h5W
        generalize d.actF sk = R at *
        obtain ⟨R1, re, rby, rse, ra, rb, rc⟩ := R
        simp only [] at HA HTL HSM HLK
        obtain ⟨K, S, n, Dt, fl⟩ := sk
        simp only [] at x0 x1 x2 x3 x4 e0 e1 e2 e3 e4 hW1 HA HTL
        go_wp2_with fail
        rw [← hW1]
        clear hW1 HW1
        go_region_held3 (fun w' => w'.cell? ⟨wr.heap.size, 0, none⟩ = some (.int .i64 K) ∧ w'.cell? ⟨wr.heap.size, 1, none⟩ = some (.int .i64 S) ∧ w'.cell? ⟨wr.heap.size, 2, none⟩ = some (.int .i64 n) ∧ w'.cell? ⟨wr.heap.size, 3, none⟩ = some (.string Dt) ∧ w'.cell? ⟨wr.heap.size, 4, none⟩ = some (.slice fka fl.length fkc)) (go_keep)
          (first
            | (go_at_call 24; refine (HLK.out w3 F6 G6 T6 _ _ _ _ E _ hb4).mono ?_; rintro e w5 ⟨rfl, hb5'⟩; have hb5 := Below.next hb4 hb5'; have t0 := cell_below hb5' v0; have t1 := cell_below hb5' v1; have t2 := cell_below hb5' v2; have t3 := cell_below hb5' v3; have t4 := cell_below hb5' v4)
            | (go_at_call 17; refine (HSM.out w3 F6 G6 T6 _ _ _ _ E _ (by first | exact Below.refl _ _ | exact bdrew1 (Below.refl _ _))).mono ?_; rintro e w4 ⟨rfl, hbd4⟩; have hb4 : Below w3.heap.size w3 w4 := (by first | exact hbd4 | exact undrew hbd4); have v0 := cell_below hb4 z0; have v1 := cell_below hb4 z1; have v2 := cell_below hb4 z2; have v3 := cell_below hb4 z3; have v4 := cell_below hb4 z4)
            | (go_at_call 23; refine (HTL.out w2 F6 _ _ M h52 _ (by first | exact Below.refl _ _ | exact bdrew1 (Below.refl _ _))).mono ?_; rintro e w3 ⟨ua, uc, ta2, tc2, G6, T6, rfl, E, h53⟩; have z0 := h53.s0; have z1 := h53.s1; have z2 := h53.s2; have z3 := h53.s3; have z4 := h53.s4; simp only [] at z0 z1 z2 z3 z4)
            | (go_at_call 11; refine (HA.out _ (by first | exact bdrew1 (Below.refl _ _) | exact Below.refl _ _)).mono ?_; rintro e w2 ⟨va, vc, sa, sc, F6, rfl, M, h52⟩; have y0 := h52.s0; have y1 := h52.s1; have y2 := h52.s2; have y3 := h52.s3; have y4 := h52.s4; simp only [] at y0 y1 y2 y3 y4))
        have HEN : Hid (PlayAt A W w5 b F6 c G6 (d.actF ⟨K, S, n, Dt, fl⟩).1 T6 steps (k + 1)) := E.play.up hb5
        clear E M h52 h53 HA HTL HSM HLK y0 y1 y2 y3 y4 z0 z1 z2 z3 z4 v0 v1 v2 v3 v4 t0 t1 t2 t3 t4 e0 e1 e2 e3 e4 hb4 hb5 hb5' hbd4
        go_wp2_with fail
        go_roundw
        case rel => exact ⟨k + 1, F6, G6, _, T6, by omega, by go_num, HEN.out⟩
        case measure => simp [intOf]; omega
      · have k2 : ¬ (k : Int) < (N : Int) := by omega
        have HBT := Hid.mk2 (Below.next HB0.out P.duo.one.bel)
        clear P
        go_wp2_with fail
        go_ret
        exact ⟨rfl, HBT.out⟩

end Go.Proofs.YtdieacdkomiooabDoor
