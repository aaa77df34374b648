import Derived.Test.YtageokjobbjddaaGreatDoorGRS
namespace Go.Proofs.YtageokjobbjddaaGreatDoor
open Go.RowKit

/-! The laws' `tidy`. -/
theorem CsOwn.down {w : World} {b base : Nat} {v : Value} {l : List Cd} (h : CsOwn w base v l) (hb : b ≤ base) : CsOwn w b v l := by
  obtain ⟨us, hus, how, hok, hin⟩ := h
  refine ⟨us, hus, ⟨how.1, ?_⟩, hok, fun i h h' => (hin i h h').imp fun k hk => ⟨Nat.le_trans hb hk.1, hk.2⟩⟩
  rcases how.2 with h' | ⟨k, cap, cur, h', h1, hr⟩
  · exact .inl h'
  · exact .inr ⟨k, cap, cur, h', Nat.le_trans hb h1, hr⟩
def TidyR (w : World) (e : Ending) (w' : World) : Prop := ∃ (q : Qd) (la : Option Addr) (k : Nat), e = .returned (.agg (qV q (.slice la q.cs.length k))) ∧ TidyQ q ∧ CsOwn w' w.heap.size (.slice la q.cs.length k) q.cs ∧ Below w.heap.size w w'
theorem late_below {W w2 : World} {o : Obj} (h : Below (W.alloc o).drew.heap.size (W.alloc o).drew w2) : Below W.heap.size W w2 := Below.next (below_new W o) ⟨h.os, h.tape, h.output, h.size, h.block⟩
theorem late_row {W w2 : World} {cs : Array Value} {t : TypeId} (h : Below (W.alloc (.cells cs t)).drew.heap.size (W.alloc (.cells cs t)).drew w2) : RowAt w2 W.heap.size cs t := (RowAt.new W cs t).below (w' := w2) ⟨h.os, h.tape, h.output, h.size, h.block⟩
set_option maxHeartbeats 8000000 in
set_option maxRecDepth 100000 in
theorem tidy_any (q : Qd) (cv : Value) (w : World) (hc : CsAt w anyB cv q.cs) (ht : q.table.size ≤ 140737488355328) (ho : q.order.size ≤ 140737488355328) (hm2 : q.limit ≤ 9223372036854775807) :
    Calls Tryz.prog 4 #[.agg (qV q cv)] w fun e w' => TidyR w e w' := by
  obtain ⟨i0, hi, hz0, hz1, hz2⟩ := info_parts Tryz.info34
  obtain ⟨ca, cc, hcv⟩ := hc.form
  subst hcv
  obtain ⟨qt, qc, qo, qf, ql⟩ := q
  simp only at hc ht ho hm2
  simp only [qV]
  have q0 := below_new w (.cells #[.string qt, .slice ca qc.length cc, .string qo, .bool qf, .int .i64 ql] 24)
  have x0 := RowAt.new w #[.string qt, .slice ca qc.length cc, .string qo, .bool qf, .int .i64 ql] 24
  have hs0 : (w.alloc (.cells #[.string qt, .slice ca qc.length cc, .string qo, .bool qf, .int .i64 ql] 24)).heap.size = w.heap.size + 1 := by simp
  obtain ⟨W0, hW0⟩ : ∃ W0, w.alloc (.cells #[.string qt, .slice ca qc.length cc, .string qo, .bool qf, .int .i64 ql] 24) = W0 := ⟨_, rfl⟩
  rw [hW0] at q0 x0 hs0
  have q1 := below_new W0 (.cells #[.string ⟨#[]⟩, .slice none 0 0, .string ⟨#[]⟩, .bool false, .int .i64 0] 24)
  have x1 := RowAt.new W0 #[.string ⟨#[]⟩, .slice none 0 0, .string ⟨#[]⟩, .bool false, .int .i64 0] 24
  rw [hs0] at x1
  have x01 := x0.below q1
  have q01 := Below.next q0 q1
  obtain ⟨W1, hW1⟩ : ∃ W1, W0.alloc (.cells #[.string ⟨#[]⟩, .slice none 0 0, .string ⟨#[]⟩, .bool false, .int .i64 0] 24) = W1 := ⟨_, rfl⟩
  rw [hW1] at x1 x01 q01
  have HW : Hid ((w.alloc (.cells #[.string qt, .slice ca qc.length cc, .string qo, .bool qf, .int .i64 ql] 24)).alloc (.cells #[.string ⟨#[]⟩, .slice none 0 0, .string ⟨#[]⟩, .bool false, .int .i64 0] 24) = W1) := by show _ = _; rw [hW0, hW1]
  have HS1 : Hid (W1.heap.size = w.heap.size + 1 + 1) := by show _ = _; rw [← hW1]; simp; omega
  have HC := hide hc
  have HX0 := hide x01
  have HX1 := hide x1
  have HQ1 := hide q01
  have HNT := hide (fun W => nameof_any qt W ht)
  have HNO := hide (fun W => nameof_any qo W ho)
  clear q0 x0 hs0 hW0 q1 x1 x01 q01 hW1 hc
  go_enter Tryz.func4, Tryz.ntmps4
  go_upto_region 1 with fail
  rw [HW.out]
  go_cut [3] (fun v wx => ∃ (b : Nat) (n : ByteArray) (m : Int), v = .pointer (some ⟨b, 0, none⟩) ∧ Hid (RowAt wx b #[.string n, .slice none 0 0, .string ⟨#[]⟩, .bool false, .int .i64 m] 24) ∧ Hid (isNameD n = true) ∧ Hid (0 ≤ m ∧ m ≤ 9223372036854775807) ∧ Hid (Below W1.heap.size W1 wx) ∧ Hid (W1.heap.size ≤ b))
  case first =>
    obtain ⟨a0, _, _, _, a4⟩ := HX0.out.q5
    have hne1 : w.heap.size ≠ W1.heap.size := by have := HS1.out; omega
    have hne2 : W1.heap.size ≠ w.heap.size := Ne.symm hne1
    by_cases hl : 0 ≤ ql
    · have hlI : ¬ ql < 0 := by omega
      have hmax : max ql 0 = ql := by omega
      have HM : Hid (0 ≤ ql ∧ ql ≤ 9223372036854775807) := ⟨hl, hm2⟩
      go_region_held3 (fun w' => w'.cell? ⟨w.heap.size, 0, none⟩ = some (.string qt) ∧ w'.cell? ⟨w.heap.size, 4, none⟩ = some (.int .i64 ql)) (go_keep)
        (first
          | (go_at_call 12; refine (HNT.out _).mono ?_; rintro e w2 ⟨n, rfl, hn, hb2⟩; have HNN := hide hn; first
              | (have hbX : Below W1.heap.size W1 w2 := ⟨hb2.os, hb2.tape, hb2.output, hb2.size, hb2.block⟩
                 have b0 := cell_below hbX a0
                 have b4 := cell_below hbX a4
                 have HBX := hide hbX
                 have hne3 : w.heap.size ≠ w2.heap.size := by have := HS1.out; have := hbX.size; omega
                 have hne4 : w2.heap.size ≠ w.heap.size := Ne.symm hne3
                 clear hn hb2 hbX)
              | (have hbX := late_below hb2
                 have hz := late_row hb2
                 have b0 := cell_below hbX a0
                 have b4 := cell_below hbX a4
                 obtain ⟨z0, z1, z2, z3, z4⟩ := hz.q5
                 obtain ⟨zf0, zf1, zf2, zf3, zf4⟩ := q_frees hz
                 have HZ := hide hz
                 have HBX := hide hbX
                 clear hn hb2 hbX hz)))
      all_goals
        clear a0 a4 b0 b4
        go_wp2
        go_meet
        first
          | (have hz9 := HZ.out; exact ⟨W1.heap.size, n, ql, rfl, q_put hz9 _ _ _ _ _, HNN, HM, below_q HBX.out (Nat.le_refl _) _ _ _ _ _, Nat.le_refl _⟩)
          | exact ⟨w2.heap.size, n, ql, rfl, RowAt.new w2 _ 24, HNN, HM, Below.next HBX.out (below_new w2 _), HBX.out.size⟩
    · have hlI : ql < 0 := by omega
      have hmax : max ql 0 = 0 := by omega
      have HM : Hid ((0 : Int) ≤ 0 ∧ (0 : Int) ≤ 9223372036854775807) := ⟨by decide, by decide⟩
      go_region_held3 (fun w' => w'.cell? ⟨w.heap.size, 0, none⟩ = some (.string qt) ∧ w'.cell? ⟨w.heap.size, 4, none⟩ = some (.int .i64 ql)) (go_keep)
        (first
          | (go_at_call 12; refine (HNT.out _).mono ?_; rintro e w2 ⟨n, rfl, hn, hb2⟩; have HNN := hide hn; first
              | (have hbX : Below W1.heap.size W1 w2 := ⟨hb2.os, hb2.tape, hb2.output, hb2.size, hb2.block⟩
                 have b0 := cell_below hbX a0
                 have b4 := cell_below hbX a4
                 have HBX := hide hbX
                 have hne3 : w.heap.size ≠ w2.heap.size := by have := HS1.out; have := hbX.size; omega
                 have hne4 : w2.heap.size ≠ w.heap.size := Ne.symm hne3
                 clear hn hb2 hbX)
              | (have hbX := late_below hb2
                 have hz := late_row hb2
                 have b0 := cell_below hbX a0
                 have b4 := cell_below hbX a4
                 obtain ⟨z0, z1, z2, z3, z4⟩ := hz.q5
                 obtain ⟨zf0, zf1, zf2, zf3, zf4⟩ := q_frees hz
                 have HZ := hide hz
                 have HBX := hide hbX
                 clear hn hb2 hbX hz)))
      all_goals
        clear a0 a4 b0 b4
        go_wp2
        go_meet
        first
          | (have hz9 := HZ.out; exact ⟨W1.heap.size, n, 0, rfl, q_put hz9 _ _ _ _ _, HNN, HM, below_q HBX.out (Nat.le_refl _) _ _ _ _ _, Nat.le_refl _⟩)
          | exact ⟨w2.heap.size, n, 0, rfl, RowAt.new w2 _ 24, HNN, HM, Below.next HBX.out (below_new w2 _), HBX.out.size⟩
  case rest =>
    obtain ⟨b, n, m, rfl, hrow, hn, hm, hbl, hbb⟩ := hcut
    have hs1 := HS1.out
    have hblt := hrow.out.lt
    have hbb2 := hbb.out
    have HXW := hide (HX0.out.below hbl.out)
    have HX1W := hide (HX1.out.below hbl.out)
    have HBW := hide (Below.next HQ1.out hbl.out)
    have HROW := hide hrow.out
    clear hrow hbl hbb
    go_wp2_with fail
    go_loopw [4] (fun iv wr => ∃ (I : Nat) (l : List Cd) (a : Option Addr) (c : Nat), iv = .int .i64 (I : Int) ∧ I ≤ 2 ∧ I ≤ qc.length ∧ Hid (l.length = I) ∧ Hid (∀ c ∈ l, isNameD c.field = true ∧ 1 ≤ c.sign ∧ c.sign ≤ 5 ∧ Deep 4 c.item) ∧ Hid (CsOwn wr wc.heap.size (.slice a l.length c) l) ∧ Hid (RowAt wr b #[.string n, .slice a l.length c, .string ⟨#[]⟩, .bool false, .int .i64 m] 24) ∧ Hid (Two b b wc wr)) (fun iv _ => 2 - (intOf iv).toNat)
    case atStart => exact ⟨0, [], none, 0, rfl, by omega, Nat.zero_le _, rfl, (fun y hy => by cases hy), ⟨[], rfl, by simpa [ccells] using World.ownsRow_nil _ _ _ _, fun i h => absurd h (by simp), fun i h => absurd h (by simp)⟩, HROW.out, Two.refl _ _ _⟩
    case round =>
      obtain ⟨I, l, a, c, rfl, hI2, hIq, hlI, hgd, hown, hrow, htw⟩ := hrel
      have hl2 : l.length ≤ 2 := by have := hlI.out; omega
      have hbs := htw.out.size
      have hxw := htw.out.row HXW.out (by omega) (by omega)
      have hx1 := htw.out.row HX1W.out (by omega) (by omega)
      have hbw : Below w.heap.size w wr := htw.out.below HBW.out (by omega) (by omega)
      obtain ⟨_, c1, c2, c3, _⟩ := hxw.q5
      by_cases hlt : I < qc.length ∧ I < 2
      · obtain ⟨hl1, hl3⟩ := hlt
        have j0 : (0 : Int) ≤ (I : Int) := by omega
        have j1 : (I : Int) < (qc.length : Int) := by omega
        have j2 : (I : Int) < 2 := by omega
        obtain ⟨g, off, u, rfl, -, hcok, s0, s1, s2, s3, s4, s5, hin⟩ := (HC.out.keep hbw).get I hl1
        generalize qc[I] = z at *
        obtain ⟨za, zc, rfl⟩ := hin.form
        have v1 := RowAt.new wr #[.string z.field, .int .i64 z.sign, .int .i64 z.item.kind, .int .i64 z.item.num, .string z.item.text, .slice za z.item.list.length zc] 34
        have qv := below_new wr (.cells #[.string z.field, .int .i64 z.sign, .int .i64 z.item.kind, .int .i64 z.item.num, .string z.item.text, .slice za z.item.list.length zc] 34)
        obtain ⟨V, hV⟩ : ∃ V, wr.alloc (.cells #[.string z.field, .int .i64 z.sign, .int .i64 z.item.kind, .int .i64 z.item.num, .string z.item.text, .slice za z.item.list.length zc] 34) = V := ⟨_, rfl⟩
        rw [hV] at v1 qv
        have HV := hide hV
        have HVR := hide v1
        have hsV : V.heap.size = wr.heap.size + 1 := by rw [← hV]; simp
        have HNF := hide (fun W => nameof_any z.field W (by have := hcok.f; omega))
        have HPK := hide (fun W => kpick_any (IntKind.i64.wrap (z.sign - 1)) 5 W (by decide) (by decide))
        have HDP : Hid (∀ W, Below V.heap.size V W → Calls Tryz.prog 14 #[.agg #[.int .i64 z.item.kind, .int .i64 z.item.num, .string z.item.text, .slice za z.item.list.length zc], .int .i64 0] W fun e w' => DeepR W 4 e w') := fun W hW => deep_any 4 0 z.item (.slice za z.item.list.length zc) W rfl hcok.it ((hin.keep qv).keep hW)
        have HOW := hide (hown.out.keep qv)
        have HBK : Hid (∀ k, (Value.slice a l.length c).ownBlock = some k → wc.heap.size ≤ k ∧ k < wr.heap.size) := hown.out.blk
        have hm1 : l.length + 1 ≤ maxLen := by unfold maxLen; omega
        have hm2' : (l.length + 1) * 80 ≤ 140737488355328 := by omega
        have HRW := hide (hrow.out.below qv)
        have HTW := hide (htw.out.trans (.of_below qv))
        have r1 := (hrow.out.below qv).q5.2.1
        obtain ⟨k0, k1, k2, k3, k4, k5⟩ := v1.q6
        clear hin hcok hown hrow htw qv v1 hV hbw hxw hx1
        have hnb1 : b ≠ wr.heap.size := by omega
        have hnb2 : wr.heap.size ≠ b := Ne.symm hnb1
        go_upto_region 6 with fail
        rw [HV.out]
        clear s0 s1 s2 s3 s4 s5 c1 c2 c3
        have HT0 : Hid ((fun w' => w'.cell? ⟨b, 1, none⟩ = some (.slice a l.length c) ∧ w'.cell? ⟨wr.heap.size, 0, none⟩ = some (.string z.field) ∧ w'.cell? ⟨wr.heap.size, 1, none⟩ = some (.int .i64 z.sign) ∧ w'.cell? ⟨wr.heap.size, 2, none⟩ = some (.int .i64 z.item.kind) ∧ w'.cell? ⟨wr.heap.size, 3, none⟩ = some (.int .i64 z.item.num) ∧ w'.cell? ⟨wr.heap.size, 4, none⟩ = some (.string z.item.text) ∧ w'.cell? ⟨wr.heap.size, 5, none⟩ = some (.slice za z.item.list.length zc)) V.drew) := ⟨r1, k0, k1, k2, k3, k4, k5⟩
        refine AnyD.region (fun w' => w'.cell? ⟨b, 1, none⟩ = some (.slice a l.length c) ∧ w'.cell? ⟨wr.heap.size, 0, none⟩ = some (.string z.field) ∧ w'.cell? ⟨wr.heap.size, 1, none⟩ = some (.int .i64 z.sign) ∧ w'.cell? ⟨wr.heap.size, 2, none⟩ = some (.int .i64 z.item.kind) ∧ w'.cell? ⟨wr.heap.size, 3, none⟩ = some (.int .i64 z.item.num) ∧ w'.cell? ⟨wr.heap.size, 4, none⟩ = some (.string z.item.text) ∧ w'.cell? ⟨wr.heap.size, 5, none⟩ = some (.slice za z.item.list.length zc)) (fun j => j != 17) (by kernel_rfl) ?_
        refine AnyD.taked (i := 0) (d := 29) (v := .pointer (some ⟨b, 1, none⟩)) rfl rfl (by kernel_rfl) (by kernel_rfl) (by kernel_rfl) rfl (by kernel_rfl) (fun _ _ _ h => h) (Or.inl ⟨by rfl, ?_⟩) HT0.out ?_
        · intro w' hw'
          obtain ⟨t0, t1, t2, t3, t4, t5, t6⟩ := hw'
          go_simp
        try simp only [Act.put, List.setIfInBounds_toArray, List.set_cons_zero, List.set_cons_succ]
        refine AnyD.taked (i := 1) (d := 30) (v := .slice a l.length c) rfl rfl (by kernel_rfl) (by kernel_rfl) (by kernel_rfl) rfl (by kernel_rfl) (fun _ _ _ h => h) (Or.inl ⟨by rfl, ?_⟩) HT0.out ?_
        · intro w' hw'
          obtain ⟨t0, t1, t2, t3, t4, t5, t6⟩ := hw'
          go_simp
        try simp only [Act.put, List.setIfInBounds_toArray, List.set_cons_zero, List.set_cons_succ]
        refine AnyD.taked (i := 2) (d := 31) (v := .pointer (some ⟨wr.heap.size, 0, none⟩)) rfl rfl (by kernel_rfl) (by kernel_rfl) (by kernel_rfl) rfl (by kernel_rfl) (fun _ _ _ h => h) (Or.inl ⟨by rfl, ?_⟩) HT0.out ?_
        · intro w' hw'
          obtain ⟨t0, t1, t2, t3, t4, t5, t6⟩ := hw'
          go_simp
        try simp only [Act.put, List.setIfInBounds_toArray, List.set_cons_zero, List.set_cons_succ]
        refine AnyD.taked (i := 3) (d := 32) (v := .string z.field) rfl rfl (by kernel_rfl) (by kernel_rfl) (by kernel_rfl) rfl (by kernel_rfl) (fun _ _ _ h => h) (Or.inl ⟨by rfl, ?_⟩) HT0.out ?_
        · intro w' hw'
          obtain ⟨t0, t1, t2, t3, t4, t5, t6⟩ := hw'
          go_simp
        try simp only [Act.put, List.setIfInBounds_toArray, List.set_cons_zero, List.set_cons_succ]
        refine AnyD.taked (i := 5) (d := 34) (v := .pointer (some ⟨wr.heap.size, 1, none⟩)) rfl rfl (by kernel_rfl) (by kernel_rfl) (by kernel_rfl) rfl (by kernel_rfl) (fun _ _ _ h => h) (Or.inl ⟨by rfl, ?_⟩) HT0.out ?_
        · intro w' hw'
          obtain ⟨t0, t1, t2, t3, t4, t5, t6⟩ := hw'
          go_simp
        try simp only [Act.put, List.setIfInBounds_toArray, List.set_cons_zero, List.set_cons_succ]
        refine AnyD.taked (i := 6) (d := 35) (v := .int .i64 z.sign) rfl rfl (by kernel_rfl) (by kernel_rfl) (by kernel_rfl) rfl (by kernel_rfl) (fun _ _ _ h => h) (Or.inl ⟨by rfl, ?_⟩) HT0.out ?_
        · intro w' hw'
          obtain ⟨t0, t1, t2, t3, t4, t5, t6⟩ := hw'
          go_simp
        try simp only [Act.put, List.setIfInBounds_toArray, List.set_cons_zero, List.set_cons_succ]
        refine AnyD.taked (i := 7) (d := 36) (v := .int .i64 (IntKind.i64.wrap (z.sign - 1))) rfl rfl (by kernel_rfl) (by kernel_rfl) (by kernel_rfl) rfl (by kernel_rfl) (fun _ _ _ h => h) (Or.inl ⟨by rfl, ?_⟩) HT0.out ?_
        · intro w' hw'
          obtain ⟨t0, t1, t2, t3, t4, t5, t6⟩ := hw'
          go_simp
        try simp only [Act.put, List.setIfInBounds_toArray, List.set_cons_zero, List.set_cons_succ]
        refine AnyD.taked (i := 10) (d := 39) (v := .pointer (some ⟨wr.heap.size, 2, none⟩)) rfl rfl (by kernel_rfl) (by kernel_rfl) (by kernel_rfl) rfl (by kernel_rfl) (fun _ _ _ h => h) (Or.inl ⟨by rfl, ?_⟩) HT0.out ?_
        · intro w' hw'
          obtain ⟨t0, t1, t2, t3, t4, t5, t6⟩ := hw'
          go_simp
        try simp only [Act.put, List.setIfInBounds_toArray, List.set_cons_zero, List.set_cons_succ]
        refine AnyD.taked (i := 11) (d := 40) (v := .agg #[.int .i64 z.item.kind, .int .i64 z.item.num, .string z.item.text, .slice za z.item.list.length zc]) rfl rfl (by kernel_rfl) (by kernel_rfl) (by kernel_rfl) rfl (by kernel_rfl) (fun _ _ _ h => h) (Or.inl ⟨by rfl, ?_⟩) HT0.out ?_
        · intro w' hw'
          obtain ⟨t0, t1, t2, t3, t4, t5, t6⟩ := hw'
          go_simp
        try simp only [Act.put, List.setIfInBounds_toArray, List.set_cons_zero, List.set_cons_succ]
        refine AnyD.one (i := 4) (by kernel_rfl) (wpOp_of rfl fun K hK => ?_)
        refine step_nameof _ rfl (.tmp 32) (.string z.field) rfl rfl ?_
        refine (HNF.out _).mono ?_
        rintro e w6 ⟨nm, rfl, hnm, hb6⟩
        have hbX : Below V.heap.size V w6 := ⟨hb6.os, hb6.tape, hb6.output, hb6.size, hb6.block⟩
        have HNM := hide hnm
        have HB6 := hide hbX
        refine ⟨_, rfl, hK (Act.put _ (some 33) (.string nm)) _ ⟨fun _ => ⟨cell_below hbX r1, cell_below hbX k0, cell_below hbX k1, cell_below hbX k2, cell_below hbX k3, cell_below hbX k4, cell_below hbX k5⟩, ?_⟩⟩
        clear hK K hnm hb6 hbX
        try simp only [Act.put, List.setIfInBounds_toArray, List.set_cons_zero, List.set_cons_succ]
        refine AnyD.one (i := 8) (by kernel_rfl) (wpOp_of rfl fun K hK => ?_)
        refine step_pick _ rfl (.tmp 36) (.const (.int .i64 5)) (.int .i64 (IntKind.i64.wrap (z.sign - 1))) (.int .i64 5) rfl rfl rfl ?_
        refine (HPK.out _).mono ?_
        rintro e w8 ⟨pk, rfl, hp0, hp5, rfl⟩
        have hpw : IntKind.i64.wrap (1 + pk) = 1 + pk := wrap_i64 _ (by omega) (by omega)
        have HT6 := hide (show _ ∧ _ ∧ _ ∧ _ ∧ _ ∧ _ ∧ _ from ⟨cell_below HB6.out r1, cell_below HB6.out k0, cell_below HB6.out k1, cell_below HB6.out k2, cell_below HB6.out k3, cell_below HB6.out k4, cell_below HB6.out k5⟩)
        refine ⟨_, rfl, hK (Act.put _ (some 37) (.int .i64 pk)) _ ⟨fun _ => HT6.out, ?_⟩⟩
        clear hK K
        try simp only [Act.put, List.setIfInBounds_toArray, List.set_cons_zero, List.set_cons_succ]
        refine AnyD.taked (i := 9) (d := 38) (v := .int .i64 (1 + pk)) rfl rfl (by kernel_rfl) (by kernel_rfl) (by kernel_rfl) rfl (by kernel_rfl) (fun _ _ _ h => h) (Or.inl ⟨by rfl, ?_⟩) HT6.out ?_
        · intro w' hw'
          obtain ⟨t0, t1, t2, t3, t4, t5, t6⟩ := hw'
          go_simp
        try simp only [Act.put, List.setIfInBounds_toArray, List.set_cons_zero, List.set_cons_succ]
        refine AnyD.one (i := 12) (by kernel_rfl) (wpOp_of rfl fun K hK => ?_)
        refine step_deep _ rfl (.tmp 40) (.const (.int .i64 0)) (.agg #[.int .i64 z.item.kind, .int .i64 z.item.num, .string z.item.text, .slice za z.item.list.length zc]) (.int .i64 0) rfl rfl rfl ?_
        refine (HDP.out _ HB6.out).mono ?_
        rintro e w7 ⟨y, la, k, rfl, hdy, hoky, hiy, hb7⟩
        have HYD := hide hdy
        have HYO := hide hoky
        have HYI := hide hiy
        have HB7 := hide hb7
        have HT7 := hide (show _ ∧ _ ∧ _ ∧ _ ∧ _ ∧ _ ∧ _ from ⟨cell_below hb7 HT6.out.1, cell_below hb7 HT6.out.2.1, cell_below hb7 HT6.out.2.2.1, cell_below hb7 HT6.out.2.2.2.1, cell_below hb7 HT6.out.2.2.2.2.1, cell_below hb7 HT6.out.2.2.2.2.2.1, cell_below hb7 HT6.out.2.2.2.2.2.2⟩)
        obtain ⟨us, hus, how, hoks, hins⟩ := (HOW.out.keep HB6.out).keep hb7
        refine ⟨_, rfl, hK (Act.put _ (some 41) (.agg (itV y (.slice la y.list.length k)))) _ ⟨fun _ => HT7.out, ?_⟩⟩
        clear hK K hdy hoky hiy hb7
        try simp only [Act.put, List.setIfInBounds_toArray, List.set_cons_zero, List.set_cons_succ]
        refine AnyD.taked (i := 13) (d := 42) (v := .agg #[.string nm, .int .i64 (1 + pk), .int .i64 y.kind, .int .i64 y.num, .string y.text, .slice la y.list.length k]) rfl rfl (by kernel_rfl) (by kernel_rfl) (by kernel_rfl) rfl (by kernel_rfl) (fun _ _ _ h => h) (Or.inl ⟨by rfl, ?_⟩) HT7.out ?_
        · intro w' hw'
          obtain ⟨t0, t1, t2, t3, t4, t5, t6⟩ := hw'
          go_simp
        try simp only [Act.put, List.setIfInBounds_toArray, List.set_cons_zero, List.set_cons_succ]
        refine AnyD.one (i := 14) (by kernel_rfl) (wpOp_of rfl fun K hK => ?_)
        go_simp
        refine hK _ _ ⟨fun _ => ⟨cell_below (below_new w7 _) HT7.out.1, cell_below (below_new w7 _) HT7.out.2.1, cell_below (below_new w7 _) HT7.out.2.2.1, cell_below (below_new w7 _) HT7.out.2.2.2.1, cell_below (below_new w7 _) HT7.out.2.2.2.2.1, cell_below (below_new w7 _) HT7.out.2.2.2.2.2.1, cell_below (below_new w7 _) HT7.out.2.2.2.2.2.2⟩, ?_⟩
        clear hK K
        try simp only [Act.put, List.setIfInBounds_toArray, List.set_cons_zero, List.set_cons_succ]
        refine AnyD.one (i := 15) (by kernel_rfl) (wpOp_of rfl fun K hK => ?_)
        refine step_append_lies _ (by rfl) _ _ 22 (by rfl) wc.heap.size 34 i0 (.agg #[.string ⟨#[]⟩, .int .i64 0, .int .i64 0, .int .i64 0, .string ⟨#[]⟩, .slice none 0 0]) 6 80 Tryz.underlying22 hi hz0 hz1 hz2 rfl (by decide) (.slice a l.length c) l.length (ccells l us) (by rfl) (how.alloc _) ⟨w7.heap.size, 0, none⟩ 1 1 [.string nm, .int .i64 (1 + pk), .int .i64 y.kind, .int .i64 y.num, .string y.text, .slice la y.list.length k] (by rfl) rfl (World.news_of_block (heap_alloc_new w7 _)) (cds_cells1 _ _ _ _ _ _ _ _) (by decide) hm1 hm2' (by have h6 := HB6.out.size; have h7 := HB7.out.size; simp; omega) (w7.heap.size + 1) (by simp) ?_
        intro g5 cap5 w5 hown5 hgrow hat hlg
        obtain ⟨HO5, HB5⟩ := cd_push (y := ⟨nm, 1 + pk, y⟩) hbs (by have h6 := HB6.out.size; have h7 := HB7.out.size; omega) HBK.out ⟨by show nm.size ≤ _; have := nm_size HNM.out; omega, by show _ ≤ 1 + pk; omega, by show 1 + pk ≤ _; omega, HYO.out⟩ hus hoks hins (HYI.out.imp (fun j hj => by have h6 := HB6.out.size; omega)) rfl hown5 hgrow hat
        have hr5 : RowAt w5 b #[.string n, .slice a l.length c, .string ⟨#[]⟩, .bool false, .int .i64 m] 24 := (HB5.block _ hblt).trans ((HRW.out.below HB6.out).below HB7.out)
        have hk5 : RowAt w5 wr.heap.size #[.string z.field, .int .i64 z.sign, .int .i64 z.item.kind, .int .i64 z.item.num, .string z.item.text, .slice za z.item.list.length zc] 34 := (hgrow.block _ (by have h6 := HB6.out.size; have h7 := HB7.out.size; simp; omega) (fun e => by have := HBK.out _ e.symm; omega)).trans (((HVR.out.below HB6.out).below HB7.out).below (below_new w7 _))
        obtain ⟨p0, p1, p2, p3, p4, p5⟩ := hk5.q6
        have pr := hr5.q5.2.1
        have pf := hr5.free 1
        have HT5w := hide (show _ ∧ _ ∧ _ ∧ _ ∧ _ ∧ _ ∧ _ from ⟨pr, p0, p1, p2, p3, p4, p5⟩)
        have HO5' := hide HO5
        have HR5 := hide hr5
        have HT5 := hide (((HTW.out.trans (.of_below HB6.out)).trans (.of_below HB7.out)).then HB5 (Nat.le_refl _))
        refine hK (Act.put _ (some 44) (.slice (some ⟨g5, 0, none⟩) (l.length + 1) cap5)) _ ⟨fun _ => HT5w.out, ?_⟩
        clear hK K hown5 hgrow hat hlg HO5 HB5 hr5 hk5 how hus hoks hins
        try simp only [Act.put, List.setIfInBounds_toArray, List.set_cons_zero, List.set_cons_succ]
        refine AnyD.taked (i := 16) (d := 45) (v := .pointer (some ⟨b, 1, none⟩)) rfl rfl (by kernel_rfl) (by kernel_rfl) (by kernel_rfl) rfl (by kernel_rfl) (fun _ _ _ h => h) (Or.inl ⟨by rfl, ?_⟩) HT5w.out ?_
        · intro w' hw'
          obtain ⟨t0, t1, t2, t3, t4, t5, t6⟩ := hw'
          go_simp
        try simp only [Act.put, List.setIfInBounds_toArray, List.set_cons_zero, List.set_cons_succ]
        refine AnyD.one (i := 17) (by kernel_rfl) (wpOp_of rfl fun K hK => ?_)
        go_simp
        refine hK _ _ ⟨(fun h => by cases h), ?_⟩
        clear hK K
        try simp only [Act.put, List.setIfInBounds_toArray, List.set_cons_zero, List.set_cons_succ]
        refine AnyD.done (by kernel_rfl) ?_ _
        have hle : (l ++ [(⟨nm, 1 + pk, y⟩ : Cd)]).length = l.length + 1 := by simp
        have HGD : Hid (∀ d ∈ l ++ [(⟨nm, 1 + pk, y⟩ : Cd)], isNameD d.field = true ∧ 1 ≤ d.sign ∧ d.sign ≤ 5 ∧ Deep 4 d.item) := fun d hd => by
          rcases List.mem_append.1 hd with h | h
          · exact hgd.out d h
          · rw [List.mem_singleton.1 h]
            exact ⟨HNM.out, by show 1 ≤ 1 + pk; omega, by show 1 + pk ≤ 5; omega, HYD.out⟩
        clear k0 k1 k2 k3 k4 k5 r1 p0 p1 p2 p3 p4 p5 pr pf HNF HPK HDP
        go_wp2
        go_roundw
        case rel => exact ⟨I + 1, l ++ [(⟨nm, 1 + pk, y⟩ : Cd)], some ⟨g5, 0, none⟩, cap5, by go_num, by omega, by omega, by show _ = _; have := hlI.out; rw [hle]; omega, HGD, by rw [hle]; exact HO5'.out.two (Two.cell1 b 1 w5 _) hblt hblt, by rw [hle]; exact q_set1 HR5.out _, HT5.out.trans (Two.cell1 b 1 w5 _)⟩
        case measure => simp [intOf]; omega
      · have hcs : (I < qc.length ∧ I = 2) ∨ I = qc.length := by omega
        have HCS := hide hown.out
        have HRO := hide hrow.out
        have HTO := hide htw.out
        have HX1R := hide hx1
        have HBO := hide hbw
        have HGO := hide hgd.out
        have HN2 := hide hn.out
        have hnb : w.heap.size + 1 ≠ b := by omega
        obtain ⟨e0, e1, e2, e3, e4⟩ := hrow.out.q5
        have ef2 := hrow.out.free 2
        have ef3 := hrow.out.free 3
        have HXR := hide hxw
        clear hown hrow htw hgd hxw hx1 hbw hn
        by_cases hoe : qo = ⟨#[]⟩
        · have hio : qo.toList.isEmpty = true := by rw [hoe, ByteArray.toList_eq]; rfl
          have HST := hide (store_q _ (w.heap.size + 1) _ _ _ _ _ ⟨n, l, ⟨#[]⟩, false, m⟩ a l.length c HX1R.out)
          simp only [qV] at HST
          have HEND : Hid (TidyR w (.returned (.agg #[.string n, .slice a l.length c, .string ⟨#[]⟩, .bool false, .int .i64 m])) (wr.setRow (w.heap.size + 1) #[.string n, .slice a l.length c, .string ⟨#[]⟩, .bool false, .int .i64 m])) :=
            ⟨⟨n, l, ⟨#[]⟩, false, m⟩, a, c, rfl, ⟨HN2.out, hl2, HGO.out, .inl rfl, (fun h => by cases h), hm.out.1, hm.out.2⟩, (HCS.out.two (Two.row1 (w.heap.size + 1) wr _) (by omega) (by omega)).down (by omega), below_setRow HBO.out (by omega) _⟩
          clear hoe
          rcases hcs with ⟨h1, h2⟩ | h1
          · have j1 : (I : Int) < (qc.length : Int) := by omega
            have j2 : ¬ (I : Int) < 2 := by omega
            clear h1 h2 hlt
            go_wp2_with (first
              | (refine wpList_store_eq rfl 24 _ _ rfl _ _ rfl rfl HST.out ?_))
            refine bodyPost_ret (results_cell_row rfl _ _ (w.heap.size + 1) 24 _ (0, 0) _ rfl (row_set _ _ _ _ _ HX1R.out) Tryz.underlying24 rfl (by kernel_rfl)) rfl ?_
            exact HEND.out
          · have j1 : ¬ (I : Int) < (qc.length : Int) := by omega
            clear h1 hlt
            go_wp2_with (first
              | (refine wpList_store_eq rfl 24 _ _ rfl _ _ rfl rfl HST.out ?_))
            refine bodyPost_ret (results_cell_row rfl _ _ (w.heap.size + 1) 24 _ (0, 0) _ rfl (row_set _ _ _ _ _ HX1R.out) Tryz.underlying24 rfl (by kernel_rfl)) rfl ?_
            exact HEND.out
        · have hio : qo.toList.isEmpty = false := (ne_nil hoe).2
          have HNW := hide (HNO.out wr)
          clear hoe
          have hj : ((I : Int) < (qc.length : Int) ∧ ¬ (I : Int) < 2) ∨ ¬ (I : Int) < (qc.length : Int) := by omega
          clear hcs hlt
          rcases hj with ⟨j1, j2⟩ | j1
          all_goals
            go_wp2_with fail
            refine HNW.out.mono ?_
            rintro e W2 ⟨no, rfl, hno, hb2⟩
            have hr2 := HRO.out.below hb2
            have hx2 := HXR.out.below hb2
            have h12 := HX1R.out.below hb2
            have hr3 := q_set2 hr2 (.string no)
            have hr4 := q_set3 hr3 (.bool qf)
            have g2 := hr2.q5.2.2.1
            have g2f := hr2.free 2
            have g3 := hr3.q5.2.2.2.1
            have g3f := hr3.free 3
            have hx3 := hx2.other (g := b) (j := 2) (by omega) (.string no)
            have g4 := hx3.q5.2.2.2.1
            obtain ⟨k0, k1, k2, k3, k4⟩ := hr4.q5
            have h14 := (h12.other (g := b) (j := 2) hnb (.string no)).other (g := b) (j := 3) hnb (.bool qf)
            have HST := hide (store_q _ (w.heap.size + 1) _ _ _ _ _ ⟨n, l, no, qf, m⟩ a l.length c h14)
            simp only [qV] at HST
            have HH14 := hide h14
            have hno0 : no ≠ ⟨#[]⟩ := fun e => by rw [e] at hno; revert hno; decide
            have HEND : Hid (TidyR w (.returned (.agg #[.string n, .slice a l.length c, .string no, .bool qf, .int .i64 m])) (((W2.setCell ⟨b, 2, none⟩ (.string no)).setCell ⟨b, 3, none⟩ (.bool qf)).setRow (w.heap.size + 1) #[.string n, .slice a l.length c, .string no, .bool qf, .int .i64 m])) :=
              ⟨⟨n, l, no, qf, m⟩, a, c, rfl, ⟨HN2.out, hl2, HGO.out, .inr hno, (fun _ => hno0), hm.out.1, hm.out.2⟩, (((((HCS.out.keep hb2).two (Two.cell1 b 2 W2 (.string no)) (by omega) (by omega)).two (Two.cell1 b 3 _ (.bool qf)) (by omega) (by omega)).two (Two.row1 (w.heap.size + 1) _ _) (by omega) (by omega))).down (by omega), below_setRow (((Below.next HBO.out hb2).setCell (p := ⟨b, 2, none⟩) (show w.heap.size ≤ b by omega) (.string no)).setCell (p := ⟨b, 3, none⟩) (show w.heap.size ≤ b by omega) (.bool qf)) (by omega) _⟩
            clear hr2 hx2 h12 hr3 hr4 hx3 h14 hno hb2 HNW e0 e1 e2 e3 e4 ef2 ef3 c1 c2 c3
            go_wp2_with (first
              | (refine wpList_store_eq rfl 24 _ _ rfl _ _ rfl rfl HST.out ?_))
            refine bodyPost_ret (results_cell_row rfl _ _ (w.heap.size + 1) 24 _ (0, 0) _ rfl (row_set _ _ _ _ _ HH14.out) Tryz.underlying24 rfl (by kernel_rfl)) rfl ?_
            exact HEND.out
end Go.Proofs.YtageokjobbjddaaGreatDoor
