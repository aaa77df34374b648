import Derived.Test.YtagldlchamlpdabDoorBDec2
namespace Go.Proofs.YtagldlchamlpdabDoor
open Go.RowKit

/-- What Decode answers. -/
def BDecV (A : Nat → Addr) (c : Int) (s : ByteArray) (base : Nat) (e : Ending) (w : World) : Prop :=
  (0 ≤ c ∧ DecB c.toNat s.data.toList ∧ ∃ u, e = .returned (.tuple #[.agg #[.int .i64 (brF (cellsB s.data.toList c.toNat)), u], .nilIface]) ∧ LkO w base u (brL (cellsB s.data.toList c.toNat))) ∨
    (¬ (0 ≤ c ∧ DecB c.toNat s.data.toList) ∧ e = .returned (.tuple #[.agg #[.int .i64 0, .slice none 0 0], .iface 167 (.pointer (some (A 1)))]))
theorem cellsB_size {b : List UInt8} {n : Nat} (h : OkR b n) : ∀ x ∈ cellsB b n, x.size ≤ 4072 := fun x hx => by
  obtain ⟨i, hi, rfl⟩ := List.getElem_of_mem hx
  rw [← bsize, cellsB_get b n i hi]
  unfold cellB
  rw [List.length_take, List.length_drop]
  have := h.1.2
  omega

set_option maxRecDepth 20000 in
set_option maxHeartbeats 4000000 in
theorem bdec_any (A : Nat → Addr) (c : Int) (s : ByteArray) (w : World) (hE : ErrK A w) :
    Calls Tryd.prog 8 #[.int .i64 c, .string s] w fun e w' => BDecV A c s w.heap.size e w' ∧ Below w.heap.size w w' := by
  have q0 := below_new w (.cells #[.int .i64 0, .slice none 0 0] 30)
  have x0 := RowAt.new w #[.int .i64 0, .slice none 0 0] 30
  have hE0 := hE.below q0
  have hgl : 0 < w.heap.size := World.block_lt_of_cell? w _ ((hE.1.1 1 (by decide)).1)
  have hs0 : (w.alloc (.cells #[.int .i64 0, .slice none 0 0] 30)).heap.size = w.heap.size + 1 := by simp
  generalize hW0 : w.alloc (.cells #[.int .i64 0, .slice none 0 0] 30) = W0 at *
  have HRD := hide (read_any A c s W0 hE0.four)
  have HE := hide hE0
  have HX := hide x0
  have HQ := hide q0
  have HS0 := hide hs0
  have b1 : ¬ 0 = w.heap.size := by omega
  have b2 : ¬ w.heap.size = 0 := by omega
  have HG : Hid (∀ W, Below W0.heap.size W0 W → W.cell? ⟨0, 0, none⟩ = some (.iface 167 (.pointer (some (A 1))))) := fun W h => ((HE.out.below h).1.1 1 (by decide)).1
  clear hE hE0 q0 x0 hgl hs0
  go_enter Tryd.func8, Tryd.ntmps8
  go_wp2_with fail
  refine HRD.out.mono ?_
  rintro e w1 ⟨hv, hb1⟩
  have HB1 := hide hb1
  clear hb1 HRD
  rcases hv with ⟨hc0, hokr, g, rfl, hown⟩ | ⟨hno, rfl⟩
  · obtain ⟨n, hn⟩ : ∃ n, n = c.toNat := ⟨_, rfl⟩
    have HC0 := hide hc0
    have HOKR := hide hokr
    have HNC := hide hn
    rw [← hn] at hokr hown ⊢
    obtain ⟨L, hL⟩ : ∃ L, L = cellsB s.data.toList n := ⟨_, rfl⟩
    have hLl : n = L.length := by rw [hL, cellsB_len]
    have hLs : ∀ x ∈ L, x.size ≤ 4072 := by rw [hL]; exact cellsB_size hokr
    rw [← hL] at hown
    have hnb : n ≤ 2036 := hokr.1.1
    have hcell : ∀ j (h : j < L.length), w1.cell? ⟨g, j, none⟩ = some (.string L[j]) := fun j h => by
      rw [World.ownsRow.cellAt hown j (by omega)]
      exact strs_get L j h
    have HBO := hide (branchof_any g n L w1 hLl hnb hLs hcell)
    have HL := hide hL
    have HN2 := hide hLl
    clear hokr hown hcell hLl hLs hL hn hc0
    go_wp2_with fail
    refine HBO.out.mono ?_
    rintro e w2 ⟨x, ua, un, uc, rfl, hbr, hb2⟩
    have q2 := below_new w2 (.cells #[.int .i64 x, .slice ua un uc] 30)
    have x2 := RowAt.new w2 #[.int .i64 x, .slice ua un uc] 30
    have HB2 := hide (Below.next HB1.out (Below.next hb2 q2))
    have HSZ1 := hide HB1.out.size
    have hx := HX.out.below HB2.out
    have r0 := hx.c0
    have r1 := hx.c1
    have z0 := hx.free 0
    have z1 := hx.free 1
    have HXX := hide hx
    have cg := HG.out _ HB2.out
    have t0 := x2.c0
    have t1 := x2.c1
    cases hob : okBr L with
    | false =>
      have HNO : Hid (¬ (0 ≤ c ∧ DecB c.toNat s.data.toList)) := fun h => by
        have := h.2.2.1
        rw [← HNC.out, ← HL.out, hob] at this
        cases this
      clear hbr hb2 q2 x2 hob hx HBO
      go_wp2_with fail
      generalize w2.alloc (.cells #[.int .i64 x, .slice ua un uc] 30) = W2 at *
      go_region_held3 (fun w' => w'.cell? ⟨0, 0, none⟩ = some (.iface 167 (.pointer (some (A 1))))) (go_keep) (fail)
      all_goals
        clear r0 r1 z0 z1 cg t0 t1
        go_wp2_with fail
        exact bodyPost_ret (results_row_tmp rfl _ _ w.heap.size 30 _ (0, 0) _ rfl (HXX.out.two _ _).drew Tryd.underlying30 rfl (by kernel_rfl)) rfl ⟨.inr ⟨HNO.out, rfl⟩, below_drewB (below_two (Below.next HQ.out HB2.out) (Nat.le_refl _))⟩
    | true =>
      obtain ⟨hxf, ho⟩ := hbr hob
      obtain ⟨l, hl⟩ : ∃ l, l = brL L := ⟨_, rfl⟩
      rw [← hl] at ho
      have hun : un = l.length := by
        obtain ⟨_, _, he⟩ := ho.form
        cases he; rfl
      have hllen : l.length ≤ 2036 := by rw [hl]; simp only [brL, List.length_map, List.length_drop]; have := HN2.out; omega
      have hokl : OkK l := fun p hp => by
        rw [hl] at hp
        simp only [brL, List.mem_map] at hp
        obtain ⟨d, hd, rfl⟩ := hp
        have hds : d.size ≤ 4072 := by
          have : d ∈ cellsB s.data.toList n := by rw [← HL.out]; exact List.mem_of_mem_drop hd
          have hokr := HOKR.out
          rw [← HNC.out] at hokr
          exact cellsB_size hokr d this
        simp only [linkC, ByteArray.size_extract]; omega
      have HO := hide (ho.below q2)
      have HCK := hide (bcheck_any A x _ l true _ hokl (by omega) (ho.below q2).at (HE.out.below HB2.out))
      have HLL := hide hl
      have HXF := hide hxf
      have HOB := hide hob
      have HX2 := hide x2
      have HSZ2 := hide (Nat.le_trans HSZ1.out hb2.size)
      clear hbr hb2 q2 x2 hob hx HBO ho hxf hl hun hllen hokl
      go_wp2_with fail
      generalize w2.alloc (.cells #[.int .i64 x, .slice ua un uc] 30) = W2 at *
      refine HCK.out.mono ?_
      rintro e w3 ⟨rfl, hb3⟩
      have hx := HXX.out.below hb3
      have HX3 := hide hx
      have HB3 := hide (Below.next HB2.out hb3)
      have HO3 := hide (HO.out.below hb3)
      have hx2 := HX2.out.below hb3
      clear hb3 HCK r0 r1 z0 z1 t0 t1 cg
      have r0 := hx.c0
      have r1 := hx.c1
      have z0 := hx.free 0
      have z1 := hx.free 1
      have t0 := hx2.c0
      have t1 := hx2.c1
      have cg := HG.out _ HB3.out
      clear hx hx2
      cases hck : chkB x l true with
      | some k =>
        have HNO : Hid (¬ (0 ≤ c ∧ DecB c.toNat s.data.toList)) := fun h => by
          have := h.2.2.2
          rw [← HNC.out, ← HL.out, ← HLL.out, ← HXF.out, hck] at this
          cases this
        have hnn := fun W => iface_ne_nil (some (A k)) W
        clear hck
        unfold errV
        go_wp2_with fail
        go_region_held3 (fun w' => w'.cell? ⟨0, 0, none⟩ = some (.iface 167 (.pointer (some (A 1))))) (go_keep) (fail)
        all_goals
          clear r0 r1 z0 z1 cg t0 t1
          go_wp2_with fail
          exact bodyPost_ret (results_row_tmp rfl _ _ w.heap.size 30 _ (0, 0) _ rfl (HX3.out.two _ _).drew Tryd.underlying30 rfl (by kernel_rfl)) rfl ⟨.inr ⟨HNO.out, rfl⟩, below_drewB (below_two (Below.next HQ.out HB3.out) (Nat.le_refl _))⟩
      | none =>
        have HYES : Hid (DecB c.toNat s.data.toList) := by
          refine ⟨HOKR.out, ?_, ?_⟩
          · rw [← HNC.out, ← HL.out]; exact HOB.out
          · rw [← HNC.out, ← HL.out, ← HLL.out, ← HXF.out]; exact hck
        clear hck
        unfold errV
        go_wp2_with fail
        refine bodyPost_ret (results_row_tmp rfl _ _ w.heap.size 30 _ (0, 0) _ rfl (HX3.out.two _ _) Tryd.underlying30 rfl (by kernel_rfl)) rfl ⟨.inl ⟨HC0.out, HYES.out, .slice ua un uc, ?_, ?_⟩, below_two (Below.next HQ.out HB3.out) (Nat.le_refl _)⟩
        · rw [← HNC.out, ← HL.out, ← HXF.out]; rfl
        · rw [← HNC.out, ← HL.out, ← HLL.out]
          exact (HO3.out.put2 (by have := HSZ1.out; have := HS0.out; omega) _ _).mono (by have := HSZ1.out; have := HS0.out; omega)
  · have HNO : Hid (¬ (0 ≤ c ∧ DecB c.toNat s.data.toList)) := fun h => hno ⟨h.1, h.2.1⟩
    have hx := HX.out.below HB1.out
    have r0 := hx.c0
    have r1 := hx.c1
    have z0 := hx.free 0
    have z1 := hx.free 1
    have HXX := hide hx
    have cg := HG.out _ HB1.out
    have hnn := fun W => iface_ne_nil (some (A 1)) W
    clear hno hx
    go_wp2_with fail
    go_region_held3 (fun w' => w'.cell? ⟨0, 0, none⟩ = some (.iface 167 (.pointer (some (A 1))))) (go_keep) (fail)
    all_goals
      clear r0 r1 z0 z1 cg
      go_wp2_with fail
      exact bodyPost_ret (results_row_tmp rfl _ _ w.heap.size 30 _ (0, 0) _ rfl (HXX.out.two _ _).drew Tryd.underlying30 rfl (by kernel_rfl)) rfl ⟨.inr ⟨HNO.out, rfl⟩, below_drewB (below_two (Below.next HQ.out HB1.out) (Nat.le_refl _))⟩

end Go.Proofs.YtagldlchamlpdabDoor
