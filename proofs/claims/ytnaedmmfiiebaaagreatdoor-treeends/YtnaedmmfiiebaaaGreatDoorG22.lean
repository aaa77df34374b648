import Derived.Test.YtnaedmmfiiebaaaGreatDoorG20
import Derived.Test.YtnaedmmfiiebaaaGreatDoorG19
import Derived.Test.YtnaedmmfiiebaaaGreatDoorG21
import Derived.Test.YtnaedmmfiiebaaaGreatDoorG15
namespace Go.Proofs.YtnaedmmfiiebaaaGreatDoor.B
open Go.RowKit

set_option maxRecDepth 20000 in
theorem slStr1 (g n : Nat) (h1 : 1 ≤ n) : ∃ a', (1 < n → a' = some ⟨g, 1, none⟩) ∧ ∀ w, (Instr.sliceAt 231 (.slice (some ⟨g, 0, none⟩) n n) (some (.int .i64 1)) none none).run Tryz.prog w = .ok (.slice a' (n - 1) (n - 1)) w := by
  refine ⟨if n = 1 then some ⟨g, 0, none⟩ else some ⟨g, 1, none⟩, fun h => by rw [if_neg (by omega)], fun w => ?_⟩
  rw [run_sliceAt_slice (h := Tryz.underlying231), run_slice_l (ht := Tryz.underlying231) (h0 := by omega) (h1 := by omega)]
  have hz : (sizeOf (Tryz.prog.elem 231)).run Tryz.prog w = .ok 1 w := by kernel_rfl
  rw [hz]
  simp [Result.andThen, sliced, add_plain']
theorem ErrK.four {A : Nat → Addr} {w : World} (h : ErrK A w) : ErrsG 4 gAll A w := h.1.weak (by decide)

set_option maxRecDepth 20000 in
set_option maxHeartbeats 2000000 in
theorem branchof_any (g n : Nat) (L : List ByteArray) (w : World) (hn : n = L.length) (hnb : n ≤ 2036) (hcs : ∀ c ∈ L, c.size ≤ 4072) (hc : ∀ j (h : j < L.length), w.cell? ⟨g, j, none⟩ = some (.string L[j])) :
    Calls Tryz.prog 155 #[.slice (some ⟨g, 0, none⟩) n n] w fun e w' => ∃ (x : Int) (ua : Option Addr) (un uc : Nat), e = .returned (.tuple #[.agg #[.int .i64 x, .slice ua un uc], .bool (okBr L)]) ∧ (okBr L = true → x = brF L ∧ LkO w' w.heap.size (.slice ua un uc) (brL L)) ∧ Below w.heap.size w w' := by
  have q0 := below_new w (.cells #[.int .i64 0, .slice none 0 0] 150)
  have x0 := RowAt.new w #[.int .i64 0, .slice none 0 0] 150
  have HQ := hide q0
  have HX := hide x0
  cases L with
  | nil =>
    subst hn
    have hno : okBr [] = false := rfl
    have HNO := hide hno
    clear q0 x0 hcs hc hno
    rw [List.length_nil]
    go_enter Tryz.func155, Tryz.ntmps155
    go_wp2
    exact bodyPost_ret (results_row_tmp rfl _ _ w.heap.size 150 _ (0, 0) _ rfl HX.out Tryz.underlying150 rfl (by kernel_rfl)) rfl ⟨_, _, _, _, by rw [HNO.out]; rfl, fun h => (by rw [HNO.out] at h; cases h), HQ.out⟩
  | cons c cs =>
    have hn1 : n = cs.length + 1 := by rw [hn]; rfl
    have hd0 : ((n : Int) == 0) = false := by rw [beq_eq_false_iff_ne]; omega
    have c0 : (w.alloc (.cells #[.int .i64 0, .slice none 0 0] 150)).cell? ⟨g, 0, none⟩ = some (.string c) := by
      have := hc 0 (by simp)
      simp only [List.getElem_cons_zero] at this
      exact (q0.cell (p := ⟨g, 0, none⟩) (World.block_lt_of_cell? w _ this)).trans this
    have hcc : ∀ j (h : j < cs.length), (w.alloc (.cells #[.int .i64 0, .slice none 0 0] 150)).cell? ⟨g, 1 + j, none⟩ = some (.string cs[j]) := fun j h => by
      have := hc (j + 1) (by simpa using h)
      simp only [List.getElem_cons_succ] at this
      rw [Nat.add_comm 1 j]
      exact (q0.cell (p := ⟨g, j + 1, none⟩) (World.block_lt_of_cell? w _ this)).trans this
    generalize hW0 : w.alloc (.cells #[.int .i64 0, .slice none 0 0] 150) = W0 at *
    obtain ⟨a', ha', hsl⟩ := slStr1 g n (by omega)
    have HCO := hide (childof_any c W0)
    have HLS : Hid (∀ W, Below W0.heap.size W0 W → Calls Tryz.prog 193 #[.slice a' (n - 1) (n - 1)] W fun e w' => ((cs.all okK = true ∧ ∃ u, e = .returned (.tuple #[u, .bool true]) ∧ LkO w' W.heap.size u (cs.map linkC)) ∨ (cs.all okK = false ∧ e = .returned (.tuple #[.slice none 0 0, .bool false]))) ∧ Below W.heap.size W w') := fun W h =>
      linksof_any g 1 (n - 1) (n - 1) cs W (by omega) (by omega) (fun d hd => hcs d (List.mem_cons_of_mem _ hd)) (fun j hj => (h.cell (p := ⟨g, 1 + j, none⟩) (World.block_lt_of_cell? W0 _ (hcc j hj))).trans (hcc j hj)) a' (fun h => ha' (by omega))
    have n1 : (1 : Int) ≤ (n : Int) := by omega
    have HOB : Hid (okBr (c :: cs) = (decide (c.size = 4) && cs.all okK)) := by show _ = _; rfl
    have HF : Hid (c.size = 4 → kidC c = brF (c :: cs)) := fun h => by unfold kidC brF; rw [if_pos h]
    have HL : Hid (brL (c :: cs) = cs.map linkC) := by show _ = _; simp [brL]
    obtain ⟨kc, hkc⟩ : ∃ kc, kc = kidC c := ⟨_, rfl⟩
    rw [← hkc] at HCO HF
    generalize n - 1 = nm at *
    have HX0 := hide HX.out
    clear hn hn1 hc hcs hcc ha' hkc x0 q0
    go_enter Tryz.func155, Tryz.ntmps155
    go_wp2_with fail
    refine HCO.out.mono ?_
    rintro e w1 ⟨rfl, hb1⟩
    have HB1 := hide hb1
    have HLS1 := hide (HLS.out _ hb1)
    clear hb1 HCO HLS c0
    go_wp2_with fail
    refine HLS1.out.mono ?_
    rintro e w2 ⟨hv, hb2⟩
    have hx := HX.out.below (Below.next HB1.out hb2)
    have r0 := hx.c0
    have r1 := hx.c1
    have z0 := hx.free 0
    have z1 := hx.free 1
    have HXX := hide hx
    have HB2 := hide (Below.next HQ.out (Below.next HB1.out hb2))
    have HSZ : Hid (w.heap.size < w1.heap.size ∧ w.heap.size ≤ w1.heap.size) := by
      have h1 := HX.out.lt
      have h2 := HB1.out.size
      exact ⟨by omega, by omega⟩
    clear hb2 hx HLS1 hsl
    rcases hv with ⟨hall, u, rfl, ho⟩ | ⟨hall, rfl⟩
    · obtain ⟨ua, uc, hu⟩ := ho.form
      subst hu
      rw [hall] at HOB
      have HO := hide ho
      generalize (cs.map linkC).length = un at *
      clear ho hall
      cases h4 : decide (c.size = 4) with
      | true =>
        rw [h4] at HOB
        have H4 := hide (of_decide_eq_true h4)
        clear h4
        go_wp2_with fail
        refine bodyPost_ret (results_row_tmp rfl _ _ w.heap.size 150 _ (0, 0) _ rfl (HXX.out.two _ _) Tryz.underlying150 rfl (by kernel_rfl)) rfl ⟨kc, ua, un, uc, by rw [HOB.out]; rfl, fun _ => ⟨HF.out H4.out, ?_⟩, below_two HB2.out (Nat.le_refl _)⟩
        rw [HL.out]
        exact (HO.out.put2 HSZ.out.1 _ _).mono HSZ.out.2
      | false =>
        rw [h4] at HOB
        clear h4
        go_wp2_with fail
        exact bodyPost_ret (results_row_tmp rfl _ _ w.heap.size 150 _ (0, 0) _ rfl (HXX.out.two _ _) Tryz.underlying150 rfl (by kernel_rfl)) rfl ⟨kc, ua, un, uc, by rw [HOB.out]; rfl, fun h => (by rw [HOB.out] at h; cases h), below_two HB2.out (Nat.le_refl _)⟩
    · rw [hall, Bool.and_false] at HOB
      clear hall
      cases h4 : decide (c.size = 4) with
      | true =>
        clear h4
        go_wp2_with fail
        exact bodyPost_ret (results_row_tmp rfl _ _ w.heap.size 150 _ (0, 0) _ rfl (HXX.out.two _ _) Tryz.underlying150 rfl (by kernel_rfl)) rfl ⟨kc, none, 0, 0, by rw [HOB.out]; rfl, fun h => (by rw [HOB.out] at h; cases h), below_two HB2.out (Nat.le_refl _)⟩
      | false =>
        clear h4
        go_wp2_with fail
        exact bodyPost_ret (results_row_tmp rfl _ _ w.heap.size 150 _ (0, 0) _ rfl (HXX.out.two _ _) Tryz.underlying150 rfl (by kernel_rfl)) rfl ⟨kc, none, 0, 0, by rw [HOB.out]; rfl, fun h => (by rw [HOB.out] at h; cases h), below_two HB2.out (Nat.le_refl _)⟩

end Go.Proofs.YtnaedmmfiiebaaaGreatDoor.B

namespace Go.Proofs.YtnaedmmfiiebaaaGreatDoor.B
open Go.RowKit

/-- What Decode answers. -/
def BDecV (A : Nat → Addr) (c : Int) (s : ByteArray) (base : Nat) (e : Ending) (w : World) : Prop :=
  (0 ≤ c ∧ DecB c.toNat s.data.toList ∧ ∃ u, e = .returned (.tuple #[.agg #[.int .i64 (brF (cellsB s.data.toList c.toNat)), u], .nilIface]) ∧ LkO w base u (brL (cellsB s.data.toList c.toNat))) ∨
    (¬ (0 ≤ c ∧ DecB c.toNat s.data.toList) ∧ e = .returned (.tuple #[.agg #[.int .i64 0, .slice none 0 0], .iface 360 (.pointer (some (A 1)))]))
theorem cellsB_size {b : List UInt8} {n : Nat} (h : OkR b n) : ∀ x ∈ cellsB b n, x.size ≤ 4072 := fun x hx => by
  obtain ⟨i, hi, rfl⟩ := List.getElem_of_mem hx
  rw [← bsize, cellsB_get b n i hi]
  unfold cellB
  rw [List.length_take, List.length_drop]
  have := h.1.2
  omega

set_option maxRecDepth 20000 in
set_option maxHeartbeats 4000000 in
theorem bdec_any (A : Nat → Addr) (c : Int) (s : ByteArray) (w : World) (hE : ErrK A w) :
    Calls Tryz.prog 116 #[.int .i64 c, .string s] w fun e w' => BDecV A c s w.heap.size e w' ∧ Below w.heap.size w w' := by
  have q0 := below_new w (.cells #[.int .i64 0, .slice none 0 0] 150)
  have x0 := RowAt.new w #[.int .i64 0, .slice none 0 0] 150
  have hE0 := hE.below q0
  have hgl : 1 < w.heap.size := World.block_lt_of_cell? w _ ((hE.1.1 1 (by decide)).1)
  have hs0 : (w.alloc (.cells #[.int .i64 0, .slice none 0 0] 150)).heap.size = w.heap.size + 1 := by simp
  generalize hW0 : w.alloc (.cells #[.int .i64 0, .slice none 0 0] 150) = W0 at *
  have HRD := hide (read_any A c s W0 hE0.four)
  have HE := hide hE0
  have HX := hide x0
  have HQ := hide q0
  have HS0 := hide hs0
  have b1 : ¬ 1 = w.heap.size := by omega
  have b2 : ¬ w.heap.size = 1 := by omega
  have HG : Hid (∀ W, Below W0.heap.size W0 W → W.cell? ⟨1, 0, none⟩ = some (.iface 360 (.pointer (some (A 1))))) := fun W h => ((HE.out.below h).1.1 1 (by decide)).1
  clear hE hE0 q0 x0 hgl hs0
  go_enter Tryz.func116, Tryz.ntmps116
  go_wp2_with fail
  refine HRD.out.mono ?_
  rintro e w1 ⟨hv, hb1⟩
  have HB1 := hide hb1
  clear hb1 HRD
  rcases hv with ⟨hc0, hokr, g, rfl, hown⟩ | ⟨hno, rfl⟩
  · obtain ⟨n, hn⟩ : ∃ n, n = c.toNat := ⟨_, rfl⟩
    have HC0 := hide hc0
    have HOKR := hide hokr
    have HNC := hide hn
    rw [← hn] at hokr hown ⊢
    obtain ⟨L, hL⟩ : ∃ L, L = cellsB s.data.toList n := ⟨_, rfl⟩
    have hLl : n = L.length := by rw [hL, cellsB_len]
    have hLs : ∀ x ∈ L, x.size ≤ 4072 := by rw [hL]; exact cellsB_size hokr
    rw [← hL] at hown
    have hnb : n ≤ 2036 := hokr.1.1
    have hcell : ∀ j (h : j < L.length), w1.cell? ⟨g, j, none⟩ = some (.string L[j]) := fun j h => by
      rw [World.ownsRow.cellAt hown j (by omega)]
      exact strs_get L j h
    have HBO := hide (branchof_any g n L w1 hLl hnb hLs hcell)
    have HL := hide hL
    have HN2 := hide hLl
    clear hokr hown hcell hLl hLs hL hn hc0
    go_wp2_with fail
    refine HBO.out.mono ?_
    rintro e w2 ⟨x, ua, un, uc, rfl, hbr, hb2⟩
    have q2 := below_new w2 (.cells #[.int .i64 x, .slice ua un uc] 150)
    have x2 := RowAt.new w2 #[.int .i64 x, .slice ua un uc] 150
    have HB2 := hide (Below.next HB1.out (Below.next hb2 q2))
    have HSZ1 := hide HB1.out.size
    have hx := HX.out.below HB2.out
    have r0 := hx.c0
    have r1 := hx.c1
    have z0 := hx.free 0
    have z1 := hx.free 1
    have HXX := hide hx
    have cg := HG.out _ HB2.out
    have t0 := x2.c0
    have t1 := x2.c1
    cases hob : okBr L with
    | false =>
      have HNO : Hid (¬ (0 ≤ c ∧ DecB c.toNat s.data.toList)) := fun h => by
        have := h.2.2.1
        rw [← HNC.out, ← HL.out, hob] at this
        cases this
      clear hbr hb2 q2 x2 hob hx HBO
      go_wp2_with fail
      generalize w2.alloc (.cells #[.int .i64 x, .slice ua un uc] 150) = W2 at *
      go_region_held3 (fun w' => w'.cell? ⟨1, 0, none⟩ = some (.iface 360 (.pointer (some (A 1))))) (go_keep) (fail)
      all_goals
        clear r0 r1 z0 z1 cg t0 t1
        go_wp2_with fail
        exact bodyPost_ret (results_row_tmp rfl _ _ w.heap.size 150 _ (0, 0) _ rfl (HXX.out.two _ _).drew Tryz.underlying150 rfl (by kernel_rfl)) rfl ⟨.inr ⟨HNO.out, rfl⟩, below_drewB (below_two (Below.next HQ.out HB2.out) (Nat.le_refl _))⟩
    | true =>
      obtain ⟨hxf, ho⟩ := hbr hob
      obtain ⟨l, hl⟩ : ∃ l, l = brL L := ⟨_, rfl⟩
      rw [← hl] at ho
      have hun : un = l.length := by
        obtain ⟨_, _, he⟩ := ho.form
        cases he; rfl
      have hllen : l.length ≤ 2036 := by rw [hl]; simp only [brL, List.length_map, List.length_drop]; have := HN2.out; omega
      have hokl : OkK l := fun p hp => by
        rw [hl] at hp
        simp only [brL, List.mem_map] at hp
        obtain ⟨d, hd, rfl⟩ := hp
        have hds : d.size ≤ 4072 := by
          have : d ∈ cellsB s.data.toList n := by rw [← HL.out]; exact List.mem_of_mem_drop hd
          have hokr := HOKR.out
          rw [← HNC.out] at hokr
          exact cellsB_size hokr d this
        simp only [linkC, ByteArray.size_extract]; omega
      have HO := hide (ho.below q2)
      have HCK := hide (bcheck_any A x _ l true _ hokl (by omega) (ho.below q2).at (HE.out.below HB2.out))
      have HLL := hide hl
      have HXF := hide hxf
      have HOB := hide hob
      have HX2 := hide x2
      have HSZ2 := hide (Nat.le_trans HSZ1.out hb2.size)
      clear hbr hb2 q2 x2 hob hx HBO ho hxf hl hun hllen hokl
      go_wp2_with fail
      generalize w2.alloc (.cells #[.int .i64 x, .slice ua un uc] 150) = W2 at *
      refine HCK.out.mono ?_
      rintro e w3 ⟨rfl, hb3⟩
      have hx := HXX.out.below hb3
      have HX3 := hide hx
      have HB3 := hide (Below.next HB2.out hb3)
      have HO3 := hide (HO.out.below hb3)
      have hx2 := HX2.out.below hb3
      clear hb3 HCK r0 r1 z0 z1 t0 t1 cg
      have r0 := hx.c0
      have r1 := hx.c1
      have z0 := hx.free 0
      have z1 := hx.free 1
      have t0 := hx2.c0
      have t1 := hx2.c1
      have cg := HG.out _ HB3.out
      clear hx hx2
      cases hck : chkB x l true with
      | some k =>
        have HNO : Hid (¬ (0 ≤ c ∧ DecB c.toNat s.data.toList)) := fun h => by
          have := h.2.2.2
          rw [← HNC.out, ← HL.out, ← HLL.out, ← HXF.out, hck] at this
          cases this
        have hnn := fun W => iface_ne_nil (some (A k)) W
        clear hck
        unfold errV
        go_wp2_with fail
        go_region_held3 (fun w' => w'.cell? ⟨1, 0, none⟩ = some (.iface 360 (.pointer (some (A 1))))) (go_keep) (fail)
        all_goals
          clear r0 r1 z0 z1 cg t0 t1
          go_wp2_with fail
          exact bodyPost_ret (results_row_tmp rfl _ _ w.heap.size 150 _ (0, 0) _ rfl (HX3.out.two _ _).drew Tryz.underlying150 rfl (by kernel_rfl)) rfl ⟨.inr ⟨HNO.out, rfl⟩, below_drewB (below_two (Below.next HQ.out HB3.out) (Nat.le_refl _))⟩
      | none =>
        have HYES : Hid (DecB c.toNat s.data.toList) := by
          refine ⟨HOKR.out, ?_, ?_⟩
          · rw [← HNC.out, ← HL.out]; exact HOB.out
          · rw [← HNC.out, ← HL.out, ← HLL.out, ← HXF.out]; exact hck
        clear hck
        unfold errV
        go_wp2_with fail
        refine bodyPost_ret (results_row_tmp rfl _ _ w.heap.size 150 _ (0, 0) _ rfl (HX3.out.two _ _) Tryz.underlying150 rfl (by kernel_rfl)) rfl ⟨.inl ⟨HC0.out, HYES.out, .slice ua un uc, ?_, ?_⟩, below_two (Below.next HQ.out HB3.out) (Nat.le_refl _)⟩
        · rw [← HNC.out, ← HL.out, ← HXF.out]; rfl
        · rw [← HNC.out, ← HL.out, ← HLL.out]
          exact (HO3.out.put2 (by have := HSZ1.out; have := HS0.out; omega) _ _).mono (by have := HSZ1.out; have := HS0.out; omega)
  · have HNO : Hid (¬ (0 ≤ c ∧ DecB c.toNat s.data.toList)) := fun h => hno ⟨h.1, h.2.1⟩
    have hx := HX.out.below HB1.out
    have r0 := hx.c0
    have r1 := hx.c1
    have z0 := hx.free 0
    have z1 := hx.free 1
    have HXX := hide hx
    have cg := HG.out _ HB1.out
    have hnn := fun W => iface_ne_nil (some (A 1)) W
    clear hno hx
    go_wp2_with fail
    go_region_held3 (fun w' => w'.cell? ⟨1, 0, none⟩ = some (.iface 360 (.pointer (some (A 1))))) (go_keep) (fail)
    all_goals
      clear r0 r1 z0 z1 cg
      go_wp2_with fail
      exact bodyPost_ret (results_row_tmp rfl _ _ w.heap.size 150 _ (0, 0) _ rfl (HXX.out.two _ _).drew Tryz.underlying150 rfl (by kernel_rfl)) rfl ⟨.inr ⟨HNO.out, rfl⟩, below_drewB (below_two (Below.next HQ.out HB1.out) (Nat.le_refl _))⟩

end Go.Proofs.YtnaedmmfiiebaaaGreatDoor.B

namespace Go.Proofs.YtnaedmmfiiebaaaGreatDoor.T
open Go.RowKit

set_option maxHeartbeats 1000000 in
theorem loadl_ok (A : Nat → Addr) (kd id tx c : Value) (cn : Int) (body : ByteArray) (hc : c = .int .i64 cn) (w : World) (h0 : 0 ≤ cn) (hd : DecOk cn.toNat body.data.toList) (hE : ErrC A w) :
    Calls Tryz.prog 174 #[.agg #[kd, id, tx, c, .string body]] w fun e w' => ∃ b pv lv cv, e = .returned (.tuple #[.pointer (some ⟨b, 0, none⟩), .nilIface]) ∧ SNR w' b ⟨decL cn.toNat body.data.toList, 0, [], []⟩ pv lv cv ∧ Below w.heap.size w w' := by
  subst hc
  have q0 := below_new w (.cells #[kd, id, tx, .int .i64 cn, .string body] 87)
  have x0 := B.RowAt.new w #[kd, id, tx, .int .i64 cn, .string body] 87
  have k3 : (w.alloc (.cells #[kd, id, tx, .int .i64 cn, .string body] 87)).cell? ⟨w.heap.size, 3, none⟩ = some (.int .i64 cn) := x0.cell 3 (by simp)
  have k4 : (w.alloc (.cells #[kd, id, tx, .int .i64 cn, .string body] 87)).cell? ⟨w.heap.size, 4, none⟩ = some (.string body) := x0.cell 4 (by simp)
  obtain ⟨l, hl⟩ : ∃ l, l = decL cn.toNat body.data.toList := ⟨_, rfl⟩
  have hch := chk_none hd.2.2
  have hml : (∀ p ∈ l, mayP p = true) ∧ l.length ≤ 4000 := by
    have e : (cellsB body.data.toList cn.toNat).map pairC = l := by rw [hl]; rfl
    rw [e] at hch
    have := szL_len l
    exact ⟨hch.1, by omega⟩
  have HDEC : Hid (Calls Tryz.prog 114 #[.int .i64 cn, .string body] (w.alloc (.cells #[kd, id, tx, .int .i64 cn, .string body] 87)) fun e w' => ∃ (ua : Option Addr) (uc : Nat), e = .returned (.tuple #[.slice ua l.length uc, .nilIface]) ∧ PrR w' (.slice ua l.length uc) l ∧ Below w.heap.size w w') := by
    refine (ldec_any A cn body _ (hE.below q0)).mono fun e w' ⟨hv, hb⟩ => ?_
    rcases hv with ⟨_, _, u, he, ho⟩ | ⟨hno, _⟩
    · rw [← hl] at ho
      obtain ⟨ua, uc, hu⟩ := ho.form
      subst hu
      exact ⟨ua, uc, he, ho.at, Below.next q0 hb⟩
    · exact absurd ⟨h0, hd⟩ hno
  rw [← hl]
  obtain ⟨N, hN⟩ : ∃ N, N = l.length := ⟨_, rfl⟩
  rw [← hN] at HDEC
  have HML := hide hml
  clear q0 x0 hl hch hml hd h0 hE hN
  go_enter Tryz.func174, Tryz.ntmps174
  go_wp2_with fail
  refine HDEC.out.mono ?_
  rintro e w1 ⟨ua, uc, rfl, hr, hb1⟩
  have q := below_new w1 (.cells #[.slice ua N uc, .int .i64 0, .slice none 0 0, .slice none 0 0] 155)
  have xr := B.RowAt.new w1 #[.slice ua N uc, .int .i64 0, .slice none 0 0, .slice none 0 0] 155
  have HR : Hid (SNR (w1.alloc (.cells #[.slice ua N uc, .int .i64 0, .slice none 0 0, .slice none 0 0] 155)) w1.heap.size ⟨l, 0, [], []⟩ (.slice ua N uc) (.slice none 0 0) (.slice none 0 0)) := ⟨xr, hr.below q, B.LkR.nil _, (C.LkO.nil _ 0).at, HML.out.1, HML.out.2, (fun p hp => by simp at hp), by simp, by simp⟩
  have HBB := hide (Below.next hb1 q)
  clear q xr hr hb1 HDEC k3 k4
  go_wp2
  go_ret2
  exact ⟨_, _, _, _, rfl, HR.out, HBB.out⟩

end Go.Proofs.YtnaedmmfiiebaaaGreatDoor.T

namespace Go.Proofs.YtnaedmmfiiebaaaGreatDoor.T
open Go.RowKit

/-- The children of a branch of pages. -/
def pgs (f : Int) (l : List B.Lk) : List C.Ch := .pg f :: l.map (fun p => .pg p.2)
theorem pgs_len (f : Int) (l : List B.Lk) : (pgs f l).length = l.length + 1 := by simp [pgs]
theorem pgs_succ (f : Int) (l : List B.Lk) (k : Nat) (h : k < l.length) : pgs f (l.take (k + 1)) = pgs f (l.take k) ++ [.pg l[k].2] := by
  unfold pgs; rw [List.take_succ_eq_append_getElem h, List.map_append]; rfl
theorem lit_ch (w : World) (p : C.Ch) (t : TypeId) : C.LkR (w.alloc (.cells #[p.val] t)) (.slice (some ⟨w.heap.size, 0, none⟩) 1 1) [p] :=
  ⟨_, 1, rfl, Nat.le_refl _, fun h => by simp at h, fun j x hj => by
    have hj' : j < 1 := (List.getElem?_eq_some_iff.1 hj).1
    have hj0 : j = 0 := by omega
    subst hj0
    cases hj
    exact ⟨_, _, rfl, (boxed_new w #[p.val] t).2 0 (by simp)⟩⟩
set_option maxRecDepth 20000 in
set_option maxHeartbeats 2000000 in
theorem pagesof_any (f : Int) (v : Value) (l : List B.Lk) (w : World) (hm : l.length ≤ 4000) (hr : B.LkR w v l) :
    Calls Tryz.prog 220 #[.agg #[.int .i64 f, v]] w fun e w' => ∃ u, e = .returned u ∧ C.LkO w' w.heap.size u (pgs f l) ∧ Below w.heap.size w w' := by
  obtain ⟨a, c, hv⟩ := hr.form
  subst hv
  obtain ⟨n, hn⟩ : ∃ n, n = l.length := ⟨_, rfl⟩
  rw [← hn] at hr ⊢
  have q0 := below_new w (.cells #[.int .i64 f, .slice a n c] 150)
  have x0 := B.RowAt.new w #[.int .i64 f, .slice a n c] 150
  have q1 := below_new (w.alloc (.cells #[.int .i64 f, .slice a n c] 150)) (.cells #[.iface 146 (.int .i64 f)] 97)
  have k0 := x0.c0
  have k1 := (x0.below q1).c1
  have s0 : (w.alloc (.cells #[.int .i64 f, .slice a n c] 150)).heap.size = w.heap.size + 1 := by simp
  have ho : C.LkO ((w.alloc (.cells #[.int .i64 f, .slice a n c] 150)).alloc (.cells #[.iface 146 (.int .i64 f)] 97)) w.heap.size (.slice (some ⟨w.heap.size + 1, 0, none⟩) 1 1) (pgs f (l.take 0)) := by
    rw [← s0]
    exact World.ownsRow_lit (w.alloc (.cells #[.int .i64 f, .slice a n c] 150)) #[.iface 146 (.int .i64 f)] 1 (by rw [s0]; omega) (by decide) rfl
  have HB := hide (Below.next q0 q1)
  have HO := hide ho
  have HR := hide hr
  have HN := hide hn
  clear q0 x0 q1 s0 ho hr hn
  go_enter Tryz.func220, Tryz.ntmps220
  go_wp2
  go_loopw [3, 13] (fun u i wr => ∃ (k : Nat) (ua : Option Addr) (uc : Nat), k ≤ n ∧ u = .slice ua (k + 1) uc ∧ i = .int .i64 (k : Int) ∧ C.LkO wr w.heap.size (.slice ua (k + 1) uc) (pgs f (l.take k)) ∧ Below w.heap.size w wr) (fun _ i _ => n - (intOf i).toNat)
  case atStart => exact ⟨0, _, 1, Nat.zero_le _, rfl, rfl, HO.out, HB.out⟩
  case round =>
    obtain ⟨k, ua, uc, hk, rfl, rfl, hown, hbw⟩ := hrel
    clear HO HB k0 k1
    by_cases hlt : k < n
    · have hkl : k < l.length := by have := HN.out; omega
      obtain ⟨g, o, ha, c1, c2⟩ := (HR.out.below hbw).spot k hkl
      subst ha
      have hltI : (k : Int) < (n : Int) := by omega
      have hk0 : (0 : Int) ≤ (k : Int) := by omega
      have q2 := below_new wr (.cells #[.string l[k].1, .int .i64 l[k].2] 179)
      have x2 := B.RowAt.new wr #[.string l[k].1, .int .i64 l[k].2] 179
      have k2 := x2.c1
      have hwk : (pgs f (l.take k)).length = k + 1 := by rw [pgs_len, List.length_take]; omega
      have q3 := below_new (wr.alloc (.cells #[.string l[k].1, .int .i64 l[k].2] 179)) (.cells #[.iface 146 (.int .i64 l[k].2)] 97)
      obtain ⟨a', c', w', hrun, ho', hg⟩ := C.append_lks w.heap.size _ _ _ [.pg l[k].2] _ ((hown.below q2).below q3) (lit_ch (wr.alloc (.cells #[.string l[k].1, .int .i64 l[k].2] 179)) (.pg l[k].2) 97) (by rw [hwk]; simp; omega) (Nat.le_trans hbw.size (Nat.le_trans q2.size q3.size))
      rw [hwk, ← pgs_succ f l k hkl] at ho'
      rw [hwk] at hrun
      rw [show k + 1 + ([C.Ch.pg l[k].2] : List C.Ch).length = k + 1 + 1 from rfl] at ho' hrun
      have HB2 := hide ((Below.next (Below.next hbw q2) q3).grown hg (Nat.le_trans hbw.size (Nat.le_trans q2.size q3.size)) (fun j hj => (hown.blk j hj).1))
      have HO2 := hide ho'
      have s2 : (wr.alloc (.cells #[.string l[k].1, .int .i64 l[k].2] 179)).heap.size = wr.heap.size + 1 := by simp
      rw [s2] at hrun
      have hrun2 : (Builtin.append_ #[153, 153] 153 #[.slice ua (k + 1) uc, .slice (some ⟨wr.heap.size + 1, 0, none⟩) 1 1]).run Tryz.prog ((wr.alloc (.cells #[.string l[k].1, .int .i64 l[k].2] 179)).alloc (.cells #[.iface 146 (.int .i64 l[k].2)] 97)) = .ok (.slice a' (k + 1 + 1) c') w' := hrun
      generalize l[k].1 = y1 at *
      generalize l[k].2 = y2 at *
      clear q2 x2 hwk q3 ho' hg s2 hrun hown hbw
      go_wp2_with (first | (at_builtin; refine wpList_append_run 153 rfl (.tmp 17) (.tmp 21) rfl rfl _ _ rfl rfl _ _ hrun2 ?_))
      clear hrun2
      go_wp2
      go_roundw
      case rel => exact ⟨k + 1, a', c', by omega, rfl, by go_num, HO2.out, HB2.out⟩
      case measure => simp [intOf]; omega
    · have hkn : k = l.length := by have := HN.out; omega
      have hall : l.take k = l := List.take_of_length_le (by omega)
      rw [hall] at hown
      have HO2 := hide hown
      have HB2 := hide hbw
      have hltI : ¬ (k : Int) < (n : Int) := by omega
      clear hown hbw hall hkn
      go_wp2
      go_ret
      exact ⟨_, rfl, HO2.out, HB2.out⟩

end Go.Proofs.YtnaedmmfiiebaaaGreatDoor.T

namespace Go.Proofs.YtnaedmmfiiebaaaGreatDoor.T
open Go.RowKit

set_option maxRecDepth 20000 in
set_option maxHeartbeats 2000000 in
theorem loadb_ok (A : Nat → Addr) (kd id tx c : Value) (cn : Int) (body : ByteArray) (hc : c = .int .i64 cn) (w : World) (h0 : 0 ≤ cn) (hd : B.DecB cn.toNat body.data.toList) (hE : B.ErrK A w) :
    Calls Tryz.prog 175 #[.agg #[kd, id, tx, c, .string body]] w fun e w' => ∃ b pv lv cv, e = .returned (.tuple #[.pointer (some ⟨b, 0, none⟩), .nilIface]) ∧ SNR w' b ⟨[], B.brF (cellsB body.data.toList cn.toNat), B.brL (cellsB body.data.toList cn.toNat), pgs (B.brF (cellsB body.data.toList cn.toNat)) (B.brL (cellsB body.data.toList cn.toNat))⟩ pv lv cv ∧ Below w.heap.size w w' := by
  subst hc
  have q0 := below_new w (.cells #[kd, id, tx, .int .i64 cn, .string body] 87)
  have x0 := B.RowAt.new w #[kd, id, tx, .int .i64 cn, .string body] 87
  have k3 : (w.alloc (.cells #[kd, id, tx, .int .i64 cn, .string body] 87)).cell? ⟨w.heap.size, 3, none⟩ = some (.int .i64 cn) := x0.cell 3 (by simp)
  have k4 : (w.alloc (.cells #[kd, id, tx, .int .i64 cn, .string body] 87)).cell? ⟨w.heap.size, 4, none⟩ = some (.string body) := x0.cell 4 (by simp)
  obtain ⟨f, hf⟩ : ∃ f, f = B.brF (cellsB body.data.toList cn.toNat) := ⟨_, rfl⟩
  obtain ⟨l, hl⟩ : ∃ l, l = B.brL (cellsB body.data.toList cn.toNat) := ⟨_, rfl⟩
  have hch := B.chkB_none hd.2.2
  rw [← hf, ← hl] at hch
  have hml : (∀ p ∈ l, mayKey p.1) ∧ l.length ≤ 3000 := by
    have := B.szB_len l
    exact ⟨fun p hp => by have := B.mayK_parts (hch.2.2.1 p hp); exact ⟨this.1, this.2.1⟩, by omega⟩
  have HDEC : Hid (Calls Tryz.prog 116 #[.int .i64 cn, .string body] (w.alloc (.cells #[kd, id, tx, .int .i64 cn, .string body] 87)) fun e w' => ∃ (ua : Option Addr) (uc : Nat), e = .returned (.tuple #[.agg #[.int .i64 f, .slice ua l.length uc], .nilIface]) ∧ B.LkR w' (.slice ua l.length uc) l ∧ Below w.heap.size w w') := by
    refine (B.bdec_any A cn body _ (hE.below q0)).mono fun e w' ⟨hv, hb⟩ => ?_
    rcases hv with ⟨_, _, u, he, ho⟩ | ⟨hno, _⟩
    · rw [← hl] at ho
      rw [← hf] at he
      obtain ⟨ua, uc, hu⟩ := ho.form
      subst hu
      exact ⟨ua, uc, he, ho.at, Below.next q0 hb⟩
    · exact absurd ⟨h0, hd⟩ hno
  rw [← hl, ← hf]
  obtain ⟨N, hN⟩ : ∃ N, N = l.length := ⟨_, rfl⟩
  rw [← hN] at HDEC
  have HML := hide hml
  clear q0 x0 hl hf hch hml hd h0 hE hN
  go_enter Tryz.func175, Tryz.ntmps175
  go_wp2_with fail
  refine HDEC.out.mono ?_
  rintro e w1 ⟨ua, uc, rfl, hr, hb1⟩
  have q2 := below_new w1 (.cells #[.int .i64 f, .slice ua N uc] 150)
  have x2 := B.RowAt.new w1 #[.int .i64 f, .slice ua N uc] 150
  have HX2 := hide x2
  have HB2 := hide (Below.next hb1 q2)
  have HR2 := hide (hr.below q2)
  clear q2 x2 hr hb1 HDEC k3 k4
  go_wp2_with fail
  generalize w1.alloc (.cells #[.int .i64 f, .slice ua N uc] 150) = W2 at *
  generalize w1.heap.size = k2 at *
  have k0 := HX2.out.c0
  have k1 := HX2.out.c1
  obtain ⟨M, hM⟩ : ∃ M, M = (pgs f l).length := ⟨_, rfl⟩
  have HPG : Hid (Calls Tryz.prog 220 #[.agg #[.int .i64 f, .slice ua N uc]] W2.drew fun e w' => ∃ (ca : Option Addr) (cc : Nat), e = .returned (.slice ca M cc) ∧ C.LkR w' (.slice ca M cc) (pgs f l) ∧ Below W2.heap.size W2 w') := by
    refine (pagesof_any f _ l W2.drew (by have := HML.out.2; omega) HR2.out.drew).mono fun e w' ⟨u, h1, h2, h3⟩ => ?_
    obtain ⟨ca, cc, hu⟩ := h2.form
    subst hu
    rw [← hM] at h1 h2
    exact ⟨ca, cc, h1, h2.at, B.undrewB h3⟩
  have HLM : Hid ((pgs f l).length ≤ 4001) := by show _ ≤ _; rw [pgs_len]; have := HML.out.2; omega
  clear hM
  go_region_held3 (fun w' => w'.cell? ⟨k2, 0, none⟩ = some (.int .i64 f) ∧ w'.cell? ⟨k2, 1, none⟩ = some (.slice ua N uc)) (go_keep)
    (first
      | (go_at_call 220; refine HPG.out.mono ?_; rintro e w3 ⟨ca, cc, rfl, hr3, hb3⟩; have HR3 := hide hr3; have HB3 := hide hb3; have m0 := (HX2.out.below hb3).c0; have m1 := (HX2.out.below hb3).c1; clear hr3 hb3))
  all_goals (
    have q := below_new w3 (.cells #[.slice none 0 0, .int .i64 f, .slice ua N uc, .slice ca M cc] 155)
    have xr := B.RowAt.new w3 #[.slice none 0 0, .int .i64 f, .slice ua N uc, .slice ca M cc] 155
    have HR : Hid (SNR (w3.alloc (.cells #[.slice none 0 0, .int .i64 f, .slice ua N uc, .slice ca M cc] 155)) w3.heap.size ⟨[], f, l, pgs f l⟩ (.slice none 0 0) (.slice ua N uc) (.slice ca M cc)) := ⟨xr, PrR.nil _, (HR2.out.below HB3.out).below q, HR3.out.below q, (fun p hp => by simp at hp), by simp, HML.out.1, by have := HML.out.2; show l.length ≤ 4000; omega, HLM.out⟩
    have HBB := hide (Below.next (Below.next HB2.out HB3.out) q)
    clear q xr
    go_wp2
    go_ret2
    exact ⟨_, _, _, _, rfl, HR.out, HBB.out⟩)

end Go.Proofs.YtnaedmmfiiebaaaGreatDoor.T

namespace Go.Proofs.YtnaedmmfiiebaaaGreatDoor.T
open Go.RowKit

theorem rootat_zero (w : World) : Calls Tryz.prog 43 #[.int .i64 0] w fun e w' => e = .returned .nilIface ∧ w = w' := by
  go_enter Tryz.func43, Tryz.ntmps43
  go_wp2
  go_ret
  exact ⟨rfl, rfl⟩
theorem rootat_some (id : Int) (w : World) (h : ¬ id = 0) : Calls Tryz.prog 43 #[.int .i64 id] w fun e w' => e = .returned (C.Ch.pg id).val ∧ w = w' := by
  have h1 : (id == 0) = false := by simp [h]
  go_enter Tryz.func43, Tryz.ntmps43
  go_wp2
  go_ret
  exact ⟨rfl, rfl⟩
end Go.Proofs.YtnaedmmfiiebaaaGreatDoor.T
