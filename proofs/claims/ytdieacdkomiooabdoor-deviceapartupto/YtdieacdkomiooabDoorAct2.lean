import Derived.Test.YtdieacdkomiooabDoorAct0
namespace Go.Proofs.YtdieacdkomiooabDoor
open Go.RowKit Go.Maps

/-- What act asks. -/
structure StpOk (d : Dev) (s : Stp) : Prop where
  n : s.n < 9223372036854775808
  data : s.data.size ≤ 140737488355328
  room : d.pend.length + s.data.size / 512 ≤ 5864062014805
theorem errs_write (d : Dev) (s : Int) (l : List UInt8) : (d.write s l).2 = 0 ∨ (d.write s l).2 = 1 ∨ (d.write s l).2 = 3 ∨ (d.write s l).2 = 8 := by
  unfold Dev.write Dev.done
  repeat' split
  all_goals simp
theorem errs_sync (d : Dev) : d.sync.2 = 0 ∨ d.sync.2 = 1 ∨ d.sync.2 = 3 ∨ d.sync.2 = 8 := by
  unfold Dev.sync Dev.done
  repeat' split
  all_goals simp
theorem errs_read (d : Dev) (s n : Int) : (d.read s n).2.2 = 0 ∨ (d.read s n).2.2 = 1 ∨ (d.read s n).2.2 = 3 ∨ (d.read s n).2.2 = 8 := by
  unfold Dev.read
  repeat' split
  all_goals simp
theorem errV_form (A : Nat → Addr) (n : Nat) (_hn : n = 0 ∨ n = 1 ∨ n = 3 ∨ n = 8) : errV A n = .nilIface ∨ ∃ a, errV A n = .iface 175 (.pointer (some a)) := by
  unfold errV
  split
  · exact .inl rfl
  · exact .inr ⟨_, rfl⟩
theorem owns_nilB (w : World) (n : Nat) : w.ownsRow n 5 1 (.slice none 0 0) ([] : List UInt8).length (u8s []) := World.ownsRow_nil _ _ _ _
theorem owns_nilS (w : World) (n : Nat) : w.ownsRow n 68 2 (.slice none 0 0) ([] : List Sec).length (secCells []) := World.ownsRow_nil _ _ _ _
theorem no_blk {F : Nat → Prop} (g : Nat) (h : (Value.slice none 0 0).ownBlock = some g) : ¬ F g := by simp [Value.ownBlock] at h

set_option maxRecDepth 100000 in
set_option maxHeartbeats 1600000 in
theorem act_sync (base : Nat) (A : Nat → Addr) (b : Nat) (F : Nat → Prop) (d : Dev) (w : World) (h : DevAt w b F d) (hE : ErrsB base A w) (hF : ∀ k, F k → base ≤ k) (K S n : Int) (D : ByteArray) (l : List Fate) (fv : Value) (hl : FatesIn w fv l) (hs : StpOk d ⟨K, S, n, D, l⟩) (hop : OpOk base A b d.arms) (hk : K = 2) :
    Calls Tryd.prog 11 #[.pointer (some ⟨b, 0, none⟩), .agg #[.int .i64 K, .int .i64 S, .int .i64 n, .string D, fv]] w fun e w' => ∃ vb vs F', ActPost w b F (d.act ⟨K, S, n, D, l⟩) e w' vb vs F' := by
  have hFl := h.lt
  have e1 : (K == 1) = false := by rw [hk]; decide
  have e2 : (K == 2) = true := by rw [hk]; decide
  have HACT : Hid (d.act ⟨K, S, n, D, l⟩ = (d.sync.1, { said0 with err := d.sync.2 })) := by
    show d.act _ = _
    simp [Dev.act, hk]
  obtain ⟨fa, fc, rfl⟩ : ∃ a c, fv = .slice a l.length c := by obtain ⟨a, c, _, _, h, _⟩ := hl; exact ⟨a, c, h⟩
  rw [HACT.out]
  obtain ⟨w2, hw2⟩ : ∃ w2, w2 = (w.alloc (.cells #[.int .i64 K, .int .i64 S, .int .i64 n, .string D, .slice fa l.length fc] 35)).alloc (.cells #[.int .i64 0, .slice none 0 0, .slice none 0 0, .int .i64 0, .int .i64 0, .int .i64 0] 38) := ⟨_, rfl⟩
  have hin : ActIn w w2 [.int .i64 K, .int .i64 S, .int .i64 n, .string D, .slice fa l.length fc] := by rw [hw2]; exact actIn w #[.int .i64 K, .int .i64 S, .int .i64 n, .string D, .slice fa l.length fc]
  have HIN : Hid (ActIn w w2 [.int .i64 K, .int .i64 S, .int .i64 n, .string D, .slice fa l.length fc]) := hin
  have k1 : w2.cell? ⟨w.heap.size, 1, none⟩ = some (.int .i64 S) := hin.box.2 1 (by simp)
  have k2 : w2.cell? ⟨w.heap.size, 2, none⟩ = some (.int .i64 n) := hin.box.2 2 (by simp)
  have k3 : w2.cell? ⟨w.heap.size, 3, none⟩ = some (.string D) := hin.box.2 3 (by simp)
  have k4 : w2.cell? ⟨w.heap.size, 4, none⟩ = some (.slice fa l.length fc) := hin.box.2 4 (by simp)
  have h2 : DevAt w2 b F d := h.below hin.bel
  have hE2 : ErrsB base A w2 := hE.up hin.bel
  have hl2 : FatesIn w2 (.slice fa l.length fc) l := hl.keep hin.bel
  have HE2 : Hid (ErrsB base A w2) := hE2
  have HFl : Hid (∀ k, F k → k < w.heap.size) := hFl
  have HF : Hid (∀ k, F k → base ≤ k) := hF
  have SY := sync_any base A b F d w2 h2 hE2 hF (by have := hs.room; simp only [] at this; omega) hop
  have HSY : Hid (Calls Tryd.prog 41 #[.pointer (some ⟨b, 0, none⟩)] w2 fun e w' => e = .returned (errV A d.sync.2) ∧ DevPost w2 b F d.sync.1 w') := SY
  have HER := errs_sync d
  generalize hd' : d.sync = r at *
  clear hd' SY
  clear h hE hF hl hin h2 hE2 hl2 hFl hs hop hk
  go_enter Tryd.func11, Tryd.ntmps11
  go_wp2_with fail
  rw [← hw2]
  refine HSY.out.mono ?_
  rintro e w3 ⟨rfl, F', h3, s3⟩
  have NM := num_any A w3 (HE2.out.step s3 HF.out).at' r.2 HER
  have HNM : Hid (Calls Tryd.prog 22 #[errV A r.2] w3 fun e w' => e = .returned (.int .i64 (r.2 : Int)) ∧ w3 = w') := NM
  have FIN : Hid _ := act_fin (r := (r.1, { said0 with err := r.2 })) (vb := .slice none 0 0) (vs := .slice none 0 0) HIN.out HFl.out h3 s3 (owns_nilB _ _) (owns_nilS _ _) no_blk no_blk _ rfl
  obtain ⟨ev, hev⟩ : ∃ ev, ev = errV A r.2 := ⟨_, rfl⟩
  rw [← hev] at HNM ⊢
  clear HSY NM h3 s3 hev hw2 k1 k2 k3 k4
  go_wp2_with fail
  refine HNM.out.mono ?_
  rintro e w4 ⟨rfl, rfl⟩
  clear HNM
  obtain ⟨f3, hst, hr4, P⟩ := FIN.out
  have HP : Hid _ := P
  clear P
  go_wp2_with (refine wpList_store_eq rfl 38 _ _ rfl _ _ rfl rfl hst ?_)
  try simp only [Exit.inBlock, Exit.then]
  refine bodyPost_ret (results_cell_row rfl _ _ (w.heap.size + 1) 38 _ (0, 0) _ rfl hr4 Tryd.underlying38 rfl (by rw [sizeSaid]; rfl)) rfl ?_
  exact ⟨_, _, _, HP.out⟩


set_option maxRecDepth 100000 in
set_option maxHeartbeats 1600000 in
theorem act_read (base : Nat) (A : Nat → Addr) (b : Nat) (F : Nat → Prop) (d : Dev) (w : World) (h : DevAt w b F d) (hE : ErrsB base A w) (hF : ∀ k, F k → base ≤ k) (K S n : Int) (D : ByteArray) (l : List Fate) (fv : Value) (hl : FatesIn w fv l) (hs : StpOk d ⟨K, S, n, D, l⟩) (_hop : OpOk base A b d.arms) (hk : K = 3) :
    Calls Tryd.prog 11 #[.pointer (some ⟨b, 0, none⟩), .agg #[.int .i64 K, .int .i64 S, .int .i64 n, .string D, fv]] w fun e w' => ∃ vb vs F', ActPost w b F (d.act ⟨K, S, n, D, l⟩) e w' vb vs F' := by
  have hFl := h.lt
  have e1 : (K == 1) = false := by rw [hk]; decide
  have e2 : (K == 2) = false := by rw [hk]; decide
  have e3 : (K == 3) = true := by rw [hk]; decide
  have HACT : Hid (d.act ⟨K, S, n, D, l⟩ = ((d.read S n).1, { said0 with err := (d.read S n).2.2, bytes := (d.read S n).2.1 })) := by
    show d.act _ = _
    simp [Dev.act, hk]
  obtain ⟨fa, fc, rfl⟩ : ∃ a c, fv = .slice a l.length c := by obtain ⟨a, c, _, _, h, _⟩ := hl; exact ⟨a, c, h⟩
  rw [HACT.out]
  obtain ⟨w2, hw2⟩ : ∃ w2, w2 = (w.alloc (.cells #[.int .i64 K, .int .i64 S, .int .i64 n, .string D, .slice fa l.length fc] 35)).alloc (.cells #[.int .i64 0, .slice none 0 0, .slice none 0 0, .int .i64 0, .int .i64 0, .int .i64 0] 38) := ⟨_, rfl⟩
  have hin : ActIn w w2 [.int .i64 K, .int .i64 S, .int .i64 n, .string D, .slice fa l.length fc] := by rw [hw2]; exact actIn w #[.int .i64 K, .int .i64 S, .int .i64 n, .string D, .slice fa l.length fc]
  have HIN : Hid (ActIn w w2 [.int .i64 K, .int .i64 S, .int .i64 n, .string D, .slice fa l.length fc]) := hin
  have k1 : w2.cell? ⟨w.heap.size, 1, none⟩ = some (.int .i64 S) := hin.box.2 1 (by simp)
  have k2 : w2.cell? ⟨w.heap.size, 2, none⟩ = some (.int .i64 n) := hin.box.2 2 (by simp)
  have k3 : w2.cell? ⟨w.heap.size, 3, none⟩ = some (.string D) := hin.box.2 3 (by simp)
  have k4 : w2.cell? ⟨w.heap.size, 4, none⟩ = some (.slice fa l.length fc) := hin.box.2 4 (by simp)
  have h2 : DevAt w2 b F d := h.below hin.bel
  have hE2 : ErrsB base A w2 := hE.up hin.bel
  have hl2 : FatesIn w2 (.slice fa l.length fc) l := hl.keep hin.bel
  have HE2 : Hid (ErrsB base A w2) := hE2
  have HFl : Hid (∀ k, F k → k < w.heap.size) := hFl
  have HF : Hid (∀ k, F k → base ≤ k) := hF
  have RD := read_any base A b F d w2 h2 hE2 S n hs.n
  have HRD : Hid (Calls Tryd.prog 13 #[.pointer (some ⟨b, 0, none⟩), .int .i64 S, .int .i64 n] w2 fun e w' => ∃ v, ReadPost A w2 b F (d.read S n) e w' v) := RD
  have HER := errs_read d S n
  generalize hd' : d.read S n = r at *
  clear hd' RD
  clear h hE hF hl hin h2 hE2 hl2 hFl hs  hk
  go_enter Tryd.func11, Tryd.ntmps11
  go_wp2_with fail
  rw [← hw2]
  refine HRD.out.mono ?_
  rintro e w3 ⟨v, rfl, hrow, h3, s3⟩
  have NM := num_any A w3 (HE2.out.step s3 HF.out).at' r.2.2 HER
  have HNM : Hid (Calls Tryd.prog 22 #[errV A r.2.2] w3 fun e w' => e = .returned (.int .i64 (r.2.2 : Int)) ∧ w3 = w') := NM
  have hnb : ∀ g, v.ownBlock = some g → ¬ F g := fun g hg hf => by have := (owns_blk hrow g hg).1; have := HFl.out g hf; have := HIN.out.size; omega
  have FIN : Hid _ := act_fin (r := (r.1, { said0 with err := r.2.2, bytes := r.2.1 })) (vb := v) (vs := .slice none 0 0) HIN.out HFl.out h3 s3 hrow (owns_nilS _ _) hnb no_blk _ rfl
  obtain ⟨ev, hev⟩ : ∃ ev, ev = errV A r.2.2 := ⟨_, rfl⟩
  obtain ⟨va, vc, rfl, -⟩ := owns_form hrow
  rw [← hev] at HNM ⊢
  clear HRD NM h3 s3 hev hw2 k1 k2 k3 k4 hrow hnb
  go_wp2_with fail
  refine HNM.out.mono ?_
  rintro e w4 ⟨rfl, rfl⟩
  clear HNM
  obtain ⟨f3, hst, hr4, P⟩ := FIN.out
  have HP : Hid _ := P
  clear P
  go_wp2_with (refine wpList_store_eq rfl 38 _ _ rfl _ _ rfl rfl hst ?_)
  try simp only [Exit.inBlock, Exit.then]
  refine bodyPost_ret (results_cell_row rfl _ _ (w.heap.size + 1) 38 _ (0, 0) _ rfl hr4 Tryd.underlying38 rfl (by rw [sizeSaid]; rfl)) rfl ?_
  exact ⟨_, _, _, HP.out⟩

set_option maxRecDepth 100000 in
set_option maxHeartbeats 1600000 in
theorem act_crash (base : Nat) (A : Nat → Addr) (b : Nat) (F : Nat → Prop) (d : Dev) (w : World) (h : DevAt w b F d) (hE : ErrsB base A w) (hF : ∀ k, F k → base ≤ k) (K S n : Int) (D : ByteArray) (l : List Fate) (fv : Value) (hl : FatesIn w fv l) (hs : StpOk d ⟨K, S, n, D, l⟩) (_hop : OpOk base A b d.arms) (hk : K = 4) :
    Calls Tryd.prog 11 #[.pointer (some ⟨b, 0, none⟩), .agg #[.int .i64 K, .int .i64 S, .int .i64 n, .string D, fv]] w fun e w' => ∃ vb vs F', ActPost w b F (d.act ⟨K, S, n, D, l⟩) e w' vb vs F' := by
  have hFl := h.lt
  have e1 : (K == 1) = false := by rw [hk]; decide
  have e2 : (K == 2) = false := by rw [hk]; decide
  have e3 : (K == 3) = false := by rw [hk]; decide
  have e4 : (K == 4) = true := by rw [hk]; decide
  have HACT : Hid (d.act ⟨K, S, n, D, l⟩ = (d.crash l, said0)) := by
    show d.act _ = _
    simp [Dev.act, hk]
  obtain ⟨fa, fc, rfl⟩ : ∃ a c, fv = .slice a l.length c := by obtain ⟨a, c, _, _, h, _⟩ := hl; exact ⟨a, c, h⟩
  rw [HACT.out]
  obtain ⟨w2, hw2⟩ : ∃ w2, w2 = (w.alloc (.cells #[.int .i64 K, .int .i64 S, .int .i64 n, .string D, .slice fa l.length fc] 35)).alloc (.cells #[.int .i64 0, .slice none 0 0, .slice none 0 0, .int .i64 0, .int .i64 0, .int .i64 0] 38) := ⟨_, rfl⟩
  have hin : ActIn w w2 [.int .i64 K, .int .i64 S, .int .i64 n, .string D, .slice fa l.length fc] := by rw [hw2]; exact actIn w #[.int .i64 K, .int .i64 S, .int .i64 n, .string D, .slice fa l.length fc]
  have HIN : Hid (ActIn w w2 [.int .i64 K, .int .i64 S, .int .i64 n, .string D, .slice fa l.length fc]) := hin
  have k1 : w2.cell? ⟨w.heap.size, 1, none⟩ = some (.int .i64 S) := hin.box.2 1 (by simp)
  have k2 : w2.cell? ⟨w.heap.size, 2, none⟩ = some (.int .i64 n) := hin.box.2 2 (by simp)
  have k3 : w2.cell? ⟨w.heap.size, 3, none⟩ = some (.string D) := hin.box.2 3 (by simp)
  have k4 : w2.cell? ⟨w.heap.size, 4, none⟩ = some (.slice fa l.length fc) := hin.box.2 4 (by simp)
  have h2 : DevAt w2 b F d := h.below hin.bel
  have hE2 : ErrsB base A w2 := hE.up hin.bel
  have hl2 : FatesIn w2 (.slice fa l.length fc) l := hl.keep hin.bel
  have HE2 : Hid (ErrsB base A w2) := hE2
  have HFl : Hid (∀ k, F k → k < w.heap.size) := hFl
  have HF : Hid (∀ k, F k → base ≤ k) := hF
  have FT := fates_any l _ w2 hl2
  have HFT : Hid (Calls Tryd.prog 10 #[.slice fa l.length fc] w2 fun e w' => ∃ v', e = .returned v' ∧ w'.ownsRow w2.heap.size 92 4 v' l.length (fateCells l) ∧ Below w2.heap.size w2 w') := FT
  have HCR : Hid (∀ w3 v, Below w2.heap.size w2 w3 → w3.ownsRow w2.heap.size 92 4 v l.length (fateCells l) → Calls Tryd.prog 9 #[.pointer (some ⟨b, 0, none⟩), v] w3 fun e w' => e = .returned (.tuple #[]) ∧ DevPost w3 b F (d.crash l) w') := fun w3 v hb hr => crash_any b F d w3 (h2.below hb) l v ⟨hr.1, hr.2.imp id fun ⟨g, cap, cur, q1, _, q3⟩ => ⟨g, cap, cur, q1, Nat.zero_le _, q3⟩⟩ (by have := hs.room; simp only [] at this; omega)
  clear FT
  clear h hE hF hl hin h2 hE2 hl2 hFl hs  hk
  go_enter Tryd.func11, Tryd.ntmps11
  go_wp2_with fail
  rw [← hw2]
  refine HFT.out.mono ?_
  rintro e w3 ⟨v, rfl, hrow, hb3⟩
  have CR := HCR.out w3 v hb3 hrow
  have HC2 : Hid (Calls Tryd.prog 9 #[.pointer (some ⟨b, 0, none⟩), v] w3 fun e w' => e = .returned (.tuple #[]) ∧ DevPost w3 b F (d.crash l) w') := CR
  obtain ⟨va, vc, rfl, -⟩ := owns_form hrow
  have HB3 : Hid (Below w2.heap.size w2 w3) := hb3
  clear HFT HCR CR hrow hb3 hw2 k1 k2 k3 k4
  go_wp2_with fail
  refine HC2.out.mono ?_
  rintro e w4 ⟨rfl, F', h4, s4⟩
  have FIN : Hid _ := act_fin (r := (d.crash l, said0)) (vb := .slice none 0 0) (vs := .slice none 0 0) HIN.out HFl.out h4 ((Step.of_below HB3.out).trans s4) (owns_nilB _ _) (owns_nilS _ _) no_blk no_blk _ rfl
  clear HC2 HB3 h4 s4
  obtain ⟨f3, hst, hr4, P⟩ := FIN.out
  have HP : Hid _ := P
  clear P
  go_wp2_with (refine wpList_store_eq rfl 38 _ _ rfl _ _ rfl rfl hst ?_)
  try simp only [Exit.inBlock, Exit.then]
  refine bodyPost_ret (results_cell_row rfl _ _ (w.heap.size + 1) 38 _ (0, 0) _ rfl hr4 Tryd.underlying38 rfl (by rw [sizeSaid]; rfl)) rfl ?_
  exact ⟨_, _, _, HP.out⟩

set_option maxRecDepth 100000 in
set_option maxHeartbeats 1600000 in
theorem act_revive (base : Nat) (A : Nat → Addr) (b : Nat) (F : Nat → Prop) (d : Dev) (w : World) (h : DevAt w b F d) (hE : ErrsB base A w) (hF : ∀ k, F k → base ≤ k) (K S n : Int) (D : ByteArray) (l : List Fate) (fv : Value) (hl : FatesIn w fv l) (_hs : StpOk d ⟨K, S, n, D, l⟩) (_hop : OpOk base A b d.arms) (hk : K = 6) :
    Calls Tryd.prog 11 #[.pointer (some ⟨b, 0, none⟩), .agg #[.int .i64 K, .int .i64 S, .int .i64 n, .string D, fv]] w fun e w' => ∃ vb vs F', ActPost w b F (d.act ⟨K, S, n, D, l⟩) e w' vb vs F' := by
  have hFl := h.lt
  have e1 : (K == 1) = false := by rw [hk]; decide
  have e2 : (K == 2) = false := by rw [hk]; decide
  have e3 : (K == 3) = false := by rw [hk]; decide
  have e4 : (K == 4) = false := by rw [hk]; decide
  have e5 : (K == 5) = false := by rw [hk]; decide
  have e6 : (K == 6) = true := by rw [hk]; decide
  have HACT : Hid (d.act ⟨K, S, n, D, l⟩ = (d.revive, said0)) := by
    show d.act _ = _
    simp [Dev.act, hk]
  obtain ⟨fa, fc, rfl⟩ : ∃ a c, fv = .slice a l.length c := by obtain ⟨a, c, _, _, h, _⟩ := hl; exact ⟨a, c, h⟩
  rw [HACT.out]
  obtain ⟨w2, hw2⟩ : ∃ w2, w2 = (w.alloc (.cells #[.int .i64 K, .int .i64 S, .int .i64 n, .string D, .slice fa l.length fc] 35)).alloc (.cells #[.int .i64 0, .slice none 0 0, .slice none 0 0, .int .i64 0, .int .i64 0, .int .i64 0] 38) := ⟨_, rfl⟩
  have hin : ActIn w w2 [.int .i64 K, .int .i64 S, .int .i64 n, .string D, .slice fa l.length fc] := by rw [hw2]; exact actIn w #[.int .i64 K, .int .i64 S, .int .i64 n, .string D, .slice fa l.length fc]
  have HIN : Hid (ActIn w w2 [.int .i64 K, .int .i64 S, .int .i64 n, .string D, .slice fa l.length fc]) := hin
  have k1 : w2.cell? ⟨w.heap.size, 1, none⟩ = some (.int .i64 S) := hin.box.2 1 (by simp)
  have k2 : w2.cell? ⟨w.heap.size, 2, none⟩ = some (.int .i64 n) := hin.box.2 2 (by simp)
  have k3 : w2.cell? ⟨w.heap.size, 3, none⟩ = some (.string D) := hin.box.2 3 (by simp)
  have k4 : w2.cell? ⟨w.heap.size, 4, none⟩ = some (.slice fa l.length fc) := hin.box.2 4 (by simp)
  have h2 : DevAt w2 b F d := h.below hin.bel
  have hE2 : ErrsB base A w2 := hE.up hin.bel
  have hl2 : FatesIn w2 (.slice fa l.length fc) l := hl.keep hin.bel
  have HE2 : Hid (ErrsB base A w2) := hE2
  have HFl : Hid (∀ k, F k → k < w.heap.size) := hFl
  have HF : Hid (∀ k, F k → base ≤ k) := hF
  have RV := revive_any b F d w2 h2
  have HRV : Hid (Calls Tryd.prog 12 #[.pointer (some ⟨b, 0, none⟩)] w2 fun e w' => e = .returned (.tuple #[]) ∧ DevAt w' b F d.revive ∧ Step F F w2 w') := RV
  clear RV
  clear h hE hF hl hin h2 hE2 hl2 hFl   hk
  go_enter Tryd.func11, Tryd.ntmps11
  go_wp2_with fail
  rw [← hw2]
  refine HRV.out.mono ?_
  rintro e w3 ⟨rfl, h3, s3⟩
  have FIN : Hid _ := act_fin (r := (d.revive, said0)) (vb := .slice none 0 0) (vs := .slice none 0 0) HIN.out HFl.out h3 s3 (owns_nilB _ _) (owns_nilS _ _) no_blk no_blk _ rfl
  clear HRV h3 s3 hw2 k1 k2 k3 k4
  obtain ⟨f3, hst, hr4, P⟩ := FIN.out
  have HP : Hid _ := P
  clear P
  go_wp2_with (refine wpList_store_eq rfl 38 _ _ rfl _ _ rfl rfl hst ?_)
  try simp only [Exit.inBlock, Exit.then]
  refine bodyPost_ret (results_cell_row rfl _ _ (w.heap.size + 1) 38 _ (0, 0) _ rfl hr4 Tryd.underlying38 rfl (by rw [sizeSaid]; rfl)) rfl ?_
  exact ⟨_, _, _, HP.out⟩

set_option maxRecDepth 100000 in
set_option maxHeartbeats 1600000 in
theorem act_durable (base : Nat) (A : Nat → Addr) (b : Nat) (F : Nat → Prop) (d : Dev) (w : World) (h : DevAt w b F d) (hE : ErrsB base A w) (hF : ∀ k, F k → base ≤ k) (K S n : Int) (D : ByteArray) (l : List Fate) (fv : Value) (hl : FatesIn w fv l) (_hs : StpOk d ⟨K, S, n, D, l⟩) (_hop : OpOk base A b d.arms) (hk : K = 7) :
    Calls Tryd.prog 11 #[.pointer (some ⟨b, 0, none⟩), .agg #[.int .i64 K, .int .i64 S, .int .i64 n, .string D, fv]] w fun e w' => ∃ vb vs F', ActPost w b F (d.act ⟨K, S, n, D, l⟩) e w' vb vs F' := by
  have hFl := h.lt
  have e1 : (K == 1) = false := by rw [hk]; decide
  have e2 : (K == 2) = false := by rw [hk]; decide
  have e3 : (K == 3) = false := by rw [hk]; decide
  have e4 : (K == 4) = false := by rw [hk]; decide
  have e5 : (K == 5) = false := by rw [hk]; decide
  have e6 : (K == 6) = false := by rw [hk]; decide
  have e7 : (K == 7) = true := by rw [hk]; decide
  have HACT : Hid (d.act ⟨K, S, n, D, l⟩ = (d, { said0 with secs := d.dur })) := by
    show d.act _ = _
    simp [Dev.act, hk]
  obtain ⟨fa, fc, rfl⟩ : ∃ a c, fv = .slice a l.length c := by obtain ⟨a, c, _, _, h, _⟩ := hl; exact ⟨a, c, h⟩
  rw [HACT.out]
  obtain ⟨w2, hw2⟩ : ∃ w2, w2 = (w.alloc (.cells #[.int .i64 K, .int .i64 S, .int .i64 n, .string D, .slice fa l.length fc] 35)).alloc (.cells #[.int .i64 0, .slice none 0 0, .slice none 0 0, .int .i64 0, .int .i64 0, .int .i64 0] 38) := ⟨_, rfl⟩
  have hin : ActIn w w2 [.int .i64 K, .int .i64 S, .int .i64 n, .string D, .slice fa l.length fc] := by rw [hw2]; exact actIn w #[.int .i64 K, .int .i64 S, .int .i64 n, .string D, .slice fa l.length fc]
  have HIN : Hid (ActIn w w2 [.int .i64 K, .int .i64 S, .int .i64 n, .string D, .slice fa l.length fc]) := hin
  have k1 : w2.cell? ⟨w.heap.size, 1, none⟩ = some (.int .i64 S) := hin.box.2 1 (by simp)
  have k2 : w2.cell? ⟨w.heap.size, 2, none⟩ = some (.int .i64 n) := hin.box.2 2 (by simp)
  have k3 : w2.cell? ⟨w.heap.size, 3, none⟩ = some (.string D) := hin.box.2 3 (by simp)
  have k4 : w2.cell? ⟨w.heap.size, 4, none⟩ = some (.slice fa l.length fc) := hin.box.2 4 (by simp)
  have h2 : DevAt w2 b F d := h.below hin.bel
  have hE2 : ErrsB base A w2 := hE.up hin.bel
  have hl2 : FatesIn w2 (.slice fa l.length fc) l := hl.keep hin.bel
  have HE2 : Hid (ErrsB base A w2) := hE2
  have HFl : Hid (∀ k, F k → k < w.heap.size) := hFl
  have HF : Hid (∀ k, F k → base ≤ k) := hF
  have DU := durable_any b F d w2 h2
  have HDU : Hid (Calls Tryd.prog 14 #[.pointer (some ⟨b, 0, none⟩)] w2 fun e w' => ∃ v', e = .returned v' ∧ w'.ownsRow w2.heap.size 68 2 v' d.dur.length (secCells d.dur) ∧ Below w2.heap.size w2 w') := DU
  have HD2 : Hid (DevAt w2 b F d) := h2
  clear DU
  clear h hE hF hl hin h2 hE2 hl2 hFl   hk
  go_enter Tryd.func11, Tryd.ntmps11
  go_wp2_with fail
  rw [← hw2]
  refine HDU.out.mono ?_
  rintro e w3 ⟨v, rfl, hrow, hb3⟩
  have hnb : ∀ g, v.ownBlock = some g → ¬ F g := fun g hg hf => by have := (owns_blk hrow g hg).1; have := HFl.out g hf; have := HIN.out.size; omega
  have FIN : Hid _ := act_fin (r := (d, { said0 with secs := d.dur })) (vb := .slice none 0 0) (vs := v) HIN.out HFl.out (HD2.out.below hb3) (Step.of_below hb3) (owns_nilB _ _) hrow no_blk hnb _ rfl
  obtain ⟨va, vc, rfl, -⟩ := owns_form hrow
  clear HDU hb3 hrow hnb hw2 k1 k2 k3 k4
  obtain ⟨f3, hst, hr4, P⟩ := FIN.out
  have HP : Hid _ := P
  clear P
  go_wp2_with (refine wpList_store_eq rfl 38 _ _ rfl _ _ rfl rfl hst ?_)
  try simp only [Exit.inBlock, Exit.then]
  refine bodyPost_ret (results_cell_row rfl _ _ (w.heap.size + 1) 38 _ (0, 0) _ rfl hr4 Tryd.underlying38 rfl (by rw [sizeSaid]; rfl)) rfl ?_
  exact ⟨_, _, _, HP.out⟩

set_option maxRecDepth 100000 in
set_option maxHeartbeats 1600000 in
theorem act_pending (base : Nat) (A : Nat → Addr) (b : Nat) (F : Nat → Prop) (d : Dev) (w : World) (h : DevAt w b F d) (hE : ErrsB base A w) (hF : ∀ k, F k → base ≤ k) (K S n : Int) (D : ByteArray) (l : List Fate) (fv : Value) (hl : FatesIn w fv l) (hs : StpOk d ⟨K, S, n, D, l⟩) (_hop : OpOk base A b d.arms) (hk : K = 8) :
    Calls Tryd.prog 11 #[.pointer (some ⟨b, 0, none⟩), .agg #[.int .i64 K, .int .i64 S, .int .i64 n, .string D, fv]] w fun e w' => ∃ vb vs F', ActPost w b F (d.act ⟨K, S, n, D, l⟩) e w' vb vs F' := by
  have hFl := h.lt
  have e1 : (K == 1) = false := by rw [hk]; decide
  have e2 : (K == 2) = false := by rw [hk]; decide
  have e3 : (K == 3) = false := by rw [hk]; decide
  have e4 : (K == 4) = false := by rw [hk]; decide
  have e5 : (K == 5) = false := by rw [hk]; decide
  have e6 : (K == 6) = false := by rw [hk]; decide
  have e7 : (K == 7) = false := by rw [hk]; decide
  have e8 : (K == 8) = true := by rw [hk]; decide
  have HACT : Hid (d.act ⟨K, S, n, D, l⟩ = (d, { said0 with secs := d.pend })) := by
    show d.act _ = _
    simp [Dev.act, hk]
  obtain ⟨fa, fc, rfl⟩ : ∃ a c, fv = .slice a l.length c := by obtain ⟨a, c, _, _, h, _⟩ := hl; exact ⟨a, c, h⟩
  rw [HACT.out]
  obtain ⟨w2, hw2⟩ : ∃ w2, w2 = (w.alloc (.cells #[.int .i64 K, .int .i64 S, .int .i64 n, .string D, .slice fa l.length fc] 35)).alloc (.cells #[.int .i64 0, .slice none 0 0, .slice none 0 0, .int .i64 0, .int .i64 0, .int .i64 0] 38) := ⟨_, rfl⟩
  have hin : ActIn w w2 [.int .i64 K, .int .i64 S, .int .i64 n, .string D, .slice fa l.length fc] := by rw [hw2]; exact actIn w #[.int .i64 K, .int .i64 S, .int .i64 n, .string D, .slice fa l.length fc]
  have HIN : Hid (ActIn w w2 [.int .i64 K, .int .i64 S, .int .i64 n, .string D, .slice fa l.length fc]) := hin
  have k1 : w2.cell? ⟨w.heap.size, 1, none⟩ = some (.int .i64 S) := hin.box.2 1 (by simp)
  have k2 : w2.cell? ⟨w.heap.size, 2, none⟩ = some (.int .i64 n) := hin.box.2 2 (by simp)
  have k3 : w2.cell? ⟨w.heap.size, 3, none⟩ = some (.string D) := hin.box.2 3 (by simp)
  have k4 : w2.cell? ⟨w.heap.size, 4, none⟩ = some (.slice fa l.length fc) := hin.box.2 4 (by simp)
  have h2 : DevAt w2 b F d := h.below hin.bel
  have hE2 : ErrsB base A w2 := hE.up hin.bel
  have hl2 : FatesIn w2 (.slice fa l.length fc) l := hl.keep hin.bel
  have HE2 : Hid (ErrsB base A w2) := hE2
  have HFl : Hid (∀ k, F k → k < w.heap.size) := hFl
  have HF : Hid (∀ k, F k → base ≤ k) := hF
  have DU := pending_any b F d w2 h2 (by have := hs.room; simp only [] at this; omega)
  have HDU : Hid (Calls Tryd.prog 15 #[.pointer (some ⟨b, 0, none⟩)] w2 fun e w' => ∃ v', e = .returned v' ∧ w'.ownsRow w2.heap.size 68 2 v' d.pend.length (secCells d.pend) ∧ Below w2.heap.size w2 w') := DU
  have HD2 : Hid (DevAt w2 b F d) := h2
  clear DU
  clear h hE hF hl hin h2 hE2 hl2 hFl hs  hk
  go_enter Tryd.func11, Tryd.ntmps11
  go_wp2_with fail
  rw [← hw2]
  refine HDU.out.mono ?_
  rintro e w3 ⟨v, rfl, hrow, hb3⟩
  have hnb : ∀ g, v.ownBlock = some g → ¬ F g := fun g hg hf => by have := (owns_blk hrow g hg).1; have := HFl.out g hf; have := HIN.out.size; omega
  have FIN : Hid _ := act_fin (r := (d, { said0 with secs := d.pend })) (vb := .slice none 0 0) (vs := v) HIN.out HFl.out (HD2.out.below hb3) (Step.of_below hb3) (owns_nilB _ _) hrow no_blk hnb _ rfl
  obtain ⟨va, vc, rfl, -⟩ := owns_form hrow
  clear HDU hb3 hrow hnb hw2 k1 k2 k3 k4
  obtain ⟨f3, hst, hr4, P⟩ := FIN.out
  have HP : Hid _ := P
  clear P
  go_wp2_with (refine wpList_store_eq rfl 38 _ _ rfl _ _ rfl rfl hst ?_)
  try simp only [Exit.inBlock, Exit.then]
  refine bodyPost_ret (results_cell_row rfl _ _ (w.heap.size + 1) 38 _ (0, 0) _ rfl hr4 Tryd.underlying38 rfl (by rw [sizeSaid]; rfl)) rfl ?_
  exact ⟨_, _, _, HP.out⟩

set_option maxRecDepth 100000 in
set_option maxHeartbeats 1600000 in
theorem act_counts (base : Nat) (A : Nat → Addr) (b : Nat) (F : Nat → Prop) (d : Dev) (w : World) (h : DevAt w b F d) (hE : ErrsB base A w) (hF : ∀ k, F k → base ≤ k) (K S n : Int) (D : ByteArray) (l : List Fate) (fv : Value) (hl : FatesIn w fv l) (_hs : StpOk d ⟨K, S, n, D, l⟩) (_hop : OpOk base A b d.arms) (hk : K = 9) :
    Calls Tryd.prog 11 #[.pointer (some ⟨b, 0, none⟩), .agg #[.int .i64 K, .int .i64 S, .int .i64 n, .string D, fv]] w fun e w' => ∃ vb vs F', ActPost w b F (d.act ⟨K, S, n, D, l⟩) e w' vb vs F' := by
  have hFl := h.lt
  have e1 : (K == 1) = false := by rw [hk]; decide
  have e2 : (K == 2) = false := by rw [hk]; decide
  have e3 : (K == 3) = false := by rw [hk]; decide
  have e4 : (K == 4) = false := by rw [hk]; decide
  have e5 : (K == 5) = false := by rw [hk]; decide
  have e6 : (K == 6) = false := by rw [hk]; decide
  have e7 : (K == 7) = false := by rw [hk]; decide
  have e8 : (K == 8) = false := by rw [hk]; decide
  have e9 : (K == 9) = true := by rw [hk]; decide
  have HACT : Hid (d.act ⟨K, S, n, D, l⟩ = (d, { said0 with a := d.nr, b := d.nw, c := d.ns })) := by
    show d.act _ = _
    simp [Dev.act, hk]
  obtain ⟨fa, fc, rfl⟩ : ∃ a c, fv = .slice a l.length c := by obtain ⟨a, c, _, _, h, _⟩ := hl; exact ⟨a, c, h⟩
  rw [HACT.out]
  obtain ⟨w2, hw2⟩ : ∃ w2, w2 = (w.alloc (.cells #[.int .i64 K, .int .i64 S, .int .i64 n, .string D, .slice fa l.length fc] 35)).alloc (.cells #[.int .i64 0, .slice none 0 0, .slice none 0 0, .int .i64 0, .int .i64 0, .int .i64 0] 38) := ⟨_, rfl⟩
  have hin : ActIn w w2 [.int .i64 K, .int .i64 S, .int .i64 n, .string D, .slice fa l.length fc] := by rw [hw2]; exact actIn w #[.int .i64 K, .int .i64 S, .int .i64 n, .string D, .slice fa l.length fc]
  have HIN : Hid (ActIn w w2 [.int .i64 K, .int .i64 S, .int .i64 n, .string D, .slice fa l.length fc]) := hin
  have k1 : w2.cell? ⟨w.heap.size, 1, none⟩ = some (.int .i64 S) := hin.box.2 1 (by simp)
  have k2 : w2.cell? ⟨w.heap.size, 2, none⟩ = some (.int .i64 n) := hin.box.2 2 (by simp)
  have k3 : w2.cell? ⟨w.heap.size, 3, none⟩ = some (.string D) := hin.box.2 3 (by simp)
  have k4 : w2.cell? ⟨w.heap.size, 4, none⟩ = some (.slice fa l.length fc) := hin.box.2 4 (by simp)
  have h2 : DevAt w2 b F d := h.below hin.bel
  have hE2 : ErrsB base A w2 := hE.up hin.bel
  have hl2 : FatesIn w2 (.slice fa l.length fc) l := hl.keep hin.bel
  have HE2 : Hid (ErrsB base A w2) := hE2
  have HFl : Hid (∀ k, F k → k < w.heap.size) := hFl
  have HF : Hid (∀ k, F k → base ≤ k) := hF
  have CN := counts_any b F d w2 h2
  have HCN : Hid (Calls Tryd.prog 16 #[.pointer (some ⟨b, 0, none⟩)] w2 fun e w' => e = .returned (.tuple #[.int .i64 d.nr, .int .i64 d.nw, .int .i64 d.ns]) ∧ Below w2.heap.size w2 w') := CN
  have HD2 : Hid (DevAt w2 b F d) := h2
  clear CN
  clear h hE hF hl hin h2 hE2 hl2 hFl   hk
  go_enter Tryd.func11, Tryd.ntmps11
  go_wp2_with fail
  rw [← hw2]
  refine HCN.out.mono ?_
  rintro e w3 ⟨rfl, hb3⟩
  have FIN : Hid _ := act_fin (r := (d, { said0 with a := d.nr, b := d.nw, c := d.ns })) (vb := .slice none 0 0) (vs := .slice none 0 0) HIN.out HFl.out (HD2.out.below hb3) (Step.of_below hb3) (owns_nilB _ _) (owns_nilS _ _) no_blk no_blk _ rfl
  clear HCN hb3 hw2 k1 k2 k3 k4
  obtain ⟨f3, hst, hr4, P⟩ := FIN.out
  have HP : Hid _ := P
  clear P
  go_wp2_with (refine wpList_store_eq rfl 38 _ _ rfl _ _ rfl rfl hst ?_)
  try simp only [Exit.inBlock, Exit.then]
  refine bodyPost_ret (results_cell_row rfl _ _ (w.heap.size + 1) 38 _ (0, 0) _ rfl hr4 Tryd.underlying38 rfl (by rw [sizeSaid]; rfl)) rfl ?_
  exact ⟨_, _, _, HP.out⟩

set_option maxRecDepth 100000 in
set_option maxHeartbeats 1600000 in
theorem act_none (base : Nat) (A : Nat → Addr) (b : Nat) (F : Nat → Prop) (d : Dev) (w : World) (h : DevAt w b F d) (hE : ErrsB base A w) (hF : ∀ k, F k → base ≤ k) (K S n : Int) (D : ByteArray) (l : List Fate) (fv : Value) (hl : FatesIn w fv l) (_hs : StpOk d ⟨K, S, n, D, l⟩) (_hop : OpOk base A b d.arms) (hk : K ≠ 1 ∧ K ≠ 2 ∧ K ≠ 3 ∧ K ≠ 4 ∧ K ≠ 5 ∧ K ≠ 6 ∧ K ≠ 7 ∧ K ≠ 8 ∧ K ≠ 9) :
    Calls Tryd.prog 11 #[.pointer (some ⟨b, 0, none⟩), .agg #[.int .i64 K, .int .i64 S, .int .i64 n, .string D, fv]] w fun e w' => ∃ vb vs F', ActPost w b F (d.act ⟨K, S, n, D, l⟩) e w' vb vs F' := by
  have hFl := h.lt
  have e1 : (K == 1) = false := by simp; exact hk.1
  have e2 : (K == 2) = false := by simp; exact hk.2.1
  have e3 : (K == 3) = false := by simp; exact hk.2.2.1
  have e4 : (K == 4) = false := by simp; exact hk.2.2.2.1
  have e5 : (K == 5) = false := by simp; exact hk.2.2.2.2.1
  have e6 : (K == 6) = false := by simp; exact hk.2.2.2.2.2.1
  have e7 : (K == 7) = false := by simp; exact hk.2.2.2.2.2.2.1
  have e8 : (K == 8) = false := by simp; exact hk.2.2.2.2.2.2.2.1
  have e9 : (K == 9) = false := by simp; exact hk.2.2.2.2.2.2.2.2
  have HACT : Hid (d.act ⟨K, S, n, D, l⟩ = (d, said0)) := by
    show d.act _ = _
    obtain ⟨q1, q2, q3, q4, q5, q6, q7, q8, q9⟩ := hk
    simp [Dev.act, q1, q2, q3, q4, q5, q6, q7, q8, q9]
  obtain ⟨fa, fc, rfl⟩ : ∃ a c, fv = .slice a l.length c := by obtain ⟨a, c, _, _, h, _⟩ := hl; exact ⟨a, c, h⟩
  rw [HACT.out]
  obtain ⟨w2, hw2⟩ : ∃ w2, w2 = (w.alloc (.cells #[.int .i64 K, .int .i64 S, .int .i64 n, .string D, .slice fa l.length fc] 35)).alloc (.cells #[.int .i64 0, .slice none 0 0, .slice none 0 0, .int .i64 0, .int .i64 0, .int .i64 0] 38) := ⟨_, rfl⟩
  have hin : ActIn w w2 [.int .i64 K, .int .i64 S, .int .i64 n, .string D, .slice fa l.length fc] := by rw [hw2]; exact actIn w #[.int .i64 K, .int .i64 S, .int .i64 n, .string D, .slice fa l.length fc]
  have HIN : Hid (ActIn w w2 [.int .i64 K, .int .i64 S, .int .i64 n, .string D, .slice fa l.length fc]) := hin
  have k1 : w2.cell? ⟨w.heap.size, 1, none⟩ = some (.int .i64 S) := hin.box.2 1 (by simp)
  have k2 : w2.cell? ⟨w.heap.size, 2, none⟩ = some (.int .i64 n) := hin.box.2 2 (by simp)
  have k3 : w2.cell? ⟨w.heap.size, 3, none⟩ = some (.string D) := hin.box.2 3 (by simp)
  have k4 : w2.cell? ⟨w.heap.size, 4, none⟩ = some (.slice fa l.length fc) := hin.box.2 4 (by simp)
  have h2 : DevAt w2 b F d := h.below hin.bel
  have hE2 : ErrsB base A w2 := hE.up hin.bel
  have hl2 : FatesIn w2 (.slice fa l.length fc) l := hl.keep hin.bel
  have HE2 : Hid (ErrsB base A w2) := hE2
  have HFl : Hid (∀ k, F k → k < w.heap.size) := hFl
  have HF : Hid (∀ k, F k → base ≤ k) := hF
  have HD2 : Hid (DevAt w2 b F d) := h2
  clear h hE hF hl hin h2 hE2 hl2 hFl   hk
  go_enter Tryd.func11, Tryd.ntmps11
  go_wp2_with fail
  rw [← hw2]
  clear hw2 k1 k2 k3 k4
  try simp only [Exit.inBlock, Exit.then]
  refine bodyPost_ret (results_cell_row rfl _ _ (w.heap.size + 1) 38 zSaid (0, 0) _ rfl HIN.out.ans Tryd.underlying38 rfl (by rw [sizeSaid]; rfl)) rfl ?_
  exact ⟨.slice none 0 0, .slice none 0 0, F, rfl, owns_nilB _ _, owns_nilS _ _, HD2.out, Step.of_below HIN.out.bel, no_blk, no_blk⟩
set_option maxRecDepth 100000 in
set_option maxHeartbeats 1600000 in
theorem act_write (base : Nat) (A : Nat → Addr) (b : Nat) (F : Nat → Prop) (d : Dev) (w : World) (h : DevAt w b F d) (hE : ErrsB base A w) (hF : ∀ k, F k → base ≤ k) (K S n : Int) (D : ByteArray) (l : List Fate) (fv : Value) (hl : FatesIn w fv l) (hs : StpOk d ⟨K, S, n, D, l⟩) (hop : OpOk base A b d.arms) (hk : K = 1) :
    Calls Tryd.prog 11 #[.pointer (some ⟨b, 0, none⟩), .agg #[.int .i64 K, .int .i64 S, .int .i64 n, .string D, fv]] w fun e w' => ∃ vb vs F', ActPost w b F (d.act ⟨K, S, n, D, l⟩) e w' vb vs F' := by
  have hFl := h.lt
  have e1 : (K == 1) = true := by rw [hk]; decide
  have HACT : Hid (d.act ⟨K, S, n, D, l⟩ = ((d.write S (bl D)).1, { said0 with err := (d.write S (bl D)).2 })) := by
    show d.act _ = _
    simp [Dev.act, hk]
  obtain ⟨fa, fc, rfl⟩ : ∃ a c, fv = .slice a l.length c := by obtain ⟨a, c, _, _, h, _⟩ := hl; exact ⟨a, c, h⟩
  rw [HACT.out]
  obtain ⟨w2, hw2⟩ : ∃ w2, w2 = (w.alloc (.cells #[.int .i64 K, .int .i64 S, .int .i64 n, .string D, .slice fa l.length fc] 35)).alloc (.cells #[.int .i64 0, .slice none 0 0, .slice none 0 0, .int .i64 0, .int .i64 0, .int .i64 0] 38) := ⟨_, rfl⟩
  have hin : ActIn w w2 [.int .i64 K, .int .i64 S, .int .i64 n, .string D, .slice fa l.length fc] := by rw [hw2]; exact actIn w #[.int .i64 K, .int .i64 S, .int .i64 n, .string D, .slice fa l.length fc]
  have HIN : Hid (ActIn w w2 [.int .i64 K, .int .i64 S, .int .i64 n, .string D, .slice fa l.length fc]) := hin
  have k1 : w2.cell? ⟨w.heap.size, 1, none⟩ = some (.int .i64 S) := hin.box.2 1 (by simp)
  have k2 : w2.cell? ⟨w.heap.size, 2, none⟩ = some (.int .i64 n) := hin.box.2 2 (by simp)
  have k3 : w2.cell? ⟨w.heap.size, 3, none⟩ = some (.string D) := hin.box.2 3 (by simp)
  have k4 : w2.cell? ⟨w.heap.size, 4, none⟩ = some (.slice fa l.length fc) := hin.box.2 4 (by simp)
  have h2 : DevAt w2 b F d := h.below hin.bel
  have hE2 : ErrsB base A w2 := hE.up hin.bel
  have hl2 : FatesIn w2 (.slice fa l.length fc) l := hl.keep hin.bel
  have HE2 : Hid (ErrsB base A w2) := hE2
  have HFl : Hid (∀ k, F k → k < w.heap.size) := hFl
  have HF : Hid (∀ k, F k → base ≤ k) := hF
  have HBY : Hid (∀ w', Calls Tryd.prog 44 #[.string D] w' fun e w'' => ∃ v, e = .returned v ∧ w''.ownsRow w'.heap.size 5 1 v D.size (u8s D.data.toList) ∧ Below w'.heap.size w' w'') := fun w' => bytes_any D w' hs.data
  have HWR : Hid (∀ w3 v, Below w2.heap.size w2 w3 → w3.ownsRow w2.heap.size 5 1 v D.size (u8s D.data.toList) → Calls Tryd.prog 39 #[.pointer (some ⟨b, 0, none⟩), .int .i64 S, v] w3 fun e w' => e = .returned (errV A (d.write S (bl D)).2) ∧ DevPost w3 b F (d.write S (bl D)).1 w') := fun w3 v hb hr => by
    have hlen : (bl D).length = D.size := bl_len D
    refine write_any base A b F d w3 (h2.below hb) (hE2.up hb) hF S v (bl D) (bytesAt_own (base := w2.heap.size) (by rw [hlen]; exact hr) (by rw [hlen]; exact hs.data) (fun g hg hf => ?_)) (by rw [hlen]; exact hs.room) hop
    have := (owns_blk hr g hg).1; have := hFl g hf; have := HIN.out.size; omega
  have HER := errs_write d S (bl D)
  generalize hd' : d.write S (bl D) = r at *
  clear hd'
  clear h hE hF hl hin h2 hE2 hl2 hFl hs hop hk
  go_enter Tryd.func11, Tryd.ntmps11
  go_wp2_with fail
  rw [← hw2]
  clear hw2
  have hFn : ¬ F w.heap.size := fun hf => by have := HFl.out _ hf; omega
  go_region_held3 (fun w' => w'.cell? ⟨w.heap.size, 1, none⟩ = some (.int .i64 S) ∧ w'.cell? ⟨w.heap.size, 3, none⟩ = some (.string D)) (go_keep)
    (first
      | (go_at_call 44; refine (HBY.out _).mono ?_; rintro e w3 ⟨v, rfl, hrow, hbd⟩; have hb3 := undrew hbd; clear hbd; have y1 := cell_below hb3 k1; have y3 := cell_below hb3 k3; obtain ⟨va, vc, rfl, -⟩ := owns_form hrow)
      | (go_at_call 39; refine (HWR.out _ _ hb3 hrow).mono ?_; rintro e w4 ⟨rfl, F', h4, s4⟩; have z1 := s4.cell y1 hFn; have z3 := s4.cell y3 hFn))
  have S4 : Step F F' w2 w4 := (Step.of_below hb3).trans s4
  have NM := num_any A w4 (HE2.out.step S4 HF.out).at' r.2 HER
  have HNM : Hid (Calls Tryd.prog 22 #[errV A r.2] w4 fun e w' => e = .returned (.int .i64 (r.2 : Int)) ∧ w4 = w') := NM
  have FIN : Hid _ := act_fin (r := (r.1, { said0 with err := r.2 })) (vb := .slice none 0 0) (vs := .slice none 0 0) HIN.out HFl.out h4 S4 (owns_nilB _ _) (owns_nilS _ _) no_blk no_blk _ rfl
  obtain ⟨ev, hev⟩ : ∃ ev, ev = errV A r.2 := ⟨_, rfl⟩
  rw [← hev] at HNM ⊢
  clear HBY HWR NM h4 S4 s4 hev k1 k2 k3 k4 hb3 hrow y1 y3 z1 z3 hFn
  go_wp2_with fail
  refine HNM.out.mono ?_
  rintro e w5 ⟨rfl, rfl⟩
  clear HNM
  obtain ⟨f3, hst, hr4, P⟩ := FIN.out
  have HP : Hid _ := P
  clear P
  go_wp2_with (refine wpList_store_eq rfl 38 _ _ rfl _ _ rfl rfl hst ?_)
  try simp only [Exit.inBlock, Exit.then]
  refine bodyPost_ret (results_cell_row rfl _ _ (w.heap.size + 1) 38 _ (0, 0) _ rfl hr4 Tryd.underlying38 rfl (by rw [sizeSaid]; rfl)) rfl ?_
  exact ⟨_, _, _, HP.out⟩


end Go.Proofs.YtdieacdkomiooabDoor
