import Derived.Test.YtdieacdkomiooabDoorDPlM
namespace Go.Proofs.YtdieacdkomiooabDoor
open Go.RowKit Go.Maps

/-- What told leaves. -/
structure ToldP (w : World) (b : Nat) (F : Nat → Prop) (r : Dev × SaidD) (T' : Nat) (e : Ending) (w' : World) (vb vs : Value) (F' : Nat → Prop) : Prop where
  ret : e = .returned (.agg #[.int .i64 (r.2.err : Int), vb, vs, .int .i64 r.2.a, .int .i64 r.2.b, .int .i64 r.2.c])
  rb : w'.ownsRow w.heap.size 5 1 vb r.2.bytes.length (u8s r.2.bytes)
  rs : w'.ownsRow w.heap.size 68 2 vs r.2.secs.length (secCells r.2.secs)
  dev : RAll w' b F' r.1 T'
  step : Step F F' w w'
  nb : ∀ g, vb.ownBlock = some g → ¬ F' g
  ns : ∀ g, vs.ownBlock = some g → ¬ F' g
/-- What told asks. -/
structure ToldOk (d : Dev) (T : Nat) (s : Stp) : Prop where
  n : -9223372036854775808 ≤ s.n ∧ s.n < 9223372036854775808
  sec : -9223372036854775808 ≤ s.sector ∧ s.sector < 9223372036854775808
  data : s.data.size ≤ 140737488355328
  room : d.pend.length + s.data.size / 512 ≤ 5864062014805
  tears : T ≤ 1048576
  few : s.fates.length ≤ 1048576
  junk : ∀ f ∈ s.fates, f.junk.size ≤ 1048576
  arms : ∀ a ∈ d.arms, a.fates.length ≤ 1048576 ∧ ∀ f ∈ a.fates, f.junk.size ≤ 1048576
  more : (d.arms.length + 1) * 32 ≤ 140737488355328
theorem fatesOut_of {W w : World} {F : Nat → Prop} {v : Value} {l : List Fate} (h : FatesIn W v l) (hb : Below W.heap.size W w) (hF : ∀ k, F k → W.heap.size ≤ k) : FatesOut w F v l := fun w' _ hs => by
  obtain ⟨a, cap, g, off, hv, hl, ha, hc⟩ := h
  refine ⟨a, cap, g, off, hv, hl, ha, fun j u hu => ?_⟩
  have h1 := hc j u hu
  have hlt := World.block_lt_of_cell? W _ h1
  simp only [] at hlt
  exact (World.cell?_of_block (hs g (by have := hb.size; omega) (fun hf => by have := hF g hf; omega))).trans ((World.cell?_of_block (hb.block g hlt)).trans h1)
theorem told_fin {w w2 w3 : World} {b : Nat} {F F' : Nat → Prop} {cs : List Value} {r : Dev × SaidD} {T' : Nat} {vb vs : Value} (hi : ActIn w w2 cs) (hF : ∀ k, F k → k < w.heap.size) (hd : RAll w3 b F' r.1 T') (hs : Step F F' w2 w3)
    (rb : w3.ownsRow w2.heap.size 5 1 vb r.2.bytes.length (u8s r.2.bytes)) (rs : w3.ownsRow w2.heap.size 68 2 vs r.2.secs.length (secCells r.2.secs)) (nb : ∀ g, vb.ownBlock = some g → ¬ F' g) (ns : ∀ g, vs.ownBlock = some g → ¬ F' g) (X : Array Value)
    (hX : X = #[.int .i64 (r.2.err : Int), vb, vs, .int .i64 r.2.a, .int .i64 r.2.b, .int .i64 r.2.c]) :
    w3.heap[w.heap.size + 1]? = some (.cells zSaid 38 (0, 0)) ∧ (Instr.storeAt 38 (.pointer (some ⟨w.heap.size + 1, 0, none⟩)) (.agg X)).run Tryd.prog w3 = .ok () (w3.setRow (w.heap.size + 1) X) ∧
      (w3.setRow (w.heap.size + 1) X).heap[w.heap.size + 1]? = some (.cells X 38 (0, 0)) ∧ ToldP w b F r T' (.returned (.agg X)) (w3.setRow (w.heap.size + 1) X) vb vs F' := by
  have hsz := hi.size
  have hFr : ¬ F (w.heap.size + 1) := fun h => by have := hF _ h; omega
  have hF'r : ¬ F' (w.heap.size + 1) := fun h => (hs.sub _ h).elim hFr (fun h => by omega)
  have h3 : w3.heap[w.heap.size + 1]? = some (.cells zSaid 38 (0, 0)) := (hs.block _ (by omega) hFr).trans hi.ans
  have hob : vb.oneCell' = true := by obtain ⟨a, c, h, _⟩ := owns_form rb; rw [h]; rfl
  have hos : vs.oneCell' = true := by obtain ⟨a, c, h, _⟩ := owns_form rs; rw [h]; rfl
  have hne : ∀ k, k ≠ w.heap.size + 1 → (w3.setRow (w.heap.size + 1) X).heap[k]? = w3.heap[k]? := fun k hk => by
    have : w.heap.size + 1 ≠ k := fun e => hk e.symm
    simp [World.setRow, Array.getElem?_modify, this]
  have sE : Step (fun k => k = w.heap.size + 1) (fun k => k = w.heap.size + 1) w3 (w3.setRow (w.heap.size + 1) X) := ⟨rfl, rfl, rfl, by simp [World.setRow], fun k _ hk => hne k hk, fun _ h => .inl h⟩
  have rb2 := owns_step rb sE (fun g hg e => by have := (owns_blk rb g hg).1; omega)
  have rs2 := owns_step rs sE (fun g hg e => by have := (owns_blk rs g hg).1; omega)
  have weak : ∀ (e size n : Nat) (v : Value) (xs : List Value), (w3.setRow (w.heap.size + 1) X).ownsRow w2.heap.size e size v n xs → (w3.setRow (w.heap.size + 1) X).ownsRow w.heap.size e size v n xs := fun e size n v xs h => by
    refine ⟨h.1, h.2.imp id ?_⟩
    rintro ⟨g, cap, cur, h1, h2, h3⟩
    exact ⟨g, cap, cur, h1, by omega, h3⟩
  refine ⟨h3, ?_, setRow_heap _ _ _ _ _ _ h3, ⟨by rw [hX], weak _ _ _ _ _ rb2, weak _ _ _ _ _ rs2, hd.keep sE (fun k hk e => hF'r (by rw [← e]; exact hk)), ?_, nb, ns⟩⟩
  · exact said_store w3 _ zSaid X h3 rfl (by rw [hX]; rfl) (by rw [hX]; simp [Value.oneCell']; exact ⟨hob, hos⟩)
  · refine ⟨hs.os.trans hi.bel.os, hs.tape.trans hi.bel.tape, hs.output.trans hi.bel.output, ?_, fun k hk hn => ?_, fun k hk => ?_⟩
    · have := hs.size; simp [World.setRow]; omega
    · rw [hne k (by omega), hs.block k (by omega) hn, hi.bel.block k hk]
    · exact (hs.sub k hk).imp id (fun h => by omega)
theorem RAll.lt {w : World} {b : Nat} {F : Nat → Prop} {d : Dev} {T : Nat} (h : RAll w b F d T) : ∀ k, F k → k < w.heap.size := by obtain ⟨_, _, _, _, h⟩ := h; exact h.body.lt
theorem RAll.ok {w : World} {b : Nat} {F : Nat → Prop} {d : Dev} {T : Nat} (h : RAll w b F d T) : d.Ok := by obtain ⟨_, _, _, _, h⟩ := h; exact h.ok

end Go.Proofs.YtdieacdkomiooabDoor

namespace Go.Proofs.YtdieacdkomiooabDoor
open Go.RowKit Go.Maps

set_option maxHeartbeats 400000 in
theorem rrevAll_any (b : Nat) (F : Nat → Prop) (d : Dev) (T : Nat) (w : World) (h : RAll w b F d T) :
    Calls Tryd.prog 60 #[.pointer (some ⟨b, 0, none⟩)] w fun e w' => e = .returned (.tuple #[]) ∧ RAll w' b F d.revive T ∧ Step F F w w' := by
  obtain ⟨tv, lv, pv, av, h⟩ := h
  have c4 : w.cell? ⟨b, 4, none⟩ = some (.bool d.dead) := h.body.cell 4
  have z4 : w.frozen? ⟨b, 4, none⟩ = false := frozen_cells h.body.blk
  obtain ⟨h1, s1⟩ := h.setCount (d' := d.revive) 4 (.bool false) rfl rfl rfl rfl h.ok.revive
  have HP := Hid.mk2 (And.intro h1 s1)
  clear h h1 s1
  go_enter Tryd.func60, Tryd.ntmps60
  go_wp2_with fail
  go_end0
  exact ⟨rfl, ⟨_, _, _, _, HP.out.1⟩, HP.out.2⟩

set_option maxRecDepth 100000 in
set_option maxHeartbeats 1600000 in
theorem told_write (W : World) (b : Nat) (F : Nat → Prop) (d : Dev) (T : Nat) (w : World) (h : RAll w b F d T) (hWb : Below W.heap.size W w) (hWF : ∀ k, F k → W.heap.size ≤ k) (K S n : Int) (D : ByteArray) (l : List Fate) (fv : Value) (hl : FatesIn W fv l) (hs : ToldOk d T ⟨K, S, n, D, l⟩) (hk : K = 1) :
    Calls Tryd.prog 23 #[.pointer (some ⟨b, 0, none⟩), .agg #[.int .i64 K, .int .i64 S, .int .i64 n, .string D, fv]] w fun e w' => ∃ vb vs F' T', ToldP w b F (d.actF ⟨K, S, n, D, l⟩) T' e w' vb vs F' ∧ T' + armSum (d.actF ⟨K, S, n, D, l⟩).1.arms ≤ T + armSum d.arms + l.length := by
  have hFl := h.lt
  have e1 : (K == 1) = true := by rw [hk]; decide
  have HACT : Hid (d.actF ⟨K, S, n, D, l⟩ = ((d.write S (bl D)).1, { said0 with err := (d.write S (bl D)).2 })) := by
    show d.actF _ = _
    simp [Dev.actF, Dev.act, hk]
  obtain ⟨fa, fc, rfl⟩ : ∃ a c, fv = .slice a l.length c := by obtain ⟨a, c, _, _, h, _⟩ := hl; exact ⟨a, c, h⟩
  rw [HACT.out]
  obtain ⟨w2, hw2⟩ : ∃ w2, w2 = (w.alloc (.cells #[.int .i64 K, .int .i64 S, .int .i64 n, .string D, .slice fa l.length fc] 35)).alloc (.cells #[.int .i64 0, .slice none 0 0, .slice none 0 0, .int .i64 0, .int .i64 0, .int .i64 0] 38) := ⟨_, rfl⟩
  have hin : ActIn w w2 [.int .i64 K, .int .i64 S, .int .i64 n, .string D, .slice fa l.length fc] := by rw [hw2]; exact actIn w #[.int .i64 K, .int .i64 S, .int .i64 n, .string D, .slice fa l.length fc]
  have HIN : Hid (ActIn w w2 [.int .i64 K, .int .i64 S, .int .i64 n, .string D, .slice fa l.length fc]) := hin
  have k1 : w2.cell? ⟨w.heap.size, 1, none⟩ = some (.int .i64 S) := hin.box.2 1 (by simp)
  have k2 : w2.cell? ⟨w.heap.size, 2, none⟩ = some (.int .i64 n) := hin.box.2 2 (by simp)
  have k3 : w2.cell? ⟨w.heap.size, 3, none⟩ = some (.string D) := hin.box.2 3 (by simp)
  have k4 : w2.cell? ⟨w.heap.size, 4, none⟩ = some (.slice fa l.length fc) := hin.box.2 4 (by simp)
  have h2 : RAll w2 b F d T := h.below hin.bel
  have hl2 : FatesIn w2 (.slice fa l.length fc) l := hl.keep (Below.next hWb hin.bel)
  have hfo : FatesOut w2 F (.slice fa l.length fc) l := fatesOut_of hl (Below.next hWb hin.bel) hWF
  have HFl : Hid (∀ k, F k → k < w.heap.size) := hFl
  have HBY : Hid (∀ w', Calls Tryd.prog 44 #[.string D] w' fun e w'' => ∃ v, e = .returned v ∧ w''.ownsRow w'.heap.size 5 1 v D.size (u8s D.data.toList) ∧ Below w'.heap.size w' w'') := fun w' => bytes_any D w' hs.data
  have HWR : Hid (∀ w3 v, Below w2.heap.size w2 w3 → w3.ownsRow w2.heap.size 5 1 v D.size (u8s D.data.toList) → Calls Tryd.prog 56 #[.pointer (some ⟨b, 0, none⟩), .int .i64 S, v] w3 fun e w' => e = .returned (.int .i64 ((d.write S (bl D)).2 : Int)) ∧ ∃ F' T', RAll w' b F' (d.write S (bl D)).1 T' ∧ Step F F' w3 w' ∧ T' + armSum (d.write S (bl D)).1.arms ≤ T + armSum d.arms) := fun w3 v hb hr => by
    have hlen : (bl D).length = D.size := bl_len D
    refine rwrite_any b F d T w3 (h2.below hb) S hs.sec v (bl D) (bytesAt_own (base := w2.heap.size) (by rw [hlen]; exact hr) (by rw [hlen]; exact hs.data) (fun g hg hf => ?_)) (by rw [hlen]; exact hs.room) hs.tears hs.arms
    have := (owns_blk hr g hg).1; have := hFl g hf; have := HIN.out.size; omega
  generalize hd' : d.write S (bl D) = r at *
  clear hd'
  clear h hl hin h2 hl2 hfo hFl hs hk hWb hWF
  go_enter Tryd.func23, Tryd.ntmps23
  go_wp2_with fail
  rw [← hw2]
  clear hw2
  have hFn : ¬ F w.heap.size := fun hf => by have := HFl.out _ hf; omega
  go_region_held3 (fun w' => w'.cell? ⟨w.heap.size, 1, none⟩ = some (.int .i64 S) ∧ w'.cell? ⟨w.heap.size, 3, none⟩ = some (.string D)) (go_keep)
    (first
      | (go_at_call 44; refine (HBY.out _).mono ?_; rintro e w3 ⟨v, rfl, hrow, hbd⟩; have hb3 := undrew hbd; clear hbd; have y1 := cell_below hb3 k1; have y3 := cell_below hb3 k3; obtain ⟨va, vc, rfl, -⟩ := owns_form hrow)
      | (go_at_call 56; refine (HWR.out _ _ hb3 hrow).mono ?_; rintro e w4 ⟨rfl, F', T', h4, s4, t4⟩; have z1 := s4.cell y1 hFn; have z3 := s4.cell y3 hFn))
  have S4 : Step F F' w2 w4 := (Step.of_below hb3).trans s4
  have HT : Hid (T' + armSum r.1.arms ≤ T + armSum d.arms + l.length) := by show _ ≤ _; omega
  have FIN : Hid _ := told_fin (r := (r.1, { said0 with err := r.2 })) (vb := .slice none 0 0) (vs := .slice none 0 0) HIN.out HFl.out h4 S4 (owns_nilB _ _) (owns_nilS _ _) no_blk no_blk _ rfl
  clear HBY HWR h4 S4 s4 k1 k2 k3 k4 hb3 hrow y1 y3 z1 z3 hFn t4
  obtain ⟨f3, hst, hr4, P⟩ := FIN.out
  have HP : Hid _ := P
  clear P
  go_wp2_with (refine wpList_store_eq rfl 38 _ _ rfl _ _ rfl rfl hst ?_)
  try simp only [Exit.inBlock, Exit.then]
  refine bodyPost_ret (results_cell_row rfl _ _ (w.heap.size + 1) 38 _ (0, 0) _ rfl hr4 Tryd.underlying38 rfl (by rw [sizeSaid]; rfl)) rfl ?_
  exact ⟨_, _, _, _, HP.out, HT.out⟩

set_option maxRecDepth 100000 in
set_option maxHeartbeats 1600000 in
theorem told_sync (W : World) (b : Nat) (F : Nat → Prop) (d : Dev) (T : Nat) (w : World) (h : RAll w b F d T) (hWb : Below W.heap.size W w) (hWF : ∀ k, F k → W.heap.size ≤ k) (K S n : Int) (D : ByteArray) (l : List Fate) (fv : Value) (hl : FatesIn W fv l) (hs : ToldOk d T ⟨K, S, n, D, l⟩) (hk : K = 2) :
    Calls Tryd.prog 23 #[.pointer (some ⟨b, 0, none⟩), .agg #[.int .i64 K, .int .i64 S, .int .i64 n, .string D, fv]] w fun e w' => ∃ vb vs F' T', ToldP w b F (d.actF ⟨K, S, n, D, l⟩) T' e w' vb vs F' ∧ T' + armSum (d.actF ⟨K, S, n, D, l⟩).1.arms ≤ T + armSum d.arms + l.length := by
  have hFl := h.lt
  have e1 : (K == 1) = false := by rw [hk]; decide
  have e2 : (K == 2) = true := by rw [hk]; decide
  have HACT : Hid (d.actF ⟨K, S, n, D, l⟩ = (d.sync.1, { said0 with err := d.sync.2 })) := by
    show d.actF _ = _
    simp [Dev.actF, Dev.act, hk]
  obtain ⟨fa, fc, rfl⟩ : ∃ a c, fv = .slice a l.length c := by obtain ⟨a, c, _, _, h, _⟩ := hl; exact ⟨a, c, h⟩
  rw [HACT.out]
  obtain ⟨w2, hw2⟩ : ∃ w2, w2 = (w.alloc (.cells #[.int .i64 K, .int .i64 S, .int .i64 n, .string D, .slice fa l.length fc] 35)).alloc (.cells #[.int .i64 0, .slice none 0 0, .slice none 0 0, .int .i64 0, .int .i64 0, .int .i64 0] 38) := ⟨_, rfl⟩
  have hin : ActIn w w2 [.int .i64 K, .int .i64 S, .int .i64 n, .string D, .slice fa l.length fc] := by rw [hw2]; exact actIn w #[.int .i64 K, .int .i64 S, .int .i64 n, .string D, .slice fa l.length fc]
  have HIN : Hid (ActIn w w2 [.int .i64 K, .int .i64 S, .int .i64 n, .string D, .slice fa l.length fc]) := hin
  have k1 : w2.cell? ⟨w.heap.size, 1, none⟩ = some (.int .i64 S) := hin.box.2 1 (by simp)
  have k2 : w2.cell? ⟨w.heap.size, 2, none⟩ = some (.int .i64 n) := hin.box.2 2 (by simp)
  have k3 : w2.cell? ⟨w.heap.size, 3, none⟩ = some (.string D) := hin.box.2 3 (by simp)
  have k4 : w2.cell? ⟨w.heap.size, 4, none⟩ = some (.slice fa l.length fc) := hin.box.2 4 (by simp)
  have h2 : RAll w2 b F d T := h.below hin.bel
  have hl2 : FatesIn w2 (.slice fa l.length fc) l := hl.keep (Below.next hWb hin.bel)
  have hfo : FatesOut w2 F (.slice fa l.length fc) l := fatesOut_of hl (Below.next hWb hin.bel) hWF
  have HFl : Hid (∀ k, F k → k < w.heap.size) := hFl
  have HSY := Hid.mk2 (rsync_any b F d T w2 h2 (by have := hs.room; simp only [] at this; omega) hs.tears hs.arms)
  generalize hd' : d.sync = r at *
  clear hd'
  clear h hl hin h2 hl2 hfo hFl hs hk hWb hWF
  go_enter Tryd.func23, Tryd.ntmps23
  go_wp2_with fail
  rw [← hw2]
  refine HSY.out.mono ?_
  rintro e w3 ⟨rfl, F', T', h3, s3, t3⟩
  have HT : Hid (T' + armSum r.1.arms ≤ T + armSum d.arms + l.length) := by show _ ≤ _; omega
  have FIN : Hid _ := told_fin (r := (r.1, { said0 with err := r.2 })) (vb := .slice none 0 0) (vs := .slice none 0 0) HIN.out HFl.out h3 s3 (owns_nilB _ _) (owns_nilS _ _) no_blk no_blk _ rfl
  clear HSY h3 s3 t3 hw2 k1 k2 k3 k4
  obtain ⟨f3, hst, hr4, P⟩ := FIN.out
  have HP : Hid _ := P
  clear P
  go_wp2_with (refine wpList_store_eq rfl 38 _ _ rfl _ _ rfl rfl hst ?_)
  try simp only [Exit.inBlock, Exit.then]
  refine bodyPost_ret (results_cell_row rfl _ _ (w.heap.size + 1) 38 _ (0, 0) _ rfl hr4 Tryd.underlying38 rfl (by rw [sizeSaid]; rfl)) rfl ?_
  exact ⟨_, _, _, _, HP.out, HT.out⟩

set_option maxRecDepth 100000 in
set_option maxHeartbeats 1600000 in
theorem told_read (W : World) (b : Nat) (F : Nat → Prop) (d : Dev) (T : Nat) (w : World) (h : RAll w b F d T) (hWb : Below W.heap.size W w) (hWF : ∀ k, F k → W.heap.size ≤ k) (K S n : Int) (D : ByteArray) (l : List Fate) (fv : Value) (hl : FatesIn W fv l) (hs : ToldOk d T ⟨K, S, n, D, l⟩) (hk : K = 3) :
    Calls Tryd.prog 23 #[.pointer (some ⟨b, 0, none⟩), .agg #[.int .i64 K, .int .i64 S, .int .i64 n, .string D, fv]] w fun e w' => ∃ vb vs F' T', ToldP w b F (d.actF ⟨K, S, n, D, l⟩) T' e w' vb vs F' ∧ T' + armSum (d.actF ⟨K, S, n, D, l⟩).1.arms ≤ T + armSum d.arms + l.length := by
  have hFl := h.lt
  have e1 : (K == 1) = false := by rw [hk]; decide
  have e2 : (K == 2) = false := by rw [hk]; decide
  have e3 : (K == 3) = true := by rw [hk]; decide
  have HACT : Hid (d.actF ⟨K, S, n, D, l⟩ = ((d.read S n).1, { said0 with err := (d.read S n).2.2, bytes := (d.read S n).2.1 })) := by
    show d.actF _ = _
    simp [Dev.actF, Dev.act, hk]
  obtain ⟨fa, fc, rfl⟩ : ∃ a c, fv = .slice a l.length c := by obtain ⟨a, c, _, _, h, _⟩ := hl; exact ⟨a, c, h⟩
  rw [HACT.out]
  obtain ⟨w2, hw2⟩ : ∃ w2, w2 = (w.alloc (.cells #[.int .i64 K, .int .i64 S, .int .i64 n, .string D, .slice fa l.length fc] 35)).alloc (.cells #[.int .i64 0, .slice none 0 0, .slice none 0 0, .int .i64 0, .int .i64 0, .int .i64 0] 38) := ⟨_, rfl⟩
  have hin : ActIn w w2 [.int .i64 K, .int .i64 S, .int .i64 n, .string D, .slice fa l.length fc] := by rw [hw2]; exact actIn w #[.int .i64 K, .int .i64 S, .int .i64 n, .string D, .slice fa l.length fc]
  have HIN : Hid (ActIn w w2 [.int .i64 K, .int .i64 S, .int .i64 n, .string D, .slice fa l.length fc]) := hin
  have k1 : w2.cell? ⟨w.heap.size, 1, none⟩ = some (.int .i64 S) := hin.box.2 1 (by simp)
  have k2 : w2.cell? ⟨w.heap.size, 2, none⟩ = some (.int .i64 n) := hin.box.2 2 (by simp)
  have k3 : w2.cell? ⟨w.heap.size, 3, none⟩ = some (.string D) := hin.box.2 3 (by simp)
  have k4 : w2.cell? ⟨w.heap.size, 4, none⟩ = some (.slice fa l.length fc) := hin.box.2 4 (by simp)
  have h2 : RAll w2 b F d T := h.below hin.bel
  have hl2 : FatesIn w2 (.slice fa l.length fc) l := hl.keep (Below.next hWb hin.bel)
  have hfo : FatesOut w2 F (.slice fa l.length fc) l := fatesOut_of hl (Below.next hWb hin.bel) hWF
  have HFl : Hid (∀ k, F k → k < w.heap.size) := hFl
  have HRD := Hid.mk2 (rdev_read_any b F d T w2 h2 S n (by have := hs.room; simp only [] at this; omega) hs.sec hs.n)
  have HAR : Hid ((d.read S n).1.arms = d.arms) := read_arms d S n
  generalize hd' : d.read S n = r at *
  clear hd'
  clear h hl hin h2 hl2 hfo hFl hs hk hWb hWF
  go_enter Tryd.func23, Tryd.ntmps23
  go_wp2_with fail
  rw [← hw2]
  refine HRD.out.mono ?_
  rintro e w3 ⟨v, rfl, hrow, h3, s3⟩
  have hnb : ∀ g, v.ownBlock = some g → ¬ F g := fun g hg hf => by have := (owns_blk hrow g hg).1; have := HFl.out g hf; have := HIN.out.size; omega
  have HT : Hid (T + armSum r.1.arms ≤ T + armSum d.arms + l.length) := by show _ ≤ _; rw [HAR.out]; omega
  have FIN : Hid _ := told_fin (r := (r.1, { said0 with err := r.2.2, bytes := r.2.1 })) (vb := v) (vs := .slice none 0 0) HIN.out HFl.out h3 s3 hrow (owns_nilS _ _) hnb no_blk _ rfl
  obtain ⟨va, vc, rfl, -⟩ := owns_form hrow
  clear HRD h3 s3 hw2 k1 k2 k3 k4 hrow hnb
  obtain ⟨f3, hst, hr4, P⟩ := FIN.out
  have HP : Hid _ := P
  clear P
  go_wp2_with (refine wpList_store_eq rfl 38 _ _ rfl _ _ rfl rfl hst ?_)
  try simp only [Exit.inBlock, Exit.then]
  refine bodyPost_ret (results_cell_row rfl _ _ (w.heap.size + 1) 38 _ (0, 0) _ rfl hr4 Tryd.underlying38 rfl (by rw [sizeSaid]; rfl)) rfl ?_
  exact ⟨_, _, _, _, HP.out, HT.out⟩

set_option maxRecDepth 100000 in
set_option maxHeartbeats 1600000 in
theorem told_crash (W : World) (b : Nat) (F : Nat → Prop) (d : Dev) (T : Nat) (w : World) (h : RAll w b F d T) (hWb : Below W.heap.size W w) (hWF : ∀ k, F k → W.heap.size ≤ k) (K S n : Int) (D : ByteArray) (l : List Fate) (fv : Value) (hl : FatesIn W fv l) (hs : ToldOk d T ⟨K, S, n, D, l⟩) (hk : K = 4) :
    Calls Tryd.prog 23 #[.pointer (some ⟨b, 0, none⟩), .agg #[.int .i64 K, .int .i64 S, .int .i64 n, .string D, fv]] w fun e w' => ∃ vb vs F' T', ToldP w b F (d.actF ⟨K, S, n, D, l⟩) T' e w' vb vs F' ∧ T' + armSum (d.actF ⟨K, S, n, D, l⟩).1.arms ≤ T + armSum d.arms + l.length := by
  have hFl := h.lt
  have e1 : (K == 1) = false := by rw [hk]; decide
  have e2 : (K == 2) = false := by rw [hk]; decide
  have e3 : (K == 3) = false := by rw [hk]; decide
  have e4 : (K == 4) = true := by rw [hk]; decide
  have HACT : Hid (d.actF ⟨K, S, n, D, l⟩ = (d.crash l, said0)) := by
    show d.actF _ = _
    simp [Dev.actF, Dev.act, hk]
  obtain ⟨fa, fc, rfl⟩ : ∃ a c, fv = .slice a l.length c := by obtain ⟨a, c, _, _, h, _⟩ := hl; exact ⟨a, c, h⟩
  rw [HACT.out]
  obtain ⟨w2, hw2⟩ : ∃ w2, w2 = (w.alloc (.cells #[.int .i64 K, .int .i64 S, .int .i64 n, .string D, .slice fa l.length fc] 35)).alloc (.cells #[.int .i64 0, .slice none 0 0, .slice none 0 0, .int .i64 0, .int .i64 0, .int .i64 0] 38) := ⟨_, rfl⟩
  have hin : ActIn w w2 [.int .i64 K, .int .i64 S, .int .i64 n, .string D, .slice fa l.length fc] := by rw [hw2]; exact actIn w #[.int .i64 K, .int .i64 S, .int .i64 n, .string D, .slice fa l.length fc]
  have HIN : Hid (ActIn w w2 [.int .i64 K, .int .i64 S, .int .i64 n, .string D, .slice fa l.length fc]) := hin
  have k1 : w2.cell? ⟨w.heap.size, 1, none⟩ = some (.int .i64 S) := hin.box.2 1 (by simp)
  have k2 : w2.cell? ⟨w.heap.size, 2, none⟩ = some (.int .i64 n) := hin.box.2 2 (by simp)
  have k3 : w2.cell? ⟨w.heap.size, 3, none⟩ = some (.string D) := hin.box.2 3 (by simp)
  have k4 : w2.cell? ⟨w.heap.size, 4, none⟩ = some (.slice fa l.length fc) := hin.box.2 4 (by simp)
  have h2 : RAll w2 b F d T := h.below hin.bel
  have hl2 : FatesIn w2 (.slice fa l.length fc) l := hl.keep (Below.next hWb hin.bel)
  have hfo : FatesOut w2 F (.slice fa l.length fc) l := fatesOut_of hl (Below.next hWb hin.bel) hWF
  have HFl : Hid (∀ k, F k → k < w.heap.size) := hFl
  have HCR := Hid.mk2 (rcrash_any b F d T w2 h2 l _ (by have := hs.room; simp only [] at this; omega) hs.few hs.tears hs.junk hfo)
  have HAR : Hid ((d.crash l).arms = d.arms) := crash_arms d l
  clear h hl hin h2 hl2 hfo hFl hs hk hWb hWF
  go_enter Tryd.func23, Tryd.ntmps23
  go_wp2_with fail
  rw [← hw2]
  refine HCR.out.mono ?_
  rintro e w3 ⟨rfl, F', T', h3, s3, t3⟩
  have HT : Hid (T' + armSum (d.crash l).arms ≤ T + armSum d.arms + l.length) := by show _ ≤ _; rw [HAR.out]; omega
  have FIN : Hid _ := told_fin (r := (d.crash l, said0)) (vb := .slice none 0 0) (vs := .slice none 0 0) HIN.out HFl.out h3 s3 (owns_nilB _ _) (owns_nilS _ _) no_blk no_blk _ rfl
  clear HCR h3 s3 t3 hw2 k1 k2 k3 k4
  obtain ⟨f3, hst, hr4, P⟩ := FIN.out
  have HP : Hid _ := P
  clear P
  go_wp2_with (refine wpList_store_eq rfl 38 _ _ rfl _ _ rfl rfl hst ?_)
  try simp only [Exit.inBlock, Exit.then]
  refine bodyPost_ret (results_cell_row rfl _ _ (w.heap.size + 1) 38 _ (0, 0) _ rfl hr4 Tryd.underlying38 rfl (by rw [sizeSaid]; rfl)) rfl ?_
  exact ⟨_, _, _, _, HP.out, HT.out⟩

set_option maxRecDepth 100000 in
set_option maxHeartbeats 1600000 in
theorem told_arm (W : World) (b : Nat) (F : Nat → Prop) (d : Dev) (T : Nat) (w : World) (h : RAll w b F d T) (hWb : Below W.heap.size W w) (hWF : ∀ k, F k → W.heap.size ≤ k) (K S n : Int) (D : ByteArray) (l : List Fate) (fv : Value) (hl : FatesIn W fv l) (hs : ToldOk d T ⟨K, S, n, D, l⟩) (hk : K = 5) :
    Calls Tryd.prog 23 #[.pointer (some ⟨b, 0, none⟩), .agg #[.int .i64 K, .int .i64 S, .int .i64 n, .string D, fv]] w fun e w' => ∃ vb vs F' T', ToldP w b F (d.actF ⟨K, S, n, D, l⟩) T' e w' vb vs F' ∧ T' + armSum (d.actF ⟨K, S, n, D, l⟩).1.arms ≤ T + armSum d.arms + l.length := by
  have hFl := h.lt
  have e1 : (K == 1) = false := by rw [hk]; decide
  have e2 : (K == 2) = false := by rw [hk]; decide
  have e3 : (K == 3) = false := by rw [hk]; decide
  have e4 : (K == 4) = false := by rw [hk]; decide
  have e5 : (K == 5) = true := by rw [hk]; decide
  have HACT : Hid (d.actF ⟨K, S, n, D, l⟩ = (d.armF n l, said0)) := by
    show d.actF _ = _
    simp [Dev.actF, hk]
  obtain ⟨fa, fc, rfl⟩ : ∃ a c, fv = .slice a l.length c := by obtain ⟨a, c, _, _, h, _⟩ := hl; exact ⟨a, c, h⟩
  rw [HACT.out]
  obtain ⟨w2, hw2⟩ : ∃ w2, w2 = (w.alloc (.cells #[.int .i64 K, .int .i64 S, .int .i64 n, .string D, .slice fa l.length fc] 35)).alloc (.cells #[.int .i64 0, .slice none 0 0, .slice none 0 0, .int .i64 0, .int .i64 0, .int .i64 0] 38) := ⟨_, rfl⟩
  have hin : ActIn w w2 [.int .i64 K, .int .i64 S, .int .i64 n, .string D, .slice fa l.length fc] := by rw [hw2]; exact actIn w #[.int .i64 K, .int .i64 S, .int .i64 n, .string D, .slice fa l.length fc]
  have HIN : Hid (ActIn w w2 [.int .i64 K, .int .i64 S, .int .i64 n, .string D, .slice fa l.length fc]) := hin
  have k1 : w2.cell? ⟨w.heap.size, 1, none⟩ = some (.int .i64 S) := hin.box.2 1 (by simp)
  have k2 : w2.cell? ⟨w.heap.size, 2, none⟩ = some (.int .i64 n) := hin.box.2 2 (by simp)
  have k3 : w2.cell? ⟨w.heap.size, 3, none⟩ = some (.string D) := hin.box.2 3 (by simp)
  have k4 : w2.cell? ⟨w.heap.size, 4, none⟩ = some (.slice fa l.length fc) := hin.box.2 4 (by simp)
  have h2 : RAll w2 b F d T := h.below hin.bel
  have hl2 : FatesIn w2 (.slice fa l.length fc) l := hl.keep (Below.next hWb hin.bel)
  have hfo : FatesOut w2 F (.slice fa l.length fc) l := fatesOut_of hl (Below.next hWb hin.bel) hWF
  have HFl : Hid (∀ k, F k → k < w.heap.size) := hFl
  have HAM := Hid.mk2 (rarm_any b F d T w2 h2 n hs.n l _ hl2 hs.few hs.more)
  have HAR : Hid (armSum (d.armF n l).arms = armSum d.arms + l.length) := by show armSum (d.arms ++ [_]) = _; simp [armSum]
  clear h hl hin h2 hl2 hfo hFl hs hk hWb hWF
  go_enter Tryd.func23, Tryd.ntmps23
  go_wp2_with fail
  rw [← hw2]
  refine HAM.out.mono ?_
  rintro e w3 ⟨rfl, F', h3, s3⟩
  have HT : Hid (T + armSum (d.armF n l).arms ≤ T + armSum d.arms + l.length) := by show _ ≤ _; rw [HAR.out]; omega
  have FIN : Hid _ := told_fin (r := (d.armF n l, said0)) (vb := .slice none 0 0) (vs := .slice none 0 0) HIN.out HFl.out h3 s3 (owns_nilB _ _) (owns_nilS _ _) no_blk no_blk _ rfl
  clear HAM h3 s3 hw2 k1 k2 k3 k4
  obtain ⟨f3, hst, hr4, P⟩ := FIN.out
  have HP : Hid _ := P
  clear P
  go_wp2_with (refine wpList_store_eq rfl 38 _ _ rfl _ _ rfl rfl hst ?_)
  try simp only [Exit.inBlock, Exit.then]
  refine bodyPost_ret (results_cell_row rfl _ _ (w.heap.size + 1) 38 _ (0, 0) _ rfl hr4 Tryd.underlying38 rfl (by rw [sizeSaid]; rfl)) rfl ?_
  exact ⟨_, _, _, _, HP.out, HT.out⟩

end Go.Proofs.YtdieacdkomiooabDoor

namespace Go.Proofs.YtdieacdkomiooabDoor
open Go.RowKit Go.Maps

set_option maxRecDepth 100000 in
set_option maxHeartbeats 1600000 in
theorem told_revive (W : World) (b : Nat) (F : Nat → Prop) (d : Dev) (T : Nat) (w : World) (h : RAll w b F d T) (hWb : Below W.heap.size W w) (hWF : ∀ k, F k → W.heap.size ≤ k) (K S n : Int) (D : ByteArray) (l : List Fate) (fv : Value) (hl : FatesIn W fv l) (_hs : ToldOk d T ⟨K, S, n, D, l⟩) (hk : K = 6) :
    Calls Tryd.prog 23 #[.pointer (some ⟨b, 0, none⟩), .agg #[.int .i64 K, .int .i64 S, .int .i64 n, .string D, fv]] w fun e w' => ∃ vb vs F' T', ToldP w b F (d.actF ⟨K, S, n, D, l⟩) T' e w' vb vs F' ∧ T' + armSum (d.actF ⟨K, S, n, D, l⟩).1.arms ≤ T + armSum d.arms + l.length := by
  have hFl := h.lt
  have e1 : (K == 1) = false := by rw [hk]; decide
  have e2 : (K == 2) = false := by rw [hk]; decide
  have e3 : (K == 3) = false := by rw [hk]; decide
  have e4 : (K == 4) = false := by rw [hk]; decide
  have e5 : (K == 5) = false := by rw [hk]; decide
  have e6 : (K == 6) = true := by rw [hk]; decide
  have HACT : Hid (d.actF ⟨K, S, n, D, l⟩ = (d.revive, said0)) := by
    show d.actF _ = _
    simp [Dev.actF, Dev.act, hk]
  obtain ⟨fa, fc, rfl⟩ : ∃ a c, fv = .slice a l.length c := by obtain ⟨a, c, _, _, h, _⟩ := hl; exact ⟨a, c, h⟩
  rw [HACT.out]
  obtain ⟨w2, hw2⟩ : ∃ w2, w2 = (w.alloc (.cells #[.int .i64 K, .int .i64 S, .int .i64 n, .string D, .slice fa l.length fc] 35)).alloc (.cells #[.int .i64 0, .slice none 0 0, .slice none 0 0, .int .i64 0, .int .i64 0, .int .i64 0] 38) := ⟨_, rfl⟩
  have hin : ActIn w w2 [.int .i64 K, .int .i64 S, .int .i64 n, .string D, .slice fa l.length fc] := by rw [hw2]; exact actIn w #[.int .i64 K, .int .i64 S, .int .i64 n, .string D, .slice fa l.length fc]
  have HIN : Hid (ActIn w w2 [.int .i64 K, .int .i64 S, .int .i64 n, .string D, .slice fa l.length fc]) := hin
  have k1 : w2.cell? ⟨w.heap.size, 1, none⟩ = some (.int .i64 S) := hin.box.2 1 (by simp)
  have k2 : w2.cell? ⟨w.heap.size, 2, none⟩ = some (.int .i64 n) := hin.box.2 2 (by simp)
  have k3 : w2.cell? ⟨w.heap.size, 3, none⟩ = some (.string D) := hin.box.2 3 (by simp)
  have k4 : w2.cell? ⟨w.heap.size, 4, none⟩ = some (.slice fa l.length fc) := hin.box.2 4 (by simp)
  have h2 : RAll w2 b F d T := h.below hin.bel
  have hl2 : FatesIn w2 (.slice fa l.length fc) l := hl.keep (Below.next hWb hin.bel)
  have hfo : FatesOut w2 F (.slice fa l.length fc) l := fatesOut_of hl (Below.next hWb hin.bel) hWF
  have HFl : Hid (∀ k, F k → k < w.heap.size) := hFl
  have HRV := Hid.mk2 (rrevAll_any b F d T w2 h2)
  clear h hl hin h2 hl2 hfo hFl _hs hk hWb hWF
  go_enter Tryd.func23, Tryd.ntmps23
  go_wp2_with fail
  rw [← hw2]
  refine HRV.out.mono ?_
  rintro e w3 ⟨rfl, h3, s3⟩
  have HT : Hid (T + armSum d.revive.arms ≤ T + armSum d.arms + l.length) := by show T + armSum d.arms ≤ _; omega
  have FIN : Hid _ := told_fin (r := (d.revive, said0)) (vb := .slice none 0 0) (vs := .slice none 0 0) HIN.out HFl.out h3 s3 (owns_nilB _ _) (owns_nilS _ _) no_blk no_blk _ rfl
  clear HRV h3 s3 hw2 k1 k2 k3 k4
  obtain ⟨f3, hst, hr4, P⟩ := FIN.out
  have HP : Hid _ := P
  clear P
  go_wp2_with (refine wpList_store_eq rfl 38 _ _ rfl _ _ rfl rfl hst ?_)
  try simp only [Exit.inBlock, Exit.then]
  refine bodyPost_ret (results_cell_row rfl _ _ (w.heap.size + 1) 38 _ (0, 0) _ rfl hr4 Tryd.underlying38 rfl (by rw [sizeSaid]; rfl)) rfl ?_
  exact ⟨_, _, _, _, HP.out, HT.out⟩

set_option maxRecDepth 100000 in
set_option maxHeartbeats 1600000 in
theorem told_durable (W : World) (b : Nat) (F : Nat → Prop) (d : Dev) (T : Nat) (w : World) (h : RAll w b F d T) (hWb : Below W.heap.size W w) (hWF : ∀ k, F k → W.heap.size ≤ k) (K S n : Int) (D : ByteArray) (l : List Fate) (fv : Value) (hl : FatesIn W fv l) (_hs : ToldOk d T ⟨K, S, n, D, l⟩) (hk : K = 7) :
    Calls Tryd.prog 23 #[.pointer (some ⟨b, 0, none⟩), .agg #[.int .i64 K, .int .i64 S, .int .i64 n, .string D, fv]] w fun e w' => ∃ vb vs F' T', ToldP w b F (d.actF ⟨K, S, n, D, l⟩) T' e w' vb vs F' ∧ T' + armSum (d.actF ⟨K, S, n, D, l⟩).1.arms ≤ T + armSum d.arms + l.length := by
  have hFl := h.lt
  have e1 : (K == 1) = false := by rw [hk]; decide
  have e2 : (K == 2) = false := by rw [hk]; decide
  have e3 : (K == 3) = false := by rw [hk]; decide
  have e4 : (K == 4) = false := by rw [hk]; decide
  have e5 : (K == 5) = false := by rw [hk]; decide
  have e6 : (K == 6) = false := by rw [hk]; decide
  have e7 : (K == 7) = true := by rw [hk]; decide
  have HACT : Hid (d.actF ⟨K, S, n, D, l⟩ = (d, { said0 with secs := d.dur })) := by
    show d.actF _ = _
    simp [Dev.actF, Dev.act, hk]
  obtain ⟨fa, fc, rfl⟩ : ∃ a c, fv = .slice a l.length c := by obtain ⟨a, c, _, _, h, _⟩ := hl; exact ⟨a, c, h⟩
  rw [HACT.out]
  obtain ⟨w2, hw2⟩ : ∃ w2, w2 = (w.alloc (.cells #[.int .i64 K, .int .i64 S, .int .i64 n, .string D, .slice fa l.length fc] 35)).alloc (.cells #[.int .i64 0, .slice none 0 0, .slice none 0 0, .int .i64 0, .int .i64 0, .int .i64 0] 38) := ⟨_, rfl⟩
  have hin : ActIn w w2 [.int .i64 K, .int .i64 S, .int .i64 n, .string D, .slice fa l.length fc] := by rw [hw2]; exact actIn w #[.int .i64 K, .int .i64 S, .int .i64 n, .string D, .slice fa l.length fc]
  have HIN : Hid (ActIn w w2 [.int .i64 K, .int .i64 S, .int .i64 n, .string D, .slice fa l.length fc]) := hin
  have k1 : w2.cell? ⟨w.heap.size, 1, none⟩ = some (.int .i64 S) := hin.box.2 1 (by simp)
  have k2 : w2.cell? ⟨w.heap.size, 2, none⟩ = some (.int .i64 n) := hin.box.2 2 (by simp)
  have k3 : w2.cell? ⟨w.heap.size, 3, none⟩ = some (.string D) := hin.box.2 3 (by simp)
  have k4 : w2.cell? ⟨w.heap.size, 4, none⟩ = some (.slice fa l.length fc) := hin.box.2 4 (by simp)
  have h2 : RAll w2 b F d T := h.below hin.bel
  have hl2 : FatesIn w2 (.slice fa l.length fc) l := hl.keep (Below.next hWb hin.bel)
  have hfo : FatesOut w2 F (.slice fa l.length fc) l := fatesOut_of hl (Below.next hWb hin.bel) hWF
  have HFl : Hid (∀ k, F k → k < w.heap.size) := hFl
  have HDU := Hid.mk2 (rdur_any b F d w2 h2.at' (by have := h2.ok.dur_len; omega))
  have HD2 : Hid (RAll w2 b F d T) := h2
  clear h hl hin h2 hl2 hfo hFl _hs hk hWb hWF
  go_enter Tryd.func23, Tryd.ntmps23
  go_wp2_with fail
  rw [← hw2]
  refine HDU.out.mono ?_
  rintro e w3 ⟨v, rfl, hrow, hb3⟩
  have hnb : ∀ g, v.ownBlock = some g → ¬ F g := fun g hg hf => by have := (owns_blk hrow g hg).1; have := HFl.out g hf; have := HIN.out.size; omega
  have HT : Hid (T + armSum d.arms ≤ T + armSum d.arms + l.length) := by show _ ≤ _; omega
  have FIN : Hid _ := told_fin (r := (d, { said0 with secs := d.dur })) (vb := .slice none 0 0) (vs := v) HIN.out HFl.out (HD2.out.below hb3) (Step.of_below hb3) (owns_nilB _ _) hrow no_blk hnb _ rfl
  obtain ⟨va, vc, rfl, -⟩ := owns_form hrow
  clear HDU hb3 hrow hnb hw2 k1 k2 k3 k4
  obtain ⟨f3, hst, hr4, P⟩ := FIN.out
  have HP : Hid _ := P
  clear P
  go_wp2_with (refine wpList_store_eq rfl 38 _ _ rfl _ _ rfl rfl hst ?_)
  try simp only [Exit.inBlock, Exit.then]
  refine bodyPost_ret (results_cell_row rfl _ _ (w.heap.size + 1) 38 _ (0, 0) _ rfl hr4 Tryd.underlying38 rfl (by rw [sizeSaid]; rfl)) rfl ?_
  exact ⟨_, _, _, _, HP.out, HT.out⟩

set_option maxRecDepth 100000 in
set_option maxHeartbeats 1600000 in
theorem told_pending (W : World) (b : Nat) (F : Nat → Prop) (d : Dev) (T : Nat) (w : World) (h : RAll w b F d T) (hWb : Below W.heap.size W w) (hWF : ∀ k, F k → W.heap.size ≤ k) (K S n : Int) (D : ByteArray) (l : List Fate) (fv : Value) (hl : FatesIn W fv l) (hs : ToldOk d T ⟨K, S, n, D, l⟩) (hk : K = 8) :
    Calls Tryd.prog 23 #[.pointer (some ⟨b, 0, none⟩), .agg #[.int .i64 K, .int .i64 S, .int .i64 n, .string D, fv]] w fun e w' => ∃ vb vs F' T', ToldP w b F (d.actF ⟨K, S, n, D, l⟩) T' e w' vb vs F' ∧ T' + armSum (d.actF ⟨K, S, n, D, l⟩).1.arms ≤ T + armSum d.arms + l.length := by
  have hFl := h.lt
  have e1 : (K == 1) = false := by rw [hk]; decide
  have e2 : (K == 2) = false := by rw [hk]; decide
  have e3 : (K == 3) = false := by rw [hk]; decide
  have e4 : (K == 4) = false := by rw [hk]; decide
  have e5 : (K == 5) = false := by rw [hk]; decide
  have e6 : (K == 6) = false := by rw [hk]; decide
  have e7 : (K == 7) = false := by rw [hk]; decide
  have e8 : (K == 8) = true := by rw [hk]; decide
  have HACT : Hid (d.actF ⟨K, S, n, D, l⟩ = (d, { said0 with secs := d.pend })) := by
    show d.actF _ = _
    simp [Dev.actF, Dev.act, hk]
  obtain ⟨fa, fc, rfl⟩ : ∃ a c, fv = .slice a l.length c := by obtain ⟨a, c, _, _, h, _⟩ := hl; exact ⟨a, c, h⟩
  rw [HACT.out]
  obtain ⟨w2, hw2⟩ : ∃ w2, w2 = (w.alloc (.cells #[.int .i64 K, .int .i64 S, .int .i64 n, .string D, .slice fa l.length fc] 35)).alloc (.cells #[.int .i64 0, .slice none 0 0, .slice none 0 0, .int .i64 0, .int .i64 0, .int .i64 0] 38) := ⟨_, rfl⟩
  have hin : ActIn w w2 [.int .i64 K, .int .i64 S, .int .i64 n, .string D, .slice fa l.length fc] := by rw [hw2]; exact actIn w #[.int .i64 K, .int .i64 S, .int .i64 n, .string D, .slice fa l.length fc]
  have HIN : Hid (ActIn w w2 [.int .i64 K, .int .i64 S, .int .i64 n, .string D, .slice fa l.length fc]) := hin
  have k1 : w2.cell? ⟨w.heap.size, 1, none⟩ = some (.int .i64 S) := hin.box.2 1 (by simp)
  have k2 : w2.cell? ⟨w.heap.size, 2, none⟩ = some (.int .i64 n) := hin.box.2 2 (by simp)
  have k3 : w2.cell? ⟨w.heap.size, 3, none⟩ = some (.string D) := hin.box.2 3 (by simp)
  have k4 : w2.cell? ⟨w.heap.size, 4, none⟩ = some (.slice fa l.length fc) := hin.box.2 4 (by simp)
  have h2 : RAll w2 b F d T := h.below hin.bel
  have hl2 : FatesIn w2 (.slice fa l.length fc) l := hl.keep (Below.next hWb hin.bel)
  have hfo : FatesOut w2 F (.slice fa l.length fc) l := fatesOut_of hl (Below.next hWb hin.bel) hWF
  have HFl : Hid (∀ k, F k → k < w.heap.size) := hFl
  have HDU := Hid.mk2 (rpend_any b F d w2 h2.at' (by have := hs.room; simp only [] at this; omega))
  have HD2 : Hid (RAll w2 b F d T) := h2
  clear h hl hin h2 hl2 hfo hFl hs hk hWb hWF
  go_enter Tryd.func23, Tryd.ntmps23
  go_wp2_with fail
  rw [← hw2]
  refine HDU.out.mono ?_
  rintro e w3 ⟨v, rfl, hrow, hb3⟩
  have hnb : ∀ g, v.ownBlock = some g → ¬ F g := fun g hg hf => by have := (owns_blk hrow g hg).1; have := HFl.out g hf; have := HIN.out.size; omega
  have HT : Hid (T + armSum d.arms ≤ T + armSum d.arms + l.length) := by show _ ≤ _; omega
  have FIN : Hid _ := told_fin (r := (d, { said0 with secs := d.pend })) (vb := .slice none 0 0) (vs := v) HIN.out HFl.out (HD2.out.below hb3) (Step.of_below hb3) (owns_nilB _ _) hrow no_blk hnb _ rfl
  obtain ⟨va, vc, rfl, -⟩ := owns_form hrow
  clear HDU hb3 hrow hnb hw2 k1 k2 k3 k4
  obtain ⟨f3, hst, hr4, P⟩ := FIN.out
  have HP : Hid _ := P
  clear P
  go_wp2_with (refine wpList_store_eq rfl 38 _ _ rfl _ _ rfl rfl hst ?_)
  try simp only [Exit.inBlock, Exit.then]
  refine bodyPost_ret (results_cell_row rfl _ _ (w.heap.size + 1) 38 _ (0, 0) _ rfl hr4 Tryd.underlying38 rfl (by rw [sizeSaid]; rfl)) rfl ?_
  exact ⟨_, _, _, _, HP.out, HT.out⟩

set_option maxRecDepth 100000 in
set_option maxHeartbeats 1600000 in
theorem told_counts (W : World) (b : Nat) (F : Nat → Prop) (d : Dev) (T : Nat) (w : World) (h : RAll w b F d T) (hWb : Below W.heap.size W w) (hWF : ∀ k, F k → W.heap.size ≤ k) (K S n : Int) (D : ByteArray) (l : List Fate) (fv : Value) (hl : FatesIn W fv l) (_hs : ToldOk d T ⟨K, S, n, D, l⟩) (hk : K = 9) :
    Calls Tryd.prog 23 #[.pointer (some ⟨b, 0, none⟩), .agg #[.int .i64 K, .int .i64 S, .int .i64 n, .string D, fv]] w fun e w' => ∃ vb vs F' T', ToldP w b F (d.actF ⟨K, S, n, D, l⟩) T' e w' vb vs F' ∧ T' + armSum (d.actF ⟨K, S, n, D, l⟩).1.arms ≤ T + armSum d.arms + l.length := by
  have hFl := h.lt
  have e1 : (K == 1) = false := by rw [hk]; decide
  have e2 : (K == 2) = false := by rw [hk]; decide
  have e3 : (K == 3) = false := by rw [hk]; decide
  have e4 : (K == 4) = false := by rw [hk]; decide
  have e5 : (K == 5) = false := by rw [hk]; decide
  have e6 : (K == 6) = false := by rw [hk]; decide
  have e7 : (K == 7) = false := by rw [hk]; decide
  have e8 : (K == 8) = false := by rw [hk]; decide
  have e9 : (K == 9) = true := by rw [hk]; decide
  have HACT : Hid (d.actF ⟨K, S, n, D, l⟩ = (d, { said0 with a := d.nr, b := d.nw, c := d.ns })) := by
    show d.actF _ = _
    simp [Dev.actF, Dev.act, hk]
  obtain ⟨fa, fc, rfl⟩ : ∃ a c, fv = .slice a l.length c := by obtain ⟨a, c, _, _, h, _⟩ := hl; exact ⟨a, c, h⟩
  rw [HACT.out]
  obtain ⟨w2, hw2⟩ : ∃ w2, w2 = (w.alloc (.cells #[.int .i64 K, .int .i64 S, .int .i64 n, .string D, .slice fa l.length fc] 35)).alloc (.cells #[.int .i64 0, .slice none 0 0, .slice none 0 0, .int .i64 0, .int .i64 0, .int .i64 0] 38) := ⟨_, rfl⟩
  have hin : ActIn w w2 [.int .i64 K, .int .i64 S, .int .i64 n, .string D, .slice fa l.length fc] := by rw [hw2]; exact actIn w #[.int .i64 K, .int .i64 S, .int .i64 n, .string D, .slice fa l.length fc]
  have HIN : Hid (ActIn w w2 [.int .i64 K, .int .i64 S, .int .i64 n, .string D, .slice fa l.length fc]) := hin
  have k1 : w2.cell? ⟨w.heap.size, 1, none⟩ = some (.int .i64 S) := hin.box.2 1 (by simp)
  have k2 : w2.cell? ⟨w.heap.size, 2, none⟩ = some (.int .i64 n) := hin.box.2 2 (by simp)
  have k3 : w2.cell? ⟨w.heap.size, 3, none⟩ = some (.string D) := hin.box.2 3 (by simp)
  have k4 : w2.cell? ⟨w.heap.size, 4, none⟩ = some (.slice fa l.length fc) := hin.box.2 4 (by simp)
  have h2 : RAll w2 b F d T := h.below hin.bel
  have hl2 : FatesIn w2 (.slice fa l.length fc) l := hl.keep (Below.next hWb hin.bel)
  have hfo : FatesOut w2 F (.slice fa l.length fc) l := fatesOut_of hl (Below.next hWb hin.bel) hWF
  have HFl : Hid (∀ k, F k → k < w.heap.size) := hFl
  have HCN := Hid.mk2 (rcounts_any b F d w2 h2.at')
  have HD2 : Hid (RAll w2 b F d T) := h2
  clear h hl hin h2 hl2 hfo hFl _hs hk hWb hWF
  go_enter Tryd.func23, Tryd.ntmps23
  go_wp2_with fail
  rw [← hw2]
  refine HCN.out.mono ?_
  rintro e w3 ⟨rfl, hb3⟩
  have HT : Hid (T + armSum d.arms ≤ T + armSum d.arms + l.length) := by show _ ≤ _; omega
  have FIN : Hid _ := told_fin (r := (d, { said0 with a := d.nr, b := d.nw, c := d.ns })) (vb := .slice none 0 0) (vs := .slice none 0 0) HIN.out HFl.out (HD2.out.below hb3) (Step.of_below hb3) (owns_nilB _ _) (owns_nilS _ _) no_blk no_blk _ rfl
  clear HCN hb3 hw2 k1 k2 k3 k4
  obtain ⟨f3, hst, hr4, P⟩ := FIN.out
  have HP : Hid _ := P
  clear P
  go_wp2_with (refine wpList_store_eq rfl 38 _ _ rfl _ _ rfl rfl hst ?_)
  try simp only [Exit.inBlock, Exit.then]
  refine bodyPost_ret (results_cell_row rfl _ _ (w.heap.size + 1) 38 _ (0, 0) _ rfl hr4 Tryd.underlying38 rfl (by rw [sizeSaid]; rfl)) rfl ?_
  exact ⟨_, _, _, _, HP.out, HT.out⟩

set_option maxRecDepth 100000 in
set_option maxHeartbeats 1600000 in
theorem told_none (W : World) (b : Nat) (F : Nat → Prop) (d : Dev) (T : Nat) (w : World) (h : RAll w b F d T) (hWb : Below W.heap.size W w) (hWF : ∀ k, F k → W.heap.size ≤ k) (K S n : Int) (D : ByteArray) (l : List Fate) (fv : Value) (hl : FatesIn W fv l) (_hs : ToldOk d T ⟨K, S, n, D, l⟩) (hk : K ≠ 1 ∧ K ≠ 2 ∧ K ≠ 3 ∧ K ≠ 4 ∧ K ≠ 5 ∧ K ≠ 6 ∧ K ≠ 7 ∧ K ≠ 8 ∧ K ≠ 9) :
    Calls Tryd.prog 23 #[.pointer (some ⟨b, 0, none⟩), .agg #[.int .i64 K, .int .i64 S, .int .i64 n, .string D, fv]] w fun e w' => ∃ vb vs F' T', ToldP w b F (d.actF ⟨K, S, n, D, l⟩) T' e w' vb vs F' ∧ T' + armSum (d.actF ⟨K, S, n, D, l⟩).1.arms ≤ T + armSum d.arms + l.length := by
  have hFl := h.lt
  have e1 : (K == 1) = false := by simp; exact hk.1
  have e2 : (K == 2) = false := by simp; exact hk.2.1
  have e3 : (K == 3) = false := by simp; exact hk.2.2.1
  have e4 : (K == 4) = false := by simp; exact hk.2.2.2.1
  have e5 : (K == 5) = false := by simp; exact hk.2.2.2.2.1
  have e6 : (K == 6) = false := by simp; exact hk.2.2.2.2.2.1
  have e7 : (K == 7) = false := by simp; exact hk.2.2.2.2.2.2.1
  have e8 : (K == 8) = false := by simp; exact hk.2.2.2.2.2.2.2.1
  have e9 : (K == 9) = false := by simp; exact hk.2.2.2.2.2.2.2.2
  have HACT : Hid (d.actF ⟨K, S, n, D, l⟩ = (d, said0)) := by
    show d.actF _ = _
    obtain ⟨q1, q2, q3, q4, q5, q6, q7, q8, q9⟩ := hk
    simp [Dev.actF, Dev.act, q1, q2, q3, q4, q5, q6, q7, q8, q9]
  obtain ⟨fa, fc, rfl⟩ : ∃ a c, fv = .slice a l.length c := by obtain ⟨a, c, _, _, h, _⟩ := hl; exact ⟨a, c, h⟩
  rw [HACT.out]
  obtain ⟨w2, hw2⟩ : ∃ w2, w2 = (w.alloc (.cells #[.int .i64 K, .int .i64 S, .int .i64 n, .string D, .slice fa l.length fc] 35)).alloc (.cells #[.int .i64 0, .slice none 0 0, .slice none 0 0, .int .i64 0, .int .i64 0, .int .i64 0] 38) := ⟨_, rfl⟩
  have hin : ActIn w w2 [.int .i64 K, .int .i64 S, .int .i64 n, .string D, .slice fa l.length fc] := by rw [hw2]; exact actIn w #[.int .i64 K, .int .i64 S, .int .i64 n, .string D, .slice fa l.length fc]
  have HIN : Hid (ActIn w w2 [.int .i64 K, .int .i64 S, .int .i64 n, .string D, .slice fa l.length fc]) := hin
  have k1 : w2.cell? ⟨w.heap.size, 1, none⟩ = some (.int .i64 S) := hin.box.2 1 (by simp)
  have k2 : w2.cell? ⟨w.heap.size, 2, none⟩ = some (.int .i64 n) := hin.box.2 2 (by simp)
  have k3 : w2.cell? ⟨w.heap.size, 3, none⟩ = some (.string D) := hin.box.2 3 (by simp)
  have k4 : w2.cell? ⟨w.heap.size, 4, none⟩ = some (.slice fa l.length fc) := hin.box.2 4 (by simp)
  have h2 : RAll w2 b F d T := h.below hin.bel
  have hl2 : FatesIn w2 (.slice fa l.length fc) l := hl.keep (Below.next hWb hin.bel)
  have hfo : FatesOut w2 F (.slice fa l.length fc) l := fatesOut_of hl (Below.next hWb hin.bel) hWF
  have HFl : Hid (∀ k, F k → k < w.heap.size) := hFl
  have HD2 : Hid (RAll w2 b F d T) := h2
  clear h hl hin h2 hl2 hfo hFl _hs hk hWb hWF
  go_enter Tryd.func23, Tryd.ntmps23
  go_wp2_with fail
  rw [← hw2]
  clear hw2 k1 k2 k3 k4
  try simp only [Exit.inBlock, Exit.then]
  refine bodyPost_ret (results_cell_row rfl _ _ (w.heap.size + 1) 38 zSaid (0, 0) _ rfl HIN.out.ans Tryd.underlying38 rfl (by rw [sizeSaid]; rfl)) rfl ?_
  exact ⟨.slice none 0 0, .slice none 0 0, F, T, ⟨rfl, owns_nilB _ _, owns_nilS _ _, HD2.out, Step.of_below HIN.out.bel, no_blk, no_blk⟩, by show T + armSum d.arms ≤ _; omega⟩

/-- One step of the document's device, of whatever kind. -/
theorem told_any (W : World) (b : Nat) (F : Nat → Prop) (d : Dev) (T : Nat) (w : World) (h : RAll w b F d T) (hWb : Below W.heap.size W w) (hWF : ∀ k, F k → W.heap.size ≤ k) (s : Stp) (fv : Value) (hl : FatesIn W fv s.fates) (hs : ToldOk d T s) :
    Calls Tryd.prog 23 #[.pointer (some ⟨b, 0, none⟩), .agg #[.int .i64 s.kind, .int .i64 s.sector, .int .i64 s.n, .string s.data, fv]] w fun e w' => ∃ vb vs F' T', ToldP w b F (d.actF s) T' e w' vb vs F' ∧ T' + armSum (d.actF s).1.arms ≤ T + armSum d.arms + s.fates.length := by
  obtain ⟨K, S, n, D, l⟩ := s
  simp only [] at hl ⊢
  by_cases k1 : K = 1
  · exact told_write W b F d T w h hWb hWF K S n D l fv hl hs k1
  by_cases k2 : K = 2
  · exact told_sync W b F d T w h hWb hWF K S n D l fv hl hs k2
  by_cases k3 : K = 3
  · exact told_read W b F d T w h hWb hWF K S n D l fv hl hs k3
  by_cases k4 : K = 4
  · exact told_crash W b F d T w h hWb hWF K S n D l fv hl hs k4
  by_cases k5 : K = 5
  · exact told_arm W b F d T w h hWb hWF K S n D l fv hl hs k5
  by_cases k6 : K = 6
  · exact told_revive W b F d T w h hWb hWF K S n D l fv hl hs k6
  by_cases k7 : K = 7
  · exact told_durable W b F d T w h hWb hWF K S n D l fv hl hs k7
  by_cases k8 : K = 8
  · exact told_pending W b F d T w h hWb hWF K S n D l fv hl hs k8
  by_cases k9 : K = 9
  · exact told_counts W b F d T w h hWb hWF K S n D l fv hl hs k9
  exact told_none W b F d T w h hWb hWF K S n D l fv hl hs ⟨k1, k2, k3, k4, k5, k6, k7, k8, k9⟩

end Go.Proofs.YtdieacdkomiooabDoor

namespace Go.Proofs.YtdieacdkomiooabDoor
open Go.RowKit Go.Maps

/-- The program's device and the document's, apart. -/
structure Duo (A : Nat → Addr) (W wr : World) (b : Nat) (F : Nat → Prop) (a : Dev) (c : Nat) (G : Nat → Prop) (d : Dev) (T : Nat) : Prop where
  one : Bg A W wr b F a
  two : RAll wr c G d T
  far : ∀ k, G k → W.heap.size ≤ k
  no : ∀ k, F k → ¬ G k
theorem Duo.up {A : Nat → Addr} {W wr w' : World} {b c : Nat} {F G : Nat → Prop} {a d : Dev} {T : Nat} (h : Duo A W wr b F a c G d T) (hb : Below wr.heap.size wr w') : Duo A W w' b F a c G d T :=
  ⟨h.one.up hb, h.two.below hb, h.far, h.no⟩
/-- What act leaves of both. -/
structure ActM (A : Nat → Addr) (W wr : World) (b : Nat) (c : Nat) (G : Nat → Prop) (d : Dev) (T : Nat) (r : Dev × SaidD) (e : Ending) (w' : World) (vb vs : Value) (F' : Nat → Prop) : Prop where
  ret : e = .returned (.agg #[.int .i64 (r.2.err : Int), vb, vs, .int .i64 r.2.a, .int .i64 r.2.b, .int .i64 r.2.c])
  duo : Duo A W w' b F' r.1 c G d T
  bel : Below W.heap.size W w'
  rb : RowAt w' G wr.heap.size 5 1 vb r.2.bytes.length (u8s r.2.bytes)
  rs : RowAt w' G wr.heap.size 68 2 vs r.2.secs.length (secCells r.2.secs)
theorem Duo.act {A : Nat → Addr} {W wr : World} {b c : Nat} {F G : Nat → Prop} {a d : Dev} {T : Nat} (h : Duo A W wr b F a c G d T) (s : Stp) (fv : Value) (hl : FatesIn W fv s.fates) (hs : StpOk a s) (hq : (a.arms.length + 1) * 32 ≤ 140737488355328) :
    Calls Tryd.prog 11 #[.pointer (some ⟨b, 0, none⟩), .agg #[.int .i64 s.kind, .int .i64 s.sector, .int .i64 s.n, .string s.data, fv]] wr fun e w' => ∃ vb vs F', ActM A W wr b c G d T (a.act s) e w' vb vs F' ∧ Step F F' wr w' := by
  refine (act_all _ A b F a wr h.one.dev h.one.err h.one.far s fv (hl.keep h.one.bel) hs hq).mono ?_
  rintro e w' ⟨vb, vs, F', P⟩
  have hG : ∀ k, G k → k < wr.heap.size := h.two.lt
  have hnb : ∀ v e size n xs, w'.ownsRow wr.heap.size e size v n xs → ∀ g, v.ownBlock = some g → ¬ G g := fun v e size n xs hr g hg hk => by have := (owns_blk hr g hg).1; have := hG g hk; omega
  refine ⟨vb, vs, F', ⟨P.ret, ⟨h.one.go P.dev P.step, h.two.keep P.step (fun k hk hf => h.no k hf hk), h.far, fun k hk hg => ?_⟩, (h.one.go P.dev P.step).bel, ⟨P.rb, hnb _ _ _ _ _ P.rb⟩, ⟨P.rs, hnb _ _ _ _ _ P.rs⟩⟩, P.step⟩
  rcases P.step.sub k hk with h1 | h1
  · exact h.no k h1 hg
  · have := hG k hg; omega
/-- What told leaves of both. -/
structure ToldM (A : Nat → Addr) (W wr : World) (b : Nat) (F : Nat → Prop) (a : Dev) (c : Nat) (r : Dev × SaidD) (T' : Nat) (e : Ending) (w' : World) (vb vs : Value) (G' : Nat → Prop) : Prop where
  ret : e = .returned (.agg #[.int .i64 (r.2.err : Int), vb, vs, .int .i64 r.2.a, .int .i64 r.2.b, .int .i64 r.2.c])
  duo : Duo A W w' b F a c G' r.1 T'
  rb : RowAt w' G' wr.heap.size 5 1 vb r.2.bytes.length (u8s r.2.bytes)
  rs : RowAt w' G' wr.heap.size 68 2 vs r.2.secs.length (secCells r.2.secs)
theorem Duo.told {A : Nat → Addr} {W wr : World} {b c : Nat} {F G : Nat → Prop} {a d : Dev} {T : Nat} (h : Duo A W wr b F a c G d T) (s : Stp) (fv : Value) (hl : FatesIn W fv s.fates) (hs : ToldOk d T s) :
    Calls Tryd.prog 23 #[.pointer (some ⟨c, 0, none⟩), .agg #[.int .i64 s.kind, .int .i64 s.sector, .int .i64 s.n, .string s.data, fv]] wr fun e w' => ∃ vb vs G' T', ToldM A W wr b F a c (d.actF s) T' e w' vb vs G' ∧ Step G G' wr w' ∧ T' + armSum (d.actF s).1.arms ≤ T + armSum d.arms + s.fates.length := by
  refine (told_any W c G d T wr h.two h.one.bel h.far s fv hl hs).mono ?_
  rintro e w' ⟨vb, vs, G', T', P, hT⟩
  refine ⟨vb, vs, G', T', ⟨P.ret, ⟨h.one.keep P.step h.far h.no, P.dev, P.step.ge h.far h.one.bel.size, fun k hk hg => ?_⟩, ⟨P.rb, P.nb⟩, ⟨P.rs, P.ns⟩⟩, P.step, hT⟩
  rcases P.step.sub k hg with h1 | h1
  · exact h.no k hk h1
  · have := h.one.dev.lt k hk; omega

/-- The fates of all steps. -/
def totF (l : List Stp) : Nat := (l.map fun s => s.fates.length).sum
theorem totF_drop (l : List Stp) (k : Nat) (h : k < l.length) : totF (l.drop k) = l[k].fates.length + totF (l.drop (k + 1)) := by
  unfold totF
  rw [List.drop_eq_getElem_cons h, List.map_cons, List.sum_cons]
/-- What is asked of steps besides. -/
structure StepsT (l : List Stp) : Prop where
  tot : totF l ≤ 1048576
  each : ∀ s ∈ l, (-9223372036854775808 ≤ s.n ∧ s.n < 9223372036854775808) ∧ (-9223372036854775808 ≤ s.sector ∧ s.sector < 9223372036854775808) ∧ s.fates.length ≤ 1048576 ∧ ∀ f ∈ s.fates, f.junk.size ≤ 1048576
/-- What a round of a script holds of the document's device. -/
structure Fine (steps : List Stp) (k : Nat) (d : Dev) (T : Nat) : Prop where
  pend : d.pend.length ≤ k * 2048
  more : d.arms.length ≤ k
  sum : T + armSum d.arms + totF (steps.drop k) ≤ 1048576
  arms : ∀ a ∈ d.arms, a.fates.length ≤ 1048576 ∧ ∀ f ∈ a.fates, f.junk.size ≤ 1048576
theorem done_armsIn {d : Dev} {P : List Fate → Prop} (h : ∀ a ∈ d.arms, P a.fates) : ∀ a ∈ d.done.1.arms, P a.fates := by
  unfold Dev.done
  cases ha : d.arms with
  | nil => simp only [ha]; intro a h'; cases h'
  | cons x r =>
    rw [ha] at h
    simp only []
    split
    · intro a h'
      rcases List.mem_cons.1 h' with e | e
      · rw [e]; exact h x (by simp)
      · exact h a (by simp [e])
    · intro a h'; exact h a (List.mem_cons_of_mem _ h')
theorem actF_armsIn {d : Dev} {P : List Fate → Prop} (h : ∀ a ∈ d.arms, P a.fates) (s : Stp) (hs : P s.fates) : ∀ a ∈ (d.actF s).1.arms, P a.fates := by
  unfold Dev.actF
  split
  · intro a h'
    simp only [Dev.armF, List.mem_append, List.mem_singleton] at h'
    rcases h' with e | e
    · exact h a e
    · rw [e]; exact hs
  · unfold Dev.act
    repeat' split
    · unfold Dev.write
      repeat' split
      · exact h
      · exact h
      · exact done_armsIn (d := { d with pend := _, nw := _ }) h
    · unfold Dev.sync
      split
      · exact h
      · exact done_armsIn (d := { d with dur := _, pend := _, ns := _ }) h
    · rw [show (d.read s.sector s.n).1.arms = d.arms from read_arms d _ _]; exact h
    · rw [show (d.crash s.fates).arms = d.arms from crash_arms d _]; exact h
    all_goals first | exact h | (exact absurd ‹s.kind = 5› ‹¬ s.kind = 5›)
theorem actF_pend (d : Dev) (s : Stp) : (d.actF s).1.pend.length ≤ d.pend.length + s.data.size / 512 := by
  unfold Dev.actF
  split
  · show d.pend.length ≤ _; omega
  · exact act_pend d s
theorem actF_armsN (d : Dev) (s : Stp) : (d.actF s).1.arms.length ≤ d.arms.length + 1 := by
  unfold Dev.actF
  split
  · simp [Dev.armF]
  · exact act_armsN d s
theorem Fine.next {steps : List Stp} {k : Nat} {d : Dev} {T T' : Nat} (h : Fine steps k d T) (hS : StepsT steps) (hk : k < steps.length) (hd : steps[k].data.size ≤ 1048576) (hT : T' + armSum (d.actF steps[k]).1.arms ≤ T + armSum d.arms + steps[k].fates.length) : Fine steps (k + 1) (d.actF steps[k]).1 T' := by
  have h0 := hS.each steps[k] (List.getElem_mem hk)
  have h1 := totF_drop steps k hk
  have h2 := h.sum
  have h3 := actF_pend d steps[k]
  have h4 := h.pend
  have h5 := actF_armsN d steps[k]
  have h6 := h.more
  exact ⟨by omega, by omega, by omega, actF_armsIn (P := fun l => l.length ≤ 1048576 ∧ ∀ f ∈ l, f.junk.size ≤ 1048576) h.arms steps[k] h0.2.2⟩
theorem Fine.told {steps : List Stp} {k : Nat} {d : Dev} {T : Nat} (h : Fine steps k d T) (hS : StepsT steps) (hk : k < steps.length) (hl : steps.length ≤ 1048576) (hd : steps[k].data.size ≤ 1048576) : ToldOk d T steps[k] := by
  have h0 := hS.each steps[k] (List.getElem_mem hk)
  have h2 := h.sum
  have h4 := h.pend
  have h6 := h.more
  exact ⟨h0.1, h0.2.1, by omega, by omega, by omega, h0.2.2.1, h0.2.2.2, h.arms, by omega⟩

end Go.Proofs.YtdieacdkomiooabDoor
