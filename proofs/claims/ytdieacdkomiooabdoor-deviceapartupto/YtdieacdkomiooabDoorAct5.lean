import Derived.Test.YtdieacdkomiooabDoorAct3
import Derived.Test.YtdieacdkomiooabDoorArm4
namespace Go.Proofs.YtdieacdkomiooabDoor
open Go.RowKit Go.Maps

set_option maxRecDepth 100000 in
set_option maxHeartbeats 1600000 in
theorem act_arm (base : Nat) (A : Nat → Addr) (b : Nat) (F : Nat → Prop) (d : Dev) (w : World) (h : DevAt w b F d) (hE : ErrsB base A w) (hF : ∀ k, F k → base ≤ k) (K S n : Int) (D : ByteArray) (l : List Fate) (fv : Value) (hl : FatesIn w fv l) (hs : StpOk d ⟨K, S, n, D, l⟩) (_hop : OpOk base A b d.arms) (hk : K = 5) (hq : (d.arms.length + 1) * 32 ≤ 140737488355328) :
    Calls Tryd.prog 11 #[.pointer (some ⟨b, 0, none⟩), .agg #[.int .i64 K, .int .i64 S, .int .i64 n, .string D, fv]] w fun e w' => ∃ vb vs F', ActPost w b F (d.act ⟨K, S, n, D, l⟩) e w' vb vs F' := by
  have hFl := h.lt
  have e1 : (K == 1) = false := by rw [hk]; decide
  have e2 : (K == 2) = false := by rw [hk]; decide
  have e3 : (K == 3) = false := by rw [hk]; decide
  have e4 : (K == 4) = false := by rw [hk]; decide
  have e5 : (K == 5) = true := by rw [hk]; decide
  have HACT : Hid (d.act ⟨K, S, n, D, l⟩ = (d.arm n l, said0)) := by
    show d.act _ = _
    simp [Dev.act, hk]
  obtain ⟨fa, fc, rfl⟩ : ∃ a c, fv = .slice a l.length c := by obtain ⟨a, c, _, _, h, _⟩ := hl; exact ⟨a, c, h⟩
  rw [HACT.out]
  obtain ⟨w2, hw2⟩ : ∃ w2, w2 = (w.alloc (.cells #[.int .i64 K, .int .i64 S, .int .i64 n, .string D, .slice fa l.length fc] 35)).alloc (.cells #[.int .i64 0, .slice none 0 0, .slice none 0 0, .int .i64 0, .int .i64 0, .int .i64 0] 38) := ⟨_, rfl⟩
  have hin : ActIn w w2 [.int .i64 K, .int .i64 S, .int .i64 n, .string D, .slice fa l.length fc] := by rw [hw2]; exact actIn w #[.int .i64 K, .int .i64 S, .int .i64 n, .string D, .slice fa l.length fc]
  have HIN : Hid (ActIn w w2 [.int .i64 K, .int .i64 S, .int .i64 n, .string D, .slice fa l.length fc]) := hin
  have k1 : w2.cell? ⟨w.heap.size, 1, none⟩ = some (.int .i64 S) := hin.box.2 1 (by simp)
  have k2 : w2.cell? ⟨w.heap.size, 2, none⟩ = some (.int .i64 n) := hin.box.2 2 (by simp)
  have k3 : w2.cell? ⟨w.heap.size, 3, none⟩ = some (.string D) := hin.box.2 3 (by simp)
  have k4 : w2.cell? ⟨w.heap.size, 4, none⟩ = some (.slice fa l.length fc) := hin.box.2 4 (by simp)
  have h2 : DevAt w2 b F d := h.below hin.bel
  have hE2 : ErrsB base A w2 := hE.up hin.bel
  have hl2 : FatesIn w2 (.slice fa l.length fc) l := hl.keep hin.bel
  have HE2 : Hid (ErrsB base A w2) := hE2
  have HFl : Hid (∀ k, F k → k < w.heap.size) := hFl
  have HF : Hid (∀ k, F k → base ≤ k) := hF
  have HFT : Hid (∀ wx, Below w2.heap.size w2 wx → Calls Tryd.prog 10 #[.slice fa l.length fc] wx fun e w' => ∃ v', e = .returned v' ∧ w'.ownsRow w2.heap.size 92 4 v' l.length (fateCells l) ∧ Below w2.heap.size w2 w') := fun wx hx => (fates_any l _ wx (hl2.keep hx)).mono fun e w' ⟨v', h1, h2, h3⟩ => ⟨v', h1, ⟨h2.1, h2.2.imp id fun ⟨g, cap, cur, q1, q2, q3⟩ => ⟨g, cap, cur, q1, Nat.le_trans hx.size q2, q3⟩⟩, Below.next hx h3⟩
  have HCR : Hid (∀ w3 v, Below w2.heap.size w2 w3 → w3.ownsRow w2.heap.size 92 4 v l.length (fateCells l) → Calls Tryd.prog 45 #[.pointer (some ⟨b, 0, none⟩), .int .i64 n, v] w3 fun e w' => e = .returned (.tuple #[]) ∧ DevPost w3 b F (d.arm n l) w') := fun w3 v hb hr => arm_any b F d w3 (h2.below hb) n l v ⟨hr.1, hr.2.imp id fun ⟨g, cap, cur, q1, _, q3⟩ => ⟨g, cap, cur, q1, Nat.zero_le _, q3⟩⟩ (by obtain ⟨_, _, _, _, _, h, _⟩ := hl; exact h) hs.n hq
  clear h hE hF hl hin h2 hE2 hl2 hFl hs  hk
  go_enter Tryd.func11, Tryd.ntmps11
  go_wp2_with fail
  have BX : Hid (∀ w3 w4 F' u j, Below w2.heap.size w2 w3 → Step F F' w3 w4 → w2.cell? ⟨w.heap.size, j, none⟩ = some u → w4.cell? ⟨w.heap.size, j, none⟩ = some u) := fun w3 w4 F' u j hb hs hc => hs.cell (cell_below hb hc) (fun hf => by have := HFl.out _ hf; simp at this)
  rw [← hw2]
  clear hw2
  go_region_held (fun w' => w'.cell? ⟨w.heap.size, 2, none⟩ = some (.int .i64 n) ∧ w'.cell? ⟨w.heap.size, 4, none⟩ = some (.slice fa l.length fc)) (go_keep)
    (first
      | (go_at_call 10; refine (HFT.out _ ?_).mono ?_; (first | exact bdrew1 (Below.refl _ _) | exact Below.refl _ _); rintro e w3 ⟨v, rfl, hrow, hb3⟩; have CR := Hid.mk2 (HCR.out w3 v hb3 hrow); obtain ⟨va, vc, rfl, -⟩ := owns_form hrow; have HB3 := Hid.mk2 hb3; have u2 := cell_below hb3 k2; have u4 := cell_below hb3 k4; clear hrow hb3)
      | (go_at_call 45; refine CR.out.mono ?_; rintro e w4 ⟨rfl, F', h4, s4⟩; have v2 := BX.out w3 w4 F' (.int .i64 n) 2 HB3.out s4 k2; have v4 := BX.out w3 w4 F' (.slice fa l.length fc) 4 HB3.out s4 k4))
  have FIN : Hid _ := act_fin (r := (d.arm n l, said0)) (vb := .slice none 0 0) (vs := .slice none 0 0) HIN.out HFl.out h4 ((Step.of_below HB3.out).trans s4) (owns_nilB _ _) (owns_nilS _ _) no_blk no_blk _ rfl
  clear CR HB3 h4 s4 v2 v4
  obtain ⟨f3, hst, hr4, P⟩ := FIN.out
  have HP : Hid _ := P
  clear P
  go_wp2_with (refine wpList_store_eq rfl 38 _ _ rfl _ _ rfl rfl hst ?_)
  try simp only [Exit.inBlock, Exit.then]
  refine bodyPost_ret (results_cell_row rfl _ _ (w.heap.size + 1) 38 _ (0, 0) _ rfl hr4 Tryd.underlying38 rfl (by rw [sizeSaid]; rfl)) rfl ?_
  exact ⟨_, _, _, HP.out⟩


end Go.Proofs.YtdieacdkomiooabDoor
