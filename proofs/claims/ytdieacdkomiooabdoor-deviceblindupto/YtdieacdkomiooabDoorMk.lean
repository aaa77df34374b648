import Derived.Test.YtdieacdkomiooabDoorMk0
import Derived.Deep.RegionHeld3
namespace Go.Proofs.YtdieacdkomiooabDoor
open Go.RowKit Go.Maps

set_option maxRecDepth 100000 in
set_option maxHeartbeats 400000 in
theorem maked_any (b mb n : Nat) (i : Int) (t : ByteArray) (l : List Sec) (w : World) (c1 : w.cell? ⟨b, 1, none⟩ = some (.map (some mb))) (hown : w.ownsMap Tryd.prog 3 secR mb n (durD l)) (ht : t.size ≤ 512) (h0 : 0 ≤ i) (h1 : i < 9223372036854775808) (hn : n < maxLen) :
    Calls Tryd.prog 52 #[.pointer (some ⟨b, 0, none⟩), .int .i64 i, .string t] w fun e w' => e = .returned (.tuple #[]) ∧ w'.ownsMap Tryd.prog 3 secR mb (n + 1) (durD (setD l i (pad t))) ∧ w.grownBy w' (some mb) := by
  obtain ⟨w2, hcp, hb2, hbel⟩ := zcopy t w ht
  have hps := pad_size t ht
  have hld := zload w2 w.heap.size (pad t) hps hb2
  have heq := fun w => zeq w (pad t) hps
  have hgd := fun w x y => zguard w x y (pad t)
  have hg2 : w.grownBy w2 (some mb) := ⟨hbel.os, hbel.tape, hbel.output, hbel.size, fun k hk _ => hbel.block k hk⟩
  have hown2 := hown.kept (row := none) ⟨hbel.os, hbel.tape, hbel.output, hbel.size, fun k hk _ => hbel.block k hk⟩ (by simp)
  have c2 : w2.cell? ⟨b, 1, none⟩ = some (.map (some mb)) := (hbel.cell (p := ⟨b, 1, none⟩) (World.block_lt_of_cell? w _ c1)).trans c1
  have HS : Hid (setD l i (pad t) = if allZ (pad t) then dropD i l else insD ⟨i, pad t⟩ (dropD i l)) := (rfl : setD l i (pad t) = _)
  have hR := secR_arr hps
  obtain ⟨w3, hrun3, hown3, hturn3⟩ := hown2.drew.store klaw Tryd.underlying93 hn (kkey h0 h1) hR
  have hrg : w2.rangeAt w.heap.size 0 (u8s (bl (pad t))) := fun j u hu => by
    rw [cell_of_row _ _ _ _ _ _ hb2, Nat.zero_add]; simpa using hu
  have hlen : (Tryd.prog.info? 104).map (·.size) = some (u8s (bl (pad t))).length := by rw [sizeArr, u8s_length, bl_len, hps]
  have hg3 : w2.grownBy w3 (some mb) := ⟨hturn3.grown.os, hturn3.grown.tape, hturn3.grown.output, hturn3.grown.size, hturn3.grown.block⟩
  have hbm : b ≠ mb := fun e => by
    obtain ⟨es, ck, hb, _⟩ := hown2
    rw [e, World.cell?, hb] at c2; cases c2
  have c3 : w3.cell? ⟨b, 1, none⟩ = some (.map (some mb)) := (World.cell?_of_block (a := ⟨b, 1, none⟩) (hturn3.grown.block b (World.block_lt_of_cell? _ _ c2) (by simpa using hbm))).trans c2
  have hsm : w.heap.size ≠ mb := fun e => by have := hown.lt; omega
  have hrg3 : w3.rangeAt w.heap.size 0 (u8s (bl (pad t))) := fun j u hu => (World.cell?_of_block (a := ⟨w.heap.size, 0 + j, none⟩) (hturn3.grown.block w.heap.size (World.block_lt_of_cell? _ _ (hrg j u hu)) (by simpa using hsm))).trans (hrg j u hu)
  unfold arr at hld heq hgd hR hrun3
  obtain ⟨cs, hcs⟩ : ∃ cs, cs = u8s (bl (pad t)) := ⟨_, rfl⟩
  obtain ⟨p, hp⟩ : ∃ p, p = pad t := ⟨_, rfl⟩
  rw [← hcs] at hld hR hrun3 hrg hlen hrg3
  simp only [← hcs] at heq hgd
  rw [← hp] at HS hR hown3 ⊢
  simp only [← hp] at heq
  rw [durD_put] at hown3
  have hun := und104
  clear hown c1 hps hp hcs hb2
  go_enter Tryd.func52, Tryd.ntmps52
  cases hz : allZ p
  · rw [hz] at heq
    go_wp2_with (first | (refine wpList_load_eq rfl 104 _ rfl _ _ rfl hld ?_))
    go_region_held3 (fun w' => w'.cell? ⟨b, 1, none⟩ = some (.map (some mb)) ∧ w'.rangeAt w.heap.size 0 cs) (first | exact ⟨c2, hrg⟩ | exact ⟨c3, hrg3⟩ | go_keep) (fail)
    go_end0
    refine ⟨rfl, ?_, hg2.andThen hg3 (fun j hj => .inr (by simpa using hj))⟩
    rw [HS.out, hz]
    exact hown3
  · rw [hz] at heq
    go_wp2_with (first | (refine wpList_load_eq rfl 104 _ rfl _ _ rfl hld ?_) | (at_delete; refine wpList_delete_own _ rfl _ _ 93 3 rfl 104 klaw Tryd.underlying93 _ mb n _ rfl hown2 _ _ rfl (kkey h0 h1) ?_; intro w4 hown4 hturn4))
    go_frame
    try simp only [Exit.inBlock, Exit.then]
    refine bodyPost_ret (results_none rfl _ _ _) rfl ?_
    rw [durD_del] at hown4
    refine ⟨rfl, ?_, hg2.andThen hturn4.grown (fun j hj => .inr (by simpa using hj))⟩
    rw [HS.out, hz]
    exact hown4.mono (Nat.le_succ _)

end Go.Proofs.YtdieacdkomiooabDoor
