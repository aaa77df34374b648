import Derived.Test.YtlopimdnjookeaaDoorMtRead
namespace Go.Proofs.YtlopimdnjookeaaDoor
open Go.RowKit

theorem rda_row {t : TypeId} {w : World} {g n : Nat} {l : List UInt8} (h : RowT t w g l) (hn : l.length = n) (cap : Nat) : RdA w (.slice (some ⟨g, 0, none⟩) n cap) l := by
  subst hn
  exact ⟨_, cap, rfl, fun j hj => ⟨g, 0, rfl, by rw [Nat.zero_add]; exact h.cell j hj⟩⟩
theorem made_u8 (n : Nat) : (madeCells #[Value.int .u8 0] n).toList = u8s (List.replicate n 0) := by
  rw [u8s, List.map_replicate]
  simp [madeCells, Nat.mod_one, List.map_const']
theorem rowT_of {w : World} {base g n : Nat} {l : List UInt8} (h : w.ownsRow base 5 1 (.slice (some ⟨g, 0, none⟩) n n) n (u8s l)) : RowT 5 w g l := by
  rcases h.2 with ⟨h', _⟩ | ⟨g', cap', cur, h', hb, hg, hn, hc, hs, ht⟩
  · cases h'
  · cases h'
    unfold RowT
    rw [hg, ← ht, List.take_of_length_le (by simpa using Nat.le_of_eq hs)]

set_option maxRecDepth 100000 in
set_option maxHeartbeats 4000000 in
theorem encode_no (a0 : Addr) (m : Mt) (w : World) (hm : ¬ MayM m) (hc0 : w.cell? ⟨0, 0, none⟩ = some (.iface 108 (.pointer (some a0)))) :
    Calls Tryd.prog 18 #[.agg m.cells.toArray] w fun e w' => e = .returned (.tuple #[.slice none 0 0, .iface 108 (.pointer (some a0))]) ∧ Below w.heap.size w w' := by
  have HM : Hid (∀ w, Calls Tryd.prog 27 #[.agg m.cells.toArray] w fun e w' => e = .returned (.bool false) ∧ Below w.heap.size w w') := fun w => by
    have h := mayBe_any m w
    rw [decide_eq_false hm] at h
    exact h
  obtain ⟨p, r, t⟩ := m
  simp only [Mt.cells] at HM ⊢
  have HB := hide (below_new w (.cells #[.int .i64 p, .int .i64 r, .int .u64 (t : Int)] 31))
  have g0 : 0 < w.heap.size := World.block_lt_of_cell? w _ hc0
  have HG := hide g0
  have HC := hide hc0
  clear hm g0 hc0
  go_enter Tryd.func18, Tryd.ntmps18
  go_wp2_with fail
  refine (HM.out _).mono ?_
  rintro e w1 ⟨rfl, hb1⟩
  have HB1 := hide (Below.next HB.out hb1)
  have k0 := (HB1.out.cell (p := ⟨0, 0, none⟩) HG.out).trans HC.out
  clear hb1
  go_wp2_with fail
  go_quiet (fail)
  go_wp2_with fail
  go_ret2
  exact ⟨rfl, below_drewN HB1.out _⟩

set_option maxRecDepth 100000 in
set_option maxHeartbeats 4000000 in
theorem encode_ok (m : Mt) (w : World) (hm : MayM m) (hx : m.txid < 18446744073709551616) (hT : Tab w) :
    Calls Tryd.prog 18 #[.agg m.cells.toArray] w fun e w' => ∃ g, e = .returned (.tuple #[.slice (some ⟨g, 0, none⟩) 512 512, .nilIface]) ∧ RowT 5 w' g (mpage m) ∧ w.heap.size ≤ g ∧ Below w.heap.size w w' := by
  have HM : Hid (∀ w, Calls Tryd.prog 27 #[.agg m.cells.toArray] w fun e w' => e = .returned (.bool true) ∧ Below w.heap.size w w') := fun w => by
    have h := mayBe_any m w
    rw [decide_eq_true hm] at h
    exact h
  have HBY : Hid (∀ w, Tab w → Calls Tryd.prog 29 #[.agg m.cells.toArray] w fun e w' => e = .returned (.agg (u8s (mpage m)).toArray) ∧ Below w.heap.size w w') := fun w h => bytesOf_any m w hm hx h
  have HPL := hide (mpage_len m)
  obtain ⟨pg, hpg⟩ : ∃ pg, pg = mpage m := ⟨_, rfl⟩
  rw [← hpg] at HBY HPL ⊢
  clear hpg hm hx
  obtain ⟨zc, hzc, z512⟩ : ∃ zc, zc = (u8s (List.replicate 512 0)).toArray ∧ ∀ w, (zeroValue 69).run Tryd.prog w = .ok (.agg zc) w := ⟨_, rfl, zero512⟩
  obtain ⟨i0, hinf, hz0, hz1, hz2⟩ := info_parts Tryd.info5
  obtain ⟨p, r, t⟩ := m
  simp only [Mt.cells] at HM HBY ⊢
  have HX := hide (boxed_new w #[.int .i64 p, .int .i64 r, .int .u64 (t : Int)] 31)
  have HB := hide (below_new w (.cells #[.int .i64 p, .int .i64 r, .int .u64 (t : Int)] 31))
  have HT := hide (hT.below HB.out)
  have HZC := hide hzc
  clear hT hzc
  go_enter Tryd.func18, Tryd.ntmps18
  go_wp2_with fail
  refine (HM.out _).mono ?_
  rintro e w1 ⟨rfl, hb1⟩
  have HX1 := HX.out.below hb1
  have c0 := HX1.2 0 (by simp)
  have c1 := HX1.2 1 (by simp)
  have c2 := HX1.2 2 (by simp)
  simp only [List.getElem_cons_zero, List.getElem_cons_succ] at c0 c1 c2
  have HB1 := hide (Below.next HB.out hb1)
  have HT1 := hide (HT.out.below hb1)
  clear hb1 HX1 HX HT HB
  go_wp2_with fail
  refine (HBY.out _ HT1.out).mono ?_
  rintro e w2 ⟨rfl, hb2⟩
  have HB2 := hide (Below.next HB1.out hb2)
  have hrow2 : RowT 69 (w2.alloc (.cells zc 69)) w2.heap.size (List.replicate 512 0) := by rw [HZC.out]; exact rowT_new _ _ _
  obtain ⟨w3, hst, hr3, hs3⟩ := store512 hrow2 (List.length_replicate ..) HPL.out
  have HR3 := hide hr3
  have HB3 : Hid (Below w2.heap.size w2 w3) := hs3.below (below_new w2 _) (Nat.le_refl _)
  have hLA : (u8s pg).toArray.size = 512 := by simp [u8s_length, HPL.out]
  have s0 := sl_all w2.heap.size
  clear hb2 hrow2 hr3 hs3 HZC c0 c1 c2
  have HPG : Hid (∀ W g, W.heap[g]? = some (.cells (u8s pg).toArray 5 (0, 0)) → RowT 5 W g pg) := fun W g h => h
  generalize hCS : (u8s pg).toArray = CS at *
  go_wp2_with (at_make; refine wpList_make_full _ rfl _ _ 42 rfl 0 5 i0 (.int .u8 0) 1 Tryd.underlying42 hinf hz0 hz1 .i64 .i64 _ _ 512 rfl rfl rfl rfl ?c1 ?c2 (Nat.zero_le _) ?_)
  case c1 => rw [hz2]; decide
  case c2 => decide
  intro w4 hrow4 hg4
  rw [made_u8] at hrow4
  have hr4 := rowT_of hrow4
  have hb4 : Below w3.heap.size w3 w4 := ⟨hg4.os, hg4.tape, hg4.output, hg4.size, fun k hk => hg4.block k hk (by simp)⟩
  have hs4 := HR3.out.below hb4
  have hlt : w2.heap.size < w3.heap.size := HR3.out.lt
  obtain ⟨w5, hcp, hr5, hs5⟩ := copy_row (cap := 512) (n := 512) (o := 0) (g2 := w2.heap.size) (o2 := 0) (c2 := 512) hr4 HPL.out (fun j hj => by rw [Nat.zero_add]; exact hs4.cell j hj) (by rw [HPL.out, List.length_replicate]; decide)
  rw [splice_whole pg HPL.out] at hr5
  have HR5 := hide hr5
  have HB5 : Hid (Below w.heap.size w w5) := hs5.below (Below.next (Below.next HB2.out HB3.out) hb4) (by have := HB2.out.size; omega)
  have HGE : Hid (w.heap.size ≤ w3.heap.size) := by show _ ≤ _; have := HB2.out.size; omega
  clear hrow4 hg4 hr4 hb4 hs4 hr5 hs5 hst hLA z512
  go_wp2_with fail
  go_ret2
  exact ⟨_, rfl, HR5.out, HGE.out, HB5.out⟩

end Go.Proofs.YtlopimdnjookeaaDoor
