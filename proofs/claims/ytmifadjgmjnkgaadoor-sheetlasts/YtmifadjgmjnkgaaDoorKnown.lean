import Derived.Test.YtmifadjgmjnkgaaDoorPageMath
import Derived.Test.YtmifadjgmjnkgaaDoorReadA
import Derived.Test.YtmifadjgmjnkgaaDoorSeal
import Derived.Test.YtmifadjgmjnkgaaDoorRPage
import Derived.Test.YtmifadjgmjnkgaaDoorShEql
import Derived.Deep.DeepCutAuto
namespace Go.Proofs.YtmifadjgmjnkgaaDoor
open Go.RowKit

@[reducible] def zSh (b : ByteArray) : Sh := ⟨76, 2, 5, 1, b⟩
theorem zSh_may (b : ByteArray) (h : b.size = 4072) : May (zSh b) := ⟨.inr rfl, ⟨show (0 : Int) ≤ 1 by decide, show (1 : Int) ≤ 65535 by decide⟩, ⟨show (2 : Int) ≤ 2 by decide, show (2 : Int) < 1048576 by decide⟩, h⟩
theorem page_at (s : Sh) : ∃ r, page s = dig s.kind.toNat 7 :: 0 :: dig s.count.toNat 6 :: dig s.count.toNat 7 :: dig s.id.toNat 4 :: dig s.id.toNat 5 :: dig s.id.toNat 6 :: dig s.id.toNat 7 :: dig s.txid 0 :: dig s.txid 1 :: dig s.txid 2 :: dig s.txid 3 :: dig s.txid 4 :: dig s.txid 5 :: dig s.txid 6 :: dig s.txid 7 :: r := ⟨_, rfl⟩
theorem zSh_cells {w : World} {g : Nat} {b : ByteArray} (h : RowB w g (page (zSh b))) : w.cell? ⟨g, 0, none⟩ = some (.int .u8 76) ∧ w.cell? ⟨g, 3, none⟩ = some (.int .u8 1) ∧ w.cell? ⟨g, 7, none⟩ = some (.int .u8 2) ∧ w.cell? ⟨g, 15, none⟩ = some (.int .u8 5) := by
  obtain ⟨r, hr⟩ := page_at (zSh b)
  rw [hr] at h
  have k0 : ((dig 76 7).toNat : Int) = 76 := by decide
  have k3 : ((dig 1 7).toNat : Int) = 1 := by decide
  have k7 : ((dig 2 7).toNat : Int) = 2 := by decide
  have k15 : ((dig 5 7).toNat : Int) = 5 := by decide
  have h0 : w.cell? ⟨g, 0, none⟩ = some (.int .u8 ((dig 76 7).toNat : Int)) := h.cell 0 (by simp)
  have h3 : w.cell? ⟨g, 3, none⟩ = some (.int .u8 ((dig 1 7).toNat : Int)) := h.cell 3 (by simp)
  have h7 : w.cell? ⟨g, 7, none⟩ = some (.int .u8 ((dig 2 7).toNat : Int)) := h.cell 7 (by simp)
  have h15 : w.cell? ⟨g, 15, none⟩ = some (.int .u8 ((dig 5 7).toNat : Int)) := h.cell 15 (by simp)
  rw [k0] at h0
  rw [k3] at h3
  rw [k7] at h7
  rw [k15] at h15
  exact ⟨h0, h3, h7, h15⟩

set_option maxRecDepth 100000 in
set_option maxHeartbeats 1000000 in
theorem known_any (a : Addr) (w : World) (hL : Lay w) (hT : Tab w) (hE : w.cell? ⟨2, 0, none⟩ = some (.iface 118 (.pointer (some a)))) :
    Calls Tryd.prog 8 #[] w fun e w' => e = .returned (.bool true) ∧ Below w.heap.size w w' := by
  have HL := hide hL
  have HT := hide hT
  have HE := hide hE
  clear hL hT hE
  go_enter Tryd.func8, Tryd.ntmps8
  go_wp2_with fail
  go_loopw [1, 2] (fun v i wr => ∃ j : Nat, j ≤ 4072 ∧ i = .int .i64 j ∧ wr.ownsRow w.heap.size 5 1 v j (u8s (List.replicate j 0)) ∧ Below w.heap.size w wr) (fun _ i _ => 4072 - (intOf i).toNat)
  case atStart => exact ⟨0, Nat.zero_le _, rfl, World.ownsRow_nil _ _ _ _, Below.refl _ _⟩
  case round =>
    obtain ⟨j, hj, rfl, hown, hbr⟩ := hrel
    have HO := hide hown
    have HBR := hide hbr
    clear hown hbr
    by_cases hlt : j < 4072
    · go_wp2_with (at_builtin; refine wpList_app_bytes rfl _ _ rfl w.heap.size j 1 _ wr.heap.size 0 _ _ [0] rfl rfl (HO.out.alloc _) rfl (one_in wr 0) (by decide) (by omega) (by have := HBR.out.size; simp; omega) ?_; intro g12 cap12 w12 HO12 HG12; have HB12 : Hid (Below w.heap.size w w12) := (HBR.out.alloc HBR.out.size _).trans HG12.out; clear HO HBR HG12)
      go_roundw
      case rel => exact ⟨j + 1, by omega, by go_num, by rw [List.replicate_succ']; exact HO12.out, HB12.out⟩
      case measure => simp [intOf]; omega
    · have hje : j = 4072 := by omega
      subst hje
      rw [show ((4072 : Nat) : Int) = 4072 from rfl]
      obtain ⟨g, cap, rfl, _, _⟩ := HO.out.form (by omega)
      have hcv0 := run_str wr (.slice (some ⟨g, 0, none⟩) 4072 cap) (List.replicate 4072 0) (rd_of_owns HO.out).any (by rw [List.length_replicate]; decide)
      have hbs : (ByteArray.mk (List.replicate 4072 (0 : UInt8)).toArray).size = 4072 := by
        show (List.replicate 4072 (0 : UInt8)).toArray.size = 4072
        rw [List.size_toArray, List.length_replicate]
      clear HO
      generalize (ByteArray.mk (List.replicate 4072 (0 : UInt8)).toArray) = zBody at *
      have hcv : (convert 47 9 (.slice (some ⟨g, 0, none⟩) 4072 cap)).run Tryd.prog wr = .ok (.string zBody) wr := hcv0
      have HM : Hid (May (zSh zBody)) := zSh_may _ hbs
      clear hcv0 hbs
      have HBX : Hid (Boxed wr.heap.size [.int .i64 76, .int .i64 2, .int .u64 5, .int .i64 1, .string zBody] (wr.alloc (.cells #[.int .i64 76, .int .i64 2, .int .u64 5, .int .i64 1, .string zBody] 31))) := boxed_new wr _ _
      have HB1 := hide (Below.next HBR.out (below_new wr (.cells #[.int .i64 76, .int .i64 2, .int .u64 5, .int .i64 1, .string zBody] 31)))
      clear HBR
      have HS : Hid (∀ w, Lay w → Tab w → Calls Tryd.prog 16 #[.agg #[.int .i64 76, .int .i64 2, .int .u64 5, .int .i64 1, .string zBody]] w fun e w' => ∃ g, e = .returned (.tuple #[.slice (some ⟨g, 0, none⟩) 4096 4096, .nilIface]) ∧ RowB w' g (page (zSh zBody)) ∧ w.heap.size ≤ g ∧ Below w.heap.size w w') := fun w h1 h2 => seal_ok (zSh zBody) w HM.out (show (5 : Nat) < 18446744073709551616 by decide) h1 h2
      go_wp2_with fail
      clear hcv
      generalize (wr.alloc (.cells #[.int .i64 76, .int .i64 2, .int .u64 5, .int .i64 1, .string zBody] 31)) = w1 at *
      refine (HS.out _ (HL.out.below HB1.out) (HT.out.below HB1.out)).mono ?_
      rintro e w2 ⟨gp, rfl, hrow, hgp, hb2⟩
      have HX2 := hide (HBX.out.below hb2)
      have HB2 := hide (Below.next HB1.out hb2)
      have HROW := hide hrow
      obtain ⟨q0, q3, q7, q15⟩ := zSh_cells hrow
      have HRD : Hid (RdB w2 (.slice (some ⟨gp, 0, none⟩) 4096 4096) (page (zSh zBody))) := .inr ⟨gp, 4096, by rw [page_len _ HM.out], by rw [page_len _ HM.out]; decide, by decide, hrow.lt, hrow.cell⟩
      clear hrow hgp hb2 HBX HB1
      go_wp2_with fail
      refine (read_any a _ (page (zSh zBody)) 2 _ HRD.out (HL.out.below HB2.out) (HT.out.below HB2.out) ((HB2.out.cell (p := ⟨2, 0, none⟩) (World.block_lt_of_cell? w _ HE.out)).trans HE.out)).mono ?_
      rintro e w3 ⟨rfl, hb3⟩
      have hok : okRead (page (zSh zBody)) 2 := (okRead_page (zSh zBody) HM.out (show (5 : Nat) < 18446744073709551616 by decide) 2).2 rfl
      have hv : readV a (page (zSh zBody)) 2 = #[.agg #[.int .i64 76, .int .i64 2, .int .u64 5, .int .i64 1, .string zBody], .nilIface] := by
        unfold readV
        rw [if_pos hok, parse_page (zSh zBody) HM.out (show (5 : Nat) < 18446744073709551616 by decide)]; rfl
      rw [hv]
      have hx3 := HX2.out.below hb3
      have HB3 := hide (Below.next HB2.out hb3)
      have hbn := below_new w3 (.cells #[.int .i64 76, .int .i64 2, .int .u64 5, .int .i64 1, .string zBody] 31)
      have hx4 := hx3.below hbn
      have hx5 := boxed_new w3 #[.int .i64 76, .int .i64 2, .int .u64 5, .int .i64 1, .string zBody] 31
      have HB4 := hide (Below.next HB3.out hbn)
      clear hv hok hx3 hb3 q0 q3 q7 q15 HX2 HB2 HB3 hbn
      go_upto_region 11 with fail
      generalize w3.alloc (.cells #[.int .i64 76, .int .i64 2, .int .u64 5, .int .i64 1, .string zBody] 31) = w4 at *
      have c0 : w4.cell? ⟨wr.heap.size, 0, none⟩ = some (.int .i64 76) := hx4.2 0 (by simp)
      have c1 : w4.cell? ⟨wr.heap.size, 1, none⟩ = some (.int .i64 2) := hx4.2 1 (by simp)
      have c2 : w4.cell? ⟨wr.heap.size, 2, none⟩ = some (.int .u64 5) := hx4.2 2 (by simp)
      have c3 : w4.cell? ⟨wr.heap.size, 3, none⟩ = some (.int .i64 1) := hx4.2 3 (by simp)
      have c4 : w4.cell? ⟨wr.heap.size, 4, none⟩ = some (.string zBody) := hx4.2 4 (by simp)
      have d0 : w4.cell? ⟨w3.heap.size, 0, none⟩ = some (.int .i64 76) := hx5.2 0 (by simp)
      have d1 : w4.cell? ⟨w3.heap.size, 1, none⟩ = some (.int .i64 2) := hx5.2 1 (by simp)
      have d2 : w4.cell? ⟨w3.heap.size, 2, none⟩ = some (.int .u64 5) := hx5.2 2 (by simp)
      have d3 : w4.cell? ⟨w3.heap.size, 3, none⟩ = some (.int .i64 1) := hx5.2 3 (by simp)
      have d4 : w4.cell? ⟨w3.heap.size, 4, none⟩ = some (.string zBody) := hx5.2 4 (by simp)
      obtain ⟨K, hK⟩ : ∃ K : Int, K = 76 := ⟨_, rfl⟩
      rw [← hK] at c0 d0
      clear hK
      obtain ⟨I, hI⟩ : ∃ I : Int, I = 2 := ⟨_, rfl⟩
      rw [← hI] at c1 d1
      clear hI
      obtain ⟨T, hT⟩ : ∃ T : Int, T = 5 := ⟨_, rfl⟩
      rw [← hT] at c2 d2
      clear hT
      obtain ⟨C, hC⟩ : ∃ C : Int, C = 1 := ⟨_, rfl⟩
      rw [← hC] at c3 d3
      clear hC
      have heq : ∀ w, (binOp .eql 31 (.agg #[.int .i64 K, .int .i64 I, .int .u64 T, .int .i64 C, .string zBody]) (.agg #[.int .i64 K, .int .i64 I, .int .u64 T, .int .i64 C, .string zBody])).run Tryd.prog w = .ok (.bool true) w := fun w => sh_self w K I T C zBody
      clear hx4 hx5
      go_wp2_with fail
      go_ret
      exact ⟨rfl, HB4.out⟩

end Go.Proofs.YtmifadjgmjnkgaaDoor
