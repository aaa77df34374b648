import Derived.Test.YtmifadjgmjnkgaaGreatDoorRead
namespace Go.Proofs.YtmifadjgmjnkgaaGreatDoor
open Go.RowKit

set_option maxRecDepth 100000 in
set_option maxHeartbeats 1000000 in
theorem read_short (a : Addr) (a0 : Option Addr) (n cap : Nat) (l : List UInt8) (id : Int) (w : World) (hl : l.length = n) (hn : n ≠ 4096) (hE : w.cell? ⟨1, 0, none⟩ = some (.iface 158 (.pointer (some a)))) :
    Calls Tryz.prog 38 #[.slice a0 n cap, .int .i64 id] w fun e w' => e = .returned (.tuple (readV a l id)) ∧ Below w.heap.size w w' := by
  have HOK : Hid (¬ okRead l id) := fun h => hn (hl.symm.trans h.1)
  have hd0 : ((n : Int) != 4096) = true := by rw [bne_iff_ne]; omega
  have HBF : Hid (Below w.heap.size w (w.alloc (.cells #[.int .i64 0, .int .i64 0, .int .u64 0, .int .i64 0, .string ⟨#[]⟩] 31))) := below_new w _
  have HROW : Hid ((w.alloc (.cells #[.int .i64 0, .int .i64 0, .int .u64 0, .int .i64 0, .string ⟨#[]⟩] 31)).heap[w.heap.size]? = some (.cells #[.int .i64 0, .int .i64 0, .int .u64 0, .int .i64 0, .string ⟨#[]⟩] 31 (0, 0))) := heap_alloc_new w _
  have hlt : 1 < w.heap.size := World.block_lt_of_cell? w _ hE
  have cE : (w.alloc (.cells #[.int .i64 0, .int .i64 0, .int .u64 0, .int .i64 0, .string ⟨#[]⟩] 31)).cell? ⟨1, 0, none⟩ = some (.iface 158 (.pointer (some a))) := (HBF.out.cell (p := ⟨1, 0, none⟩) hlt).trans hE
  have hne : ¬ w.heap.size = 1 := by omega
  clear hl hn hE
  go_enter Tryz.func38, Tryz.ntmps38
  go_wp2_with fail
  generalize hW : (w.alloc (.cells #[.int .i64 0, .int .i64 0, .int .u64 0, .int .i64 0, .string ⟨#[]⟩] 31)) = W0 at *
  have hr := HROW.out
  have z0 : W0.cell? ⟨w.heap.size, 0, none⟩ = some (.int .i64 0) := by rw [cell_of_row _ _ _ _ _ _ hr]; rfl
  have z1 : W0.cell? ⟨w.heap.size, 1, none⟩ = some (.int .i64 0) := by rw [cell_of_row _ _ _ _ _ _ hr]; rfl
  have z2 : W0.cell? ⟨w.heap.size, 2, none⟩ = some (.int .u64 0) := by rw [cell_of_row _ _ _ _ _ _ hr]; rfl
  have z3 : W0.cell? ⟨w.heap.size, 3, none⟩ = some (.int .i64 0) := by rw [cell_of_row _ _ _ _ _ _ hr]; rfl
  have z4 : W0.cell? ⟨w.heap.size, 4, none⟩ = some (.string ⟨#[]⟩) := by rw [cell_of_row _ _ _ _ _ _ hr]; rfl
  have y0 : W0.frozen? ⟨w.heap.size, 0, none⟩ = false := frozen_of_row _ _ _ _ _ hr
  have y1 : W0.frozen? ⟨w.heap.size, 1, none⟩ = false := frozen_of_row _ _ _ _ _ hr
  have y2 : W0.frozen? ⟨w.heap.size, 2, none⟩ = false := frozen_of_row _ _ _ _ _ hr
  have y3 : W0.frozen? ⟨w.heap.size, 3, none⟩ = false := frozen_of_row _ _ _ _ _ hr
  have y4 : W0.frozen? ⟨w.heap.size, 4, none⟩ = false := frozen_of_row _ _ _ _ _ hr
  clear hW hr
  go_region_held3 (fun w' => w'.cell? ⟨1, 0, none⟩ = some (.iface 158 (.pointer (some a)))) (go_keep) (fail)
  go_wp2_with fail
  (try simp only [Exit.inBlock, Exit.then])
  refine bodyPost_ret (results_row_tmp rfl _ _ w.heap.size 31 #[.int .i64 0, .int .i64 0, .int .u64 0, .int .i64 0, .string ⟨#[]⟩] (0, 0) _ rfl (set_five_drew HROW.out) Tryz.underlying31 rfl (by kernel_rfl)) rfl ⟨?_, (below_five HBF.out (Nat.le_refl _)).drew⟩
  rw [readV_no HOK.out]; rfl

/-- The slice value v, that begins its block, reads as the bytes l. -/
def RdB (w : World) (v : Value) (l : List UInt8) : Prop :=
  (v = .slice none 0 0 ∧ l = []) ∨ ∃ g cap, v = .slice (some ⟨g, 0, none⟩) l.length cap ∧ l.length ≤ cap ∧ cap ≤ 9223372036854775807 ∧ g < w.heap.size ∧ (∀ j (h : j < l.length), w.cell? ⟨g, j, none⟩ = some (.int .u8 (l[j].toNat : Int)))
theorem RdB.below {w w' : World} {v : Value} {l : List UInt8} (h : RdB w v l) (hb : Below w.heap.size w w') : RdB w' v l := by
  rcases h with h | ⟨g, cap, hv, h1, h2, h3, h4⟩
  · exact .inl h
  · exact .inr ⟨g, cap, hv, h1, h2, Nat.lt_of_lt_of_le h3 hb.size, fun j hj => (hb.cell (p := ⟨g, j, none⟩) h3).trans (h4 j hj)⟩

theorem read_any (a : Addr) (v : Value) (l : List UInt8) (id : Int) (w : World) (hr : RdB w v l) (hL : Lay w) (hT : Tab w) (hE : w.cell? ⟨1, 0, none⟩ = some (.iface 158 (.pointer (some a)))) :
    Calls Tryz.prog 38 #[v, .int .i64 id] w fun e w' => e = .returned (.tuple (readV a l id)) ∧ Below w.heap.size w w' := by
  rcases hr with ⟨rfl, rfl⟩ | ⟨g, cap, rfl, h1, h2, h3, h4⟩
  · exact read_short a none 0 0 [] id w rfl (by decide) hE
  · by_cases hl : l.length = 4096
    · rw [hl] at h1 ⊢
      exact read_len a g cap l id w hl h1 h2 hL hT hE h4
    · exact read_short a _ l.length cap l id w rfl hl hE

end Go.Proofs.YtmifadjgmjnkgaaGreatDoor
