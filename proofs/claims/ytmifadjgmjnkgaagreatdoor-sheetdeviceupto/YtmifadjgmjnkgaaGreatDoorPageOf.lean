import Derived.Test.YtmifadjgmjnkgaaGreatDoorEachW
import Derived.Test.YtmifadjgmjnkgaaGreatDoorMay
namespace Go.Proofs.YtmifadjgmjnkgaaGreatDoor
open Go.RowKit

set_option maxHeartbeats 400000 in
theorem writeHead_any (g : Nat) (a b c d e : Nat) (l : List UInt8) (w : World) (hl : l.length = 4096) (hL : Lay w) (hr : RowB w g l) (hf : HeadFits (hd5 a b c d e)) :
    Calls Tryz.prog 75 #[.slice (some ⟨g, 0, none⟩) 4096 4096, .agg #[.int .u64 (a : Int), .int .u64 (b : Int), .int .u64 (c : Int), .int .u64 (d : Int), .int .u64 (e : Int)]] w fun x w' => x = .returned (.tuple #[]) ∧ RowB w' g (headTo l (hd5 a b c d e) 5) ∧ Sole g w w' := by
  have hlt := hr.lt
  have hbx := boxed_new w #[.int .u64 (a : Int), .int .u64 (b : Int), .int .u64 (c : Int), .int .u64 (d : Int), .int .u64 (e : Int)] 101
  have hbn := below_new w (.cells #[.int .u64 (a : Int), .int .u64 (b : Int), .int .u64 (c : Int), .int .u64 (d : Int), .int .u64 (e : Int)] 101)
  have C := eachW_any g w.heap.size (hd5 a b c d e) l (w.alloc (.cells #[.int .u64 (a : Int), .int .u64 (b : Int), .int .u64 (c : Int), .int .u64 (d : Int), .int .u64 (e : Int)] 101)) hl (by omega) (hL.below hbn) (hr.below hbn) hf (fun k hk => by
    obtain rfl | rfl | rfl | rfl | rfl : k = 0 ∨ k = 1 ∨ k = 2 ∨ k = 3 ∨ k = 4 := by omega
    · exact hbx.2 0 (by simp)
    · exact hbx.2 1 (by simp)
    · exact hbx.2 2 (by simp)
    · exact hbx.2 3 (by simp)
    · exact hbx.2 4 (by simp))
  have HS0 : Hid (Sole g w (w.alloc (.cells #[.int .u64 (a : Int), .int .u64 (b : Int), .int .u64 (c : Int), .int .u64 (d : Int), .int .u64 (e : Int)] 101))) := Sole.of_below hbn
  have HC : Hid (Calls Tryz.prog 80 #[.slice (some ⟨g, 0, none⟩) 4096 4096, .func (.func 98) #[] #[.pointer (some ⟨w.heap.size, 0, none⟩)]] (w.alloc (.cells #[.int .u64 (a : Int), .int .u64 (b : Int), .int .u64 (c : Int), .int .u64 (d : Int), .int .u64 (e : Int)] 101)) fun x w' => x = .returned (.tuple #[]) ∧ RowB w' g (headTo l (hd5 a b c d e) 5) ∧ Sole g (w.alloc (.cells #[.int .u64 (a : Int), .int .u64 (b : Int), .int .u64 (c : Int), .int .u64 (d : Int), .int .u64 (e : Int)] 101)) w') := C
  clear C hbx hbn hL hr hf hl hlt
  go_enter Tryz.func75, Tryz.ntmps75
  go_wp2_with (go_at_call 80; refine HC.out.mono ?_; rintro x w1 ⟨rfl, hr1, hs1⟩; have HR1 : Hid (RowB w1 g (headTo l (hd5 a b c d e) 5)) := hr1; have HS1 : Hid (Sole g w w1) := HS0.out.trans hs1; clear hr1 hs1)
  go_end0
  exact ⟨rfl, HR1.out, HS1.out⟩

end Go.Proofs.YtmifadjgmjnkgaaGreatDoor
