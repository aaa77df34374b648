import Derived.Test.YtgljkgkophaefabDoorComp
import Derived.Test.YtgljkgkophaefabDoorTidy
namespace Go.Proofs.YtgljkgkophaefabDoor
open Go.RowKit

theorem tidy_num (n : Int) (h1 : -9223372036854775808 ≤ n) (h2 : n ≤ 9223372036854775807) : TidyT 4 [.mk 3 n ⟨#[]⟩ []] := by
  refine ⟨by simp, fun x hx => ?_⟩
  rw [List.mem_singleton.1 hx]
  exact ⟨fits_num n, ok_mk _ (by decide) (by decide) h1 h2 (by decide), (by decide : (⟨#[]⟩ : ByteArray).size ≤ 12), fun h => by cases h⟩
theorem tidy_packF {l : List It} (h : TidyT 4 l) : packF l = 0 := by
  have h1 := TidyT.fault 4 l h
  have h2 := TidyT.len 4 l h
  rw [lim4] at h2
  unfold packF
  rw [if_pos h1, if_neg (by omega)]
theorem tidy_enc {l : List It} (h : TidyT 4 l) : (encL l).length ≤ 28328 := by
  have h2 := TidyT.len 4 l h
  rwa [lim4] at h2
theorem its_num {w : World} {g : Nat} {n : Int} (h1 : -9223372036854775808 ≤ n) (h2 : n ≤ 9223372036854775807) (F : Nat → Prop) (hF : F g) (c0 : w.cell? ⟨g, 0, none⟩ = some (.int .i64 3)) (c1 : w.cell? ⟨g, 1, none⟩ = some (.int .i64 n)) (c2 : w.cell? ⟨g, 2, none⟩ = some (.string ⟨#[]⟩)) (c3 : w.cell? ⟨g, 3, none⟩ = some (.slice none 0 0)) :
    ItsAt w F (.slice (some ⟨g, 0, none⟩) 1 1) [.mk 3 n ⟨#[]⟩ []] := by
  have z : ∀ i, i < ([It.mk 3 n ⟨#[]⟩ []] : List It).length → i = 0 := fun i h => by simp at h; exact h
  exact .mk (some ⟨g, 0, none⟩) g 0 1 [.mk 3 n ⟨#[]⟩ []] (fun _ => .slice none 0 0) (by simp) (fun _ => ⟨rfl, hF⟩)
    (fun i h => by obtain rfl := z i h; exact ok_mk _ (by decide) (by decide) h1 h2 (by decide)) (fun i h => by obtain rfl := z i h; exact c0) (fun i h => by obtain rfl := z i h; exact c1) (fun i h => by obtain rfl := z i h; exact c2) (fun i h => by obtain rfl := z i h; exact c3)
    (fun i h => by obtain rfl := z i h; exact its_nil _ _ _ _)
theorem seven_enc : encL [.mk 3 7 ⟨#[]⟩ []] = [3, 128, 0, 0, 0, 0, 0, 0, 7] := by
  simp only [encL, It.enc, bodyOf, List.append_nil]
  decide

set_option maxHeartbeats 400000 in
theorem seven_any (aA aM : Addr) (w : World) (he : Errs2 aA aM w) : Calls Tryd.prog 11 #[] w fun e w' => e = .returned (.bool true) ∧ Below w.heap.size w w' := by
  have b1 := below_new w (.cells #[.int .i64 3, .int .i64 7, .string ⟨#[]⟩, .slice none 0 0] 43)
  have y1 := boxed_new w #[.int .i64 3, .int .i64 7, .string ⟨#[]⟩, .slice none 0 0] 43
  have t7 := tidy_num 7 (by decide) (by decide)
  have l1 := its_num (n := 7) (by decide) (by decide) anyB trivial (y1.2 0 (by simp)) (y1.2 1 (by simp)) (y1.2 2 (by simp)) (y1.2 3 (by simp))
  have P := pack_any aA aM _ _ _ l1 (he.keep b1) (fun _ => by have := tidy_enc t7; omega)
  have hT : packT [.mk 3 7 ⟨#[]⟩ []] = ⟨#[3, 128, 0, 0, 0, 0, 0, 0, 7]⟩ := by
    unfold packT
    rw [if_pos (tidy_packF t7), seven_enc]
  rw [tidy_packF t7, hT] at P
  have HP : Hid (Calls Tryd.prog 8 #[.slice (some ⟨w.heap.size, 0, none⟩) 1 1] (w.alloc (.cells #[.int .i64 3, .int .i64 7, .string ⟨#[]⟩, .slice none 0 0] 43)) fun e w' => e = .returned (.tuple #[.string ⟨#[3, 128, 0, 0, 0, 0, 0, 0, 7]⟩, .nilIface]) ∧ Below (w.alloc (.cells #[.int .i64 3, .int .i64 7, .string ⟨#[]⟩, .slice none 0 0] 43)).heap.size (w.alloc (.cells #[.int .i64 3, .int .i64 7, .string ⟨#[]⟩, .slice none 0 0] 43)) w') := P
  have HB : Hid (Below w.heap.size w (w.alloc (.cells #[.int .i64 3, .int .i64 7, .string ⟨#[]⟩, .slice none 0 0] 43))) := b1
  clear P b1 y1 l1 hT t7 he
  go_enter Tryd.func11, Tryd.ntmps11
  go_wp2_with fail
  refine HP.out.mono ?_
  rintro e w1 ⟨rfl, hb1⟩
  go_wp2_with fail
  go_ret
  exact ⟨rfl, Below.next HB.out hb1⟩

end Go.Proofs.YtgljkgkophaefabDoor
