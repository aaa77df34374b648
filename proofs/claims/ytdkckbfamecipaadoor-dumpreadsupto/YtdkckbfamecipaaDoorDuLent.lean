import Derived.Test.YtdkckbfamecipaaDoorDuRRead
import Derived.Test.YtdkckbfamecipaaDoorSameS
namespace Go.Proofs.YtdkckbfamecipaaDoor
open Go.RowKit

def markB : ByteArray := ⟨#[109, 97, 114, 107]⟩
def marks4 : List ByteArray := [markB, markB, markB, markB]
theorem rowR_lit4 (w : World) (t : TypeId) : RowR (w.alloc (.cells #[.string markB, .string markB, .string markB, .string markB] t)) (.slice (some ⟨w.heap.size, 0, none⟩) 4 4) (strs marks4) := by
  have hb := boxed_new w #[.string markB, .string markB, .string markB, .string markB] t
  refine ⟨_, _, rfl, Nat.le_refl _, fun h => (by cases h), fun j u hj => ⟨_, _, rfl, ?_⟩⟩
  have hj' := (List.getElem?_eq_some_iff.1 hj)
  obtain ⟨h1, h2⟩ := hj'
  have h1' : j < 4 := h1
  rw [Nat.zero_add, hb.2 j (by simpa using h1'), ← h2]
  rfl
theorem StrR.lit4 (w : World) (t : TypeId) : StrR (w.alloc (.cells #[.string markB, .string markB, .string markB, .string markB] t)) (.slice (some ⟨w.heap.size, 0, none⟩) 4 4) marks4 := (rowR_lit4 w t).strs
set_option maxHeartbeats 2000000 in
set_option maxRecDepth 100000 in
theorem lent_any (v : Value) (ls : List ByteArray) (w : World) (hm : ls.length ≤ 1099511627776) (hR : RowR w v (strs ls)) :
    Calls Tryd.prog 4 #[v] w fun e w' => ∃ g cap, e = .returned (.slice (some ⟨g, 0, none⟩) (ls.length + 4) cap) ∧ ls.length + 4 ≤ cap ∧ StrR w' (.slice (some ⟨g, 0, none⟩) (ls.length + 4) cap) (ls ++ marks4) ∧ Below w.heap.size w w' := by
  obtain ⟨a1, c1, w1, hr1, ho1, hg1⟩ := append_row 22 9 (.string ByteArray.empty) 16 info9 Tryd.underlying22 rfl w.heap.size 0 (.slice none 0 0) [] w (World.ownsRow_nil _ _ _ _) v (strs ls) hR (strs_one _) (by rw [strs_length]; omega) (by decide) (Nat.le_refl _)
  rw [strs_length, Nat.zero_add, List.nil_append] at ho1
  rw [strs_length, Nat.zero_add] at hr1
  have hb1 : Below w.heap.size w w1 := (Below.refl w.heap.size w).grown hg1 (Nat.le_refl _) (fun k hk => by cases hk)
  have hrow := rowR_lit4 w1 9
  have hb2 := below_new w1 (.cells #[.string markB, .string markB, .string markB, .string markB] 9)
  have ho2 := World.ownsRow.alloc ho1 (.cells #[.string markB, .string markB, .string markB, .string markB] 9)
  obtain ⟨a3, c3, w3, hr3, ho3, hg3⟩ := append_row 22 9 (.string ByteArray.empty) 16 info9 Tryd.underlying22 rfl w.heap.size ls.length _ (strs ls) _ ho2 _ (strs marks4) hrow (strs_one _) (by show (ls.length + 4) * 16 ≤ _; omega) (by decide) (Nat.le_trans hb1.size hb2.size)
  have hb3 : Below w.heap.size w w3 := (Below.next hb1 hb2).grown hg3 (Nat.le_trans hb1.size hb2.size) (fun k hk => (ho2.lt k hk).1)
  have hs3 := (rowR_of_owns (show w3.ownsRow w.heap.size 9 1 (.slice a3 (ls.length + 4) c3) (ls.length + 4) (strs (ls ++ marks4)) by rw [strs_append]; exact ho3)).strs
  have HS := hide hs3
  have HB := hide hb3
  have hr3' : (Builtin.append_ #[22, 22] 22 #[.slice a1 ls.length c1, .slice (some ⟨w1.heap.size, 0, none⟩) 4 4]).run Tryd.prog (w1.alloc (.cells #[.string markB, .string markB, .string markB, .string markB] 9)) = .ok (.slice a3 (ls.length + 4) c3) w3 := hr3
  have HF : Hid (∃ g, a3 = some ⟨g, 0, none⟩ ∧ ls.length + 4 ≤ c3) := by
    rcases ho3.2 with ⟨h, _⟩ | ⟨g, cap, cur, h, _, _, hnc, _⟩
    · cases h
    · cases h; exact ⟨g, rfl, hnc⟩
  have HR1 := hide hr1
  have HR3 := hide hr3'
  obtain ⟨va, vc, rfl, _⟩ := id hR
  generalize ls.length + 4 = n4 at *
  generalize ls.length = n0 at *
  rw [strs_length] at HR1 ⊢
  clear hr1 ho1 hg1 hb1 hrow hb2 ho2 hr3 ho3 hg3 hb3 hs3 hr3' hR hm
  go_enter Tryd.func4, Tryd.ntmps4
  go_wp2_with (first | (at_builtin; first | refine wpList_append_run 22 rfl (.tmp 4) (.tmp 5) rfl rfl _ _ rfl rfl _ _ HR1.out ?_ | refine wpList_append_run 22 rfl (.tmp 7) (.tmp 8) rfl rfl _ _ rfl rfl _ _ HR3.out ?_))
  go_ret
  obtain ⟨g, hg, hcap⟩ := HF.out
  subst hg
  exact ⟨g, c3, rfl, hcap, HS.out, HB.out⟩
end Go.Proofs.YtdkckbfamecipaaDoor
