import Derived.Test.YtgljkgkophaefaaDoorTwins
namespace Go.Proofs.YtgljkgkophaefaaDoor
open Go.RowKit

def mark : It := .mk 77 0 ⟨#[]⟩ []
theorem mark_ok : mark.Ok := ⟨by decide, by decide, by decide, by decide, by decide⟩

set_option maxHeartbeats 400000 in
theorem lent_any (l : List It) (v : Value) (w : World) (hv : ItsAt w anyB v l) :
    Calls Tryd.prog 12 #[v] w fun e w' => ∃ v', e = .returned v' ∧ ItsOwn w' w.heap.size v' (l ++ List.replicate 4 mark) ∧ Below w.heap.size w w' := by
  obtain ⟨i0, hi, hz0, hz1, hz2⟩ := info_parts Tryd.info43
  have hlen := hv.len_le
  go_enter Tryd.func12, Tryd.ntmps12
  go_wp2_with fail
  refine (twins_any _ l v w (Nat.le_refl _) hv).mono ?_
  rintro e w1 ⟨v1, rfl, hown1, hb1⟩
  clear hv
  go_wp2_with fail
  go_loopw [3, 4] (fun v i wr => ∃ j : Nat, j ≤ 4 ∧ i = .int .i64 j ∧ ItsOwn wr w.heap.size v (l ++ List.replicate j mark) ∧ Below w.heap.size w wr) (fun _ i _ => 4 - (intOf i).toNat)
  case atStart => exact ⟨0, by omega, rfl, by simpa using hown1, hb1⟩
  case round =>
    obtain ⟨j, hj, rfl, hown, hbl⟩ := hrel
    clear hown1 hb1
    by_cases hlt : j < 4
    · obtain ⟨us, hus, how, hoks, hins⟩ := hown
      have HT : Hid (l ++ List.replicate (j + 1) mark = (l ++ List.replicate j mark) ++ [mark]) := by
        show _ = _
        rw [List.replicate_succ', List.append_assoc]
      have hjl : (l ++ List.replicate j mark).length = l.length + j := by simp
      generalize l ++ List.replicate j mark = lj at *
      have hlb : lj.length < 2513169434847 := by omega
      clear hjl
      have hbk := owns_blk how
      go_wp2_with (first
        | (at_builtin; refine wpList_append_lies _ rfl _ _ 22 rfl w.heap.size 43 i0 (.agg #[.int .i64 0, .int .i64 0, .string ⟨#[]⟩, .slice none 0 0]) 4 56 Tryd.underlying22 hi hz0 hz1 hz2 rfl (by decide) _ _ _ rfl (how.alloc _) ⟨wr.heap.size, 0, none⟩ 1 1 [.int .i64 77, .int .i64 0, .string ⟨#[]⟩, .slice none 0 0] rfl rfl ?c1 ?c2 ?c3 ?c4 ?c5 ?c6 (wr.heap.size + 1) ?c7 ?_))
      case c1 => exact World.news_of_block (heap_alloc_new wr (.cells #[.int .i64 77, .int .i64 0, .string ⟨#[]⟩, .slice none 0 0] 43))
      case c2 => intro u hu; simp at hu; rcases hu with rfl | rfl | rfl | rfl <;> rfl
      case c3 => decide
      case c4 => unfold maxLen; omega
      case c5 => omega
      case c6 => have := hbl.size; simp; omega
      case c7 => simp
      intro g' cap' w5 hown5 hgrow hat hlg
      have n4 := below_new wr (.cells #[.int .i64 77, .int .i64 0, .string ⟨#[]⟩, .slice none 0 0] 43)
      have hsz1 := hbl.size
      have HB : Hid (Below w.heap.size w w5) := (Below.next hbl n4).grown hgrow (by have := (Below.next hbl n4).size; omega) (fun k hk => (hbk k hk).1)
      have HF : Hid (ItsOwn w5 w.heap.size (.slice (some ⟨g', 0, none⟩) (lj.length + 1) cap') (l ++ List.replicate (j + 1) mark)) := by
        show ItsOwn _ _ _ _
        rw [HT.out]
        refine push_own (w4 := wr.alloc (.cells #[.int .i64 77, .int .i64 0, .string ⟨#[]⟩, .slice none 0 0] 43)) (H := wr.heap.size + 1) hus hoks (fun i h h' => ?_) mark_ok (its_nil _ _ _ _) hown5 hgrow hat (by simp)
        exact ((hins i h h').keep n4).imp fun k hk => ⟨hk.1, hk.2.1, Nat.lt_of_lt_of_le hk.2.2 n4.size⟩
      clear hown5 hgrow hat hlg n4 hins hoks how hbl hbk
      go_wp2_with fail
      go_roundw
      case rel => exact ⟨j + 1, by omega, by go_num, HF.out, HB.out⟩
      case measure => simp [intOf]; omega
    · have hke : j = 4 := by omega
      subst hke
      go_wp2_with fail
      go_ret
      exact ⟨_, rfl, hown, hbl⟩

end Go.Proofs.YtgljkgkophaefaaDoor
