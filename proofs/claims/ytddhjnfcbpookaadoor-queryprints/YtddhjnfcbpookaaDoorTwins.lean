import Derived.Test.YtddhjnfcbpookaaDoorOwn
namespace Go.Proofs.YtddhjnfcbpookaaDoor
open Go.RowKit

set_option maxHeartbeats 400000 in
theorem twins_any (k : Nat) : ∀ (l : List It) (v : Value) (w : World), SizeOf.sizeOf l ≤ k → ItsAt w anyB v l →
    Calls Tryd.prog 17 #[v] w fun e w' => ∃ v', e = .returned v' ∧ ItsOwn w' w.heap.size v' l ∧ Below w.heap.size w w' := by
  induction k with
  | zero => intro l v w hk; cases l <;> simp at hk
  | succ k ih =>
    intro l v w hk hv
    obtain ⟨a, g, off, cap, l, vs, hlen, ha, hok, h0, h1, h2, h3, hin⟩ := hv
    have IH : Hid (∀ (l : List It) (v : Value) (w : World), SizeOf.sizeOf l ≤ k → ItsAt w anyB v l →
      Calls Tryd.prog 17 #[v] w fun e w' => ∃ v', e = .returned v' ∧ ItsOwn w' w.heap.size v' l ∧ Below w.heap.size w w') := ih
    clear ih
    obtain ⟨i0, hi, hz0, hz1, hz2⟩ := info_parts Tryd.info59
    go_enter Tryd.func17, Tryd.ntmps17
    go_wp2_with fail
    go_loopw [3, 4] (fun v i wr => ∃ j : Nat, j ≤ l.length ∧ i = .int .i64 j ∧ ItsOwn wr w.heap.size v (l.take j) ∧ Below w.heap.size w wr) (fun _ i _ => l.length - (intOf i).toNat)
    case atStart => exact ⟨0, Nat.zero_le _, rfl, ⟨[], rfl, by simpa [cellsOf'] using World.ownsRow_nil _ _ _ _, fun i h => absurd h (by simp), fun i h => absurd h (by simp)⟩, Below.refl _ _⟩
    case round =>
      obtain ⟨j, hj, rfl, hown, hbl⟩ := hrel
      by_cases hlt : j < l.length
      · obtain ⟨rfl, -⟩ := ha (by omega)
        have c0 := cell_below hbl (h0 j hlt)
        have c1 := cell_below hbl (h1 j hlt)
        have c2 := cell_below hbl (h2 j hlt)
        have c3 := cell_below hbl (h3 j hlt)
        have ia := (hin j hlt).keep hbl
        have HO : Hid (l[j].Ok) := hok j hlt
        have HT : Hid (l.take (j + 1) = l.take j ++ [l[j]]) := List.take_succ_eq_append_getElem hlt
        have HK : Hid (∀ (w : World), ItsAt w anyB (vs j) l[j].list → Calls Tryd.prog 17 #[vs j] w fun e w' => ∃ v', e = .returned v' ∧ ItsOwn w' w.heap.size v' l[j].list ∧ Below w.heap.size w w') := fun w' h => IH.out _ _ _ (by have := list_lt_of_get hlt; omega) h
        have HL : Hid (l[j].list.length ≤ 2513169434843) := (hin j hlt).len_le
        generalize l[j] = x at *
        generalize vs j = va at *
        obtain ⟨aa, ca, rfl⟩ := ia.form
        clear h0 h1 h2 h3 hin hok IH hk ha
        have lg : g < wr.heap.size := World.block_lt_of_cell? _ _ c0
        obtain ⟨xk, hxk⟩ : ∃ xk, xk = x.kind := ⟨_, rfl⟩
        obtain ⟨xn, hxn⟩ : ∃ xn, xn = x.num := ⟨_, rfl⟩
        obtain ⟨xt, hxt⟩ : ∃ xt, xt = x.text := ⟨_, rfl⟩
        rw [← hxk] at c0
        rw [← hxn] at c1
        rw [← hxt] at c2
        have HX : Hid (xk = x.kind ∧ xn = x.num ∧ xt = x.text) := ⟨hxk, hxn, hxt⟩
        clear hxk hxn hxt
        go_wp2_with fail
        have b1 := below_new wr (.cells #[.int .i64 xk, .int .i64 xn, .string xt, .slice aa x.list.length ca] 59)
        have x1 := boxed_new wr #[.int .i64 xk, .int .i64 xn, .string xt, .slice aa x.list.length ca] 59
        have f1 : (wr.alloc (.cells #[.int .i64 xk, .int .i64 xn, .string xt, .slice aa x.list.length ca] 59)).frozen? ⟨wr.heap.size, 3, none⟩ = false := by simp
        have s1 : (wr.alloc (.cells #[.int .i64 xk, .int .i64 xn, .string xt, .slice aa x.list.length ca] 59)).heap.size = wr.heap.size + 1 := by simp
        have ia1 := ia.keep b1
        generalize wr.alloc (.cells #[.int .i64 xk, .int .i64 xn, .string xt, .slice aa x.list.length ca] 59) = W1 at *
        refine (HK.out _ ia1).mono ?_
        rintro e w2 ⟨u, rfl, hu, hb2⟩
        obtain ⟨ua, uc, rfl⟩ := hu.form
        have k0 : w2.cell? ⟨wr.heap.size, 0, none⟩ = some (.int .i64 xk) := (x1.keep hb2).2 0 (by simp)
        have k1 : w2.cell? ⟨wr.heap.size, 1, none⟩ = some (.int .i64 xn) := (x1.keep hb2).2 1 (by simp)
        have k2 : w2.cell? ⟨wr.heap.size, 2, none⟩ = some (.string xt) := (x1.keep hb2).2 2 (by simp)
        have k3 : w2.cell? ⟨wr.heap.size, 3, none⟩ = some (.slice aa x.list.length ca) := (x1.keep hb2).2 3 (by simp)
        have f2 : w2.frozen? ⟨wr.heap.size, 3, none⟩ = false := (hb2.frozen (p := ⟨wr.heap.size, 3, none⟩) (by show wr.heap.size < _; omega)).trans f1
        have hu3 := (hu.at' HL.out).but (But.of_set w2 wr.heap.size 3 (.slice ua x.list.length uc)) (fun g hg e => by have := Option.some.inj e; omega)
        have b3 : Below wr.heap.size wr (w2.setCell ⟨wr.heap.size, 3, none⟩ (.slice ua x.list.length uc)) := (Below.next b1 hb2).setCell (Nat.le_refl _) _
        clear x1 f1 ia1 ia hu HK b1 hb2 c0 c1 c2 c3
        obtain ⟨us, hus, how, hoks, hins⟩ := hown.keep b3
        generalize hLj : l.take j = lj at *
        have hjl : lj.length = j := by rw [← hLj, List.length_take]; omega
        have HJ : Hid (l.take j = lj ∧ lj.length = j) := ⟨hLj, hjl⟩
        have hlb : lj.length < 2513169434843 := by omega
        clear hLj hjl
        have hz3 : (w2.setCell ⟨wr.heap.size, 3, none⟩ (.slice ua x.list.length uc)).heap.size = w2.heap.size := by simp [World.setCell]
        have hnb := heap_alloc_new (w2.setCell ⟨wr.heap.size, 3, none⟩ (.slice ua x.list.length uc)) (.cells #[.int .i64 xk, .int .i64 xn, .string xt, .slice ua x.list.length uc] 59)
        rw [hz3] at hnb
        have HN : Hid (∀ j u, [Value.int .i64 xk, .int .i64 xn, .string xt, .slice ua x.list.length uc][j]? = some u → ((w2.setCell ⟨wr.heap.size, 3, none⟩ (.slice ua x.list.length uc)).alloc (.cells #[.int .i64 xk, .int .i64 xn, .string xt, .slice ua x.list.length uc] 59)).cell? ((⟨w2.heap.size, 0, none⟩ : Addr).add j) = some u) := World.news_of_block hnb
        have H3 : Hid ((w2.setCell ⟨wr.heap.size, 3, none⟩ (.slice ua x.list.length uc)).heap.size = w2.heap.size) := hz3
        clear hnb hz3
        go_wp2_with (first
          | (at_builtin; refine wpList_append_lies _ rfl _ _ 26 rfl w.heap.size 59 i0 (.agg #[.int .i64 0, .int .i64 0, .string ⟨#[]⟩, .slice none 0 0]) 4 56 Tryd.underlying26 hi hz0 hz1 hz2 rfl (by decide) _ _ _ rfl (how.alloc _) ⟨w2.heap.size, 0, none⟩ 1 1 [.int .i64 xk, .int .i64 xn, .string xt, .slice ua x.list.length uc] rfl rfl ?c1 ?c2 ?c3 ?c4 ?c5 ?c6 (w2.heap.size + 1) ?c7 ?_))
        case c1 => exact HN.out
        case c2 => intro u hu; simp at hu; rcases hu with rfl | rfl | rfl | rfl <;> rfl
        case c3 => decide
        case c4 => unfold maxLen; omega
        case c5 => omega
        case c6 => have := hbl.size; have := b3.size; have := H3.out; simp; omega
        case c7 => have := H3.out; simp
        intro g' cap' w5 hown5 hgrow hat hlg
        have hbk := hown.blk
        have n4 := below_new (w2.setCell ⟨wr.heap.size, 3, none⟩ (.slice ua x.list.length uc)) (.cells #[.int .i64 xk, .int .i64 xn, .string xt, .slice ua x.list.length uc] 59)
        have hsz1 := hbl.size
        have HB : Hid (Below w.heap.size w w5) := (Below.next (Below.next hbl b3) n4).grown hgrow (by have := (Below.next (Below.next hbl b3) n4).size; omega) (fun k hk => (hbk k hk).1)
        have HF : Hid (ItsOwn w5 w.heap.size (.slice (some ⟨g', 0, none⟩) (lj.length + 1) cap') (l.take (j + 1))) := by
          show ItsOwn _ _ _ _
          rw [HT.out]
          obtain ⟨rfl, rfl, rfl⟩ := HX.out
          refine push_own (w4 := (w2.setCell ⟨wr.heap.size, 3, none⟩ (.slice ua x.list.length uc)).alloc (.cells #[.int .i64 x.kind, .int .i64 x.num, .string x.text, .slice ua x.list.length uc] 59)) (H := w2.heap.size + 1) hus hoks (fun i h h' => ?_) HO.out ?_ hown5 hgrow hat (by have := H3.out; simp)
          · exact ((hins i h h').keep n4).imp fun k hk => ⟨hk.1, hk.2.1, Nat.lt_of_lt_of_le hk.2.2 n4.size⟩
          · refine (hu3.keep n4).lt.imp fun k hk => ⟨by omega, fun e => ?_, hk.2⟩
            have := (hbk k e.symm).2
            omega
        clear hown5 hgrow hat hlg hu3 b3 n4 hins hoks hown how hbl hbk HN H3 k0 k1 k2 k3 f2
        go_wp2_with fail
        have hjl := HJ.out.2
        go_roundw
        case rel => exact ⟨j + 1, by omega, by go_num, HF.out, HB.out⟩
        case measure => simp [intOf]; omega
      · have hke : j = l.length := by omega
        have HF : Hid (ItsOwn wr w.heap.size u3 l) := by
          have := hown
          rwa [List.take_of_length_le (by omega)] at this
        clear h0 h1 h2 h3 hin hok IH hk ha hown
        subst hke
        go_wp2_with fail
        go_ret
        exact ⟨_, rfl, HF.out, hbl⟩

end Go.Proofs.YtddhjnfcbpookaaDoor
