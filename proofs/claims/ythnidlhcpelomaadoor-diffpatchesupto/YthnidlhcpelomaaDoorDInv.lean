import Derived.Test.YthnidlhcpelomaaDoorDStep2
namespace Go.Proofs.YthnidlhcpelomaaDoor
open Go.RowKit
attribute [local go_sem ↓] Go.wp_at_zero Go.wp_at_succ

theorem inv_take (l : List Ch) (q : Nat) (h : q < l.length) : invertD (l.take (q + 1)) = invertD (l.take q) ++ [(l[q].1, invV l[q].2)] := by
  unfold invertD
  rw [List.take_succ_eq_append_getElem h, List.map_append]
  rfl
set_option maxHeartbeats 4000000 in
theorem invert_any (v : Value) (l : List Ch) (w : World) (hR : ChR w v l) (hok : OkC l) (hn : (l.length + 1) * 56 ≤ 140737488355328) :
    Calls Tryd.prog 18 #[v] w fun e w' => ∃ v', e = .returned v' ∧ ChO w' w.heap.size v' (invertD l) ∧ Below w.heap.size w w' := by
  obtain ⟨a, c, rfl⟩ := hR.form
  obtain ⟨n, hnl⟩ : ∃ n, n = l.length := ⟨_, rfl⟩
  rw [← hnl] at hR hn ⊢
  have hm : n ≤ 140737488355328 := by omega
  have HR := hide hR
  have HOK := hide hok
  have HN := hide hn
  have HNL := hide hnl
  have HC : Hid (∀ (k : ByteArray) (x : ChV) W, k.size ≤ 140737488355328 → x.old.size ≤ 140737488355328 → x.new.size ≤ 140737488355328 → Calls Tryd.prog 39 #[.agg #[.string k, .bool x.has, .bool x.had, .string x.new, .string x.old]] W fun e w' => e = .returned (.agg #[.string k, .bool x.has, .bool x.had, .string x.new, .string x.old]) ∧ Below W.heap.size W w') := fun k x W h1 h2 h3 => copyof_any k (invV x) W h1 h3 h2
  obtain ⟨Q, hQ⟩ : ∃ Q : Ending → World → Prop, Q = fun e w' => ∃ v', e = .returned v' ∧ ChO w' w.heap.size v' (invertD l) ∧ Below w.heap.size w w' := ⟨_, rfl⟩
  rw [← hQ]
  have HQ := hide hQ
  clear hQ hR hok hn hnl
  go_enter Tryd.func18, Tryd.ntmps18
  go_wp2
  go_loopw [3, 8] (fun x i wr => ∃ (q : Nat) (a' : Option Addr) (c' : Nat), q ≤ n ∧ i = .int .i64 (q : Int) ∧ x = .slice a' q c' ∧ ChO wr w.heap.size x (invertD (l.take q)) ∧ Below w.heap.size w wr) (fun _ i _ => n - (intOf i).toNat)
  case atStart => exact ⟨0, none, 0, Nat.zero_le _, rfl, rfl, ChO.nil _ _, Below.refl _ _⟩
  case round =>
    obtain ⟨q, a', c', hq, rfl, rfl, hown, hb⟩ := hrel
    have HO := hide hown
    have HB := hide hb
    clear hown hb
    by_cases hlt : q < n
    · have j1 : (q : Int) < (n : Int) := by omega
      have j0 : (0 : Int) ≤ (q : Int) := by omega
      have hql : q < l.length := by have := HNL.out; omega
      obtain ⟨a'', cap, he, hle, hnl', hc⟩ := HR.out.below HB.out
      cases he
      obtain ⟨g, o, rfl, hch⟩ := hc q hql
      clear hc hnl'
      obtain ⟨k, x, hkx⟩ : ∃ k x, l[q] = (k, x) := ⟨_, _, rfl⟩
      rw [hkx] at hch
      have HKX := hide hkx
      have hokq := HOK.out l[q] (List.getElem_mem hql)
      rw [hkx] at hokq
      have HOKQ := hide hokq
      have HTK := hide (inv_take l q hql)
      clear hokq
      obtain ⟨W1, hW1⟩ : ∃ W1, wr.alloc (.cells #[.string ⟨#[]⟩, .bool false, .bool false, .string ⟨#[]⟩, .string ⟨#[]⟩] 44) = W1 := ⟨_, rfl⟩
      have x2 : Bx5 W1 wr.heap.size ⟨#[]⟩ ⟨false, false, ⟨#[]⟩, ⟨#[]⟩⟩ := by rw [← hW1]; exact World.alloc_heap_new wr _
      have HB1 : Hid (Below wr.heap.size wr W1) := by rw [← hW1]; exact (Below.refl _ wr).alloc (Nat.le_refl _) _
      have HX2 := hide x2
      have HLT := hide hlt
      have HHK := hide hkx
      obtain ⟨c0, c1, c2, c3, c4⟩ := hch
      obtain ⟨e0, e1, e2, e3, e4⟩ := x2.cells
      have f0 := x2.frz 0
      have f1 := x2.frz 1
      have f2 := x2.frz 2
      have f3 := x2.frz 3
      have f4 := x2.frz 4
      simp only at c0 c1 c2 c3 c4 e0 e1 e2 e3 e4
      clear x2 hkx
      go_upto_region 5 with fail
      have q1 := HX2.out.all k x
      have HB2 := hide (((((HB1.out.setCell (p := ⟨wr.heap.size, 0, none⟩) (Nat.le_refl _) (.string k)).setCell (p := ⟨wr.heap.size, 1, none⟩) (Nat.le_refl _) (.bool x.had)).setCell (p := ⟨wr.heap.size, 2, none⟩) (Nat.le_refl _) (.bool x.has)).setCell (p := ⟨wr.heap.size, 3, none⟩) (Nat.le_refl _) (.string x.old)).setCell (p := ⟨wr.heap.size, 4, none⟩) (Nat.le_refl _) (.string x.new))
      clear c0 c1 c2 c3 c4 e0 e1 e2 e3 e4 f0 f1 f2 f3 f4 hW1 HX2 HB1
      generalize ((((W1.setCell ⟨wr.heap.size, 0, none⟩ (.string k)).setCell ⟨wr.heap.size, 1, none⟩ (.bool x.had)).setCell ⟨wr.heap.size, 2, none⟩ (.bool x.has)).setCell ⟨wr.heap.size, 3, none⟩ (.string x.old)).setCell ⟨wr.heap.size, 4, none⟩ (.string x.new) = V at *
      obtain ⟨c0, c1, c2, c3, c4⟩ := q1.cells
      clear q1
      have HCK : Hid (Calls Tryd.prog 39 #[.agg #[.string k, .bool x.has, .bool x.had, .string x.new, .string x.old]] V fun e w' => e = .returned (.agg #[.string k, .bool x.has, .bool x.had, .string x.new, .string x.old]) ∧ Below V.heap.size V w') := HC.out k x V HOKQ.out.1 HOKQ.out.2.1 HOKQ.out.2.2
      have HLQ : Hid ((invertD (l.take q)).length = q) := by show (List.map _ _).length = q; rw [List.length_map, List.length_take]; have := HLT.out; omega
      go_wp2_with fail
      refine HCK.out.mono ?_
      rintro e W3 ⟨rfl, hb3⟩
      have HB3 := hide (Below.next (Below.next HB.out HB2.out) hb3)
      obtain ⟨a3, c3', W4, hrun, hown1, hgr⟩ := push_chs w.heap.size _ (invertD (l.take q)) (k, invV x) 44 W3 q HLQ.out ((HO.out.below HB2.out).below hb3) (by have := HN.out; have := HLT.out; omega) HB3.out.size
      simp only [chC, invV] at hrun hgr
      have HO1 := hide hown1
      have HG := hide hgr
      clear hown1 hgr hb3 c0 c1 c2 c3 c4 HCK
      go_wp2_with (first | (at_builtin; refine wpList_append_run 23 rfl (.tmp 12) (.tmp 25) rfl rfl _ _ rfl rfl _ _ hrun ?_))
      clear hrun
      have HBF : Hid (Below w.heap.size w W4) := bel_but HB3.out (((But.refl w.heap.size (fun _ => true) W3).alloc _).grown HG.out (fun b o hb ho => ⟨(HO.out.blk b hb).1, rfl⟩)) (Nat.le_refl _)
      go_wp2
      go_roundw
      case rel => exact ⟨q + 1, a3, c3', HLT.out, by go_num, rfl, by rw [HTK.out, HKX.out]; exact HO1.out, HBF.out⟩
      case measure => have := HLT.out; simp [intOf]; omega
    · obtain rfl : q = n := by omega
      have HE : Hid (l.take q = l) := by have := HNL.out; rw [this]; exact List.take_length
      go_wp2
      rw [HQ.out]
      refine ⟨_, rfl, ?_, HB.out⟩
      have := HO.out
      rw [HE.out] at this
      exact this
end Go.Proofs.YthnidlhcpelomaaDoor
