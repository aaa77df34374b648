import Derived.Test.YtiihnoohodklhaaDoorFDat
import Derived.Test.YtiihnoohodklhaaDoorDSm2
import Derived.Deep.RegionHeld3
import Derived.Deep.RegionLaw
import Derived.BigQuiet
namespace Go.Proofs.YtiihnoohodklhaaDoor
open Go.RowKit
attribute [local go_sem ↓] Go.wp_at_zero Go.wp_at_succ

set_option maxHeartbeats 8000000 in
theorem fcopy_any (v : Value) (l : List Ch) (w : World) (hok : OkC l) (hm : (l.length + 1) * 56 ≤ 140737488355328) (hr : ChR w v l) :
    Calls Tryd.prog 11 #[v] w fun e w' => ∃ v', e = .returned v' ∧ ChO w' w.heap.size v' l ∧ Below w.heap.size w w' := by
  obtain ⟨a, cap, hv⟩ := hr.form
  subst hv
  obtain ⟨n, hn⟩ : ∃ n, n = l.length := ⟨_, rfl⟩
  rw [← hn] at hr hm ⊢
  have hmn : n ≤ 140737488355328 := by omega
  have HR := hide hr
  have HN := hide hn
  have HOK := hide hok
  obtain ⟨Q, hQ⟩ : ∃ Q : Ending → World → Prop, Q = fun e w' => ∃ v', e = .returned v' ∧ ChO w' w.heap.size v' l ∧ Below w.heap.size w w' := ⟨_, rfl⟩
  rw [← hQ]
  have HQ := hide hQ
  clear hn hr hQ hok
  go_enter Tryd.func11, Tryd.ntmps11
  go_wp2
  go_loopw [3, 8] (fun c i wr => ∃ (k : Nat) (x : Option Addr) (d : Nat), k ≤ n ∧ i = .int .i64 k ∧ c = .slice x k d ∧ ChO wr w.heap.size (.slice x k d) (l.take k) ∧ Below w.heap.size w wr) (fun _ i _ => n - (intOf i).toNat)
  case atStart => exact ⟨0, none, 0, Nat.zero_le _, rfl, rfl, ChO.nil _ _, Below.refl _ _⟩
  case round =>
    obtain ⟨k, x, d, hk, rfl, rfl, hown, hbw⟩ := hrel
    by_cases hlt : k < n
    · have hkl : k < l.length := by have := HN.out; omega
      obtain ⟨a9, cap9, he, _, _, hc⟩ := HR.out.below hbw
      obtain ⟨g, o, ha, c0, c1, c2, c3, c4⟩ := hc k (by have := HN.out; omega)
      obtain ⟨rfl, -, rfl⟩ : a = a9 ∧ n = l.length ∧ cap = cap9 := by simpa using he
      subst ha
      have HTK : Hid (l.take (k + 1) = l.take k ++ [l[k]]) := by show _ = _; rw [List.take_add_one, List.getElem?_eq_getElem hkl]; rfl
      have hk1 := HOK.out l[k] (List.getElem_mem _)
      obtain ⟨p, hp⟩ : ∃ p, p = l[k] := ⟨_, rfl⟩
      rw [← hp] at c0 c1 c2 c3 c4 hk1 HTK
      obtain ⟨key, had, has, old, new⟩ := p
      simp only at c0 c1 c2 c3 c4 hk1
      have HC1 := hide (fun W => sclone_any key W (by omega))
      have HC2 := hide (fun W => sclone_any old W (by omega))
      have HC3 := hide (fun W => sclone_any new W (by omega))
      have hltI : (k : Int) < (n : Int) := by omega
      have j0 : (0 : Int) ≤ (k : Int) := by omega
      have HB := hide hbw
      have HOW := hide hown
      clear hp hbw hc he hown hk1
      go_wp2_with fail
      obtain ⟨W1, hW1⟩ : ∃ W1, wr.alloc (.cells #[.string key, .bool had, .bool has, .string old, .string new] 39) = W1 := ⟨_, rfl⟩
      have x1 : Bx5 W1 wr.heap.size key ⟨had, has, old, new⟩ := by rw [← hW1]; exact World.alloc_heap_new wr _
      have hb1 : Below wr.heap.size wr W1 := by rw [← hW1]; exact below_new wr _
      have HX1 := hide x1
      have HB1 := hide hb1
      rw [hW1]
      clear c0 c1 c2 c3 c4 hb1 hW1
      obtain ⟨c0, c1, c2, c3, c4⟩ := x1.cells
      clear x1
      go_region_with (first
        | (go_at_call_of 21 (Value.string key); refine (HC1.out _).mono ?_; rintro e w6 ⟨rfl, hg⟩; have HB6 : Hid (Below W1.heap.size W1 w6) := (by (first | exact Below.next HB6.out hg | exact ⟨hg.os, hg.tape, hg.output, hg.size, hg.block⟩)); obtain ⟨c0, c1, c2, c3, c4⟩ := (HX1.out.bel HB6.out).cells; have f0 := (HX1.out.bel HB6.out).frz 0; have f3 := (HX1.out.bel HB6.out).frz 3; have f4 := (HX1.out.bel HB6.out).frz 4; clear hg)
        | (go_at_call_of 21 (Value.string old); refine (HC2.out _).mono ?_; rintro e w6 ⟨rfl, hg⟩; have HB6 : Hid (Below W1.heap.size W1 w6) := (by (first | exact Below.next HB6.out hg | exact ⟨hg.os, hg.tape, hg.output, hg.size, hg.block⟩)); obtain ⟨c0, c1, c2, c3, c4⟩ := (HX1.out.bel HB6.out).cells; have f0 := (HX1.out.bel HB6.out).frz 0; have f3 := (HX1.out.bel HB6.out).frz 3; have f4 := (HX1.out.bel HB6.out).frz 4; clear hg)
        | (go_at_call_of 21 (Value.string new); refine (HC3.out _).mono ?_; rintro e w6 ⟨rfl, hg⟩; have HB6 : Hid (Below W1.heap.size W1 w6) := (by (first | exact Below.next HB6.out hg | exact ⟨hg.os, hg.tape, hg.output, hg.size, hg.block⟩)); obtain ⟨c0, c1, c2, c3, c4⟩ := (HX1.out.bel HB6.out).cells; have f0 := (HX1.out.bel HB6.out).frz 0; have f3 := (HX1.out.bel HB6.out).frz 3; have f4 := (HX1.out.bel HB6.out).frz 4; clear hg))
      all_goals
        have q1 := (HX1.out.bel HB6.out).set
        have HB7 := hide ((((Below.next HB1.out HB6.out).setCell (p := ⟨wr.heap.size, 0, none⟩) (Nat.le_refl _) (.string key)).setCell (p := ⟨wr.heap.size, 3, none⟩) (Nat.le_refl _) (.string old)).setCell (p := ⟨wr.heap.size, 4, none⟩) (Nat.le_refl _) (.string new))
        clear c0 c1 c2 c3 c4 f0 f3 f4
        simp only at q1
        generalize ((w6.setCell ⟨wr.heap.size, 0, none⟩ (Value.string key)).setCell ⟨wr.heap.size, 3, none⟩ (Value.string old)).setCell ⟨wr.heap.size, 4, none⟩ (Value.string new) = V at *
        obtain ⟨c0, c1, c2, c3, c4⟩ := q1.cells
        have hlk : (l.take k).length = k := by rw [List.length_take]; omega
        have HBV := hide (Below.next HB.out HB7.out)
        obtain ⟨a2, d2, W8, hrun, hown8, hgr⟩ := push_chs w.heap.size (.slice x k d) (l.take k) (key, ⟨had, has, old, new⟩) 39 V k hlk (HOW.out.below HB7.out) (by omega) HBV.out.size
        have hrun' : (Builtin.append_ #[23, 23] 23 #[.slice x k d, .slice (some ⟨V.heap.size, 0, none⟩) 1 1]).run Tryd.prog (V.alloc (.cells #[.string key, .bool had, .bool has, .string old, .string new] 39)) = .ok (.slice a2 (k + 1) d2) W8 := hrun
        have HRUN := hide hrun'
        have HO8 := hide hown8
        have HB8 := hide ((HBV.out.alloc HBV.out.size _).grown hgr (Nat.le_trans HBV.out.size (below_new V _).size) (fun q hq => (World.ownsRow.lt (HOW.out.below HB7.out) q hq).1))
        clear hrun hrun' hown8 hgr hlk q1 HB6 HB7 HX1 HB1
        go_wp2_with (first | (at_builtin; refine wpList_append_run 23 rfl _ _ rfl rfl _ _ rfl rfl _ _ HRUN.out ?_))
        go_wp2
        go_roundw
        case rel => exact ⟨k + 1, a2, d2, by omega, by go_num, rfl, by rw [HTK.out]; exact HO8.out, HB8.out⟩
        case measure => simp [intOf]; omega
    · have hltI : ¬ (k : Int) < (n : Int) := by omega
      have hkn : k = n := by omega
      subst hkn
      have HALL : Hid (l.take k = l) := by show _ = _; rw [HN.out]; exact List.take_length
      have HOW : Hid (ChO wr w.heap.size (.slice x k d) l) := by show ChO _ _ _ _; rw [← HALL.out]; exact hown
      have HB := hide hbw
      clear hbw hown
      go_wp2
      rw [HQ.out]
      exact ⟨_, rfl, HOW.out, HB.out⟩
end Go.Proofs.YtiihnoohodklhaaDoor
