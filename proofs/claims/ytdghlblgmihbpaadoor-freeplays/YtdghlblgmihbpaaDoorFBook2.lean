import Derived.Test.YtdghlblgmihbpaaDoorFTook
import Derived.Deep.RegionHeld3
import Derived.Deep.DeepCutAuto
import Derived.Deep.CutBlock
namespace Go.Proofs.YtdghlblgmihbpaaDoor
open Go.RowKit

theorem set_blk {w : World} {g : Nat} {cur : Array Value} {t : TypeId} {f : Nat × Nat} (h : w.heap[g]? = some (.cells cur t f)) (o : Nat) (v : Value) : (w.setCell ⟨g, o, none⟩ v).heap[g]? = some (.cells (cur.setIfInBounds o v) t f) := by
  unfold World.setCell
  simp only [Array.getElem?_modify, if_pos, h, Option.map_some]
  simp
def BookNew (P : Nat) (w : World) (e : Ending) (w' : World) : Prop := ∃ b g c, e = .returned (.pointer (some ⟨b, 0, none⟩)) ∧ w.heap.size ≤ b ∧ w.heap.size ≤ g ∧ BookR w' b g c P (T0 P) ∧ Below w.heap.size w w'
set_option maxRecDepth 100000 in
set_option maxHeartbeats 1000000 in
theorem book_any (P : Nat) (w : World) (h4 : 4 ≤ P) (hP : P ≤ 1048576) :
    Calls Tryd.prog 22 #[.int .i64 (P : Int)] w fun e w' => BookNew P w e w' := by
  obtain ⟨i0, hi, hz0, hz1, hz2⟩ := info_parts info4
  have HT0 : Hid (∀ k, k < P → T0 P k = decide ((k : Int) < 2)) := fun k hk => by
    unfold T0
    by_cases h : k < 2
    · simp [h]; omega
    · simp [h]; omega
  have H0 : Hid ((w.alloc (.cells #[.slice none 0 0] 76)).heap[w.heap.size]? = some (.cells #[.slice none 0 0] 76 (0, 0))) := heap_alloc_new w _
  have HB0 := hide (below_new w (.cells #[.slice none 0 0] 76))
  go_enter Tryd.func22, Tryd.ntmps22
  go_wp2_with fail
  go_loopw [4] (fun i wr => ∃ (k : Nat) (a : Option Addr) (c : Nat), k ≤ P ∧ i = .int .i64 k ∧ wr.heap[w.heap.size]? = some (.cells #[.slice a k c] 76 (0, 0)) ∧ wr.ownsRow (w.heap.size + 1) 4 1 (.slice a k c) k (bls (T0 P) k) ∧ Below w.heap.size w wr ∧ w.heap.size + 1 ≤ wr.heap.size) (fun i _ => P - (intOf i).toNat)
  case atStart => exact ⟨0, none, 0, Nat.zero_le _, rfl, H0.out, World.ownsRow_nil _ _ _ _, HB0.out, by simp⟩
  case round =>
    obtain ⟨k, a, c, hk, rfl, hblk, hown, hbw, hsz⟩ := hrel
    by_cases hlt : k < P
    · have c0 : wr.cell? ⟨w.heap.size, 0, none⟩ = some (.slice a k c) := cell_of_row wr _ 0 _ _ _ hblk
      have hkI : (k : Int) < (P : Int) := by omega
      have HT := hide (HT0.out k hlt)
      have HOW := hide hown
      have HBW := hide hbw
      have HBL := hide hblk
      have HSZ := hide hsz
      clear hown hbw hblk hsz
      go_wp2_with (first
        | (at_builtin; refine wpList_append_lies _ rfl _ _ 74 rfl (w.heap.size + 1) 4 i0 (.bool false) 1 1 Tryd.underlying74 hi hz0 hz1 hz2 rfl (by decide) _ _ _ rfl (HOW.out.alloc _) ⟨wr.heap.size, 0, none⟩ 1 1 [.bool (decide ((k : Int) < 2))] rfl rfl ?c1 ?c2 ?c3 ?c4 ?c5 ?c6 (wr.heap.size + 1) ?c7 ?_))
      case c1 =>
        intro j u hj
        match j, hj with
        | 0, hj => simp at hj; subst hj; simp [Addr.add]
      case c2 => intro u hu; simp at hu; subst hu; rfl
      case c3 => decide
      case c4 => unfold maxLen; omega
      case c5 => omega
      case c6 => have := HSZ.out; simp; omega
      case c7 => simp
      intro g' cap w1 hown' hgrow hat hlg
      have hblk1 : w1.heap[w.heap.size]? = some (.cells #[.slice a k c] 76 (0, 0)) := by
        rw [hgrow.block w.heap.size (by have := HSZ.out; simp; omega) (fun e => by have := (owns_blk HOW.out w.heap.size e.symm).1; omega), Below.heap_alloc _ _ _ (by have := HSZ.out; omega)]
        exact HBL.out
      have HB1 : Hid (Below w.heap.size w w1) := (HBW.out.alloc HBW.out.size _).grown hgrow (by have := HBW.out.size; simp; omega) (fun j hj => by have := (HOW.out.lt j hj).1; omega)
      have HO2 : Hid (w1.ownsRow (w.heap.size + 1) 4 1 (.slice (some ⟨g', 0, none⟩) (k + 1) cap) (k + 1) (bls (T0 P) (k + 1))) := by
        show World.ownsRow _ _ _ _ _ _ _
        rw [bls_succ, HT.out]; exact hown'
      have c0' : w1.cell? ⟨w.heap.size, 0, none⟩ = some (.slice a k c) := cell_of_row w1 _ 0 _ _ _ hblk1
      have cz : w1.frozen? ⟨w.heap.size, 0, none⟩ = false := by
        unfold World.frozen?
        rw [show w1.heap[(⟨w.heap.size, 0, none⟩ : Addr).block]? = _ from hblk1]
        simp
      have HBL2 : Hid ((w1.setCell ⟨w.heap.size, 0, none⟩ (.slice (some ⟨g', 0, none⟩) (k + 1) cap)).heap[w.heap.size]? = some (.cells #[.slice (some ⟨g', 0, none⟩) (k + 1) cap] 76 (0, 0))) := by
        exact set_blk hblk1 0 _
      have HO3 : Hid ((w1.setCell ⟨w.heap.size, 0, none⟩ (.slice (some ⟨g', 0, none⟩) (k + 1) cap)).ownsRow (w.heap.size + 1) 4 1 (.slice (some ⟨g', 0, none⟩) (k + 1) cap) (k + 1) (bls (T0 P) (k + 1))) :=
        owns_only HO2.out (Only.set (F := fun k => k = w.heap.size) rfl _ _ _) (fun j hj e => by have := (owns_blk HO2.out j hj).1; have : j = w.heap.size := e; omega)
      have HB3 : Hid (Below w.heap.size w (w1.setCell ⟨w.heap.size, 0, none⟩ (.slice (some ⟨g', 0, none⟩) (k + 1) cap))) := HB1.out.setCell (Nat.le_refl _) _
      have HS3 : Hid (w.heap.size + 1 ≤ (w1.setCell ⟨w.heap.size, 0, none⟩ (.slice (some ⟨g', 0, none⟩) (k + 1) cap)).heap.size) := by
        show _ ≤ _
        have := lt_of_heap hblk1
        simp [World.setCell]; omega
      clear hown' hgrow hat hlg HOW HBW HBL HSZ hblk1 HB1 HO2 c0
      go_wp2
      go_roundw
      case rel => exact ⟨k + 1, _, _, by omega, by go_num, HBL2.out, HO3.out, HB3.out, HS3.out⟩
      case measure => simp [intOf]; omega
    · have hke : k = P := by omega
      have hkI : ¬ (k : Int) < (P : Int) := by omega
      subst hke
      have HOW := hide hown
      have HBW := hide hbw
      have HBL := hide hblk
      clear hown hbw hblk hsz
      go_wp2
      go_ret
      obtain ⟨a', c', he, hs⟩ := owns_form HOW.out
      simp only [Value.slice.injEq] at he
      obtain ⟨rfl, -, rfl⟩ := he
      obtain ⟨g', rfl⟩ := hs (by omega)
      exact ⟨_, g', c, rfl, Nat.le_refl _, by have := (owns_blk HOW.out g' rfl).1; omega, ⟨HBL.out, owns_weak HOW.out (Nat.zero_le _)⟩, HBW.out⟩

set_option maxRecDepth 100000 in
set_option maxHeartbeats 4000000 in
theorem agrees_any (b g c bm gm P : Nat) (T : Nat → Bool) (w : World) (h : BookR w b g c P T) (hm : MapR w bm gm P T) (hok : MapOk P T) :
    Calls Tryd.prog 23 #[.pointer (some ⟨b, 0, none⟩), .pointer (some ⟨bm, 0, none⟩)] w fun e w' => e = .returned (.bool true) ∧ Below w.heap.size w w' := by
  have hP := hok.hi
  have H := hide h
  have HM := hide hm
  have HOK := hide hok
  have c0 := h.c0
  clear h hm hok
  go_enter Tryd.func23, Tryd.ntmps23
  go_wp2_with fail
  go_loopw [5] (fun i wr => ∃ k : Nat, k ≤ P ∧ i = .int .i64 k ∧ Below w.heap.size w wr) (fun i _ => P - (intOf i).toNat)
  case atStart => exact ⟨0, Nat.zero_le _, rfl, Below.refl _ _⟩
  case round =>
    obtain ⟨k, hk, rfl, hbw⟩ := hrel
    have c0 := (H.out.below hbw).c0
    have HBW := hide hbw
    by_cases hlt : k < P
    · have ck := (H.out.below hbw).cr k hlt
      have hbX : Below wr.heap.size wr wr.drew := (Below.refl _ _).drew
      have HBX := hide (Below.next hbw hbX)
      have U := hide (used_any bm gm P T k wr.drew ((HM.out.below hbw).below hbX))
      have hub : usedB P T (k : Int) = T k := by simp [usedB]; omega
      rw [hub] at U
      have hkI : (k : Int) < (P : Int) := by omega
      have k0I : (0 : Int) ≤ (k : Int) := by omega
      have hne : (T k != T k) = false := by simp
      have HC : Hid (∀ X, Below w.heap.size w X → X.cell? ⟨b, 0, none⟩ = some (.slice (some ⟨g, 0, none⟩) P c) ∧ X.cell? ⟨g, k, none⟩ = some (.bool (T k))) := fun X hX => ⟨(H.out.below hX).c0, (H.out.below hX).cr k hlt⟩
      generalize T k = u at *
      clear hbw hbX hub
      go_upto_region 4 with fail
      go_cut [25] (fun u wx => u = .bool false ∧ Below w.heap.size w wx)
      case first =>
        go_region_held3 (fun w' => w'.cell? ⟨b, 0, none⟩ = some (.slice (some ⟨g, 0, none⟩) P c) ∧ w'.cell? ⟨g, k, none⟩ = some (.bool u)) (go_keep)
          (first
            | (go_at_call 12; refine U.out.mono ?_; rintro e W1 ⟨rfl, hb1⟩
               have HB1 := hide (Below.next HBX.out hb1)
               have c0 := (HC.out W1 HB1.out).1
               have ck := (HC.out W1 HB1.out).2
               clear hb1))
        all_goals
          go_wp2_with fail
          go_meet
        all_goals exact ⟨rfl, HB1.out⟩
      case rest =>
        obtain ⟨rfl, hb2⟩ := hcut
        have HB2 := hide hb2
        clear hb2 U HBX HC c0 ck
        go_wp2
        go_roundw
        case rel => exact ⟨k + 1, by omega, by go_num, HB2.out⟩
        case measure => simp [intOf]; omega
    · have hkI : ¬ (k : Int) < (P : Int) := by omega
      have HQ : Hid (Below w.heap.size w wr.drew) := hbw.drew
      have D1 : Hid (∀ X, Below w.heap.size w X → Calls Tryd.prog 18 #[.pointer (some ⟨bm, 0, none⟩)] X fun e w' => e = .returned (.int .i64 ((frl T P).length : Nat)) ∧ X = w') := fun X hX => free_any bm gm P T X (HM.out.below hX) HOK.out
      have D2 : Hid (∀ X, Below w.heap.size w X → Calls Tryd.prog 39 #[.pointer (some ⟨b, 0, none⟩)] X fun e w' => e = .returned (.int .i64 ((frl T P).length : Nat)) ∧ X = w') := fun X hX => count_any b g c P T X (H.out.below hX) HOK.out.hi
      have D3 : Hid (∀ X, Below w.heap.size w X → Calls Tryd.prog 11 #[.pointer (some ⟨bm, 0, none⟩)] X fun e w' => e = .returned (.int .i64 P) ∧ X = w') := fun X hX => size_any bm gm P T X (HM.out.below hX)
      have D4 : Hid (∀ X id, Below w.heap.size w X → Calls Tryd.prog 12 #[.pointer (some ⟨bm, 0, none⟩), .int .i64 id] X fun e w' => e = .returned (.bool (usedB P T id)) ∧ Below X.heap.size X w') := fun X id hX => used_any bm gm P T id X (HM.out.below hX)
      have hu1 : usedB P T (-1) = false := by simp [usedB]
      have hu2 : usedB P T (P : Int) = false := by simp [usedB]
      have HCB : Hid (∀ X, Below w.heap.size w X → X.cell? ⟨b, 0, none⟩ = some (.slice (some ⟨g, 0, none⟩) P c)) := fun X hX => (H.out.below hX).c0
      generalize (frl T P).length = fl at *
      have hff : ((fl : Int) == (fl : Int)) = true := by simp
      have hpp : ((P : Int) == (P : Int)) = true := by simp
      clear hbw
      go_upto_region 6 with fail
      go_cut [4] (fun u wx => u = .bool true ∧ Below w.heap.size w wx)
      case first =>
        go_region_held3 (fun w' => w'.cell? ⟨b, 0, none⟩ = some (.slice (some ⟨g, 0, none⟩) P c)) (go_keep)
          (first
            | (go_at_call 18; refine (D1.out _ HQ.out).mono ?_; rintro e W1 ⟨rfl, rfl⟩)
            | (go_at_call 39; refine (D2.out _ HQ.out).mono ?_; rintro e W1 ⟨rfl, rfl⟩)
            | (go_at_call 11; refine (D3.out _ HQ.out).mono ?_; rintro e W1 ⟨rfl, rfl⟩)
            | (go_at_call 12; refine (D4.out _ _ HQ.out).mono ?_; rintro e W1 ⟨rfl, hb1⟩; have HQ := hide (Below.next HQ.out hb1); have c0 := HCB.out W1 HQ.out; clear hb1))
        all_goals
          go_wp2_with fail
          go_meet
        all_goals exact ⟨rfl, HQ.out⟩
      case rest =>
        obtain ⟨rfl, hb2⟩ := hcut
        have HB2 := hide hb2
        clear hb2 D1 D2 D3 D4 HCB HQ c0
        go_wp2
        go_ret
        exact ⟨rfl, HB2.out⟩

end Go.Proofs.YtdghlblgmihbpaaDoor
