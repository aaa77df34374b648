import Derived.Test.YtmifadjgmjnkgaaDoorRRead
import Derived.Test.YtmifadjgmjnkgaaDoorNum2
import Derived.Test.YtmifadjgmjnkgaaDoorShEql
import Derived.Deep.DeepCutAuto
import Derived.BigQuiet
namespace Go.Proofs.YtmifadjgmjnkgaaDoor
open Go.RowKit

def mk5 (i : Nat) : UInt8 := UInt8.ofNat (90 + i % 5)
def mks5 (k : Nat) : List UInt8 := (List.range k).map mk5
theorem mk5_toNat (i : Nat) : (mk5 i).toNat = 90 + i % 5 := by
  unfold mk5
  simp only [UInt8.toNat_ofNat']
  omega
theorem mks5_succ (k : Nat) : mks5 (k + 1) = mks5 k ++ [mk5 k] := by simp [mks5, List.range_succ]
theorem mks5_len (k : Nat) : (mks5 k).length = k := by simp [mks5]
theorem one_in' (w : World) (x : UInt8) (v : Int) (hv : v = (x.toNat : Int)) : ∀ j (h : j < ([x] : List UInt8).length), (w.alloc (.cells #[.int .u8 v] 5)).cell? ⟨w.heap.size, 0 + j, none⟩ = some (.int .u8 ((([x] : List UInt8)[j]).toNat : Int)) := by
  subst hv; exact one_in w x
theorem all5_get (s : ByteArray) (k : Nat) (h : k < s.size) (h2 : k < (s.data.toList ++ mks5 64).length) : (s.data.toList ++ mks5 64)[k] = s[k] := by
  rw [List.getElem_append_left (by simpa using h)]; rfl
theorem all5_get2 (s : ByteArray) (k : Nat) (h : s.size ≤ k) (h2 : k < (s.data.toList ++ mks5 64).length) : (s.data.toList ++ mks5 64)[k] = mk5 (k - s.size) := by
  rw [List.getElem_append_right (by simpa using h)]
  simp [mks5]
theorem all5_len (s : ByteArray) : (s.data.toList ++ mks5 64).length = s.size + 64 := by simp [mks5]

theorem zrow {w w2 : World} (hb : Below (w.alloc (.cells #[.int .i64 0, .int .i64 0, .int .u64 0, .int .i64 0, .string ⟨#[]⟩] 31)).drew.heap.size (w.alloc (.cells #[.int .i64 0, .int .i64 0, .int .u64 0, .int .i64 0, .string ⟨#[]⟩] 31)).drew w2) : w2.heap[w.heap.size]? = some (.cells #[.int .i64 0, .int .i64 0, .int .u64 0, .int .i64 0, .string ⟨#[]⟩] 31 (0, 0)) := by
  rw [hb.block w.heap.size (by show _ < (w.alloc (.cells #[.int .i64 0, .int .i64 0, .int .u64 0, .int .i64 0, .string ⟨#[]⟩] 31)).heap.size; simp)]
  exact heap_alloc_new w _
theorem rowfacts {w : World} {b : Nat} {u0 u1 u2 u3 u4 : Value} {t : TypeId} (h : w.heap[b]? = some (.cells #[u0, u1, u2, u3, u4] t (0, 0))) :
    (w.cell? ⟨b, 0, none⟩ = some u0 ∧ w.cell? ⟨b, 1, none⟩ = some u1 ∧ w.cell? ⟨b, 2, none⟩ = some u2 ∧ w.cell? ⟨b, 3, none⟩ = some u3 ∧ w.cell? ⟨b, 4, none⟩ = some u4) ∧
    (w.frozen? ⟨b, 0, none⟩ = false ∧ w.frozen? ⟨b, 1, none⟩ = false ∧ w.frozen? ⟨b, 2, none⟩ = false ∧ w.frozen? ⟨b, 3, none⟩ = false ∧ w.frozen? ⟨b, 4, none⟩ = false) := by
  refine ⟨⟨?_, ?_, ?_, ?_, ?_⟩, ⟨frozen_of_row _ _ _ _ _ h, frozen_of_row _ _ _ _ _ h, frozen_of_row _ _ _ _ _ h, frozen_of_row _ _ _ _ _ h, frozen_of_row _ _ _ _ _ h⟩⟩
  all_goals rw [cell_of_row _ _ _ _ _ _ h]; rfl

theorem rdb_of_rd {w : World} {v : Value} {l : List UInt8} (h : Rd w v l) : RdB w v l := by
  rcases h with h | ⟨g, cap, hv, h1, h2, h3, h4⟩
  · exact .inl h
  · exact .inr ⟨g, cap, hv, h1, Nat.le_trans h2 (by decide), h3, h4⟩
theorem zrow' {w w2 : World} (hb : Below (w.alloc (.cells #[.int .i64 0, .int .i64 0, .int .u64 0, .int .i64 0, .string ⟨#[]⟩] 31)).heap.size (w.alloc (.cells #[.int .i64 0, .int .i64 0, .int .u64 0, .int .i64 0, .string ⟨#[]⟩] 31)) w2) : w2.heap[w.heap.size]? = some (.cells #[.int .i64 0, .int .i64 0, .int .u64 0, .int .i64 0, .string ⟨#[]⟩] 31 (0, 0)) := by
  rw [hb.block w.heap.size (by simp)]
  exact heap_alloc_new w _

theorem row_lt {w : World} {b : Nat} {o : Obj} (h : w.heap[b]? = some o) : b < w.heap.size := (Array.getElem?_eq_some_iff.1 h).1
theorem u8s_set5 (q : List UInt8) (j : Nat) (d : UInt8) : (u8s q).set j (.int .u8 (d.toNat : Int)) = u8s (q.set j d) := by
  simp [u8s, List.map_set]
/-- A byte of each of two rows is written anew. -/
theorem two_sets {w : World} {b1 b2 g gq n m cap capq k : Nat} {L P : List UInt8} (d : UInt8) (hL : w.ownsRow b1 5 1 (.slice (some ⟨g, 0, none⟩) n cap) n (u8s L)) (hP : w.ownsRow b2 5 1 (.slice (some ⟨gq, 0, none⟩) m capq) m (u8s P)) (hne : g ≠ gq) :
    ((w.setCell ⟨g, k, none⟩ (.int .u8 (d.toNat : Int))).setCell ⟨gq, k, none⟩ (.int .u8 (d.toNat : Int))).ownsRow b1 5 1 (.slice (some ⟨g, 0, none⟩) n cap) n (u8s (L.set k d)) ∧
    ((w.setCell ⟨g, k, none⟩ (.int .u8 (d.toNat : Int))).setCell ⟨gq, k, none⟩ (.int .u8 (d.toNat : Int))).ownsRow b2 5 1 (.slice (some ⟨gq, 0, none⟩) m capq) m (u8s (P.set k d)) := by
  have R1 := hL.stored k (.int .u8 (d.toNat : Int))
  have hP1 := hP.kept R1.2 (.inr (by simp [Value.ownBlock]; omega))
  have R2 := hP1.stored k (.int .u8 (d.toNat : Int))
  have hL2 := R1.1.kept R2.2 (.inr (by simp [Value.ownBlock]; omega))
  have R3 := R2.1
  rw [u8s_set5] at hL2 R3
  exact ⟨hL2, R3⟩
theorem row_sets {w : World} {b g gq k : Nat} {o : Obj} {u v : Value} (h : w.heap[b]? = some o) (h1 : b ≠ g) (h2 : b ≠ gq) : ((w.setCell ⟨g, k, none⟩ u).setCell ⟨gq, k, none⟩ v).heap[b]? = some o := by
  rw [Below.heap_setCell _ _ _ _ (fun e => h2 e), Below.heap_setCell _ _ _ _ (fun e => h1 e)]; exact h
theorem five_other {w : World} {b b' : Nat} {o : Obj} {u0 u1 u2 u3 u4 : Value} (h : w.heap[b']? = some o) (hne : b' ≠ b) : (((((w.setCell ⟨b, 0, none⟩ u0).setCell ⟨b, 1, none⟩ u1).setCell ⟨b, 2, none⟩ u2).setCell ⟨b, 3, none⟩ u3).setCell ⟨b, 4, none⟩ u4).heap[b']? = some o := by
  rw [Below.heap_setCell _ _ _ _ (fun e => hne e), Below.heap_setCell _ _ _ _ (fun e => hne e), Below.heap_setCell _ _ _ _ (fun e => hne e), Below.heap_setCell _ _ _ _ (fun e => hne e), Below.heap_setCell _ _ _ _ (fun e => hne e)]; exact h
theorem five_sole {w : World} {b : Nat} {u0 u1 u2 u3 u4 : Value} : Sole b w (((((w.setCell ⟨b, 0, none⟩ u0).setCell ⟨b, 1, none⟩ u1).setCell ⟨b, 2, none⟩ u2).setCell ⟨b, 3, none⟩ u3).setCell ⟨b, 4, none⟩ u4) :=
  ((((Sole.set b 0 w u0).trans (Sole.set b 1 _ u1)).trans (Sole.set b 2 _ u2)).trans (Sole.set b 3 _ u3)).trans (Sole.set b 4 _ u4)
theorem Boxed.sole {b rb : Nat} {cs : List Value} {w w' : World} (h : Boxed b cs w) (hs : Sole rb w w') (hn : b ≠ rb) : Boxed b cs w' :=
  ⟨Nat.lt_of_lt_of_le h.1 hs.size, fun j hj => hs.cell (h.2 j hj) hn⟩
theorem RdB.sole {rb : Nat} {w w' : World} {v : Value} {l : List UInt8} (h : RdB w v l) (hs : Sole rb w w') (hn : ∀ g, v.ownBlock = some g → g ≠ rb) : RdB w' v l := by
  rcases h with h | ⟨g, cap, hv, h1, h2, h3, h4⟩
  · exact .inl h
  · exact .inr ⟨g, cap, hv, h1, h2, Nat.lt_of_lt_of_le h3 hs.size, fun j hj => hs.cell (h4 j hj) (hn g (by rw [hv]; rfl))⟩
theorem set_take (l r : List UInt8) (m : Nat) (d : UInt8) (hm : m < l.length) : (l ++ r).set m d = l.set m d ++ r := List.set_append_left _ _ hm

/-- Both answers are one: the program's and the document's. -/
theorem both_read (A : Nat → Addr) (l : List UInt8) (id : Int) : ∃ (v0 v1 v2 v3 : Int) (v4 : ByteArray) (E : Value) (F : Int), readV (A 1) l id = #[.agg #[.int .i64 v0, .int .i64 v1, .int .u64 v2, .int .i64 v3, .string v4], E] ∧
    rreadV l id = #[.agg #[.int .i64 v0, .int .i64 v1, .int .u64 v2, .int .i64 v3, .string v4], .int .i64 F] ∧ (∀ w, ErrsAt A w → Calls Tryd.prog 17 #[E] w fun e w' => e = .returned (.int .i64 F) ∧ w = w') := by
  by_cases h : okRead l id
  · exact ⟨_, _, _, _, _, _, _, readV_ok h, rreadV_ok h, fun w _ => num_nil w⟩
  · exact ⟨_, _, _, _, _, _, _, readV_no h, rreadV_no h, fun w hA => num_text A w hA⟩

set_option maxRecDepth 100000 in
set_option maxHeartbeats 4000000 in
theorem reads_any (A : Nat → Addr) (s : ByteArray) (id : Int) (w : World) (hs : s.size ≤ 140737488351232) (_h1 : -9223372036854775808 ≤ id) (_h2 : id ≤ 9223372036854775807) (hL : Lay w) (hT : Tab w) (hA : ErrsAt A w) :
    Calls Tryd.prog 7 #[.agg #[.string s, .int .i64 id]] w fun e w' => e = .returned (.bool true) ∧ Below w.heap.size w w' := by
  have HL := hide hL
  have HT := hide hT
  have HA := hide hA
  have HX : Hid (Boxed w.heap.size [.string s, .int .i64 id] (w.alloc (.cells #[.string s, .int .i64 id] 60))) := boxed_new w _ _
  have HB := hide (below_new w (.cells #[.string s, .int .i64 id] 60))
  have c0 : (w.alloc (.cells #[.string s, .int .i64 id] 60)).cell? ⟨w.heap.size, 0, none⟩ = some (.string s) := HX.out.2 0 (by simp)
  have hsI : (s.size : Int) ≤ 140737488351232 := by omega
  clear hL hT hA _h1 _h2
  go_enter Tryd.func7, Tryd.ntmps7
  go_wp2_with fail
  clear c0
  generalize w.alloc (.cells #[.string s, .int .i64 id] 60) = W0 at *
  have HW0 : Hid (w.heap.size < W0.heap.size) := HX.out.1
  refine (bytes_any s _ (by omega)).mono ?_
  rintro e w1 ⟨v1, rfl, hown1, hb1⟩
  have HX1 := hide (HX.out.below hb1)
  have HB1 : Hid (Below W0.heap.size W0 w1) := hb1
  have HO1 := hide hown1
  clear hown1 hb1
  go_wp2_with fail
  go_loopw [4, 5] (fun v u5 wr => ∃ j : Nat, j ≤ 64 ∧ u5 = .int .i64 j ∧ wr.ownsRow W0.heap.size 5 1 v (s.size + j) (u8s (s.data.toList ++ mks5 j)) ∧ Below W0.heap.size W0 wr) (fun _ u5 _ => 64 - (intOf u5).toNat)
  case atStart => exact ⟨0, Nat.zero_le _, rfl, by simpa [mks5] using HO1.out, HB1.out⟩
  case round =>
    obtain ⟨j, hj, rfl, hown, hbr⟩ := hrel
    have HO := hide hown
    have HBR := hide hbr
    clear hown hbr HO1 HX1 HB1
    by_cases hlt : j < 64
    · have HMK : Hid ((90 + (j : Int) % 5) = ((mk5 j).toNat : Int)) := by show _ = _; rw [mk5_toNat]; omega
      go_wp2_with (at_builtin; refine wpList_app_bytes rfl _ _ rfl W0.heap.size (s.size + j) 1 _ wr.heap.size 0 _ _ [mk5 j] rfl rfl (HO.out.alloc _) rfl (one_in' wr (mk5 j) _ HMK.out) (by decide) (by omega) (by have := HBR.out.size; simp; omega) ?_; intro g12 cap12 w12 HO12 HG12; have HB12 : Hid (Below W0.heap.size W0 w12) := (HBR.out.alloc HBR.out.size _).trans HG12.out; clear HO HBR HG12)
      go_roundw
      case rel => exact ⟨j + 1, by omega, by go_num, by rw [mks5_succ, ← List.append_assoc, ← Nat.add_assoc]; exact HO12.out, HB12.out⟩
      case measure => simp [intOf]; omega
    · have hje : j = 64 := by omega
      subst hje
      rw [show ((64 : Nat) : Int) = 64 from rfl]
      obtain ⟨g, cap, rfl, hgb, hglt⟩ := HO.out.form (by omega)
      have hcap : s.size + 64 ≤ cap ∧ cap ≤ 9223372036854775807 := by
        rcases HO.out.2 with ⟨h', _⟩ | ⟨g', cap', cur, h', _, _, hn', hc', _, _⟩
        · cases h'
        · cases h'; exact ⟨hn', hc'⟩
      have i1 : (0 : Int) ≤ (s.size : Int) := by omega
      have i2 : (s.size : Int) ≤ (cap : Int) := by omega
      have HXR := hide (HX.out.low HBR.out HW0.out)
      have c1 : wr.cell? ⟨w.heap.size, 1, none⟩ = some (.int .i64 id) := HXR.out.2 1 (by simp)
      have HBW : Hid (Below w.heap.size w wr) := HB.out.trans (HBR.out.mono (Nat.le_of_lt HW0.out))
      have HRD : Hid (∀ W, Below wr.heap.size wr W → RdB W (.slice (some ⟨g, 0, none⟩) s.size cap) s.data.toList) := fun W hb => .inr ⟨g, cap, by rw [bsize], by rw [bsize]; omega, hcap.2, Nat.lt_of_lt_of_le hglt hb.size, fun j hj => by
        rw [hb.cell (p := ⟨g, j, none⟩) hglt, HO.out.cellAt j (by rw [bsize] at hj; omega), u8s_get _ j (by rw [all5_len]; rw [bsize] at hj; omega), List.getElem_append_left hj]⟩
      obtain ⟨v0, v1, v2, v3, v4, E, F, hrv, hrr, hnum⟩ := both_read A s.data.toList id
      have HRR : Hid (rreadV s.data.toList id = #[.agg #[.int .i64 v0, .int .i64 v1, .int .u64 v2, .int .i64 v3, .string v4], .int .i64 F]) := hrr
      have HNUM := hide hnum
      have HRV : Hid (readV (A 1) s.data.toList id = #[.agg #[.int .i64 v0, .int .i64 v1, .int .u64 v2, .int .i64 v3, .string v4], E]) := hrv
      have HREAD : Hid (∀ W, Below wr.heap.size wr W → Calls Tryd.prog 18 #[.slice (some ⟨g, 0, none⟩) s.size cap, .int .i64 id] W fun e w' => e = .returned (.tuple #[.agg #[.int .i64 v0, .int .i64 v1, .int .u64 v2, .int .i64 v3, .string v4], E]) ∧ Below W.heap.size W w') := fun W hb => by
        have hbw := HBW.out.trans (hb.mono HBW.out.size)
        have h := read_any (A 1) _ s.data.toList id W (HRD.out W hb) (HL.out.below hbw) (HT.out.below hbw) ((HA.out.below hbw).1 1 (by decide)).1
        rw [HRV.out] at h
        exact h
      clear hrv hrr hnum
      go_upto_region 7 with fail
      go_cut [6, 7] (fun u6 u7 wx => ∃ bS, u6 = .pointer (some ⟨bS, 0, none⟩) ∧ u7 = E ∧ wr.heap.size ≤ bS ∧ wx.heap[bS]? = some (.cells #[.int .i64 v0, .int .i64 v1, .int .u64 v2, .int .i64 v3, .string v4] 31 (0, 0)) ∧ Below wr.heap.size wr wx)
      case first =>
        have hb0 : Below wr.heap.size wr wr.drew := (Below.refl _ _).drew
        have hb0a : ∀ o, Below wr.heap.size wr (wr.alloc o).drew := fun o => (below_new wr o).drew
        have hlw : w.heap.size < wr.heap.size := HXR.out.1
        have hneA : ¬ wr.heap.size = w.heap.size := by omega
        go_region_held3 (fun w' => w'.cell? ⟨w.heap.size, 1, none⟩ = some (.int .i64 id)) (go_keep)
          (first
            | (go_at_call 18; refine (HREAD.out _ (hb0a _)).mono ?_; rintro e w2 ⟨rfl, hb2⟩; have HB2 := hide hb2; have hq := hb2.cell (p := ⟨w.heap.size, 1, none⟩) (Nat.lt_of_lt_of_le hlw (hb0a _).size); have hzr := zrow hb2; have HZR := hide hzr; obtain ⟨⟨zc0, zc1, zc2, zc3, zc4⟩, ⟨zf0, zf1, zf2, zf3, zf4⟩⟩ := rowfacts hzr; clear hb2 hzr)
            | (go_at_call 18; refine (HREAD.out _ hb0).mono ?_; rintro e w2 ⟨rfl, hb2⟩; have HB2 := hide hb2; have hq := hb2.cell (p := ⟨w.heap.size, 1, none⟩) (Nat.lt_of_lt_of_le hlw hb0.size); have hneB : ¬ w2.heap.size = w.heap.size := Nat.ne_of_gt (Nat.lt_of_lt_of_le hlw (Nat.le_trans hb0.size hb2.size)); clear hb2))
        · go_wp2_with fail
          go_meet
          case rel => exact ⟨w2.heap.size, rfl, rfl, Nat.le_trans hb0.size HB2.out.size, heap_alloc_new w2 _, Below.next (Below.next hb0 HB2.out) (below_new w2 _)⟩
        · go_wp2_with fail
          go_meet
          case rel => exact ⟨wr.heap.size, rfl, rfl, Nat.le_refl _, set_five HZR.out, below_five (Below.next (hb0a _) HB2.out) (Nat.le_refl _)⟩
      case rest =>
        obtain ⟨bS, rfl, rfl, hbS, hrS, hbx⟩ := hcut
        have HXC := hide (HXR.out.below hbx)
        have HBC := hide (Below.next HBW.out hbx)
        have HOC := hide (owns_keep HO.out hbx)
        have HRS := hide hrS
        have HBX := hide hbx
        have hcells : ∀ j (h : j < (s.data.toList ++ mks5 64).length), wc.cell? ⟨g, j, none⟩ = some (.int .u8 ((s.data.toList ++ mks5 64)[j].toNat : Int)) := fun j hj => by
          rw [HOC.out.cellAt j (by rw [all5_len] at hj; omega), u8s_get _ j hj]
        have HCE := hide hcells
        have c0 : wc.cell? ⟨w.heap.size, 0, none⟩ = some (.string s) := HXC.out.2 0 (by simp)
        clear hrS hbx hcells c1
        go_wp2_with fail
        go_loopw [8] (fun u8 wq => ∃ k nq : Nat, k ≤ s.size + 64 ∧ u8 = .int .i64 k ∧ wq = wc.drewN nq) (fun u8 _ => s.size + 64 - (intOf u8).toNat)
        case atStart => exact ⟨0, 0, Nat.zero_le _, rfl, rfl⟩
        case round =>
          obtain ⟨k, nq, hk, rfl, rfl⟩ := hrel
          by_cases hlt2 : k < s.size + 64
          · by_cases hin : k < s.size
            · have h1 := HCE.out k (by rw [all5_len]; exact hlt2)
              rw [all5_get s k hin] at h1
              have hd : decide (s.size ≤ k) = false := decide_eq_false (by omega)
              go_wp2
              go_quiet (fail)
              go_wp2
              go_roundw
              case rel => exact ⟨k + 1, _, by omega, by go_num, rfl⟩
              case measure => simp [intOf]; omega
            · have h1 := HCE.out k (by rw [all5_len]; exact hlt2)
              rw [all5_get2 s k (by omega), mk5_toNat] at h1
              have hd : decide (k < s.size) = false := decide_eq_false (by omega)
              have hd2 : s.size ≤ k := by omega
              go_wp2
              go_quiet (fail)
              go_wp2
              go_roundw
              case rel => exact ⟨k + 1, _, by omega, by go_num, rfl⟩
              case measure => simp [intOf]; omega
          · have hbd : Below wc.heap.size wc (wc.drewN nq) := below_drewN (Below.refl _ _) nq
            have HXD := hide (HXC.out.below hbd)
            have HBD := hide (Below.next HBC.out hbd)
            have HOD := hide (owns_keep HOC.out hbd)
            have HRSD : Hid ((wc.drewN nq).heap[bS]? = some (.cells #[.int .i64 v0, .int .i64 v1, .int .u64 v2, .int .i64 v3, .string v4] 31 (0, 0))) := HRS.out
            have HBXD := hide (Below.next HBX.out hbd)
            clear hbd c0 HCE HRS HXC HBC HOC HBX
            generalize wc.drewN nq = wd at *
            have c0 : wd.cell? ⟨w.heap.size, 0, none⟩ = some (.string s) := HXD.out.2 0 (by simp)
            have c1 : wd.cell? ⟨w.heap.size, 1, none⟩ = some (.int .i64 id) := HXD.out.2 1 (by simp)
            have HBYT : Hid (∀ W, Calls Tryd.prog 22 #[.string s] W fun e w' => ∃ v, e = .returned v ∧ RdB w' v s.data.toList ∧ w'.ownsRow W.heap.size 5 1 v s.size (u8s s.data.toList) ∧ Below W.heap.size W w') := fun W => by
              refine (bytes_any s W (by omega)).mono ?_
              rintro e w' ⟨v, rfl, ho, hb⟩
              exact ⟨v, rfl, rdb_of_rd (rd_of_owns ho), ho, hb⟩
            have HRRD : Hid (∀ W v, RdB W v s.data.toList → Calls Tryd.prog 23 #[v, .int .i64 id] W fun e w' => e = .returned (.tuple #[.agg #[.int .i64 v0, .int .i64 v1, .int .u64 v2, .int .i64 v3, .string v4], .int .i64 F]) ∧ Below W.heap.size W w') := fun W v hr => by
              have h := rread_any v s.data.toList id W hr
              rw [HRR.out] at h
              exact h
            go_upto_region 13 with fail
            go_cut [9, 10] (fun u9 u10 wx => ∃ bT, u9 = .pointer (some ⟨bT, 0, none⟩) ∧ u10 = .int .i64 F ∧ wd.heap.size ≤ bT ∧ wx.heap[bT]? = some (.cells #[.int .i64 v0, .int .i64 v1, .int .u64 v2, .int .i64 v3, .string v4] 31 (0, 0)) ∧ Below wd.heap.size wd wx)
            case first =>
              have hb0 : Below wd.heap.size wd wd.drew := (Below.refl _ _).drew
              have hb0a : ∀ o, Below wd.heap.size wd (wd.alloc o).drew := fun o => (below_new wd o).drew
              have hlw : w.heap.size < wd.heap.size := HXD.out.1
              have hneA : ¬ wd.heap.size = w.heap.size := by omega
              go_region_held3 (fun w' => w'.cell? ⟨w.heap.size, 0, none⟩ = some (.string s) ∧ w'.cell? ⟨w.heap.size, 1, none⟩ = some (.int .i64 id)) (go_keep)
                (first
                  | (go_at_call 22; refine (HBYT.out (wd.alloc (.cells #[.int .i64 0, .int .i64 0, .int .u64 0, .int .i64 0, .string ⟨#[]⟩] 31)).drew).mono ?_; rintro e w2 ⟨x2, rfl, hrd2, _, hb2⟩; have HRD2 := hide hrd2; have HB2 : Hid (Below wd.heap.size wd w2) := Below.next (hb0a _) hb2; have hq0 := hb2.cell (p := ⟨w.heap.size, 0, none⟩) (Nat.lt_of_lt_of_le hlw (hb0a _).size); have hq1 := hb2.cell (p := ⟨w.heap.size, 1, none⟩) (Nat.lt_of_lt_of_le hlw (hb0a _).size); have HZ2 := hide (zrow hb2); clear hb2 hrd2)
                  | (go_at_call 22; refine (HBYT.out wd.drew).mono ?_; rintro e w2 ⟨x2, rfl, hrd2, _, hb2⟩; have HRD2 := hide hrd2; have HB2 : Hid (Below wd.heap.size wd w2) := Below.next hb0 hb2; have hq0 := hb2.cell (p := ⟨w.heap.size, 0, none⟩) (Nat.lt_of_lt_of_le hlw hb0.size); have hq1 := hb2.cell (p := ⟨w.heap.size, 1, none⟩) (Nat.lt_of_lt_of_le hlw hb0.size); have hneB : ¬ w2.heap.size = w.heap.size := Nat.ne_of_gt (Nat.lt_of_lt_of_le hlw HB2.out.size); have HNZ : Hid (wd.heap.size ≤ w2.heap.size) := HB2.out.size; clear hb2 hrd2)
                  | (go_at_call 23; refine (HRRD.out (w2.alloc (.cells #[.int .i64 0, .int .i64 0, .int .u64 0, .int .i64 0, .string ⟨#[]⟩] 31)) x2 (HRD2.out.below (below_new w2 _))).mono ?_; rintro e w3 ⟨rfl, hb3⟩; have HB3 : Hid (Below wd.heap.size wd w3) := Below.next (Below.next HB2.out (below_new w2 _)) hb3; have hr0 := hb3.cell (p := ⟨w.heap.size, 0, none⟩) (Nat.lt_of_lt_of_le hlw (Nat.le_trans HB2.out.size (below_new w2 _).size)); have hr1 := hb3.cell (p := ⟨w.heap.size, 1, none⟩) (Nat.lt_of_lt_of_le hlw (Nat.le_trans HB2.out.size (below_new w2 _).size)); have hzr := zrow' hb3; have HZ3 := hide hzr; have HNZ3 : Hid (wd.heap.size ≤ w2.heap.size) := HNZ.out; obtain ⟨⟨zc0, zc1, zc2, zc3, zc4⟩, ⟨zf0, zf1, zf2, zf3, zf4⟩⟩ := rowfacts hzr; clear hb3 hzr)
                  | (go_at_call 23; refine (HRRD.out w2 x2 HRD2.out).mono ?_; rintro e w3 ⟨rfl, hb3⟩; have HB3 : Hid (Below wd.heap.size wd w3) := Below.next HB2.out hb3; have hr0 := hb3.cell (p := ⟨w.heap.size, 0, none⟩) (Nat.lt_of_lt_of_le hlw HB2.out.size); have hr1 := hb3.cell (p := ⟨w.heap.size, 1, none⟩) (Nat.lt_of_lt_of_le hlw HB2.out.size); have hzr : w3.heap[wd.heap.size]? = some (.cells #[.int .i64 0, .int .i64 0, .int .u64 0, .int .i64 0, .string ⟨#[]⟩] 31 (0, 0)) := (hb3.block wd.heap.size (by rcases Nat.lt_or_ge wd.heap.size w2.heap.size with h' | h'; exact h'; (have := HZ2.out; rw [Array.getElem?_eq_none h'] at this; cases this))).trans HZ2.out; have HZA := hide hzr; obtain ⟨⟨zc0, zc1, zc2, zc3, zc4⟩, ⟨zf0, zf1, zf2, zf3, zf4⟩⟩ := rowfacts hzr; clear hb3 hzr)
                  | (go_at_call 23; refine (HRRD.out w2 x2 HRD2.out).mono ?_; rintro e w3 ⟨rfl, hb3⟩; have HB3 : Hid (Below wd.heap.size wd w3) := Below.next HB2.out hb3; have hr0 := hb3.cell (p := ⟨w.heap.size, 0, none⟩) (Nat.lt_of_lt_of_le hlw HB2.out.size); have hr1 := hb3.cell (p := ⟨w.heap.size, 1, none⟩) (Nat.lt_of_lt_of_le hlw HB2.out.size); have hneC : ¬ w3.heap.size = w.heap.size := Nat.ne_of_gt (Nat.lt_of_lt_of_le hlw HB3.out.size); clear hb3))
              · go_wp2_with fail
                go_meet
                case rel => exact ⟨w3.heap.size, rfl, rfl, HB3.out.size, heap_alloc_new w3 _, Below.next HB3.out (below_new w3 _)⟩
              · go_wp2_with fail
                go_meet
                case rel => exact ⟨w2.heap.size, rfl, rfl, HNZ3.out, set_five HZ3.out, below_five HB3.out HNZ3.out⟩
              · go_wp2_with fail
                go_meet
                case rel => exact ⟨wd.heap.size, rfl, rfl, Nat.le_refl _, set_five HZA.out, below_five HB3.out (Nat.le_refl _)⟩
            case rest =>
              obtain ⟨bT, rfl, rfl, hbT, hrT, hbx⟩ := hcut
              have HXE := hide (HXD.out.below hbx)
              have HBE := hide (Below.next HBD.out hbx)
              have HOE := hide (owns_keep HOD.out hbx)
              have HSL : Hid (bS < wd.heap.size) := row_lt HRSD.out
              have HRSE : Hid (wc.heap[bS]? = some (.cells #[.int .i64 v0, .int .i64 v1, .int .u64 v2, .int .i64 v3, .string v4] 31 (0, 0))) := (hbx.block bS HSL.out).trans HRSD.out
              have HRTE := hide hrT
              have HTB := hide hbT
              obtain ⟨⟨s0, s1, s2, s3, s4⟩, _⟩ := rowfacts HRSE.out
              obtain ⟨⟨t0, t1, t2, t3, t4⟩, _⟩ := rowfacts hrT
              have heq : ∀ w, (binOp .eql 31 (.agg #[.int .i64 v0, .int .i64 v1, .int .u64 v2, .int .i64 v3, .string v4]) (.agg #[.int .i64 v0, .int .i64 v1, .int .u64 v2, .int .i64 v3, .string v4])).run Tryd.prog w = .ok (.bool true) w := fun w => sh_self w v0 v1 v2 v3 v4
              have hneq : ∀ w, (binOp .neq 31 (.agg #[.int .i64 v0, .int .i64 v1, .int .u64 v2, .int .i64 v3, .string v4]) (.agg #[.int .i64 v0, .int .i64 v1, .int .u64 v2, .int .i64 v3, .string v4])).run Tryd.prog w = .ok (.bool false) w := fun w => sh_nself w v0 v1 v2 v3 v4
              have hFF : ((F : Int) != F) = false := by simp
              have hFE : ((F : Int) == F) = true := by simp
              clear hbx hrT hbT HXD HBD HOD HRSD c0 c1
              go_wp2_with fail
              refine (HNUM.out _ (HA.out.below HBE.out)).mono ?_
              rintro e wc' ⟨rfl, rfl⟩
              by_cases hz : s.size = 0
              · have hzz : ((s.size : Int) == 0) = true := beq_iff_eq.2 (by omega)
                clear hz
                go_wp2_with fail
                refine (HNUM.out _ (HA.out.below HBE.out)).mono ?_
                rintro e wc' ⟨rfl, rfl⟩
                go_wp2_with fail
                go_ret
                exact ⟨rfl, HBE.out⟩
              · have hzz : ((s.size : Int) == 0) = false := beq_eq_false_iff_ne.2 (by omega)
                have hpos : 0 < s.size := by omega
                clear hz s0 s1 s2 s3 s4 t0 t1 t2 t3 t4
                have c0 : wc.cell? ⟨w.heap.size, 0, none⟩ = some (.string s) := HXE.out.2 0 (by simp)
                obtain ⟨⟨s0, s1, s2, s3, s4⟩, _⟩ := rowfacts HRSE.out
                obtain ⟨⟨t0, t1, t2, t3, t4⟩, _⟩ := rowfacts HRTE.out
                go_wp2_with fail
                refine (HBYT.out _).mono ?_
                rintro e w5 ⟨vq, rfl, _, hoq, hb5⟩
                obtain ⟨gq, capq, rfl, hgq, hgq2⟩ := hoq.form hpos
                have HX5 := hide (HXE.out.below hb5)
                have HB5 := hide (Below.next HBE.out hb5)
                have HO5 := hide (owns_keep HOE.out hb5)
                have HQ5 := hide hoq
                have HTL : Hid (bT < wc.heap.size) := row_lt HRTE.out
                have HSC : Hid (bS < wc.heap.size) := row_lt HRSE.out
                have HRS5 : Hid (w5.heap[bS]? = some (.cells #[.int .i64 v0, .int .i64 v1, .int .u64 v2, .int .i64 v3, .string v4] 31 (0, 0))) := (hb5.block bS HSC.out).trans HRSE.out
                have HRT5 : Hid (w5.heap[bT]? = some (.cells #[.int .i64 v0, .int .i64 v1, .int .u64 v2, .int .i64 v3, .string v4] 31 (0, 0))) := (hb5.block bT HTL.out).trans HRTE.out
                have hgne : g ≠ gq := by have := hglt; have := HSL.out; have := HSC.out; omega
                have HORD : Hid (w.heap.size < g ∧ g < bS ∧ bS < bT ∧ bT < gq) := by
                  have h1 := HW0.out; have h2 := HSL.out; have h3 := HTB.out; have h4 := HTL.out
                  exact ⟨by omega, by omega, by omega, by omega⟩
                have hm : s.size / 2 < s.size := by omega
                obtain ⟨ch, hch⟩ : ∃ c : Nat, c = (s[s.size / 2]).toNat := ⟨_, rfl⟩
                have hc256 : ch < 256 := by rw [hch]; exact UInt8.toNat_lt _
                have hcL : w5.cell? ⟨g, s.size / 2, none⟩ = some (.int .u8 (ch : Int)) := by
                  rw [HO5.out.cellAt _ (by omega), u8s_get _ _ (by rw [all5_len]; omega), all5_get s _ hm, hch]
                have hcQ : w5.cell? ⟨gq, s.size / 2, none⟩ = some (.int .u8 (ch : Int)) := by
                  rw [HQ5.out.cellAt _ (by omega), u8s_get _ _ (by rw [bsize]; exact hm), hch]; rfl
                have hfL : w5.frozen? ⟨g, s.size / 2, none⟩ = false := HO5.out.frozenAt _
                have hfQ : w5.frozen? ⟨gq, s.size / 2, none⟩ = false := HQ5.out.frozenAt _
                obtain ⟨d, hd⟩ : ∃ d : UInt8, d = s[s.size / 2] + 1 := ⟨_, rfl⟩
                have hde : ((ch : Int) + 1) % 256 = (d.toNat : Int) := by
                  rw [hd, UInt8.toNat_add, hch]
                  have : (1 : UInt8).toNat = 1 := rfl
                  rw [this]; omega
                clear hch hd
                have HTS := hide (two_sets (k := s.size / 2) d HO5.out HQ5.out hgne)
                clear hoq hb5 c0 HXE HBE HOE HRSE HRTE s0 s1 s2 s3 s4 t0 t1 t2 t3 t4 heq hneq hFF hFE
                go_upto_region 19 with fail
                have HX6 : Hid (Boxed w.heap.size [.string s, .int .i64 id] ((w5.setCell ⟨g, s.size / 2, none⟩ (.int .u8 (d.toNat : Int))).setCell ⟨gq, s.size / 2, none⟩ (.int .u8 (d.toNat : Int)))) := (HX5.out.sole (Sole.set g _ w5 _) (by have := HORD.out; omega)).sole (Sole.set gq _ _ _) (by have := HORD.out; omega)
                have HB6 : Hid (Below w.heap.size w ((w5.setCell ⟨g, s.size / 2, none⟩ (.int .u8 (d.toNat : Int))).setCell ⟨gq, s.size / 2, none⟩ (.int .u8 (d.toNat : Int)))) := (HB5.out.setCell (by have := HORD.out; show _ ≤ g; omega) _).setCell (by have := HORD.out; show _ ≤ gq; omega) _
                have HRS6 : Hid (((w5.setCell ⟨g, s.size / 2, none⟩ (.int .u8 (d.toNat : Int))).setCell ⟨gq, s.size / 2, none⟩ (.int .u8 (d.toNat : Int))).heap[bS]? = some (.cells #[.int .i64 v0, .int .i64 v1, .int .u64 v2, .int .i64 v3, .string v4] 31 (0, 0))) := row_sets HRS5.out (by have := HORD.out; omega) (by have := HORD.out; omega)
                have HRT6 : Hid (((w5.setCell ⟨g, s.size / 2, none⟩ (.int .u8 (d.toNat : Int))).setCell ⟨gq, s.size / 2, none⟩ (.int .u8 (d.toNat : Int))).heap[bT]? = some (.cells #[.int .i64 v0, .int .i64 v1, .int .u64 v2, .int .i64 v3, .string v4] 31 (0, 0))) := row_sets HRT5.out (by have := HORD.out; omega) (by have := HORD.out; omega)
                have HS2 : Hid ((s.data.toList.set (s.size / 2) d).length = s.size) := by show _ = _; rw [List.length_set, bsize]
                have HRL : Hid (RdB ((w5.setCell ⟨g, s.size / 2, none⟩ (.int .u8 (d.toNat : Int))).setCell ⟨gq, s.size / 2, none⟩ (.int .u8 (d.toNat : Int))) (.slice (some ⟨g, 0, none⟩) s.size cap) (s.data.toList.set (s.size / 2) d)) := by
                  have h := HTS.out.1
                  rw [set_take _ _ _ _ (by rw [bsize]; exact hm)] at h
                  exact .inr ⟨g, cap, by rw [HS2.out], by rw [HS2.out]; omega, hcap.2, (h.lt g rfl).2, fun j hj => by
                    have hj' := hj
                    rw [HS2.out] at hj'
                    rw [h.cellAt j (by omega), u8s_get _ j (by rw [List.length_append]; omega), List.getElem_append_left hj]⟩
                have HRQ : Hid (RdB ((w5.setCell ⟨g, s.size / 2, none⟩ (.int .u8 (d.toNat : Int))).setCell ⟨gq, s.size / 2, none⟩ (.int .u8 (d.toNat : Int))) (.slice (some ⟨gq, 0, none⟩) s.size capq) (s.data.toList.set (s.size / 2) d)) := rdb_of_rd (rd_of_owns HTS.out.2)
                obtain ⟨x0, x1, x2, x3, x4, E2, F2, hrv, hrr, hnum⟩ := both_read A (s.data.toList.set (s.size / 2) d) id
                have HRR2 : Hid (rreadV (s.data.toList.set (s.size / 2) d) id = #[.agg #[.int .i64 x0, .int .i64 x1, .int .u64 x2, .int .i64 x3, .string x4], .int .i64 F2]) := hrr
                have HNUM2 := hide hnum
                have HRV2 : Hid (readV (A 1) (s.data.toList.set (s.size / 2) d) id = #[.agg #[.int .i64 x0, .int .i64 x1, .int .u64 x2, .int .i64 x3, .string x4], E2]) := hrv
                clear hrv hrr hnum HTS hcL hcQ hfL hfQ hde HX5 HB5 HO5 HQ5 HRS5 HRT5 HRR HNUM HRV HREAD HRD HRRD HBYT
                generalize (s.data.toList.set (s.size / 2) d) = S2 at *
                generalize ((w5.setCell ⟨g, s.size / 2, none⟩ (.int .u8 (d.toNat : Int))).setCell ⟨gq, s.size / 2, none⟩ (.int .u8 (d.toNat : Int))) = w6 at *
                have c1 : w6.cell? ⟨w.heap.size, 1, none⟩ = some (.int .i64 id) := HX6.out.2 1 (by simp)
                have hneS : ¬ bS = w.heap.size := by have := HORD.out; omega
                have HREAD : Hid (Calls Tryd.prog 18 #[.slice (some ⟨g, 0, none⟩) s.size cap, .int .i64 id] w6.drew fun e w' => e = .returned (.tuple #[.agg #[.int .i64 x0, .int .i64 x1, .int .u64 x2, .int .i64 x3, .string x4], E2]) ∧ Below w6.heap.size w6 w') := by
                  have hb : Below w.heap.size w w6.drew := HB6.out.drew
                  have hbd : Below w6.heap.size w6 w6.drew := (Below.refl _ _).drew
                  have h := read_any (A 1) _ S2 id w6.drew (HRL.out.below hbd) (HL.out.below hb) (HT.out.below hb) ((HA.out.below hb).1 1 (by decide)).1
                  rw [HRV2.out] at h
                  exact Calls.mono h (fun e w' hh => ⟨hh.1, Below.next hbd hh.2⟩)
                go_region_held3 (fun w' => w'.cell? ⟨w.heap.size, 1, none⟩ = some (.int .i64 id)) (go_keep)
                  (first
                    | (go_at_call 18; refine Calls.mono HREAD.out ?_; rintro e w7 ⟨rfl, hb7⟩; have HB7 := hide hb7; have hq := hb7.cell (p := ⟨w.heap.size, 1, none⟩) HX6.out.1; have hr7 := (hb7.block bS (row_lt HRS6.out)).trans HRS6.out; have HR7 := hide hr7; obtain ⟨⟨zc0, zc1, zc2, zc3, zc4⟩, ⟨zf0, zf1, zf2, zf3, zf4⟩⟩ := rowfacts hr7; clear hb7 hr7))
                have HBW7 := hide (Below.next HB6.out HB7.out)
                have HX8 : Hid (Boxed w.heap.size [.string s, .int .i64 id] (((((w7.setCell ⟨bS, 0, none⟩ (.int .i64 x0)).setCell ⟨bS, 1, none⟩ (.int .i64 x1)).setCell ⟨bS, 2, none⟩ (.int .u64 x2)).setCell ⟨bS, 3, none⟩ (.int .i64 x3)).setCell ⟨bS, 4, none⟩ (.string x4))) := (HX6.out.below HB7.out).sole five_sole (by have := HORD.out; omega)
                have HB8 : Hid (Below w.heap.size w (((((w7.setCell ⟨bS, 0, none⟩ (.int .i64 x0)).setCell ⟨bS, 1, none⟩ (.int .i64 x1)).setCell ⟨bS, 2, none⟩ (.int .u64 x2)).setCell ⟨bS, 3, none⟩ (.int .i64 x3)).setCell ⟨bS, 4, none⟩ (.string x4))) := below_five HBW7.out (by have := HORD.out; omega)
                have HRS8 : Hid ((((((w7.setCell ⟨bS, 0, none⟩ (.int .i64 x0)).setCell ⟨bS, 1, none⟩ (.int .i64 x1)).setCell ⟨bS, 2, none⟩ (.int .u64 x2)).setCell ⟨bS, 3, none⟩ (.int .i64 x3)).setCell ⟨bS, 4, none⟩ (.string x4)).heap[bS]? = some (.cells #[.int .i64 x0, .int .i64 x1, .int .u64 x2, .int .i64 x3, .string x4] 31 (0, 0))) := set_five HR7.out
                have HRT8 : Hid ((((((w7.setCell ⟨bS, 0, none⟩ (.int .i64 x0)).setCell ⟨bS, 1, none⟩ (.int .i64 x1)).setCell ⟨bS, 2, none⟩ (.int .u64 x2)).setCell ⟨bS, 3, none⟩ (.int .i64 x3)).setCell ⟨bS, 4, none⟩ (.string x4)).heap[bT]? = some (.cells #[.int .i64 v0, .int .i64 v1, .int .u64 v2, .int .i64 v3, .string v4] 31 (0, 0))) := five_other ((HB7.out.block bT (row_lt HRT6.out)).trans HRT6.out) (by have := HORD.out; omega)
                have HRQ8 : Hid (RdB (((((w7.setCell ⟨bS, 0, none⟩ (.int .i64 x0)).setCell ⟨bS, 1, none⟩ (.int .i64 x1)).setCell ⟨bS, 2, none⟩ (.int .u64 x2)).setCell ⟨bS, 3, none⟩ (.int .i64 x3)).setCell ⟨bS, 4, none⟩ (.string x4)) (.slice (some ⟨gq, 0, none⟩) s.size capq) S2) := (HRQ.out.below HB7.out).sole five_sole (fun q hq => by
                  have h1 : gq = q := by simpa [Value.ownBlock] using hq
                  have := HORD.out; omega)
                have c8 : (((((w7.setCell ⟨bS, 0, none⟩ (.int .i64 x0)).setCell ⟨bS, 1, none⟩ (.int .i64 x1)).setCell ⟨bS, 2, none⟩ (.int .u64 x2)).setCell ⟨bS, 3, none⟩ (.int .i64 x3)).setCell ⟨bS, 4, none⟩ (.string x4)).cell? ⟨w.heap.size, 1, none⟩ = some (.int .i64 id) := HX8.out.2 1 (by simp)
                clear zc0 zc1 zc2 zc3 zc4 zf0 zf1 zf2 zf3 zf4 hq c1 HX6 HB6 HRS6 HRT6 HRL HRQ HB7 HBW7 HR7 HREAD
                generalize (((((w7.setCell ⟨bS, 0, none⟩ (.int .i64 x0)).setCell ⟨bS, 1, none⟩ (.int .i64 x1)).setCell ⟨bS, 2, none⟩ (.int .u64 x2)).setCell ⟨bS, 3, none⟩ (.int .i64 x3)).setCell ⟨bS, 4, none⟩ (.string x4)) = w8 at *
                go_wp2_with fail
                have HRRD : Hid (Calls Tryd.prog 23 #[.slice (some ⟨gq, 0, none⟩) s.size capq, .int .i64 id] w8 fun e w' => e = .returned (.tuple #[.agg #[.int .i64 x0, .int .i64 x1, .int .u64 x2, .int .i64 x3, .string x4], .int .i64 F2]) ∧ Below w8.heap.size w8 w') := by
                  have h := rread_any _ S2 id w8 HRQ8.out
                  rw [HRR2.out] at h
                  exact h
                refine Calls.mono HRRD.out ?_
                rintro e w9 ⟨rfl, hb9⟩
                have hr9 := (hb9.block bT (row_lt HRT8.out)).trans HRT8.out
                have HR9 := hide hr9
                have HRS9 := hide ((hb9.block bS (row_lt HRS8.out)).trans HRS8.out)
                have HB9 := hide (Below.next HB8.out hb9)
                obtain ⟨⟨zc0, zc1, zc2, zc3, zc4⟩, ⟨zf0, zf1, zf2, zf3, zf4⟩⟩ := rowfacts hr9
                clear hb9 hr9 c8
                go_upto_region 21 with fail
                have HRS10 : Hid ((((((w9.setCell ⟨bT, 0, none⟩ (.int .i64 x0)).setCell ⟨bT, 1, none⟩ (.int .i64 x1)).setCell ⟨bT, 2, none⟩ (.int .u64 x2)).setCell ⟨bT, 3, none⟩ (.int .i64 x3)).setCell ⟨bT, 4, none⟩ (.string x4)).heap[bS]? = some (.cells #[.int .i64 x0, .int .i64 x1, .int .u64 x2, .int .i64 x3, .string x4] 31 (0, 0))) := five_other HRS9.out (by have := HORD.out; omega)
                have HRT10 : Hid ((((((w9.setCell ⟨bT, 0, none⟩ (.int .i64 x0)).setCell ⟨bT, 1, none⟩ (.int .i64 x1)).setCell ⟨bT, 2, none⟩ (.int .u64 x2)).setCell ⟨bT, 3, none⟩ (.int .i64 x3)).setCell ⟨bT, 4, none⟩ (.string x4)).heap[bT]? = some (.cells #[.int .i64 x0, .int .i64 x1, .int .u64 x2, .int .i64 x3, .string x4] 31 (0, 0))) := set_five HR9.out
                have HB10 : Hid (Below w.heap.size w (((((w9.setCell ⟨bT, 0, none⟩ (.int .i64 x0)).setCell ⟨bT, 1, none⟩ (.int .i64 x1)).setCell ⟨bT, 2, none⟩ (.int .u64 x2)).setCell ⟨bT, 3, none⟩ (.int .i64 x3)).setCell ⟨bT, 4, none⟩ (.string x4))) := below_five HB9.out (by have := HORD.out; omega)
                clear zc0 zc1 zc2 zc3 zc4 zf0 zf1 zf2 zf3 zf4 HR9 HRS9 HB9
                generalize (((((w9.setCell ⟨bT, 0, none⟩ (.int .i64 x0)).setCell ⟨bT, 1, none⟩ (.int .i64 x1)).setCell ⟨bT, 2, none⟩ (.int .u64 x2)).setCell ⟨bT, 3, none⟩ (.int .i64 x3)).setCell ⟨bT, 4, none⟩ (.string x4)) = w10 at *
                obtain ⟨⟨s0, s1, s2, s3, s4⟩, _⟩ := rowfacts HRS10.out
                obtain ⟨⟨t0, t1, t2, t3, t4⟩, _⟩ := rowfacts HRT10.out
                have heq : ∀ w, (binOp .eql 31 (.agg #[.int .i64 x0, .int .i64 x1, .int .u64 x2, .int .i64 x3, .string x4]) (.agg #[.int .i64 x0, .int .i64 x1, .int .u64 x2, .int .i64 x3, .string x4])).run Tryd.prog w = .ok (.bool true) w := fun w => sh_self w x0 x1 x2 x3 x4
                have hFE : ((F2 : Int) == F2) = true := by simp
                go_wp2_with fail
                refine (HNUM2.out _ (HA.out.below HB10.out)).mono ?_
                rintro e w10' ⟨rfl, rfl⟩
                go_wp2_with fail
                go_ret
                exact ⟨rfl, HB10.out⟩

end Go.Proofs.YtmifadjgmjnkgaaDoor
