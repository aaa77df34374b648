import Derived.Test.YtoedmapcnalhjabDoorKept
import Derived.Test.YtoedmapcnalhjabDoorRefCrc
import Derived.Test.YtoedmapcnalhjabDoorBox
import Derived.Deep.RegionHeld3
namespace Go.Proofs.YtoedmapcnalhjabDoor
open Go.RowKit

theorem owns_cap {w : World} {base e size g n cap : Nat} {xs : List Value} (h : w.ownsRow base e size (.slice (some ⟨g, 0, none⟩) n cap) n xs) : n ≤ cap ∧ cap ≤ maxLen ∧ base ≤ g ∧ g < w.heap.size := by
  rcases h.2 with ⟨h', _⟩ | ⟨g', cap', cur, h', hb, hg, hn, hc, _, _⟩
  · cases h'
  · cases h'
    refine ⟨hn, hc, hb, ?_⟩
    rcases Nat.lt_or_ge g w.heap.size with hlt | hge
    · exact hlt
    · rw [Array.getElem?_eq_none hge] at hg; cases hg
/-- The first bytes of a row that is owned, as a slice of their own. -/
theorem rd_cut {w : World} {base g n cap : Nat} {a b : List UInt8} (h : w.ownsRow base 5 1 (.slice (some ⟨g, 0, none⟩) n cap) n (u8s (a ++ b))) : Rd w (.slice (some ⟨g, 0, none⟩) a.length cap) a := by
  obtain ⟨h1, h2, h3, h4⟩ := owns_cap h
  have hl := h.1
  rw [u8s_length, Nat.mul_one, List.length_append] at hl
  refine .inr ⟨g, cap, rfl, by omega, h2, h4, fun j hj => ?_⟩
  rw [h.cellAt j (by omega), u8s_get (a ++ b) j (by rw [List.length_append]; omega), List.getElem_append_left hj]

def incTo (k : Nat) (l : List UInt8) : List UInt8 := (l.take k).map (· + 1) ++ l.drop k
theorem incTo_len (k : Nat) (l : List UInt8) : (incTo k l).length = l.length := by simp [incTo]; omega
theorem incTo_get (k : Nat) (l : List UInt8) (h : k < l.length) (h2 : k < (incTo k l).length) : (incTo k l)[k] = l[k] := by
  simp only [incTo]
  rw [List.getElem_append_right (by simp; omega)]
  simp [Nat.min_eq_left (Nat.le_of_lt h)]
theorem incTo_succ (k : Nat) (l : List UInt8) (h : k < l.length) : incTo (k + 1) l = (incTo k l).set k (l[k] + 1) := by
  simp only [incTo]
  rw [List.set_append_right _ _ (by simp; omega), List.take_succ_eq_append_getElem h, List.map_append]
  simp only [List.length_map, List.length_take, Nat.min_eq_left (Nat.le_of_lt h), Nat.sub_self]
  rw [List.drop_eq_getElem_cons h, List.set_cons_zero]
  simp
theorem incTo_zero (l : List UInt8) : incTo 0 l = l := by simp [incTo]
theorem incTo_all (a b : List UInt8) : incTo a.length (a ++ b) = a.map (· + 1) ++ b := by simp [incTo]

theorem owns_below {w w' : World} {base e size n : Nat} {v : Value} {xs : List Value} (h : w.ownsRow base e size v n xs) (hb : Below w.heap.size w w') : w'.ownsRow base e size v n xs := by
  refine ⟨h.1, ?_⟩
  rcases h.2 with h' | ⟨g, cap, cur, h', h1, hg, hn, hc, h5, h6⟩
  · exact .inl h'
  · refine .inr ⟨g, cap, cur, h', h1, ?_, hn, hc, h5, h6⟩
    rw [hb.block g ?_]
    · exact hg
    · rcases Nat.lt_or_ge g w.heap.size with hlt | hge
      · exact hlt
      · rw [Array.getElem?_eq_none hge] at hg; cases hg
theorem below_undrew {w w' : World} {B : Nat} (h : Below B w.drew w') : Below B w w' := ⟨h.os, h.tape, h.output, h.size, h.block⟩

theorem u8s_set (q : List UInt8) (j : Nat) (d : UInt8) : (u8s q).set j (.int .u8 (d.toNat : Int)) = u8s (q.set j d) := by
  simp [u8s, List.map_set]

theorem two_stores {wr : World} {b1 b2 g gp n m cap cap3 k : Nat} {L P : List UInt8} (c : UInt8) (hL : wr.ownsRow b1 5 1 (.slice (some ⟨g, 0, none⟩) n cap) n (u8s (incTo k L)))
    (hP : wr.ownsRow b2 5 1 (.slice (some ⟨gp, 0, none⟩) m cap3) m (u8s (incTo k P))) (hkL : k < L.length) (hkP : k < P.length) (hLc : L[k] = c) (hPc : P[k] = c) (hne : g ≠ gp) :
    ((wr.setCell ⟨g, k, none⟩ (.int .u8 (((c.toNat : Int) + 1) % 256))).setCell ⟨gp, k, none⟩ (.int .u8 (((c.toNat : Int) + 1) % 256))).ownsRow b1 5 1 (.slice (some ⟨g, 0, none⟩) n cap) n (u8s (incTo (k + 1) L)) ∧
    ((wr.setCell ⟨g, k, none⟩ (.int .u8 (((c.toNat : Int) + 1) % 256))).setCell ⟨gp, k, none⟩ (.int .u8 (((c.toNat : Int) + 1) % 256))).ownsRow b2 5 1 (.slice (some ⟨gp, 0, none⟩) m cap3) m (u8s (incTo (k + 1) P)) := by
  have e : ((c.toNat : Int) + 1) % 256 = ((c + 1).toNat : Int) := by
    rw [UInt8.toNat_add]
    have : (1 : UInt8).toNat = 1 := rfl
    rw [this]; omega
  rw [e]
  have R1 := hL.stored k (.int .u8 ((c + 1).toNat : Int))
  have hP1 := hP.kept R1.2 (.inr (by simp [Value.ownBlock]; omega))
  have R2 := hP1.stored k (.int .u8 ((c + 1).toNat : Int))
  have hL2 := R1.1.kept R2.2 (.inr (by simp [Value.ownBlock]; omega))
  have R3 := R2.1
  rw [u8s_set] at hL2 R3
  rw [incTo_succ k L hkL, incTo_succ k P hkP, hLc, hPc]
  exact ⟨hL2, R3⟩
set_option maxHeartbeats 1000000 in
theorem sums_any (s : ByteArray) (sum : Nat) (w : World) (hs : s.size ≤ 140737488351232) (hsum : sum < 4294967296) (ht : Tab w) :
    Calls Tryd.prog 3 #[.agg #[.string s, .int .u32 (sum : Int)]] w fun e w' => e = .returned (.bool true) ∧ Below w.heap.size w w' := by
  have hlen : s.data.toList.length = s.size := by simp
  go_enter Tryd.func3, Tryd.ntmps3
  have c0 : (w.alloc (.cells #[.string s, .int .u32 (sum : Int)] 24)).cell? ⟨w.heap.size, 0, none⟩ = some (.string s) := (boxed_new w #[.string s, .int .u32 (sum : Int)] 24).2 0 (by simp)
  go_wp2_with fail
  clear c0
  have hbx := boxed_new w #[.string s, .int .u32 (sum : Int)] 24
  have hb0 := below_new w (.cells #[.string s, .int .u32 (sum : Int)] 24)
  generalize w.alloc (.cells #[.string s, .int .u32 (sum : Int)] 24) = W0 at *
  have ht0 : Tab W0 := ht.below hb0
  clear ht
  refine (spare_any s _ hs).mono ?_
  rintro e w1 ⟨g, cap, rfl, hown1, hb1⟩
  have ht1 := ht0.below hb1
  have hx1 := hbx.below hb1
  have hb01 := Below.next hb0 hb1
  have r1 : Rd w1 (.slice (some ⟨g, 0, none⟩) s.data.toList.length cap) s.data.toList := rd_cut hown1
  rw [hlen] at r1
  obtain ⟨hc1, hc2, hc3, hc4⟩ := owns_cap hown1
  have hW0 : w.heap.size < W0.heap.size := hbx.1
  have hT0 : 4 < W0.heap.size := ht0.2
  clear hbx hb0 ht0 hb1
  have c0 : w1.cell? ⟨w.heap.size, 0, none⟩ = some (.string s) := hx1.2 0 (by simp)
  have c1 : w1.cell? ⟨w.heap.size, 1, none⟩ = some (.int .u32 (sum : Int)) := hx1.2 1 (by simp)
  have HO1 : Hid (w1.ownsRow W0.heap.size 5 1 (.slice (some ⟨g, 0, none⟩) (s.size + 64) cap) (s.size + 64) (u8s (s.data.toList ++ marks 64))) := hown1
  clear hown1
  go_wp2_with fail
  refine (crc_rd _ s.data.toList _ (by omega) r1 ht1).mono ?_
  rintro e wA ⟨rfl, rfl⟩
  have i1 : (0 : Int) ≤ (s.size : Int) := by omega
  have i2 : (s.size : Int) ≤ (cap : Int) := by omega
  go_wp2_with fail
  go_region_held3 (fun w' => w'.cell? ⟨w.heap.size, 0, none⟩ = some (.string s) ∧ w'.cell? ⟨w.heap.size, 1, none⟩ = some (.int .u32 (sum : Int))) (go_keep)
    (first
      | (go_at_call 8; refine (crcMore_rd sum _ _ s.data.toList _ rfl hsum ?_ ?_ ?_).mono ?_; (omega); (exact r1); (exact ht1); rintro e w' ⟨rfl, rfl⟩))
  go_wp2_with fail
  have hcells : ∀ j (h : j < (s.data.toList ++ marks 64).length), w1.drew.cell? ⟨g, j, none⟩ = some (.int .u8 ((s.data.toList ++ marks 64)[j].toNat : Int)) := fun j hj => by
    have := HO1.out.cellAt j (by rw [all_len] at hj; omega)
    rw [u8s_get _ j hj] at this
    exact this
  refine (kept_any s g cap _ hs hcells).mono ?_
  rintro e w2 ⟨rfl, hb2d⟩
  have hb2 := below_undrew hb2d
  have hx2 := hx1.below hb2
  have ht2 := ht1.below hb2
  have hb02 := Below.next hb01 hb2
  have hown2 := owns_below HO1.out hb2
  have hg2 : g < w2.heap.size := Nat.lt_of_lt_of_le hc4 hb2.size
  clear HO1 hx1 ht1 hb01 hb2 hb2d c0 c1 r1 hcells hc4
  have HO2 : Hid (w2.ownsRow W0.heap.size 5 1 (.slice (some ⟨g, 0, none⟩) (s.size + 64) cap) (s.size + 64) (u8s (s.data.toList ++ marks 64))) := hown2
  clear hown2
  have c0 : w2.cell? ⟨w.heap.size, 0, none⟩ = some (.string s) := hx2.2 0 (by simp)
  go_wp2_with fail
  refine (bytes_any s _ (by omega)).mono ?_
  rintro e w3 ⟨v3, rfl, hown3, hb3⟩
  have r3 := rd_of_owns hown3
  have hx3 := hx2.below hb3
  have ht3 := ht2.below hb3
  have hb03 := Below.next hb02 hb3
  have hownL := owns_below HO2.out hb3
  obtain ⟨a0, cap3, rfl⟩ : ∃ a0 cap, v3 = .slice a0 s.size cap := by
    rcases hown3.2 with ⟨h', h0⟩ | ⟨g, cap, cur, h', _⟩
    · exact ⟨none, 0, by rw [h', h0]⟩
    · exact ⟨_, cap, h'⟩
  clear HO2 hx2 ht2 hb02 hb3 c0
  have c1 : w3.cell? ⟨w.heap.size, 1, none⟩ = some (.int .u32 (sum : Int)) := hx3.2 1 (by simp)
  have HOL : Hid (w3.ownsRow W0.heap.size 5 1 (.slice (some ⟨g, 0, none⟩) (s.size + 64) cap) (s.size + 64) (u8s (s.data.toList ++ marks 64))) := hownL
  have HOP : Hid (w3.ownsRow w2.heap.size 5 1 (.slice a0 s.size cap3) s.size (u8s s.data.toList)) := hown3
  clear hownL hown3
  go_wp2_with fail
  refine (ref_rd _ s.data.toList _ (by omega) r3).mono ?_
  rintro e wB ⟨rfl, rfl⟩
  go_wp2_with fail
  refine (refMore_rd sum _ _ s.data.toList _ rfl hsum (by omega) r3).mono ?_
  rintro e wC ⟨rfl, rfl⟩
  go_wp2_with fail
  have hg2 : g < w2.heap.size := hg2
  go_loopw [8] (fun i wr => ∃ k : Nat, k ≤ s.size ∧ i = .int .i64 k ∧ wr.ownsRow W0.heap.size 5 1 (.slice (some ⟨g, 0, none⟩) (s.size + 64) cap) (s.size + 64) (u8s (incTo k (s.data.toList ++ marks 64))) ∧ wr.ownsRow w2.heap.size 5 1 (.slice a0 s.size cap3) s.size (u8s (incTo k s.data.toList)) ∧ Below W0.heap.size w3 wr) (fun i _ => s.size - (intOf i).toNat)
  case atStart => exact ⟨0, Nat.zero_le _, rfl, by rw [incTo_zero]; exact HOL.out, by rw [incTo_zero]; exact HOP.out, Below.refl _ _⟩
  case round =>
    obtain ⟨k, hk, rfl, hoL, hoP, hbr⟩ := hrel
    have HL : Hid (wr.ownsRow W0.heap.size 5 1 (.slice (some ⟨g, 0, none⟩) (s.size + 64) cap) (s.size + 64) (u8s (incTo k (s.data.toList ++ marks 64)))) := hoL
    have HP : Hid (wr.ownsRow w2.heap.size 5 1 (.slice a0 s.size cap3) s.size (u8s (incTo k s.data.toList))) := hoP
    clear hoL hoP
    by_cases hlt : k < s.size
    · obtain ⟨gp, cp, he, hgp, hgp2⟩ := HP.out.form (by omega)
      cases he
      have hk1 : k < s.data.toList.length := by rw [hlen]; exact hlt
      have hk2 : k < (s.data.toList ++ marks 64).length := by rw [all_len]; omega
      obtain ⟨c, hc⟩ : ∃ c : UInt8, c = s[k] := ⟨_, rfl⟩
      have hcL : wr.cell? ⟨g, k, none⟩ = some (.int .u8 (c.toNat : Int)) := by
        rw [HL.out.cellAt k (by omega), u8s_get _ k (by rw [incTo_len]; exact hk2), incTo_get k _ hk2, all_get s k hlt, hc]
      have hcP : wr.cell? ⟨gp, k, none⟩ = some (.int .u8 (c.toNat : Int)) := by
        rw [HP.out.cellAt k (by omega), u8s_get _ k (by rw [incTo_len]; exact hk1), incTo_get k _ hk1, hc]; rfl
      have hfL : wr.frozen? ⟨g, k, none⟩ = false := HL.out.frozenAt k
      have hfP : wr.frozen? ⟨gp, k, none⟩ = false := HP.out.frozenAt k
      have hne : g ≠ gp := by omega
      have HC : Hid (c = s[k]) := hc
      clear hc
      have HT : Hid (((wr.setCell ⟨g, k, none⟩ (.int .u8 (((c.toNat : Int) + 1) % 256))).setCell ⟨gp, k, none⟩ (.int .u8 (((c.toNat : Int) + 1) % 256))).ownsRow W0.heap.size 5 1 (.slice (some ⟨g, 0, none⟩) (s.size + 64) cap) (s.size + 64) (u8s (incTo (k + 1) (s.data.toList ++ marks 64))) ∧
          ((wr.setCell ⟨g, k, none⟩ (.int .u8 (((c.toNat : Int) + 1) % 256))).setCell ⟨gp, k, none⟩ (.int .u8 (((c.toNat : Int) + 1) % 256))).ownsRow w2.heap.size 5 1 (.slice (some ⟨gp, 0, none⟩) s.size cap3) s.size (u8s (incTo (k + 1) s.data.toList))) :=
        two_stores c HL.out HP.out hk2 hk1 (by rw [all_get s k hlt, HC.out]) (by rw [HC.out]; rfl) hne
      go_wp2
      go_roundw
      case rel => exact ⟨k + 1, by omega, by go_num, HT.out.1, HT.out.2, (hbr.setCell (by exact hc3) _).setCell (by show W0.heap.size ≤ gp; omega) _⟩
      case measure => simp [intOf]; omega
    · have hke : k = s.size := by omega
      have hL2 := HL.out
      have hP2 := HP.out
      rw [hke, ← hlen, incTo_all] at hL2
      have hP3 := incTo_all s.data.toList []
      rw [List.append_nil, List.append_nil] at hP3
      rw [hke, ← hlen, hP3] at hP2
      rw [hlen] at hP2 hL2
      have rL := rd_cut hL2
      rw [List.length_map, hlen] at rL
      have rP := rd_of_owns hP2
      have hml : (s.data.toList.map (· + 1)).length ≤ 140737488355328 := by rw [List.length_map]; omega
      have htr : Tab wr := ⟨fun j hj => (hbr.cell (p := ⟨4, j, none⟩) hT0).trans (ht3.1 j hj), Nat.lt_of_lt_of_le ht3.2 hbr.size⟩
      have cr : wr.cell? ⟨w.heap.size, 1, none⟩ = some (.int .u32 (sum : Int)) := (hbr.cell (p := ⟨w.heap.size, 1, none⟩) hW0).trans c1
      have hbf : Below w.heap.size w wr := hb03.trans (hbr.mono (Nat.le_of_lt hW0))
      generalize s.data.toList.map (· + 1) = S2 at *
      clear HL HP hL2 hP2 hP3 hke hbr ht3 c1 hb03 HOL HOP hx3 r3
      go_wp2_with fail
      go_region_held3 (fun w' => w'.cell? ⟨w.heap.size, 1, none⟩ = some (.int .u32 (sum : Int))) (go_keep)
        (first
          | (go_at_call 7; refine (crc_rd _ S2 _ hml ?_ ?_).mono ?_; (exact rL); (exact htr); rintro e w' ⟨rfl, rfl⟩)
          | (go_at_call 11; refine (ref_rd _ S2 _ hml ?_).mono ?_; (exact rP); rintro e w' ⟨rfl, rfl⟩)
          | (go_at_call 8; refine (crcMore_rd sum _ _ S2 _ rfl hsum hml ?_ ?_).mono ?_; (exact rL); (exact htr); rintro e w' ⟨rfl, rfl⟩)
          | (go_at_call 12; refine (refMore_rd sum _ _ S2 _ rfl hsum hml ?_).mono ?_; (exact rP); rintro e w' ⟨rfl, rfl⟩))
      go_wp2_with fail
      go_ret
      exact ⟨rfl, hbf.drew⟩

end Go.Proofs.YtoedmapcnalhjabDoor
