import Derived.Test.YtoedmapcnalhjabDoorGet
import Derived.Test.YtoedmapcnalhjabDoorNum
import Derived.Test.YtoedmapcnalhjabDoorSumsLaw
namespace Go.Proofs.YtoedmapcnalhjabDoor
open Go.RowKit

def okLen (l : List UInt8) : Prop := 1 ≤ l.length ∧ l.length ≤ 8
theorem get_rd_ok (v : Value) (l : List UInt8) (w : World) (hr : Rd w v l) (h : okLen l) :
    Calls Tryd.prog 13 #[v] w fun e w' => e = .returned (.tuple #[.int .u64 ((beNat l : Nat) : Int), .nilIface]) ∧ Below w.heap.size w w' := by
  rcases hr with ⟨rfl, rfl⟩ | ⟨g, cap, rfl, h1, h2, h3, h4⟩
  · exact absurd h.1 (by simp)
  · exact get_ok g cap l w h.1 h.2 h3 h4
theorem rd_form {w : World} {v : Value} {l : List UInt8} (hr : Rd w v l) : ∃ a0 cap, v = .slice a0 l.length cap := by
  rcases hr with ⟨rfl, rfl⟩ | ⟨g, cap, rfl, _⟩
  · exact ⟨none, 0, rfl⟩
  · exact ⟨_, cap, rfl⟩
theorem get_rd_no (A : Nat → Addr) (v : Value) (l : List UInt8) (w : World) (hA : ErrsAt A w) (hr : Rd w v l) (h : ¬ okLen l) (hm : l.length ≤ 140737488355328) :
    Calls Tryd.prog 13 #[v] w fun e w' => e = .returned (.tuple #[.int .u64 0, .iface 47 (.pointer (some (A 0)))]) ∧ Below w.heap.size w w' := by
  obtain ⟨a0, cap, rfl⟩ := rd_form hr
  exact get_no A a0 l.length cap w hA (by unfold okLen at h; omega) hm

set_option maxHeartbeats 400000 in
theorem rget_ok (g cap : Nat) (l : List UInt8) (w : World) (h1 : 1 ≤ l.length) (h8 : l.length ≤ 8)
    (hc : ∀ j (h : j < l.length), w.cell? ⟨g, j, none⟩ = some (.int .u8 (l[j].toNat : Int))) :
    Calls Tryd.prog 14 #[.slice (some ⟨g, 0, none⟩) l.length cap] w fun e w' => e = .returned (.tuple #[.int .u64 ((beNat l : Nat) : Int), .int .i64 0]) ∧ w = w' := by
  have hd1 : decide ((l.length : Int) < 1) = false := decide_eq_false (by omega)
  have hd2 : decide ((8 : Int) < (l.length : Int)) = false := decide_eq_false (by omega)
  go_enter Tryd.func14, Tryd.ntmps14
  go_wp2_with fail
  go_loop [4, 5] (fun r i => ∃ k y : Nat, k ≤ l.length ∧ i = .int .i64 k ∧ r = .int .u64 (y : Int) ∧ y = beNat (l.take k)) (fun _ i => l.length - (intOf i).toNat)
  case atStart => exact ⟨0, 0, by omega, rfl, rfl, rfl⟩
  case round =>
    obtain ⟨k, y, hk, rfl, rfl, hyr⟩ := hrel
    have HY : Hid (y = beNat (l.take k)) := hyr
    clear hyr
    by_cases hlt : k < l.length
    · have hck := hc k (by omega)
      obtain ⟨c, hcd⟩ : ∃ c : Nat, c = (l[k]'(by omega)).toNat := ⟨_, rfl⟩
      have hc256 : c < 256 := by rw [hcd]; exact UInt8.toNat_lt _
      rw [← hcd] at hck
      have HR : Hid (y * 256 + c = beNat (l.take (k + 1))) := by
        show y * 256 + c = _
        rw [take_next l k (by omega), beNat_snoc, ← HY.out, hcd]
      have hyb : y < 72057594037927936 := by
        rw [HY.out]
        have h := beNat_lt (l.take k)
        rw [List.length_take, Nat.min_eq_left (by omega)] at h
        exact Nat.lt_of_lt_of_le h (Nat.le_trans (Nat.pow_le_pow_right (n := 256) (i := k) (j := 7) (by decide) (by omega)) (by decide))
      clear hcd hc
      go_wp2
      go_round
      case rel => exact ⟨k + 1, y * 256 + c, by omega, by go_num, by go_num, HR.out⟩
      case measure => simp [intOf]; omega
    · have HE : Hid (y = beNat l) := by
        show y = _
        rw [HY.out, List.take_of_length_le (by omega)]
      clear hc
      go_wp2
      go_ret2
      exact ⟨ret_pair HE.out, rfl⟩
set_option maxHeartbeats 400000 in
theorem rget_no (a0 : Option Addr) (len cap : Nat) (w : World) (hlen : len < 1 ∨ 8 < len) (hm : len ≤ 140737488355328) :
    Calls Tryd.prog 14 #[.slice a0 len cap] w fun e w' => e = .returned (.tuple #[.int .u64 0, .int .i64 1]) ∧ w = w' := by
  rcases hlen with h | h
  · have hd1 : decide ((len : Int) < 1) = true := decide_eq_true (by omega)
    go_enter Tryd.func14, Tryd.ntmps14
    go_wp2
    go_ret2
    exact ⟨rfl, rfl⟩
  · have hd1 : decide ((len : Int) < 1) = false := decide_eq_false (by omega)
    have hd2 : decide ((8 : Int) < (len : Int)) = true := decide_eq_true (by omega)
    go_enter Tryd.func14, Tryd.ntmps14
    go_wp2
    go_ret2
    exact ⟨rfl, rfl⟩
theorem rget_rd_ok (v : Value) (l : List UInt8) (w : World) (hr : Rd w v l) (h : okLen l) :
    Calls Tryd.prog 14 #[v] w fun e w' => e = .returned (.tuple #[.int .u64 ((beNat l : Nat) : Int), .int .i64 0]) ∧ w = w' := by
  rcases hr with ⟨rfl, rfl⟩ | ⟨g, cap, rfl, h1, h2, h3, h4⟩
  · exact absurd h.1 (by simp)
  · exact rget_ok g cap l w h.1 h.2 h4
theorem rget_rd_no (v : Value) (l : List UInt8) (w : World) (hr : Rd w v l) (h : ¬ okLen l) (hm : l.length ≤ 140737488355328) :
    Calls Tryd.prog 14 #[v] w fun e w' => e = .returned (.tuple #[.int .u64 0, .int .i64 1]) ∧ w = w' := by
  obtain ⟨a0, cap, rfl⟩ := rd_form hr
  exact rget_no a0 l.length cap w (by unfold okLen at h; omega) hm

set_option maxHeartbeats 1000000 in
theorem gets_of (A : Nat → Addr) (N : List UInt8 → Nat) (E : Value) (F : Int) (s : ByteArray) (w : World) (hs : s.size ≤ 140737488351232) (hA : ErrsAt A w)
    (hGet : ∀ v l w, Rd w v l → l.length = s.size → ErrsAt A w → Calls Tryd.prog 13 #[v] w fun e w' => e = .returned (.tuple #[.int .u64 ((N l : Nat) : Int), E]) ∧ Below w.heap.size w w')
    (hRef : ∀ v l w, Rd w v l → l.length = s.size → Calls Tryd.prog 14 #[v] w fun e w' => e = .returned (.tuple #[.int .u64 ((N l : Nat) : Int), .int .i64 F]) ∧ w = w')
    (hNum : ∀ w, ErrsAt A w → Calls Tryd.prog 15 #[E] w fun e w' => e = .returned (.int .i64 F) ∧ w = w') :
    Calls Tryd.prog 4 #[.string s] w fun e w' => e = .returned (.bool true) ∧ Below w.heap.size w w' := by
  have hlen : s.data.toList.length = s.size := by simp
  have HG : Hid (∀ v l w, Rd w v l → l.length = s.size → ErrsAt A w → Calls Tryd.prog 13 #[v] w fun e w' => e = .returned (.tuple #[.int .u64 ((N l : Nat) : Int), E]) ∧ Below w.heap.size w w') := hGet
  have HR : Hid (∀ v l w, Rd w v l → l.length = s.size → Calls Tryd.prog 14 #[v] w fun e w' => e = .returned (.tuple #[.int .u64 ((N l : Nat) : Int), .int .i64 F]) ∧ w = w') := hRef
  have HN : Hid (∀ w, ErrsAt A w → Calls Tryd.prog 15 #[E] w fun e w' => e = .returned (.int .i64 F) ∧ w = w') := hNum
  clear hGet hRef hNum
  go_enter Tryd.func4, Tryd.ntmps4
  go_wp2_with fail
  refine (spare_any s _ hs).mono ?_
  rintro e w1 ⟨g, cap, rfl, hown1, hb1⟩
  have r1 : Rd w1 (.slice (some ⟨g, 0, none⟩) s.data.toList.length cap) s.data.toList := rd_cut hown1
  rw [hlen] at r1
  obtain ⟨hc1, hc2, hc3, hc4⟩ := owns_cap hown1
  have HO1 : Hid (w1.ownsRow w.heap.size 5 1 (.slice (some ⟨g, 0, none⟩) (s.size + 64) cap) (s.size + 64) (u8s (s.data.toList ++ marks 64))) := hown1
  clear hown1
  go_wp2_with fail
  refine (HG.out _ s.data.toList _ r1 hlen (hA.below hb1)).mono ?_
  rintro e w2 ⟨rfl, hb2⟩
  have HO2 : Hid (w2.ownsRow w.heap.size 5 1 (.slice (some ⟨g, 0, none⟩) (s.size + 64) cap) (s.size + 64) (u8s (s.data.toList ++ marks 64))) := owns_below HO1.out hb2
  have hb02 := Below.next hb1 hb2
  have hcells : ∀ j (h : j < (s.data.toList ++ marks 64).length), w2.cell? ⟨g, j, none⟩ = some (.int .u8 ((s.data.toList ++ marks 64)[j].toNat : Int)) := fun j hj => by
    have := HO2.out.cellAt j (by rw [all_len] at hj; omega)
    rw [u8s_get _ j hj] at this
    exact this
  have hg2 : g < w2.heap.size := Nat.lt_of_lt_of_le hc4 hb2.size
  clear hb1 hb2 r1 HO1 hc4
  go_wp2_with fail
  refine (kept_any s g cap _ hs hcells).mono ?_
  rintro e w3 ⟨rfl, hb3⟩
  have HO3 : Hid (w3.ownsRow w.heap.size 5 1 (.slice (some ⟨g, 0, none⟩) (s.size + 64) cap) (s.size + 64) (u8s (s.data.toList ++ marks 64))) := owns_below HO2.out hb3
  have hb03 := Below.next hb02 hb3
  have hg3 : g < w3.heap.size := Nat.lt_of_lt_of_le hg2 hb3.size
  clear hb02 hb3 HO2 hcells hg2
  go_wp2_with fail
  refine (bytes_any s _ (by omega)).mono ?_
  rintro e w4 ⟨v4, rfl, hown4, hb4⟩
  have r4 := rd_of_owns hown4
  have HO4 : Hid (w4.ownsRow w.heap.size 5 1 (.slice (some ⟨g, 0, none⟩) (s.size + 64) cap) (s.size + 64) (u8s (s.data.toList ++ marks 64))) := owns_below HO3.out hb4
  have hb04 := Below.next hb03 hb4
  have hg4 : g < w4.heap.size := Nat.lt_of_lt_of_le hg3 hb4.size
  clear hown4 hb03 hb4 HO3 hg3
  go_wp2_with fail
  refine (HR.out _ s.data.toList _ r4 hlen).mono ?_
  rintro e w4' ⟨rfl, rfl⟩
  clear r4
  go_wp2_with fail
  refine (HN.out _ (hA.below hb04)).mono ?_
  rintro e w4' ⟨rfl, rfl⟩
  go_wp2_with fail
  refine (bytes_any s _ (by omega)).mono ?_
  rintro e w5 ⟨v5, rfl, hown5, hb5⟩
  have HOL : Hid (w5.ownsRow w.heap.size 5 1 (.slice (some ⟨g, 0, none⟩) (s.size + 64) cap) (s.size + 64) (u8s (s.data.toList ++ marks 64))) := owns_below HO4.out hb5
  have hb05 := Below.next hb04 hb5
  obtain ⟨a0, cap5, rfl⟩ : ∃ a0 cap, v5 = .slice a0 s.size cap := by
    rcases hown5.2 with ⟨h', h0⟩ | ⟨g, cap, cur, h', _⟩
    · exact ⟨none, 0, by rw [h', h0]⟩
    · exact ⟨_, cap, h'⟩
  have HOP : Hid (w5.ownsRow w4.heap.size 5 1 (.slice a0 s.size cap5) s.size (u8s s.data.toList)) := hown5
  clear hown5 hb04 hb5 HO4
  go_wp2_with fail
  go_loopw [10] (fun i wr => ∃ k : Nat, k ≤ s.size ∧ i = .int .i64 k ∧ wr.ownsRow w.heap.size 5 1 (.slice (some ⟨g, 0, none⟩) (s.size + 64) cap) (s.size + 64) (u8s (incTo k (s.data.toList ++ marks 64))) ∧ wr.ownsRow w4.heap.size 5 1 (.slice a0 s.size cap5) s.size (u8s (incTo k s.data.toList)) ∧ Below w.heap.size w wr) (fun i _ => s.size - (intOf i).toNat)
  case atStart => exact ⟨0, Nat.zero_le _, rfl, by rw [incTo_zero]; exact HOL.out, by rw [incTo_zero]; exact HOP.out, hb05⟩
  case round =>
    obtain ⟨k, hk, rfl, hoL, hoP, hbr⟩ := hrel
    have HL : Hid (wr.ownsRow w.heap.size 5 1 (.slice (some ⟨g, 0, none⟩) (s.size + 64) cap) (s.size + 64) (u8s (incTo k (s.data.toList ++ marks 64)))) := hoL
    have HP : Hid (wr.ownsRow w4.heap.size 5 1 (.slice a0 s.size cap5) s.size (u8s (incTo k s.data.toList))) := hoP
    have HA2 : Hid (ErrsAt A wr) := hA.below hbr
    clear hoL hoP
    by_cases hlt : k < s.size
    · obtain ⟨gp, cp, he, hgp, hgp2⟩ := HP.out.form (by omega)
      cases he
      have hk1 : k < s.data.toList.length := by rw [hlen]; exact hlt
      have hk2 : k < (s.data.toList ++ marks 64).length := by rw [all_len]; omega
      obtain ⟨c, hc⟩ : ∃ c : UInt8, c = s[k] := ⟨_, rfl⟩
      have hcL : wr.cell? ⟨g, k, none⟩ = some (.int .u8 (c.toNat : Int)) := by
        rw [HL.out.cellAt k (by omega), u8s_get _ k (by rw [incTo_len]; exact hk2), incTo_get k _ hk2, all_get s k hlt, hc]
      have hcP : wr.cell? ⟨gp, k, none⟩ = some (.int .u8 (c.toNat : Int)) := by
        rw [HP.out.cellAt k (by omega), u8s_get _ k (by rw [incTo_len]; exact hk1), incTo_get k _ hk1, hc]; rfl
      have hfL : wr.frozen? ⟨g, k, none⟩ = false := HL.out.frozenAt k
      have hfP : wr.frozen? ⟨gp, k, none⟩ = false := HP.out.frozenAt k
      have hne : g ≠ gp := by omega
      have hgw : w.heap.size ≤ gp := by omega
      have HC : Hid (c = s[k]) := hc
      clear hc
      have HT : Hid (((wr.setCell ⟨g, k, none⟩ (.int .u8 (((c.toNat : Int) + 1) % 256))).setCell ⟨gp, k, none⟩ (.int .u8 (((c.toNat : Int) + 1) % 256))).ownsRow w.heap.size 5 1 (.slice (some ⟨g, 0, none⟩) (s.size + 64) cap) (s.size + 64) (u8s (incTo (k + 1) (s.data.toList ++ marks 64))) ∧
          ((wr.setCell ⟨g, k, none⟩ (.int .u8 (((c.toNat : Int) + 1) % 256))).setCell ⟨gp, k, none⟩ (.int .u8 (((c.toNat : Int) + 1) % 256))).ownsRow w4.heap.size 5 1 (.slice (some ⟨gp, 0, none⟩) s.size cap5) s.size (u8s (incTo (k + 1) s.data.toList))) :=
        two_stores c HL.out HP.out hk2 hk1 (by rw [all_get s k hlt, HC.out]) (by rw [HC.out]; rfl) hne
      clear hA
      go_wp2
      go_roundw
      case rel => exact ⟨k + 1, by omega, by go_num, HT.out.1, HT.out.2, (hbr.setCell (by exact hc3) _).setCell (by exact hgw) _⟩
      case measure => simp [intOf]; omega
    · have hke : k = s.size := by omega
      have hL2 := HL.out
      have hP2 := HP.out
      rw [hke, ← hlen, incTo_all] at hL2
      have hP3 := incTo_all s.data.toList []
      rw [List.append_nil, List.append_nil] at hP3
      rw [hke, ← hlen, hP3] at hP2
      rw [hlen] at hP2 hL2
      have rL := rd_cut hL2
      rw [List.length_map, hlen] at rL
      have rP := rd_of_owns hP2
      have hml : (s.data.toList.map (· + 1)).length = s.size := by rw [List.length_map]; exact hlen
      generalize s.data.toList.map (· + 1) = S2 at *
      clear HL HP hL2 hP2 hP3 hke hb05 HOL HOP hA
      go_wp2_with fail
      refine (HG.out _ S2 _ rL hml HA2.out).mono ?_
      rintro e w6 ⟨rfl, hb6⟩
      have rP6 := rP.below hb6
      have HA6 : Hid (ErrsAt A w6) := HA2.out.below hb6
      have hbf := hbr.trans (hb6.mono hbr.size)
      clear hb6 rP rL
      go_wp2_with fail
      refine (HR.out _ S2 _ rP6 hml).mono ?_
      rintro e w6' ⟨rfl, rfl⟩
      clear rP6
      go_wp2_with fail
      refine (HN.out _ HA6.out).mono ?_
      rintro e w6' ⟨rfl, rfl⟩
      go_wp2_with fail
      go_ret
      exact ⟨rfl, hbf⟩

theorem gets_any (A : Nat → Addr) (s : ByteArray) (w : World) (hs : s.size ≤ 140737488351232) (hA : ErrsAt A w) :
    Calls Tryd.prog 4 #[.string s] w fun e w' => e = .returned (.bool true) ∧ Below w.heap.size w w' := by
  by_cases h : 1 ≤ s.size ∧ s.size ≤ 8
  · exact gets_of A beNat .nilIface 0 s w hs hA (fun v l w hr hl _ => get_rd_ok v l w hr ⟨by omega, by omega⟩) (fun v l w hr hl => rget_rd_ok v l w hr ⟨by omega, by omega⟩) (fun w _ => num_nil w)
  · exact gets_of A (fun _ => 0) (.iface 47 (.pointer (some (A 0)))) 1 s w hs hA (fun v l w hr hl hA => get_rd_no A v l w hA hr (by unfold okLen; omega) (by omega)) (fun v l w hr hl => rget_rd_no v l w hr (by unfold okLen; omega) (by omega)) (fun w hA => num_arg A w hA)

end Go.Proofs.YtoedmapcnalhjabDoor
