import Derived.Test.YtpeobpmooledaaaDoorGD
import Derived.Test.YtpeobpmooledaaaDoorGF
import Derived.Lib.ConvBytes
import Derived.Deep.RegionHeld3
namespace Go.Proofs.YtpeobpmooledaaaDoor
open Go.RowKit
attribute [local go_sem ↓] Go.wp_at_zero Go.wp_at_succ

theorem bytesW_below (w : World) (e : TypeId) (s : ByteArray) : Below w.heap.size w (Lib.bytesWorld w e s) :=
  ⟨rfl, rfl, rfl, by rw [Lib.bytesWorld_size]; omega, fun k hk => Lib.bytesWorld_at_old w e s k hk⟩
/-- []byte(s) of a text: bytes of a new block. -/
theorem conv_str (s : ByteArray) (w : World) (hs : s.size ≤ 1048576) : ∃ cap W, (convert 9 41 (.string s)).run Tryd.prog w = .ok (.slice (some ⟨w.heap.size, 0, none⟩) s.size cap) W ∧ S.RdB W (.slice (some ⟨w.heap.size, 0, none⟩) s.size cap) s.data.toList ∧ Below w.heap.size w W ∧ W.heap.size = w.heap.size + 1 := by
  have hz : s.data.toList.length = s.size := bsize s
  have hm := grownCap_le_maxLen w s.size 0 5 (by unfold maxLen; omega)
  refine ⟨_, _, Lib.run_convert_string_bytes (P := Tryd.prog) w 9 41 5 s (u := .string) Tryd.underlying9 Tryd.underlying41 Tryd.underlying5, .inr ⟨w.heap.size, _, by rw [hz], by rw [hz]; exact grownCap_ge _ _ _ _, by unfold maxLen at hm; omega, by rw [Lib.bytesWorld_size]; omega, fun j hj => ?_⟩, bytesW_below w 5 s, Lib.bytesWorld_size _ _ _⟩
  rw [Lib.bytesWorld_cell w 5 s j (by omega), List.getD, List.getElem?_eq_getElem hj]
  rfl
/-- The cells of a parcel. -/
def pcA (p : Pc) : Array Value := #[.int .i64 p.id, .int .u64 (p.tx : Int), .string p.dat]

set_option maxRecDepth 100000 in
set_option maxHeartbeats 4000000 in
theorem bholds_any (e : Addr) (p : Pc) (w : World) (hs : p.dat.size ≤ 1048576) (hL : S.Lay w) (hT : Tab w) (hE : w.cell? ⟨0, 0, none⟩ = some (.iface 101 (.pointer (some e)))) :
    Calls Tryd.prog 31 #[.agg (pcA p)] w fun x w' => x = .returned (.bool (holdsD p)) ∧ Below w.heap.size w w' := by
  obtain ⟨W1, hW1⟩ : ∃ W1, w.alloc (.cells (pcA p) 38) = W1 := ⟨_, rfl⟩
  have x1 : RowAt W1 w.heap.size (pcA p) 38 := by rw [← hW1]; exact RowAt.new _ _ _
  have hb1 : Below w.heap.size w W1 := by rw [← hW1]; exact below_new w _
  obtain ⟨cap, W2, hcv, hrd, hb2, hs2⟩ := conv_str p.dat W1 hs
  have hb12 := Below.next hb1 hb2
  have hg : 0 < w.heap.size := World.block_lt_of_cell? w _ hE
  have x2 := x1.below hb2
  have HRD := hide (S.read_any e _ p.dat.data.toList p.id W2 hrd (hL.below hb12) (hT.below hb12) ((hb12.cell (p := ⟨0, 0, none⟩) hg).trans hE))
  have HX2 := hide x2
  have HB2 := hide hb12
  have HW1 := hide hW1
  have HCV := hide hcv
  have c2 : W1.cell? ⟨w.heap.size, 2, none⟩ = some (.string p.dat) := x1.cell 2 (by simp [pcA])
  have c0 : W2.cell? ⟨w.heap.size, 0, none⟩ = some (.int .i64 p.id) := x2.cell 0 (by simp [pcA])
  have hd : holdsD p = (decide (S.okRead p.dat.data.toList p.id) && decide (S.nums p.dat.data.toList 3 = p.tx)) := rfl
  rw [hd]
  clear hd hW1 hb1 hrd hb2 hs2 hb12 hg x1 x2 hL hT hE hs hcv
  by_cases hok : S.okRead p.dat.data.toList p.id
  · rw [S.readV_ok hok] at HRD
    have hv : (decide (S.okRead p.dat.data.toList p.id) && decide (S.nums p.dat.data.toList 3 = p.tx)) = decide (S.nums p.dat.data.toList 3 = p.tx) := by rw [decide_eq_true hok]; rfl
    rw [hv]
    clear hv hok
    obtain ⟨id, tx, dat⟩ := p
    simp only at *
    have HD : Hid (((S.nums dat.data.toList 3 : Int) == (tx : Int)) = decide (S.nums dat.data.toList 3 = tx)) := by show _ = _; rw [Bool.eq_iff_iff]; simp; omega
    generalize S.nums dat.data.toList 0 = k0 at *
    generalize S.nums dat.data.toList 1 = k1 at *
    generalize S.nums dat.data.toList 2 = k2 at *
    generalize S.nums dat.data.toList 3 = k3 at *
    unfold pcA at HX2 HW1 ⊢
    have hcv2 := HCV.out
    go_enter Tryd.func31, Tryd.ntmps31
    go_wp2_with fail
    rw [HW1.out]
    go_wp2_with fail
    rw [hcv2]
    go_wp2_with fail
    refine HRD.out.mono ?_
    rintro x W3 ⟨rfl, hb3⟩
    have x3 := HX2.out.below hb3
    have d1 := x3.cell 1 (by simp)
    have HB3 := hide (Below.next HB2.out hb3)
    have hlt3 : w.heap.size < W3.heap.size := x3.lt
    clear hb3 HRD HX2 HW1 HCV hcv2 c0 c2 x3
    go_wp2_with fail
    go_wp2
    go_ret
    refine ⟨by simp; exact HD.out, ?_⟩
    exact HB3.out.alloc HB3.out.size _
  · rw [S.readV_no hok] at HRD
    have hv : (decide (S.okRead p.dat.data.toList p.id) && decide (S.nums p.dat.data.toList 3 = p.tx)) = false := by rw [decide_eq_false hok]; rfl
    rw [hv]
    clear hv hok
    obtain ⟨id, tx, dat⟩ := p
    simp only at *
    unfold pcA at HX2 HW1 ⊢
    have hcv2 := HCV.out
    go_enter Tryd.func31, Tryd.ntmps31
    go_wp2_with fail
    rw [HW1.out]
    go_wp2_with fail
    rw [hcv2]
    go_wp2_with fail
    refine HRD.out.mono ?_
    rintro x W3 ⟨rfl, hb3⟩
    have HB3 := hide (Below.next HB2.out hb3)
    clear hb3 HRD HX2 HW1 HCV hcv2 c0 c2
    go_wp2_with fail
    go_wp2
    go_ret
    refine ⟨rfl, ?_⟩
    exact HB3.out.alloc HB3.out.size _
end Go.Proofs.YtpeobpmooledaaaDoor

namespace Go.Proofs.YtpeobpmooledaaaDoor
open Go.RowKit
attribute [local go_sem ↓] Go.wp_at_zero Go.wp_at_succ

/-- What the calls stand on: the errors, the table, the layout. -/
structure EB (A : Nat → Addr) (w : World) : Prop where
  lay : S.Lay w
  tab : Tab w
  err : ErrsG 13 gAll A w
theorem EB.below {A : Nat → Addr} {w w' : World} (h : EB A w) (hb : Below w.heap.size w w') : EB A w' := ⟨h.lay.below hb, h.tab.below hb, h.err.keep hb⟩
theorem EB.text {A : Nat → Addr} {w : World} (h : EB A w) : w.cell? ⟨0, 0, none⟩ = some (.iface 101 (.pointer (some (A 1)))) := (h.err.1 1 (by decide)).1
theorem EB.arg {A : Nat → Addr} {w : World} (h : EB A w) : w.cell? ⟨1, 0, none⟩ = some (.iface 101 (.pointer (some (A 0)))) := (h.err.1 0 (by decide)).1

set_option maxHeartbeats 16000000 in
theorem bparcs_any (A : Nat → Addr) (a : Ar) (vi vp : Value) (w : World) (hf : ArFit a) (he : EB A w) (hr : PcR w vp a.pcs) :
    Calls Tryd.prog 17 #[.agg (arC a vi vp)] w fun e w' => e = .returned (.bool (pcOk a.si a.tx 2 a.pcs)) ∧ Below w.heap.size w w' := by
  obtain ⟨W1, hW1⟩ : ∃ W1, w.alloc (.cells (arC a vi vp) 29) = W1 := ⟨_, rfl⟩
  have x1 : RowAt W1 w.heap.size (arC a vi vp) 29 := by rw [← hW1]; exact arC_row _ _ _ _
  have hb1 : Below w.heap.size w W1 := by rw [← hW1]; exact below_new w _
  have HX := hide x1
  have HB1 := hide hb1
  have HR := hide (hr.below hb1)
  have HEB := hide (he.below hb1)
  obtain ⟨x, cap, hv, -⟩ := hr
  have HW : Hid (w.alloc (.cells #[.int .i64 a.pg, .int .i64 a.rt, .int .u64 (a.tx : Int), .int .u64 (a.si : Int), vi, vp, .int .u32 (a.sum : Int)] 29) = W1) := hW1
  obtain ⟨n, hn⟩ : ∃ n, n = a.pcs.length := ⟨_, rfl⟩
  rw [← hn] at hv
  subst hv
  have HN := hide hn
  have HF := hide hf
  have hnb : n ≤ 1048640 := by rw [hn]; exact hf.np
  have q5 := x1.a5
  obtain ⟨Q, hQ⟩ : ∃ Q : Ending → World → Prop, Q = fun e w' => e = .returned (.bool (pcOk a.si a.tx 2 a.pcs)) ∧ Below w.heap.size w w' := ⟨_, rfl⟩
  rw [← hQ]
  have HQ := hide hQ
  clear hQ hW1 hb1 x1 hn hf he
  unfold arC
  go_enter Tryd.func17, Tryd.ntmps17
  go_wp2_with fail
  rw [HW.out]
  go_wp2
  go_loopw [3, 9] (fun c i wr => ∃ (k : Nat) (lo : Int), k ≤ n ∧ i = .int .i64 k ∧ c = .int .i64 lo ∧ (pcOk a.si a.tx 2 a.pcs = pcOk a.si a.tx lo (a.pcs.drop k)) ∧ Below W1.heap.size W1 wr) (fun _ i _ => n - (intOf i).toNat)
  case atStart => exact ⟨0, 2, Nat.zero_le _, rfl, rfl, rfl, Below.refl _ _⟩
  case round =>
    obtain ⟨k, lo, hk, rfl, rfl, he, hbw⟩ := hrel
    have HBW := hide (Below.next HB1.out hbw)
    by_cases hlt : k < n
    · have hkl : k < a.pcs.length := by have := HN.out; omega
      have hD : a.pcs.drop k = a.pcs[k] :: a.pcs.drop (k + 1) := List.drop_eq_getElem_cons hkl
      obtain ⟨a9, cap9, he9, _, _, hc⟩ := HR.out.below hbw
      obtain ⟨g, o, ha, c0, c1, c2⟩ := hc k hkl
      obtain ⟨rfl, -, rfl⟩ : x = a9 ∧ n = a.pcs.length ∧ cap = cap9 := by simpa using he9
      subst ha
      have hxb := HF.out.pcs a.pcs[k] (List.getElem_mem _)
      obtain ⟨y, hy⟩ : ∃ y, y = a.pcs[k] := ⟨_, rfl⟩
      rw [hD, ← hy] at he
      rw [← hy] at c0 c1 c2 hxb
      have HE := hide he
      have hltI : (k : Int) < (n : Int) := by omega
      have j0 : (0 : Int) ≤ (k : Int) := by omega
      obtain ⟨W2, hW2⟩ : ∃ W2, wr.alloc (.cells (pcA y) 38) = W2 := ⟨_, rfl⟩
      have x2 : RowAt W2 wr.heap.size (pcA y) 38 := by rw [← hW2]; exact RowAt.new _ _ _
      have hb2 : Below wr.heap.size wr W2 := by rw [← hW2]; exact below_new wr _
      have hbw2 := Below.next hbw hb2
      have x12 := HX.out.below hbw2
      have q0 := x12.a2
      have q3 := x12.a3
      have d0 : W2.cell? ⟨wr.heap.size, 0, none⟩ = some (.int .i64 y.id) := x2.cell 0 (by simp [pcA])
      have d1 : W2.cell? ⟨wr.heap.size, 1, none⟩ = some (.int .u64 (y.tx : Int)) := x2.cell 1 (by simp [pcA])
      have d2 : W2.cell? ⟨wr.heap.size, 2, none⟩ = some (.string y.dat) := x2.cell 2 (by simp [pcA])
      have HH := hide (bholds_any (A 1) y W2 hxb.2.2 (HEB.out.below hbw2).lay (HEB.out.below hbw2).tab (HEB.out.below hbw2).text)
      have HB2 := hide hbw2
      have HX2 := hide x2
      have HW2 : Hid (wr.alloc (.cells #[.int .i64 y.id, .int .u64 (y.tx : Int), .string y.dat] 38) = W2) := hW2
      have HXB := hide hxb
      have HBO := hide (Below.next HB1.out hbw2)
      rw [← HW2.out] at q0 q3
      unfold pcA at HH
      clear hc he9 hD hy he x12 hbw2 hb2 x2 hW2 hbw hxb
      by_cases h1 : y.id < lo
      · have HO : Hid (pcOk a.si a.tx 2 a.pcs = false) := by show _ = _; rw [HE.out]; simp [pcOk, h1]
        go_wp2
        rw [HQ.out, HO.out]
        exact ⟨rfl, by rw [HW2.out]; exact HBO.out⟩
      · by_cases h2 : y.tx ≤ a.si
        · have HO : Hid (pcOk a.si a.tx 2 a.pcs = false) := by show _ = _; rw [HE.out]; simp [pcOk, h2]
          have h2I : (y.tx : Int) ≤ (a.si : Int) := by omega
          go_wp2
          rw [HQ.out, HO.out]
          exact ⟨rfl, by rw [HW2.out]; exact HBO.out⟩
        · have h2I : ¬ (y.tx : Int) ≤ (a.si : Int) := by omega
          by_cases h3 : a.tx < y.tx
          · have HO : Hid (pcOk a.si a.tx 2 a.pcs = false) := by show _ = _; rw [HE.out]; simp [pcOk, h3]
            have h3I : (a.tx : Int) < (y.tx : Int) := by omega
            go_wp2
            rw [HQ.out, HO.out]
            exact ⟨rfl, by rw [HW2.out]; exact HBO.out⟩
          · have h3I : ¬ (a.tx : Int) < (y.tx : Int) := by omega
            by_cases h4 : holdsD y = true
            · have HO : Hid (pcOk a.si a.tx 2 a.pcs = pcOk a.si a.tx (y.id + 1) (a.pcs.drop (k + 1))) := by show _ = _; rw [HE.out]; simp [pcOk, h1, h2, h3, h4]
              have hid : y.id < 1048576 := by
                have := h4
                simp only [holdsD, Bool.and_eq_true, decide_eq_true_eq] at this
                have hm := this.1.2.2.1
                have he := this.1.2.1
                unfold S.May at hm
                omega
              have hwr : IntKind.i64.wrap (y.id + 1) = y.id + 1 := by rw [IntKind.wrap_i64]; have := HXB.out.1; omega
              rw [h4] at HH
              clear HE h4
              go_wp2_with fail
              rw [HW2.out]
              refine HH.out.mono ?_
              rintro e W3 ⟨rfl, hb3⟩
              have d3 : W3.cell? ⟨wr.heap.size, 0, none⟩ = some (.int .i64 y.id) := (HX2.out.below hb3).cell 0 (by simp [pcA])
              have HB3 := hide (Below.next HB2.out hb3)
              clear hb3 HH d0 d1 d2 HX2 HW2 q0 q3
              go_wp2
              go_roundw
              case rel => exact ⟨k + 1, y.id + 1, by omega, by go_num, rfl, HO.out, HB3.out⟩
              case measure => simp [intOf]; omega
            · have h4' : holdsD y = false := by simpa using h4
              have HO : Hid (pcOk a.si a.tx 2 a.pcs = false) := by show _ = _; rw [HE.out]; simp [pcOk, h4']
              rw [h4'] at HH
              clear HE h4 h4'
              go_wp2_with fail
              rw [HW2.out]
              refine HH.out.mono ?_
              rintro e W3 ⟨rfl, hb3⟩
              have HB3 := hide (Below.next HBO.out hb3)
              clear hb3 HH d0 d1 d2 HX2 HW2 q0 q3
              go_wp2
              rw [HQ.out, HO.out]
              exact ⟨rfl, HB3.out⟩
    · have hltI : ¬ (k : Int) < (n : Int) := by omega
      have hkn : k = n := by omega
      subst hkn
      have HO : Hid (pcOk a.si a.tx 2 a.pcs = true) := by show _ = _; rw [he, List.drop_of_length_le (Nat.le_of_eq HN.out.symm)]; rfl
      clear he hbw
      go_wp2
      rw [HQ.out, HO.out]
      exact ⟨rfl, HBW.out⟩
end Go.Proofs.YtpeobpmooledaaaDoor
