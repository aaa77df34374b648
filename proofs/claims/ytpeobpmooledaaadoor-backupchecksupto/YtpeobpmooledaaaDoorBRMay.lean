import Derived.Test.YtpeobpmooledaaaDoorBMap
import Derived.Test.YtpeobpmooledaaaDoorSRRead
import Derived.Test.YtpeobpmooledaaaDoorMREnc
import Derived.Deep.RegionHeld3
namespace Go.Proofs.YtpeobpmooledaaaDoor
open Go.RowKit
attribute [local go_sem ↓] Go.wp_at_zero Go.wp_at_succ

set_option maxHeartbeats 4000000 in
theorem rstands_any (v : Value) (l : List Int) (y : Int) (w : World) (hn : l.length ≤ 1048640) (hr : RowR w v (ints l)) :
    Calls Tryd.prog 39 #[.int .i64 y, v] w fun e w' => e = .returned (.bool (decide (y ∈ l))) ∧ w = w' := by
  have HR := hide hr
  obtain ⟨x, cap, hv, -⟩ := hr
  obtain ⟨n, hnl⟩ : ∃ n, n = l.length := ⟨_, rfl⟩
  rw [ints_length, ← hnl] at hv
  subst hv
  have HN := hide hnl
  rw [← hnl] at hn
  obtain ⟨Q, hQ⟩ : ∃ Q : Ending → World → Prop, Q = fun e w' => e = .returned (.bool (decide (y ∈ l))) ∧ w = w' := ⟨_, rfl⟩
  rw [← hQ]
  have HQ := hide hQ
  clear hQ hnl
  go_enter Tryd.func39, Tryd.ntmps39
  go_wp2
  go_loopw [5] (fun i wr => ∃ k : Nat, k ≤ n ∧ i = .int .i64 k ∧ Hid (∀ j (h : j < l.length), j < k → l[j] ≠ y) ∧ wr = w) (fun i _ => n - (intOf i).toNat)
  case atStart => exact ⟨0, Nat.zero_le _, rfl, (fun j h h0 => by omega), rfl⟩
  case round =>
    obtain ⟨k, hk, rfl, hno, rfl⟩ := hrel
    by_cases hlt : k < n
    · have hltI : (k : Int) < (n : Int) := by omega
      have j0 : (0 : Int) ≤ (k : Int) := by omega
      have hkl : k < l.length := by have := HN.out; omega
      obtain ⟨a9, cap9, he9, _, _, hc⟩ := HR.out
      obtain ⟨g, o, ha, hcell⟩ := hc k _ (ints_get l k hkl)
      obtain ⟨rfl, -, rfl⟩ : x = a9 ∧ n = (ints l).length ∧ cap = cap9 := by simpa using he9
      subst ha
      have HME : Hid (l[k] ∈ l) := List.getElem_mem hkl
      obtain ⟨z, hz⟩ : ∃ z, z = l[k] := ⟨_, rfl⟩
      have HZ := hide hz
      rw [← hz] at hcell HME
      clear hc he9 hz
      by_cases he : z = y
      · have HV : Hid (decide (y ∈ l) = true) := by show _ = _; rw [← he]; exact decide_eq_true HME.out
        have heI : (z == y) = true := by simp [he]
        clear he
        go_wp2
        rw [HQ.out, HV.out]
        exact ⟨rfl, rfl⟩
      · have heI : (z == y) = false := by simp [he]
        have HNO : Hid (∀ j (h : j < l.length), j < k + 1 → l[j] ≠ y) := fun j h hj => by
          by_cases hjk : j < k
          · exact hno.out j h hjk
          · have : j = k := by omega
            subst this
            rw [← HZ.out]; exact he
        clear hno
        go_wp2
        go_roundw
        case rel => exact ⟨k + 1, by omega, by go_num, HNO.out, trivial⟩
        case measure => simp [intOf]; omega
    · have hltI : ¬ (k : Int) < (n : Int) := by omega
      have HV : Hid (decide (y ∈ l) = false) := by
        show _ = _
        refine decide_eq_false fun hm => ?_
        obtain ⟨j, hj, e⟩ := List.getElem_of_mem hm
        exact hno.out j hj (by have := HN.out; omega) e
      clear hno
      go_wp2
      rw [HQ.out, HV.out]
      exact ⟨rfl, rfl⟩
/-- What the document asks of a parcel. -/
def coreD (a : Ar) (p : Pc) : Bool := decide (p.id ∈ a.ids) && (holdsD p && decide (a.si < p.tx) && decide (p.tx ≤ a.tx))
set_option maxRecDepth 100000 in
set_option maxHeartbeats 16000000 in
theorem rpmay_any (a : Ar) (p : Pc) (vi vp : Value) (w : World) (hn : a.ids.length ≤ 1048640) (hs : p.dat.size ≤ 1048576) (hr : RowR w vi (ints a.ids)) :
    Calls Tryd.prog 25 #[.agg (arC a vi vp), .agg (pcA p)] w fun x w' => x = .returned (.bool (coreD a p)) ∧ Below w.heap.size w w' := by
  obtain ⟨W1, hW1⟩ : ∃ W1, (w.alloc (.cells (arC a vi vp) 29)).alloc (.cells (pcA p) 38) = W1 := ⟨_, rfl⟩
  have hb1 : Below w.heap.size w W1 := by rw [← hW1]; exact Below.next (below_new w _) (below_new _ _)
  have x1 : RowAt W1 w.heap.size (arC a vi vp) 29 := by rw [← hW1]; exact (arC_row _ _ _ _).below (below_new _ _)
  have x2 : RowAt W1 (w.heap.size + 1) (pcA p) 38 := by
    rw [← hW1]
    have := RowAt.new (w.alloc (.cells (arC a vi vp) 29)) (pcA p) 38
    rwa [World.size_alloc] at this
  have HS := hide (rstands_any vi a.ids p.id W1 hn (hr.below hb1))
  obtain ⟨cap, W2, hcv, hrd, hb2, hs2⟩ := conv_str p.dat W1 hs
  have HRD := hide (S.rread_any _ p.dat.data.toList p.id W2 hrd)
  have HX1 := hide (x1.below hb2)
  have HX2 := hide (x2.below hb2)
  have HB2 := hide (Below.next hb1 hb2)
  have HW1 : Hid ((w.alloc (.cells #[.int .i64 a.pg, .int .i64 a.rt, .int .u64 (a.tx : Int), .int .u64 (a.si : Int), vi, vp, .int .u32 (a.sum : Int)] 29)).alloc (.cells #[.int .i64 p.id, .int .u64 (p.tx : Int), .string p.dat] 38) = W1) := hW1
  have HCV := hide hcv
  have c2 : W1.cell? ⟨w.heap.size + 1, 2, none⟩ = some (.string p.dat) := x2.cell 2 (by simp [pcA])
  have c0 : W2.cell? ⟨w.heap.size + 1, 0, none⟩ = some (.int .i64 p.id) := (x2.below hb2).cell 0 (by simp [pcA])
  obtain ⟨Q, hQ⟩ : ∃ Q : Ending → World → Prop, Q = fun e w' => e = .returned (.bool (coreD a p)) ∧ Below w.heap.size w w' := ⟨_, rfl⟩
  rw [← hQ]
  have HQ := hide hQ
  have hcd : coreD a p = (decide (p.id ∈ a.ids) && (decide (S.okRead p.dat.data.toList p.id) && decide (S.nums p.dat.data.toList 3 = p.tx) && decide (a.si < p.tx) && decide (p.tx ≤ a.tx))) := rfl
  obtain ⟨bs, hbs⟩ : ∃ bs, decide (p.id ∈ a.ids) = bs := ⟨_, rfl⟩
  rw [hbs] at hcd HS
  have HCD := hide hcd
  clear hQ hW1 hb1 x1 x2 hrd hb2 hs2 hr hs hn hcv hcd hbs
  unfold arC pcA
  by_cases hok : S.okRead p.dat.data.toList p.id
  · rw [S.rreadV_ok hok] at HRD
    have HC2 : Hid (coreD a p = (bs && (decide (S.nums p.dat.data.toList 3 = p.tx) && decide (a.si < p.tx) && decide (p.tx ≤ a.tx)))) := by show _ = _; rw [HCD.out, decide_eq_true hok]; simp
    clear HCD hok
    generalize S.nums p.dat.data.toList 0 = k0 at *
    generalize S.nums p.dat.data.toList 1 = k1 at *
    generalize S.nums p.dat.data.toList 2 = k2 at *
    generalize S.nums p.dat.data.toList 3 = k3 at *
    go_enter Tryd.func25, Tryd.ntmps25
    go_wp2_with fail
    rw [HW1.out]
    refine HS.out.mono ?_
    rintro x W9 ⟨rfl, rfl⟩
    go_wp2_with fail
    rw [HCV.out]
    go_wp2_with fail
    refine HRD.out.mono ?_
    rintro x W3 ⟨rfl, hb3⟩
    have HB3 := hide (Below.next HB2.out hb3)
    have y1 := HX1.out.below hb3
    have y2 := HX2.out.below hb3
    have l1 := y1.lt
    have l2 := y2.lt
    have d1 : W3.cell? ⟨w.heap.size + 1, 1, none⟩ = some (.int .u64 (p.tx : Int)) := y2.cell 1 (by simp [pcA])
    have e2 := y1.a2
    have e3 := y1.a3
    have HBA := hide (fun o => HB3.out.alloc HB3.out.size o)
    clear hb3 HRD HX1 HX2 HW1 HCV HS c0 c2 y1 y2
    cases bs with
    | false =>
      have HV : Hid (coreD a p = false) := by show _ = _; rw [HC2.out]; simp
      go_wp2_with fail
      rw [HQ.out, HV.out]
      exact ⟨rfl, HBA.out _⟩
    | true =>
      by_cases h1 : k3 = p.tx
      · have h1I : ((k3 : Int) == (p.tx : Int)) = true := by rw [h1]; simp
        by_cases h2 : a.si < p.tx
        · have h2I : (a.si : Int) < (p.tx : Int) := by omega
          by_cases h3 : p.tx ≤ a.tx
          · have h3I : (p.tx : Int) ≤ (a.tx : Int) := by omega
            have HV : Hid (coreD a p = true) := by show _ = _; rw [HC2.out]; simp [h1, h2, h3]
            clear h1
            go_wp2_with fail
            rw [HQ.out, HV.out]
            exact ⟨rfl, HBA.out _⟩
          · have h3I : ¬ (p.tx : Int) ≤ (a.tx : Int) := by omega
            have HV : Hid (coreD a p = false) := by show _ = _; rw [HC2.out]; simp [h3]
            clear h1
            go_wp2_with fail
            rw [HQ.out, HV.out]
            exact ⟨rfl, HBA.out _⟩
        · have h2I : ¬ (a.si : Int) < (p.tx : Int) := by omega
          have HV : Hid (coreD a p = false) := by show _ = _; rw [HC2.out]; simp [h2]
          clear h1
          go_wp2_with fail
          rw [HQ.out, HV.out]
          exact ⟨rfl, HBA.out _⟩
      · have h1I : ((k3 : Int) == (p.tx : Int)) = false := by simp; omega
        have HV : Hid (coreD a p = false) := by show _ = _; rw [HC2.out]; simp [h1]
        clear h1
        go_wp2_with fail
        rw [HQ.out, HV.out]
        exact ⟨rfl, HBA.out _⟩
  · rw [S.rreadV_no hok] at HRD
    have HV : Hid (coreD a p = false) := by show _ = _; rw [HCD.out, decide_eq_false hok]; simp
    clear HCD hok
    go_enter Tryd.func25, Tryd.ntmps25
    go_wp2_with fail
    rw [HW1.out]
    refine HS.out.mono ?_
    rintro x W9 ⟨rfl, rfl⟩
    go_wp2_with fail
    rw [HCV.out]
    go_wp2_with fail
    refine HRD.out.mono ?_
    rintro x W3 ⟨rfl, hb3⟩
    have HB3 := hide (Below.next HB2.out hb3)
    have HBA := hide (fun o => HB3.out.alloc HB3.out.size o)
    clear hb3 HRD HX1 HX2 HW1 HCV HS c0 c2
    cases bs with
    | false =>
      go_wp2_with fail
      rw [HQ.out, HV.out]
      exact ⟨rfl, HBA.out _⟩
    | true =>
      go_wp2_with fail
      rw [HQ.out, HV.out]
      exact ⟨rfl, HBA.out _⟩
end Go.Proofs.YtpeobpmooledaaaDoor
