import Derived.Test.YtdghlblgmihbpaaDoorFAlike
namespace Go.Proofs.YtdghlblgmihbpaaDoor
open Go.RowKit

def Tb1 : Nat → Bool := (markD 8 (T0 8) 3).2
def Tb2 : Nat → Bool := (takeD 8 Tb1 2).2.2
def Tb3 : Nat → Bool := (clearD 8 Tb2 3).2
def Tb4 : Nat → Bool := (takeD 8 Tb3 1).2.2
theorem lit_natR (w : World) (l : List Nat) (n : Nat) (hl : l.length = n) : NatR (w.alloc (.cells (nats l).toArray 3)) (.slice (some ⟨w.heap.size, 0, none⟩) n n) l := by
  subst hl
  refine ⟨_, _, rfl, fun j hj => ⟨w.heap.size, 0, rfl, ?_⟩⟩
  rw [Nat.zero_add, cell_of_row _ w.heap.size j _ _ _ (heap_alloc_new w _)]
  simpa using nats_get l j hj
theorem only_new {w0 w w' : World} {g : Nat} (hb : Below w0.heap.size w0 w) (ho : Only (fun k => k = g) w w') (hg : w0.heap.size ≤ g) : Below w0.heap.size w0 w' :=
  hb.trans (ho.below (fun k hk => by show _ ≤ k; rw [show k = g from hk]; exact hg) hb.size)
set_option maxRecDepth 100000 in
set_option maxHeartbeats 4000000 in
theorem begun_any (base : Nat) (A : Nat → Addr) (w : World) (hE : Env base A w) : Calls Tryd.prog 9 #[] w fun e w' => e = .returned (.bool true) ∧ Below w.heap.size w w' := by
  have HE := hide hE
  have HEB : Hid (∀ w', Below w.heap.size w w' → Env base A w') := fun w' hb => HE.out.up hb
  have N := hide (new_any 8 w (by decide) (by decide))
  have HO0 := hide (t0_ok (P := 8) (by decide) (by decide))
  have HO1 : Hid (MapOk 8 Tb1) := mark_ok HO0.out 3
  have HO2 : Hid (MapOk 8 Tb2) := take_ok HO1.out 2
  have HO3 : Hid (MapOk 8 Tb3) := clear_ok HO2.out 3
  clear hE
  go_enter Tryd.func9, Tryd.ntmps9
  go_wp2_with fail
  refine N.out.mono ?_
  rintro e w1 ⟨b, g, rfl, hbb, hgg, h1, hB1⟩
  have HGG := hide hgg
  have M := hide (mark_any base A b g 8 (T0 8) 3 w1 h1 (HEB.out _ hB1))
  have HB1 := hide hB1
  rw [show (markD 8 (T0 8) 3).1 = none from rfl] at M
  clear h1 hB1 N hgg hbb
  go_wp2_with fail
  refine M.out.mono ?_
  rintro e w2 ⟨rfl, h2, o2⟩
  have HB2 := hide (only_new HB1.out o2 HGG.out)
  have h2' : MapR w2 b g 8 Tb1 := h2
  have F := hide (free_any b g 8 Tb1 w2 h2' HO1.out)
  rw [show (frl Tb1 8).length = 5 by decide] at F
  have TK := hide (take_any base A b g 8 Tb1 2 w2 h2' HO1.out (HEB.out _ HB2.out))
  rw [show (takeD 8 Tb1 2).1 = none by decide, show (takeD 8 Tb1 2).2.1 = [2, 4] by decide] at TK
  clear h2 o2 M h2'
  unfold errV
  go_wp2_with fail
  refine F.out.mono ?_
  rintro e w3 ⟨rfl, rfl⟩
  go_wp2_with fail
  refine TK.out.mono ?_
  rintro e w3 ⟨v, rfl, hv, h3, o3⟩
  obtain ⟨va, vc, rfl, -⟩ := owns_form hv
  have HB3 := hide (only_new HB2.out o3 HGG.out)
  have HV := hide (natR_of_owns hv)
  have H3 : Hid (MapR w3 b g 8 Tb2) := h3
  clear hv h3 o3 F TK
  have SI := hide (samei_any _ _ [2, 4] (w3.alloc (.cells (nats [2, 4]).toArray 3)) (by decide) (HV.out.below (below_new _ _)) (lit_natR w3 [2, 4] 2 rfl))
  unfold errV
  go_wp2_with fail
  refine SI.out.mono ?_
  rintro e w4 ⟨rfl, hb4⟩
  have hb34 : Below w3.heap.size w3 w4 := Below.next (below_new w3 (.cells (nats [2, 4]).toArray 3)) hb4
  have HB4 := hide (Below.next HB3.out hb34)
  have CL := hide (clear_any base A b g 8 Tb2 3 w4 (H3.out.below hb34) (HEB.out _ HB4.out))
  rw [show (clearD 8 Tb2 3).1 = none by decide] at CL
  clear hb4 hb34 SI HV
  go_wp2_with fail
  refine CL.out.mono ?_
  rintro e w5 ⟨rfl, h5, o5⟩
  have HB5 := hide (only_new HB4.out o5 HGG.out)
  have HG6 := hide h5.ltg
  have TK := hide (take_any base A b g 8 Tb3 1 w5 h5 HO3.out (HEB.out _ HB5.out))
  rw [show (takeD 8 Tb3 1).1 = none by decide, show (takeD 8 Tb3 1).2.1 = [3] by decide] at TK
  clear h5 o5 CL
  unfold errV
  go_wp2_with fail
  refine TK.out.mono ?_
  rintro e w6 ⟨v, rfl, hv, h6, o6⟩
  obtain ⟨ua, uc, rfl, -⟩ := owns_form hv
  have HB6 := hide (only_new HB5.out o6 HGG.out)
  have h6' : MapR w6 b g 8 Tb4 := h6
  have HO4 : Hid (MapOk 8 Tb4) := take_ok HO3.out 1
  have TK2 := hide (take_any base A b g 8 Tb4 9 w6 h6' HO4.out (HEB.out _ HB6.out))
  have HE9 : Hid ((takeD 8 Tb4 9).1 = some 6) := by show _ = _; decide
  have HT9 : Hid ((takeD 8 Tb4 9).2.2 = Tb4) := rfl
  rw [HE9.out, HT9.out] at TK2
  have HV := hide hv
  clear h6 o6 TK h6' hv
  unfold errV
  go_wp2_with fail
  refine TK2.out.mono ?_
  rintro e w7 ⟨v7, rfl, hv7, h7, o7⟩
  obtain ⟨xa, xc, rfl, -⟩ := owns_form hv7
  have HB7 := hide (only_new HB6.out o7 HGG.out)
  have HV7 := hide (natR_of_owns (owns_only HV.out o7 (fun k hk e => by have := (owns_blk HV.out k hk).1; have := HG6.out; have : k = g := e; omega)))
  have H7 := hide h7
  have c6 : w7.cell? ⟨0, 0, none⟩ = some (.iface 86 (.pointer (some (A 6)))) := (HEB.out _ HB7.out).e 6 (by decide)
  have e6 := eq_same A 6
  have SI := hide (samei_any _ _ [3] (w7.alloc (.cells (nats [3]).toArray 3)) (by decide) (HV7.out.below (below_new _ _)) (lit_natR w7 [3] 1 rfl))
  clear hv7 h7 o7 TK2 HV
  unfold errV
  go_wp2_with fail
  refine SI.out.mono ?_
  rintro e w8 ⟨rfl, hb8⟩
  have hb78 : Below w7.heap.size w7 w8 := Below.next (below_new w7 (.cells (nats [3]).toArray 3)) hb8
  have HB8 := hide (Below.next HB7.out hb78)
  have H8 := hide (H7.out.below hb78)
  have U3 := hide (used_any b g 8 Tb4 3 w8 H8.out)
  rw [show usedB 8 Tb4 3 = true by decide] at U3
  have c6 : w8.cell? ⟨0, 0, none⟩ = some (.iface 86 (.pointer (some (A 6)))) := (HEB.out _ HB8.out).e 6 (by decide)
  clear hb8 hb78 SI HV7 H7
  go_wp2_with fail
  refine U3.out.mono ?_
  rintro e w9 ⟨rfl, hb9⟩
  have HB9 := hide (Below.next HB8.out hb9)
  have H9 := hide (H8.out.below hb9)
  have U5 := hide (used_any b g 8 Tb4 5 w9 H9.out)
  rw [show usedB 8 Tb4 5 = false by decide] at U5
  clear hb9 U3 c6 e6
  go_wp2_with fail
  refine U5.out.mono ?_
  rintro e w10 ⟨rfl, hb10⟩
  have HB10 := hide (Below.next HB9.out hb10)
  have H10 := hide (H9.out.below hb10)
  have U0 := hide (used_any b g 8 Tb4 0 w10 H10.out)
  rw [show usedB 8 Tb4 0 = true by decide] at U0
  clear hb10 U5
  go_wp2_with fail
  refine U0.out.mono ?_
  rintro e w11 ⟨rfl, hb11⟩
  have HB11 := hide (Below.next HB10.out hb11)
  have H11 := hide (H10.out.below hb11)
  have U1 := hide (used_any b g 8 Tb4 1 w11 H11.out)
  rw [show usedB 8 Tb4 1 = true by decide] at U1
  clear hb11 U0
  go_wp2_with fail
  refine U1.out.mono ?_
  rintro e w12 ⟨rfl, hb12⟩
  have HB12 := hide (Below.next HB11.out hb12)
  clear hb12 U1
  go_wp2
  go_ret
  exact ⟨rfl, HB12.out⟩

end Go.Proofs.YtdghlblgmihbpaaDoor
