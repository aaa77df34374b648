import Derived.Test.YtdacbajiapdiiabDoorREnc7
import Derived.Test.YtdacbajiapdiiabDoorLPairOf
import Derived.Test.YtdacbajiapdiiabDoorRRead6
namespace Go.Proofs.YtdacbajiapdiiabDoor
open Go.RowKit

/-- One text more on a list of the call's own. -/
theorem push_str (base : Nat) (v : Value) (xs : List ByteArray) (x : ByteArray) (t : TypeId) (w w0 : World) (B n : Nat) (hn : xs.length = n) (hown : w.ownsRow base 9 1 v n (strs xs)) (hb : (n + 1) * 16 ≤ 140737488355328) (hbase : base ≤ w.heap.size) (hB : B ≤ base) (h0 : Below B w0 w) :
    ∃ a' cap' w', (Builtin.append_ #[53, 53] 53 #[v, .slice (some ⟨w.heap.size, 0, none⟩) 1 1]).run Tryd.prog (w.alloc (.cells #[.string x] t)) = .ok (.slice a' (n + 1) cap') w' ∧ w'.ownsRow base 9 1 (.slice a' (n + 1) cap') (n + 1) (strs (xs ++ [x])) ∧ Below B w0 w' ∧ w.heap.size ≤ w'.heap.size := by
  subst hn
  have hr : RowR (w.alloc (.cells #[.string x] t)) (.slice (some ⟨w.heap.size, 0, none⟩) 1 1) [.string x] := by
    have hbx := boxed_new w #[.string x] t
    refine ⟨_, _, rfl, Nat.le_refl _, fun h => (by cases h), fun j u hj => ⟨_, _, rfl, ?_⟩⟩
    have hj0 : j = 0 := by
      have := (List.getElem?_eq_some_iff.1 hj).1
      simpa using this
    subst hj0
    cases hj
    exact hbx.2 0 (by simp)
  obtain ⟨a', cap', w', hrun, hown', hg⟩ := append_row 53 9 _ 16 info9 Tryd.underlying53 rfl base xs.length v (strs xs) _ (World.ownsRow.alloc hown _) _ _ hr (fun u hu => by simp at hu; subst hu; rfl) (by simpa using hb) (by decide) (by simp; omega)
  refine ⟨a', cap', w', hrun, by rw [strs_append]; exact hown', ?_, ?_⟩
  · exact (h0.alloc (Nat.le_trans hB hbase) _).grown hg (by simp; omega) (fun k hk => Nat.le_trans hB (World.ownsRow.lt hown k hk).1)
  · have := hg.size
    simp at this
    omega

/-- What the document's Encode answers. -/
def REncV (l : List Pr) (e : Ending) : Prop :=
  (chk l true = none ∧ e = .returned (.tuple #[.string (encL l), .int .i64 0])) ∨ (∃ k, chk l true = some k ∧ e = .returned (.tuple #[.string ⟨#[]⟩, .int .i64 ((k + 1 : Nat) : Int)]))

set_option maxRecDepth 20000 in
set_option maxHeartbeats 2000000 in
theorem rlenc_any (v : Value) (l : List Pr) (w : World) (hok : OkL l) (hm : l.length ≤ 140737488355328) (hr : PrR w v l) :
    Calls Tryd.prog 13 #[v] w fun e w' => REncV l e ∧ Below w.heap.size w w' := by
  have HCK := hide (rlcheck_any v l true w hok hm hr)
  obtain ⟨a, cap, rfl, hcap, _, hc⟩ := hr
  have HC := hide hc
  cases hck : chk l true with
  | some k =>
    rw [hck] at HCK
    have HV : Hid (chk l true = some k) := hck
    obtain ⟨k1, hk1⟩ : ∃ k1, k1 = k + 1 := ⟨_, rfl⟩
    have HK : Hid (Calls Tryd.prog 30 #[.slice a l.length cap, .bool true] w fun e w' => e = .returned (.int .i64 (k1 : Int)) ∧ Below w.heap.size w w') := by rw [hk1]; exact HCK.out
    have hd0 : ((k1 : Int) != 0) = true := by rw [bne_iff_ne]; omega
    have HK1 := hide hk1
    clear hc hcap hok hck HCK hk1
    go_enter Tryd.func13, Tryd.ntmps13
    go_wp2_with fail
    refine HK.out.mono ?_
    rintro e w1 ⟨rfl, hb1⟩
    go_wp2
    go_ret2
    exact ⟨.inr ⟨k, HV.out, by rw [← HK1.out]; rfl⟩, hb1⟩
  | none =>
    rw [hck] at HCK
    obtain ⟨h1, h2, h3, h4, h5⟩ := chk_none hck
    have hlen := szL_len l
    have HMAY := hide h1
    have HSZ : Hid (sizeL (l.map cellP) ≤ 4072) := by rw [size_cellP]; exact h3
    have hnl : l.length ≤ 814 := by omega
    have HV : Hid (chk l true = none) := hck
    obtain ⟨n, hn⟩ : ∃ n, n = l.length := ⟨_, rfl⟩
    have HK : Hid (Calls Tryd.prog 30 #[.slice a n cap, .bool true] w fun e w' => e = .returned (.int .i64 0) ∧ Below w.heap.size w w') := by rw [hn]; exact HCK.out
    rw [← hn] at hnl ⊢
    have HN := hide hn
    clear hc hcap hok hck h1 h2 h3 h4 h5 hlen hn hm HCK
    go_enter Tryd.func13, Tryd.ntmps13
    go_wp2_with fail
    refine HK.out.mono ?_
    rintro e w1 ⟨rfl, hb1⟩
    have HB1 := hide hb1
    clear hb1 HK
    go_wp2
    go_loopw [5, 6] (fun u i wr => ∃ k : Nat, k ≤ n ∧ i = .int .i64 k ∧ wr.ownsRow w.heap.size 9 1 u k (strs ((l.take k).map cellP)) ∧ Below w.heap.size w wr) (fun _ i _ => n - (intOf i).toNat)
    case atStart => exact ⟨0, Nat.zero_le _, rfl, World.ownsRow_nil _ _ _ _, HB1.out⟩
    case round =>
      obtain ⟨k, hk, rfl, hown, hbw⟩ := hrel
      clear HB1
      have htk : ((l.take k).map cellP).length = k := by rw [List.length_map, List.length_take]; have := HN.out; omega
      obtain ⟨ua, uc, hu⟩ := own_form1 hown
      subst hu
      by_cases hlt : k < n
      · have hkl : k < l.length := by have := HN.out; omega
        obtain ⟨g, o, rfl, f1, f2⟩ := HC.out k hkl
        have c1 : wr.cell? ⟨g, o + k * 2, none⟩ = some (.string l[k].1) := (hbw.cell (p := ⟨g, o + k * 2, none⟩) (World.block_lt_of_cell? w _ f1)).trans f1
        have c2 : wr.cell? ⟨g, o + k * 2 + 1, none⟩ = some (.string l[k].2) := (hbw.cell (p := ⟨g, o + k * 2 + 1, none⟩) (World.block_lt_of_cell? w _ f2)).trans f2
        have hp0 := may_parts' (HMAY.out l[k] (List.getElem_mem _))
        have HS : Hid ((l.take (k + 1)).map cellP = (l.take k).map cellP ++ [cellP l[k]]) := by show _ = _; rw [List.take_succ_eq_append_getElem hkl, List.map_append]; rfl
        have HZ := hide (fun W => rcell_any l[k] W hp0.2.1 (by omega))
        obtain ⟨p, hp⟩ : ∃ p, p = l[k] := ⟨_, rfl⟩
        rw [← hp] at c1 c2 HS HZ
        have HBW := hide hbw
        have HOW := hide hown
        have HTK := hide htk
        have hltI : (k : Int) < (n : Int) := by omega
        have j0 : (0 : Int) ≤ (k : Int) := by omega
        clear hp HC f1 f2 hbw hown hp0 htk
        go_wp2_with fail
        refine (HZ.out _).mono ?_
        rintro e w2 ⟨rfl, hb2⟩
        obtain ⟨z, hz⟩ : ∃ z, z = cellP p := ⟨_, rfl⟩
        rw [← hz] at HS ⊢
        obtain ⟨a1, cp1, w3, hrun, hown1, hb3, _⟩ := push_str w.heap.size _ _ z 9 w2 w w.heap.size k HTK.out (owns_below HOW.out hb2) (by omega) (by have := HBW.out.size; have := hb2.size; omega) (Nat.le_refl _) (Below.next HBW.out hb2)
        rw [← HS.out] at hown1
        have HO2 := hide hown1
        have HB2 := hide hb3
        clear hb2 HBW HOW HZ c1 c2 hown1 hb3 hz HS
        go_wp2_with (first | (at_builtin; refine wpList_append_run 53 rfl (.tmp 18) (.tmp 24) rfl rfl _ _ rfl rfl _ _ hrun ?_))
        clear hrun
        go_wp2
        go_roundw
        case rel => exact ⟨k + 1, by omega, by go_num, HO2.out, HB2.out⟩
        case measure => simp [intOf]; omega
      · have hkn : k = l.length := by have := HN.out; omega
        have hs := (rowR_of_owns hown).strs
        rw [hkn, List.take_length] at hs
        have HLY := hide (rlay_any _ (l.map cellP) wr (by have := HSZ.out; omega) hs)
        rw [← hkn] at HLY
        have HBW := hide hbw
        have hltI : ¬ (k : Int) < (n : Int) := by have := HN.out; omega
        have HKN := hide hkn
        clear HC hbw hown hs htk hkn
        go_wp2_with fail
        refine HLY.out.mono ?_
        rintro e w3 ⟨⟨s, c, rfl, hv⟩, hb3⟩
        have hv2 : s = encL l ∧ c = 0 := by
          rcases hv with ⟨_, h1, h2⟩ | ⟨h, _⟩
          · exact ⟨h1, h2⟩
          · exact absurd HSZ.out h
        obtain ⟨rfl, rfl⟩ := hv2
        have HB3 := hide (Below.next HBW.out hb3)
        clear hv hb3 HLY
        go_wp2
        go_ret2
        exact ⟨.inl ⟨HV.out, rfl⟩, HB3.out⟩

theorem rpairC_one (c : ByteArray) (h : 3 + (c.data.toList.getD 0 0).toNat ≤ c.size) : c.extract 3 (3 + (c.data.toList.getD 0 0).toNat) = (pairC c).1 := by
  refine ba_ext' ?_
  rw [ext_list c 3 _ h]
  simp only [pairC, keyC]
  rw [bsize, show min (c.data.toList.getD 0 0).toNat (c.size - 3) = (c.data.toList.getD 0 0).toNat by omega, show 3 + (c.data.toList.getD 0 0).toNat - 3 = (c.data.toList.getD 0 0).toNat by omega]
theorem rpairC_two (c : ByteArray) (h : 3 + (c.data.toList.getD 0 0).toNat ≤ c.size) : c.extract (3 + (c.data.toList.getD 0 0).toNat) c.size = (pairC c).2 := by
  refine ba_ext' ?_
  rw [ext_list c _ c.size (Nat.le_refl _)]
  simp only [pairC, keyC]
  rw [bsize, show min (c.data.toList.getD 0 0).toNat (c.size - 3) = (c.data.toList.getD 0 0).toNat by omega, List.drop_drop, List.take_of_length_le (by rw [List.length_drop, bsize]; omega)]

set_option maxRecDepth 20000 in
set_option maxHeartbeats 2000000 in
theorem rpairOf_any (c : ByteArray) (w : World) (hc : c.size ≤ 4072) :
    Calls Tryd.prog 26 #[.string c] w fun e w' => e = .returned (.agg #[.string (rpairC c).1, .string (rpairC c).2]) ∧ Below w.heap.size w w' := by
  have hbn := below_new w (.cells #[.string ⟨#[]⟩, .string ⟨#[]⟩] 45)
  have hrow := heap_alloc_new w (.cells #[.string ⟨#[]⟩, .string ⟨#[]⟩] 45)
  have HBN := hide hbn
  have HROW := hide hrow
  clear hbn
  by_cases h3 : c.size < 3
  · have e : rpairC c = (⟨#[]⟩, ⟨#[]⟩) := by unfold rpairC; rw [if_pos (.inl h3)]
    rw [e]
    have h3I : (c.size : Int) < 3 := by omega
    clear e h3 hrow
    go_enter Tryd.func26, Tryd.ntmps26
    go_wp2
    exact bodyPost_ret (results_cell_row rfl _ _ w.heap.size 45 _ (0, 0) _ rfl HROW.out Tryd.underlying45 rfl (by kernel_rfl)) rfl ⟨rfl, HBN.out⟩
  · have hd3 : decide ((c.size : Int) < 3) = false := decide_eq_false (by omega)
    have hx : (c.data.toList.getD 0 0).toNat < 256 := (c.data.toList.getD 0 0).toNat_lt
    obtain ⟨x, hxe⟩ : ∃ x, x = (c.data.toList.getD 0 0).toNat := ⟨_, rfl⟩
    have hd0 : c.data[0]?.getD 0 = c.data.toList.getD 0 0 := by simp [List.getD_eq_getElem?_getD]
    rw [← hxe] at hx
    have hwx : wrap64 (x : Int) = (x : Int) := by unfold wrap64; omega
    have hwx2 : IntKind.i64.wrap (x : Int) = (x : Int) := by rw [IntKind.wrap_i64]; omega
    have h0I : (0 : Int) < (c.size : Int) := by omega
    have h0N : 0 < c.size := by omega
    have hgx : (c[0]'h0N).toNat = x := by rw [hxe, ba_get c 0 h0N]
    obtain ⟨y, hy⟩ : ∃ y, y = 3 + x := ⟨_, rfl⟩
    have hw3 : IntKind.i64.wrap (3 + (x : Int)) = (y : Int) := by rw [IntKind.wrap_i64]; omega
    by_cases hs : c.size < 3 + x
    · have e : rpairC c = (⟨#[]⟩, ⟨#[]⟩) := by unfold rpairC; rw [← hxe, if_pos (.inr hs)]
      rw [e]
      have hsI : (c.size : Int) < (y : Int) := by omega
      clear e h3 hrow hxe hs hy
      go_enter Tryd.func26, Tryd.ntmps26
      go_wp2
      exact bodyPost_ret (results_cell_row rfl _ _ w.heap.size 45 _ (0, 0) _ rfl HROW.out Tryd.underlying45 rfl (by kernel_rfl)) rfl ⟨rfl, HBN.out⟩
    · have e : rpairC c = pairC c := by unfold rpairC; rw [← hxe, if_neg (by omega)]
      rw [e]
      have h1 := rpairC_one c (by rw [← hxe]; omega)
      have h2 := rpairC_two c (by rw [← hxe]; omega)
      rw [← hxe, ← hy] at h1 h2
      have hsI : ¬ (c.size : Int) < (y : Int) := by omega
      have hyI : (y : Int) ≤ (c.size : Int) := by omega
      have hy3 : (3 : Int) ≤ (y : Int) := by omega
      have q0 : (w.alloc (.cells #[.string ⟨#[]⟩, .string ⟨#[]⟩] 45)).cell? ⟨w.heap.size, 0, none⟩ = some (.string ⟨#[]⟩) := by rw [cell_of_row _ _ _ _ _ _ hrow]; rfl
      have q1 : (w.alloc (.cells #[.string ⟨#[]⟩, .string ⟨#[]⟩] 45)).cell? ⟨w.heap.size, 1, none⟩ = some (.string ⟨#[]⟩) := by rw [cell_of_row _ _ _ _ _ _ hrow]; rfl
      have z0 : (w.alloc (.cells #[.string ⟨#[]⟩, .string ⟨#[]⟩] 45)).frozen? ⟨w.heap.size, 0, none⟩ = false := frozen_of_row _ _ _ _ _ hrow
      have z1 : (w.alloc (.cells #[.string ⟨#[]⟩, .string ⟨#[]⟩] 45)).frozen? ⟨w.heap.size, 1, none⟩ = false := frozen_of_row _ _ _ _ _ hrow
      have H1 := hide h1
      have H2 := hide h2
      have hs1 : ∀ w, (Instr.sliceAt 9 (.string c) (some (.int .i64 3)) (some (.int .i64 (y : Int))) none).run Tryd.prog w = .ok (.string (c.extract 3 y)) w := fun w => by
        rw [run_sliceAt_string (h := Tryd.underlying9), run_slice_string (h := Tryd.underlying9) (h0 := by omega) (h1 := by omega) (h2 := by omega)]
        rfl
      have hs2 : ∀ w, (Instr.sliceAt 9 (.string c) (some (.int .i64 (y : Int))) none none).run Tryd.prog w = .ok (.string (c.extract y c.size)) w := fun w => by
        rw [run_sliceAt_string (h := Tryd.underlying9), run_slice_string_l (ht := Tryd.underlying9) (h0 := by omega) (h1 := by omega)]
        rfl
      have hyN : y ≤ c.size := by omega
      have hy3N : 3 ≤ y := by omega
      have hyx : (y : Int) = 3 + (x : Int) := by omega
      have hs3 : ∀ w, (Instr.slice 9 (.string c) (some (.int .i64 3)) (some (.int .i64 (3 + (x : Int)))) none).run Tryd.prog w = .ok (.string (c.extract 3 y)) w := fun w => by
        rw [← hyx, run_slice_string (h := Tryd.underlying9) (h0 := by omega) (h1 := by omega) (h2 := by omega)]
        rfl
      have hs4 : ∀ w, (Instr.slice 9 (.string c) (some (.int .i64 (3 + (x : Int)))) none none).run Tryd.prog w = .ok (.string (c.extract y c.size)) w := fun w => by
        rw [← hyx, run_slice_string_l (ht := Tryd.underlying9) (h0 := by omega) (h1 := by omega)]
        rfl
      have hs5 : ∀ w, (Instr.sliceAt 9 (.string c) (some (.int .i64 3)) (some (.int .i64 (3 + (x : Int)))) none).run Tryd.prog w = .ok (.string (c.extract 3 y)) w := fun w => by
        rw [← hyx]; exact hs1 w
      have hs6 : ∀ w, (Instr.sliceAt 9 (.string c) (some (.int .i64 (3 + (x : Int)))) none none).run Tryd.prog w = .ok (.string (c.extract y c.size)) w := fun w => by
        rw [← hyx]; exact hs2 w
      clear hyx
      clear e h3 hrow hxe hs hy h1 h2
      go_enter Tryd.func26, Tryd.ntmps26
      go_wp2_with fail
      generalize w.alloc (.cells #[.string ⟨#[]⟩, .string ⟨#[]⟩] 45) = W at *
      go_region_held3 (fun w' => True) (go_keep) (fail)
      all_goals
        rw [H1.out, H2.out]
        go_wp2_with fail
        refine bodyPost_ret (results_cell_row rfl _ _ w.heap.size 45 _ (0, 0) _ rfl (set_two (w := W.drew) HROW.out _ _) Tryd.underlying45 rfl (by kernel_rfl)) rfl ⟨rfl, below_two HBN.out.drew (Nat.le_refl _)⟩

end Go.Proofs.YtdacbajiapdiiabDoor
