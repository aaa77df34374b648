import Derived.Test.YtlopimdnjookeabDoorMEncRef
import Derived.Test.YtlopimdnjookeabDoorMtDec
namespace Go.Proofs.YtlopimdnjookeabDoor
open Go.RowKit

theorem ret_u {a b : Nat} (h : a = b) : Ending.returned (.int .u64 (a : Int)) = .returned (.int .u64 (b : Int)) := by rw [h]

set_option maxHeartbeats 800000 in
theorem rget_any (g o n cap at' m : Nat) (l : List UInt8) (w : World) (hn : l.length = n) (hm8 : m ≤ 8) (hfit : at' + m ≤ n) (hnm : n ≤ 140737488355328)
    (hc : ∀ j (h : j < l.length), w.cell? ⟨g, o + j, none⟩ = some (.int .u8 (l[j].toNat : Int))) :
    Calls Tryd.prog 17 #[.slice (some ⟨g, o, none⟩) n cap, .int .i64 (at' : Int), .int .i64 (m : Int)] w fun e w' => e = .returned (.int .u64 ((beNat (sub l at' m) : Nat) : Int)) ∧ w = w' := by
  have HL := hide hn
  have hsl : (sub l at' m).length = m := sub_len l at' m (by omega)
  have HC : Hid (∀ j (h : j < (sub l at' m).length), w.cell? ⟨g, o + (at' + j), none⟩ = some (.int .u8 ((sub l at' m)[j].toNat : Int))) := fun j hj => by
    rw [sub_get l at' m j (by omega) hj]; exact hc _ (by omega)
  generalize sub l at' m = q at *
  clear hc hn
  go_enter Tryd.func17, Tryd.ntmps17
  go_wp2_with fail
  go_loop [7, 8] (fun r i => ∃ k y : Nat, k ≤ m ∧ i = .int .i64 k ∧ r = .int .u64 (y : Int) ∧ y = beNat (q.take k)) (fun _ i => m - (intOf i).toNat)
  case atStart => exact ⟨0, 0, by omega, rfl, rfl, rfl⟩
  case round =>
    obtain ⟨k, y, hk, rfl, rfl, hyr⟩ := hrel
    have HY : Hid (y = beNat (q.take k)) := hyr
    clear hyr
    by_cases hlt : k < m
    · have hck := HC.out k (by omega)
      obtain ⟨c, hcd⟩ : ∃ c : Nat, c = (q[k]'(by omega)).toNat := ⟨_, rfl⟩
      have hc256 : c < 256 := by rw [hcd]; exact UInt8.toNat_lt _
      rw [← hcd] at hck
      have HR : Hid (y * 256 + c = beNat (q.take (k + 1))) := by
        show y * 256 + c = _
        rw [take_next q k (by omega), beNat_snoc, ← HY.out, hcd]
      have hyb : y < 72057594037927936 := by
        rw [HY.out]
        have h := beNat_lt (q.take k)
        rw [List.length_take, Nat.min_eq_left (by omega)] at h
        exact Nat.lt_of_lt_of_le h (Nat.le_trans (Nat.pow_le_pow_right (n := 256) (i := k) (j := 7) (by decide) (by omega)) (by decide))
      have j0 : (0 : Int) ≤ (at' : Int) + (k : Int) := by omega
      have j1 : (at' : Int) + (k : Int) < (n : Int) := by omega
      have hck2 : w.cell? ⟨g, o + (at' + k), none⟩ = some (.int .u8 (c : Int)) := hck
      clear hcd hck hsl
      go_wp2_with fail
      go_round
      case rel => exact ⟨k + 1, y * 256 + c, by omega, by go_num, by go_num, HR.out⟩
      case measure => simp [intOf]; omega
    · have HE : Hid (y = beNat q) := by
        show y = _
        rw [HY.out, List.take_of_length_le (by omega)]
      go_wp2_with fail
      go_ret
      exact ⟨ret_u HE.out, rfl⟩

/-- The document's answer: as decV, with numbers in the place of the refusals. -/
def rdecV (l : List UInt8) (pages slot : Int) : Array Value :=
  if ¬ PagesOk pages ∨ ¬ (0 ≤ slot ∧ slot < 2) then #[zMt, .int .i64 1]
  else if okM l pages slot then #[.agg (parseM l).cells.toArray, .int .i64 0] else #[zMt, .int .i64 2]

set_option maxRecDepth 100000 in
set_option maxHeartbeats 8000000 in
theorem rdecode_any (v : Value) (l : List UInt8) (pages slot : Int) (w : World) (hv : RdA w v l) (hm : l.length ≤ 140737488355328) :
    Calls Tryd.prog 7 #[v, .int .i64 pages, .int .i64 slot] w fun e w' => e = .returned (.tuple (rdecV l pages slot)) ∧ Below w.heap.size w w' := by
  have HZ0 : Hid ((w.alloc (.cells #[.int .i64 0, .int .i64 0, .int .u64 0] 28)).heap[w.heap.size]? = some (.cells #[.int .i64 0, .int .i64 0, .int .u64 0] 28 (0, 0))) := heap_alloc_new w _
  have hb0 := below_new w (.cells #[.int .i64 0, .int .i64 0, .int .u64 0] 28)
  have HB0 := hide hb0
  have HLT : Hid (w.heap.size < (w.alloc (.cells #[.int .i64 0, .int .i64 0, .int .u64 0] 28)).heap.size) := by show _ < _; simp
  have HV := hide (hv.below hb0)
  have HPM : Hid (∀ w, Calls Tryd.prog 16 #[.int .i64 pages] w fun e w' => e = .returned (.bool (decide (PagesOk pages))) ∧ w = w') := fun w => rpmay_any pages w
  obtain ⟨va, vc, rfl⟩ := hv.slice
  have HLM := hide hm
  have hmI : (l.length : Int) ≤ 140737488355328 := by omega
  clear hv hb0 hm
  by_cases hp : PagesOk pages
  · rw [decide_eq_true hp] at HPM
    by_cases hs0 : slot < 0
    · have HC : Hid (rdecV l pages slot = #[zMt, .int .i64 1]) := by
        show _ = _
        unfold rdecV
        rw [if_pos (.inr (fun h => by omega))]
      clear hp
      go_enter Tryd.func7, Tryd.ntmps7
      go_wp2_with fail
      generalize w.alloc (.cells #[.int .i64 0, .int .i64 0, .int .u64 0] 28) = W0 at *
      refine (HPM.out _).mono ?_
      rintro e w' ⟨rfl, rfl⟩
      have HZE := hide HZ0.out
      have HBE := hide HB0.out
      obtain ⟨z0, z1, z2, y0, y1, y2⟩ := zero_cells HZE.out
      go_wp2_with fail
      refine bodyPost_ret (results_row_tmp rfl _ _ w.heap.size 28 #[.int .i64 0, .int .i64 0, .int .u64 0] (0, 0) _ rfl (set_three HZE.out) Tryd.underlying28 rfl (by kernel_rfl)) rfl ⟨by rw [HC.out]; rfl, below_three HBE.out (Nat.le_refl _)⟩
    · by_cases hs1 : 1 < slot
      · have HC : Hid (rdecV l pages slot = #[zMt, .int .i64 1]) := by
          show _ = _
          unfold rdecV
          rw [if_pos (.inr (fun h => by omega))]
        clear hp
        go_enter Tryd.func7, Tryd.ntmps7
        go_wp2_with fail
        generalize w.alloc (.cells #[.int .i64 0, .int .i64 0, .int .u64 0] 28) = W0 at *
        refine (HPM.out _).mono ?_
        rintro e w' ⟨rfl, rfl⟩
        have HZE := hide HZ0.out
        have HBE := hide HB0.out
        obtain ⟨z0, z1, z2, y0, y1, y2⟩ := zero_cells HZE.out
        go_wp2_with fail
        refine bodyPost_ret (results_row_tmp rfl _ _ w.heap.size 28 #[.int .i64 0, .int .i64 0, .int .u64 0] (0, 0) _ rfl (set_three HZE.out) Tryd.underlying28 rfl (by kernel_rfl)) rfl ⟨by rw [HC.out]; rfl, below_three HBE.out (Nat.le_refl _)⟩
      · have HDV : Hid (rdecV l pages slot = if okM l pages slot then #[.agg (parseM l).cells.toArray, .int .i64 0] else #[zMt, .int .i64 2]) := by
          show _ = _
          unfold rdecV
          rw [if_neg (by rintro (h | h); exact h hp; exact h (by omega))]
        clear hp
        by_cases hl : l.length = 512
        · obtain ⟨g0, o0, ha⟩ : ∃ g0 o0, va = some ⟨g0, o0, none⟩ := by
            obtain ⟨a', c', he, h⟩ := HV.out
            cases he
            obtain ⟨g', o', h1, _⟩ := h 0 (by omega)
            exact ⟨g', o', h1⟩
          subst ha
          have HL := hide hl
          obtain ⟨mt, hmt⟩ : ∃ mt, mt = parseM l := ⟨_, rfl⟩
          have hnum := parseM_num l hl
          rw [← hmt] at hnum
          have HOK : Hid (okM l pages slot ↔ (mt.pages = pages ∧ MayM mt ∧ ((mt.txid % 2 : Nat) : Int) = slot ∧ mpage mt = l)) := by
            show _ ↔ _
            unfold okM
            rw [← hmt]
            exact ⟨fun h => h.2, fun h => ⟨HL.out, h⟩⟩
          rw [← hmt] at HDV
          have HC0 : Hid (∀ W, RdA W (.slice (some ⟨g0, o0, none⟩) l.length vc) l → ∀ j (h : j < l.length), W.cell? ⟨g0, o0 + j, none⟩ = some (.int .u8 (l[j].toNat : Int))) := fun W h j hj => by
            obtain ⟨a', c', he, h⟩ := h
            cases he
            obtain ⟨g', o', he', h'⟩ := h j hj
            cases he'
            exact h'
          obtain ⟨P, R, T⟩ := mt
          simp only [Mt.cells] at HDV HOK hnum
          have e1 : ((beNat (sub l 8 4) : Nat) : Int) = P := (congrArg Mt.pages hmt).symm
          have e2 : ((beNat (sub l 12 4) : Nat) : Int) = R := (congrArg Mt.root hmt).symm
          have e3 : beNat (sub l 16 8) = T := (congrArg Mt.txid hmt).symm
          obtain ⟨p, hpn⟩ : ∃ p : Nat, p = beNat (sub l 8 4) := ⟨_, rfl⟩
          obtain ⟨r, hrn⟩ : ∃ r : Nat, r = beNat (sub l 12 4) := ⟨_, rfl⟩
          rw [← hpn] at e1
          rw [← hrn] at e2
          subst e1 e2
          have HG1 : Hid (∀ W, RdA W (.slice (some ⟨g0, o0, none⟩) l.length vc) l → Calls Tryd.prog 17 #[.slice (some ⟨g0, o0, none⟩) l.length vc, .int .i64 8, .int .i64 4] W fun e w' => e = .returned (.int .u64 (p : Int)) ∧ W = w') := fun W h => by
            rw [hpn]; exact rget_any g0 o0 l.length vc 8 4 l W rfl (by decide) (by omega) HLM.out (HC0.out W h)
          have HG2 : Hid (∀ W, RdA W (.slice (some ⟨g0, o0, none⟩) l.length vc) l → Calls Tryd.prog 17 #[.slice (some ⟨g0, o0, none⟩) l.length vc, .int .i64 12, .int .i64 4] W fun e w' => e = .returned (.int .u64 (r : Int)) ∧ W = w') := fun W h => by
            rw [hrn]; exact rget_any g0 o0 l.length vc 12 4 l W rfl (by decide) (by omega) HLM.out (HC0.out W h)
          have HG3 : Hid (∀ W, RdA W (.slice (some ⟨g0, o0, none⟩) l.length vc) l → Calls Tryd.prog 17 #[.slice (some ⟨g0, o0, none⟩) l.length vc, .int .i64 16, .int .i64 8] W fun e w' => e = .returned (.int .u64 (T : Int)) ∧ W = w') := fun W h => by
            rw [← e3]; exact rget_any g0 o0 l.length vc 16 8 l W rfl (by decide) (by omega) HLM.out (HC0.out W h)
          have hp4 : p < 4294967296 := by have := beNat_lt (sub l 8 4); rw [sub_len _ _ _ (by omega)] at this; rw [hpn]; exact this
          have hr4 : r < 4294967296 := by have := beNat_lt (sub l 12 4); rw [sub_len _ _ _ (by omega)] at this; rw [hrn]; exact this
          have wp := wrap_n p (by omega)
          have wr' := wrap_n r (by omega)
          have ht : T < 18446744073709551616 := hnum.2.2.2.2
          have hne5 : ((l.length : Int) != 512) = false := by rw [hl]; rfl
          clear hmt hnum hpn hrn e3 hl hp4 hr4 HC0
          go_enter Tryd.func7, Tryd.ntmps7
          go_wp2_with fail
          generalize w.alloc (.cells #[.int .i64 0, .int .i64 0, .int .u64 0] 28) = W0 at *
          refine (HPM.out _).mono ?_
          rintro e w' ⟨rfl, rfl⟩
          go_wp2_with fail
          refine (HG1.out _ HV.out).mono ?_
          rintro e w' ⟨rfl, rfl⟩
          go_wp2_with fail
          refine (HG2.out _ HV.out).mono ?_
          rintro e w' ⟨rfl, rfl⟩
          go_wp2_with fail
          refine (HG3.out _ HV.out).mono ?_
          rintro e w' ⟨rfl, rfl⟩
          have hX1 := boxed_new W0 #[.int .i64 (p : Int), .int .i64 (r : Int), .int .u64 (T : Int)] 28
          have hb1 := below_new W0 (.cells #[.int .i64 (p : Int), .int .i64 (r : Int), .int .u64 (T : Int)] 28)
          have HX1 := hide hX1
          have HB1 := hide hb1
          clear hX1 hb1 wp wr'
          go_wp2_with fail
          generalize W0.alloc (.cells #[.int .i64 (p : Int), .int .i64 (r : Int), .int .u64 (T : Int)] 28) = W1 at *
          have HSL : Hid (∀ w, Calls Tryd.prog 20 #[.int .u64 (T : Int)] w fun e w' => e = .returned (.int .i64 ((T % 2 : Nat) : Int)) ∧ w = w') := fun w => rslot_any T w ht
          by_cases hmay : MayM ⟨(p : Int), (r : Int), T⟩
          · refine (renc_ok ⟨(p : Int), (r : Int), T⟩ W1 hmay ht).mono ?_
            rintro e w2 ⟨g2, cap2, rfl, ho2, hb2⟩
            have HR2 := hide (rd_of_owns ho2).any
            have HV2 := hide ((HV.out.below HB1.out).below hb2)
            have HBB2 := hide (Below.next HB1.out hb2)
            have HX2 := hide (HX1.out.below hb2)
            clear ho2 hb2
            go_wp2_with fail
            have SM := same_any (.slice (some ⟨g0, o0, none⟩) l.length vc) (.slice (some ⟨g2, 0, none⟩) 512 cap2) l (mpage ⟨(p : Int), (r : Int), T⟩) w2 HLM.out (by rw [mpage_len]; decide) HV2.out HR2.out
            have HPG : Hid (MayM ⟨(p : Int), (r : Int), T⟩) := hmay
            by_cases hE : l = mpage ⟨(p : Int), (r : Int), T⟩
            · rw [decide_eq_true hE] at SM
              have HEQ := hide hE
              clear hE hmay
              refine SM.mono ?_
              rintro e w3 ⟨rfl, hb3⟩
              have HB3 := Below.next HBB2.out hb3
              have hX3 := HX2.out.below hb3
              have c0 := hX3.2 0 (by simp)
              have c1 := hX3.2 1 (by simp)
              have c2 := hX3.2 2 (by simp)
              simp only [List.getElem_cons_zero, List.getElem_cons_succ] at c0 c1 c2
              have HZE := hide ((HB3.block _ HLT.out).trans HZ0.out)
              have HBE := hide (Below.next HB0.out HB3)
              clear hb3 hX3 HB3 SM
              by_cases hpp : (p : Int) = pages
              · have hdp : ((p : Int) != pages) = false := by rw [hpp]; simp
                by_cases hss : ((T % 2 : Nat) : Int) = slot
                · have hds : (((T % 2 : Nat) : Int) != slot) = false := by rw [hss]; simp
                  have HC : Hid (rdecV l pages slot = #[.agg #[.int .i64 (p : Int), .int .i64 (r : Int), .int .u64 (T : Int)], .int .i64 0]) := by
                    show _ = _
                    rw [HDV.out, if_pos (HOK.out.2 ⟨hpp, HPG.out, hss, HEQ.out.symm⟩)]
                  clear hpp hss
                  generalize ((T % 2 : Nat) : Int) = sv at *
                  obtain ⟨z0, z1, z2, y0, y1, y2⟩ := zero_cells HZE.out
                  go_wp2_with fail
                  refine (HSL.out _).mono ?_
                  rintro e w' ⟨rfl, rfl⟩
                  go_wp2_with fail
                  refine bodyPost_ret (results_row_tmp rfl _ _ w.heap.size 28 #[.int .i64 (p : Int), .int .i64 (r : Int), .int .u64 (T : Int)] (0, 0) _ rfl (set_three HZE.out) Tryd.underlying28 rfl (by kernel_rfl)) rfl ⟨by rw [HC.out]; rfl, below_three HBE.out (Nat.le_refl _)⟩
                · have hds : (((T % 2 : Nat) : Int) != slot) = true := bne_iff_ne.2 hss
                  have HC : Hid (rdecV l pages slot = #[zMt, .int .i64 2]) := by
                    show _ = _
                    rw [HDV.out, if_neg (fun h => (fun h => hss h.2.2.1) (HOK.out.1 h))]
                  clear hpp hss
                  generalize ((T % 2 : Nat) : Int) = sv at *
                  obtain ⟨z0, z1, z2, y0, y1, y2⟩ := zero_cells HZE.out
                  go_wp2_with fail
                  refine (HSL.out _).mono ?_
                  rintro e w' ⟨rfl, rfl⟩
                  go_wp2_with fail
                  refine bodyPost_ret (results_row_tmp rfl _ _ w.heap.size 28 #[.int .i64 0, .int .i64 0, .int .u64 0] (0, 0) _ rfl (set_three HZE.out) Tryd.underlying28 rfl (by kernel_rfl)) rfl ⟨by rw [HC.out]; rfl, below_three HBE.out (Nat.le_refl _)⟩
              · have hdp : ((p : Int) != pages) = true := bne_iff_ne.2 hpp
                have HC : Hid (rdecV l pages slot = #[zMt, .int .i64 2]) := by
                  show _ = _
                  rw [HDV.out, if_neg (fun h => (fun h => hpp h.1) (HOK.out.1 h))]
                clear hpp
                obtain ⟨z0, z1, z2, y0, y1, y2⟩ := zero_cells HZE.out
                go_wp2_with fail
                refine bodyPost_ret (results_row_tmp rfl _ _ w.heap.size 28 #[.int .i64 0, .int .i64 0, .int .u64 0] (0, 0) _ rfl (set_three HZE.out) Tryd.underlying28 rfl (by kernel_rfl)) rfl ⟨by rw [HC.out]; rfl, below_three HBE.out (Nat.le_refl _)⟩
            · rw [decide_eq_false hE] at SM
              have HC : Hid (rdecV l pages slot = #[zMt, .int .i64 2]) := by
                show _ = _
                rw [HDV.out, if_neg (fun h => (fun h => hE h.2.2.2.symm) (HOK.out.1 h))]
              clear hE hmay
              refine SM.mono ?_
              rintro e w3 ⟨rfl, hb3⟩
              have HB3 := Below.next HBB2.out hb3
              have HZE := hide ((HB3.block _ HLT.out).trans HZ0.out)
              have HBE := hide (Below.next HB0.out HB3)
              clear hb3 HB3 SM
              obtain ⟨z0, z1, z2, y0, y1, y2⟩ := zero_cells HZE.out
              go_wp2_with fail
              refine bodyPost_ret (results_row_tmp rfl _ _ w.heap.size 28 #[.int .i64 0, .int .i64 0, .int .u64 0] (0, 0) _ rfl (set_three HZE.out) Tryd.underlying28 rfl (by kernel_rfl)) rfl ⟨by rw [HC.out]; rfl, below_three HBE.out (Nat.le_refl _)⟩
          · refine (renc_no ⟨(p : Int), (r : Int), T⟩ W1 hmay).mono ?_
            rintro e w2 ⟨rfl, hb2⟩
            have HV2 := hide ((HV.out.below HB1.out).below hb2)
            have HBB2 := hide (Below.next HB1.out hb2)
            have HC : Hid (rdecV l pages slot = #[zMt, .int .i64 2]) := by
              show _ = _
              rw [HDV.out, if_neg (fun h => (fun h => hmay h.2.1) (HOK.out.1 h))]
            clear hb2 hmay
            go_wp2_with fail
            have SM := same_any (.slice (some ⟨g0, o0, none⟩) l.length vc) (.slice none 0 0) l [] w2 HLM.out (by decide) HV2.out ⟨none, 0, rfl, fun j h => by simp at h⟩
            refine SM.mono ?_
            rintro e w3 ⟨rfl, hb3⟩
            have HB3 := Below.next HBB2.out hb3
            have HZE := hide ((HB3.block _ HLT.out).trans HZ0.out)
            have HBE := hide (Below.next HB0.out HB3)
            clear hb3 HB3 SM
            generalize decide (l = []) = bb at *
            obtain ⟨z0, z1, z2, y0, y1, y2⟩ := zero_cells HZE.out
            go_wp2_with fail
            refine bodyPost_ret (results_row_tmp rfl _ _ w.heap.size 28 #[.int .i64 0, .int .i64 0, .int .u64 0] (0, 0) _ rfl (set_three HZE.out) Tryd.underlying28 rfl (by kernel_rfl)) rfl ⟨by rw [HC.out]; rfl, below_three HBE.out (Nat.le_refl _)⟩
        · have HC : Hid (rdecV l pages slot = #[zMt, .int .i64 2]) := by
            show _ = _
            rw [HDV.out, if_neg (fun h => hl h.1)]
          have hne5 : ((l.length : Int) != 512) = true := by rw [bne_iff_ne]; omega
          clear hl
          go_enter Tryd.func7, Tryd.ntmps7
          go_wp2_with fail
          generalize w.alloc (.cells #[.int .i64 0, .int .i64 0, .int .u64 0] 28) = W0 at *
          refine (HPM.out _).mono ?_
          rintro e w' ⟨rfl, rfl⟩
          have HZE := hide HZ0.out
          have HBE := hide HB0.out
          obtain ⟨z0, z1, z2, y0, y1, y2⟩ := zero_cells HZE.out
          go_wp2_with fail
          refine bodyPost_ret (results_row_tmp rfl _ _ w.heap.size 28 #[.int .i64 0, .int .i64 0, .int .u64 0] (0, 0) _ rfl (set_three HZE.out) Tryd.underlying28 rfl (by kernel_rfl)) rfl ⟨by rw [HC.out]; rfl, below_three HBE.out (Nat.le_refl _)⟩
  · rw [decide_eq_false hp] at HPM
    have HC : Hid (rdecV l pages slot = #[zMt, .int .i64 1]) := by
      show _ = _
      unfold rdecV
      rw [if_pos (.inl hp)]
    clear hp
    go_enter Tryd.func7, Tryd.ntmps7
    go_wp2_with fail
    generalize w.alloc (.cells #[.int .i64 0, .int .i64 0, .int .u64 0] 28) = W0 at *
    refine (HPM.out _).mono ?_
    rintro e w' ⟨rfl, rfl⟩
    have HZE := hide HZ0.out
    have HBE := hide HB0.out
    obtain ⟨z0, z1, z2, y0, y1, y2⟩ := zero_cells HZE.out
    go_wp2_with fail
    refine bodyPost_ret (results_row_tmp rfl _ _ w.heap.size 28 #[.int .i64 0, .int .i64 0, .int .u64 0] (0, 0) _ rfl (set_three HZE.out) Tryd.underlying28 rfl (by kernel_rfl)) rfl ⟨by rw [HC.out]; rfl, below_three HBE.out (Nat.le_refl _)⟩

end Go.Proofs.YtlopimdnjookeabDoor
