import Derived.Test.YtlopimdnjookeabGreatDoorMEncRef
import Derived.Test.YtlopimdnjookeabGreatDoorB3
import Derived.Test.YtlopimdnjookeabGreatDoorB5
import Derived.Deep.DeepCutAuto
import Derived.Deep.CutBlock
namespace Go.Proofs.YtlopimdnjookeabGreatDoor
open Go.RowKit

theorem ret_u {a b : Nat} (h : a = b) : Ending.returned (.int .u64 (a : Int)) = .returned (.int .u64 (b : Int)) := by rw [h]

set_option maxHeartbeats 800000 in
theorem rget_any (g o n cap at' m : Nat) (l : List UInt8) (w : World) (hn : l.length = n) (hm8 : m ≤ 8) (hfit : at' + m ≤ n) (hnm : n ≤ 140737488355328)
    (hc : ∀ j (h : j < l.length), w.cell? ⟨g, o + j, none⟩ = some (.int .u8 (l[j].toNat : Int))) :
    Calls Tryz.prog 92 #[.slice (some ⟨g, o, none⟩) n cap, .int .i64 (at' : Int), .int .i64 (m : Int)] w fun e w' => e = .returned (.int .u64 ((beNat (sub l at' m) : Nat) : Int)) ∧ w = w' := by
  have HL := hide hn
  have hsl : (sub l at' m).length = m := sub_len l at' m (by omega)
  have HC : Hid (∀ j (h : j < (sub l at' m).length), w.cell? ⟨g, o + (at' + j), none⟩ = some (.int .u8 ((sub l at' m)[j].toNat : Int))) := fun j hj => by
    rw [sub_get l at' m j (by omega) hj]; exact hc _ (by omega)
  generalize sub l at' m = q at *
  clear hc hn
  go_enter Tryz.func92, Tryz.ntmps92
  go_wp2_with fail
  go_loop [7, 8] (fun r i => ∃ k y : Nat, k ≤ m ∧ i = .int .i64 k ∧ r = .int .u64 (y : Int) ∧ y = beNat (q.take k)) (fun _ i => m - (intOf i).toNat)
  case atStart => exact ⟨0, 0, by omega, rfl, rfl, rfl⟩
  case round =>
    obtain ⟨k, y, hk, rfl, rfl, hyr⟩ := hrel
    have HY : Hid (y = beNat (q.take k)) := hyr
    clear hyr
    by_cases hlt : k < m
    · have hck := HC.out k (by omega)
      obtain ⟨c, hcd⟩ : ∃ c : Nat, c = (q[k]'(by omega)).toNat := ⟨_, rfl⟩
      have hc256 : c < 256 := by rw [hcd]; exact UInt8.toNat_lt _
      rw [← hcd] at hck
      have HR : Hid (y * 256 + c = beNat (q.take (k + 1))) := by
        show y * 256 + c = _
        rw [take_next q k (by omega), beNat_snoc, ← HY.out, hcd]
      have hyb : y < 72057594037927936 := by
        rw [HY.out]
        have h := beNat_lt (q.take k)
        rw [List.length_take, Nat.min_eq_left (by omega)] at h
        exact Nat.lt_of_lt_of_le h (Nat.le_trans (Nat.pow_le_pow_right (n := 256) (i := k) (j := 7) (by decide) (by omega)) (by decide))
      have j0 : (0 : Int) ≤ (at' : Int) + (k : Int) := by omega
      have j1 : (at' : Int) + (k : Int) < (n : Int) := by omega
      have hck2 : w.cell? ⟨g, o + (at' + k), none⟩ = some (.int .u8 (c : Int)) := hck
      clear hcd hck hsl
      go_wp2_with fail
      go_round
      case rel => exact ⟨k + 1, y * 256 + c, by omega, by go_num, by go_num, HR.out⟩
      case measure => simp [intOf]; omega
    · have HE : Hid (y = beNat q) := by
        show y = _
        rw [HY.out, List.take_of_length_le (by omega)]
      go_wp2_with fail
      go_ret
      exact ⟨ret_u HE.out, rfl⟩

/-- The document's answer: as decV, with numbers in the place of the refusals. -/
def rdecV (l : List UInt8) (pages slot : Int) : Array Value :=
  if ¬ PagesOk pages ∨ ¬ (0 ≤ slot ∧ slot < 2) then #[zMt, .int .i64 1]
  else if okM l pages slot then #[.agg (parseM l).cells.toArray, .int .i64 0] else #[zMt, .int .i64 2]

set_option maxRecDepth 100000 in
set_option maxHeartbeats 8000000 in
theorem rdecode_any (v : Value) (l : List UInt8) (pages slot : Int) (w : World) (hv : RdA w v l) (hm : l.length ≤ 140737488355328) :
    Calls Tryz.prog 66 #[v, .int .i64 pages, .int .i64 slot] w fun e w' => e = .returned (.tuple (rdecV l pages slot)) ∧ Below w.heap.size w w' := by
  have HZ0 : Hid ((w.alloc (.cells #[.int .i64 0, .int .i64 0, .int .u64 0] 32)).heap[w.heap.size]? = some (.cells #[.int .i64 0, .int .i64 0, .int .u64 0] 32 (0, 0))) := heap_alloc_new w _
  have hb0 := below_new w (.cells #[.int .i64 0, .int .i64 0, .int .u64 0] 32)
  have HB0 := hide hb0
  have HLT : Hid (w.heap.size < (w.alloc (.cells #[.int .i64 0, .int .i64 0, .int .u64 0] 32)).heap.size) := by show _ < _; simp
  have HV := hide (hv.below hb0)
  have HPM : Hid (∀ w, Calls Tryz.prog 41 #[.int .i64 pages] w fun e w' => e = .returned (.bool (decide (PagesOk pages))) ∧ w = w') := fun w => rpmay_any pages w
  obtain ⟨va, vc, rfl⟩ := hv.slice
  have HLM := hide hm
  have hmI : (l.length : Int) ≤ 140737488355328 := by omega
  clear hv hb0 hm
  by_cases hp : PagesOk pages
  · rw [decide_eq_true hp] at HPM
    by_cases hs0 : slot < 0
    · have HC : Hid (rdecV l pages slot = #[zMt, .int .i64 1]) := by
        show _ = _
        unfold rdecV
        rw [if_pos (.inr (fun h => by omega))]
      clear hp
      go_enter Tryz.func66, Tryz.ntmps66
      go_wp2_with fail
      generalize w.alloc (.cells #[.int .i64 0, .int .i64 0, .int .u64 0] 32) = W0 at *
      refine (HPM.out _).mono ?_
      rintro e w' ⟨rfl, rfl⟩
      have HZE := hide HZ0.out
      have HBE := hide HB0.out
      obtain ⟨z0, z1, z2, y0, y1, y2⟩ := zero_cells HZE.out
      go_wp2_with fail
      refine bodyPost_ret (results_row_tmp rfl _ _ w.heap.size 32 #[.int .i64 0, .int .i64 0, .int .u64 0] (0, 0) _ rfl (set_three HZE.out) Tryz.underlying32 rfl (by kernel_rfl)) rfl ⟨by rw [HC.out]; rfl, below_three HBE.out (Nat.le_refl _)⟩
    · by_cases hs1 : 1 < slot
      · have HC : Hid (rdecV l pages slot = #[zMt, .int .i64 1]) := by
          show _ = _
          unfold rdecV
          rw [if_pos (.inr (fun h => by omega))]
        clear hp
        go_enter Tryz.func66, Tryz.ntmps66
        go_wp2_with fail
        generalize w.alloc (.cells #[.int .i64 0, .int .i64 0, .int .u64 0] 32) = W0 at *
        refine (HPM.out _).mono ?_
        rintro e w' ⟨rfl, rfl⟩
        have HZE := hide HZ0.out
        have HBE := hide HB0.out
        obtain ⟨z0, z1, z2, y0, y1, y2⟩ := zero_cells HZE.out
        go_wp2_with fail
        refine bodyPost_ret (results_row_tmp rfl _ _ w.heap.size 32 #[.int .i64 0, .int .i64 0, .int .u64 0] (0, 0) _ rfl (set_three HZE.out) Tryz.underlying32 rfl (by kernel_rfl)) rfl ⟨by rw [HC.out]; rfl, below_three HBE.out (Nat.le_refl _)⟩
      · have HDV : Hid (rdecV l pages slot = if okM l pages slot then #[.agg (parseM l).cells.toArray, .int .i64 0] else #[zMt, .int .i64 2]) := by
          show _ = _
          unfold rdecV
          rw [if_neg (by rintro (h | h); exact h hp; exact h (by omega))]
        clear hp
        by_cases hl : l.length = 512
        · obtain ⟨g0, o0, ha⟩ : ∃ g0 o0, va = some ⟨g0, o0, none⟩ := by
            obtain ⟨a', c', he, h⟩ := HV.out
            cases he
            obtain ⟨g', o', h1, _⟩ := h 0 (by omega)
            exact ⟨g', o', h1⟩
          subst ha
          have HL := hide hl
          obtain ⟨mt, hmt⟩ : ∃ mt, mt = parseM l := ⟨_, rfl⟩
          have hnum := parseM_num l hl
          rw [← hmt] at hnum
          have HOK : Hid (okM l pages slot ↔ (mt.pages = pages ∧ MayM mt ∧ ((mt.txid % 2 : Nat) : Int) = slot ∧ mpage mt = l)) := by
            show _ ↔ _
            unfold okM
            rw [← hmt]
            exact ⟨fun h => h.2, fun h => ⟨HL.out, h⟩⟩
          rw [← hmt] at HDV
          have HC0 : Hid (∀ W, RdA W (.slice (some ⟨g0, o0, none⟩) l.length vc) l → ∀ j (h : j < l.length), W.cell? ⟨g0, o0 + j, none⟩ = some (.int .u8 (l[j].toNat : Int))) := fun W h j hj => by
            obtain ⟨a', c', he, h⟩ := h
            cases he
            obtain ⟨g', o', he', h'⟩ := h j hj
            cases he'
            exact h'
          obtain ⟨P, R, T⟩ := mt
          simp only [Mt.cells] at HDV HOK hnum
          have e1 : ((beNat (sub l 8 4) : Nat) : Int) = P := (congrArg Mt.pages hmt).symm
          have e2 : ((beNat (sub l 12 4) : Nat) : Int) = R := (congrArg Mt.root hmt).symm
          have e3 : beNat (sub l 16 8) = T := (congrArg Mt.txid hmt).symm
          obtain ⟨p, hpn⟩ : ∃ p : Nat, p = beNat (sub l 8 4) := ⟨_, rfl⟩
          obtain ⟨r, hrn⟩ : ∃ r : Nat, r = beNat (sub l 12 4) := ⟨_, rfl⟩
          rw [← hpn] at e1
          rw [← hrn] at e2
          subst e1 e2
          have HG1 : Hid (∀ W, RdA W (.slice (some ⟨g0, o0, none⟩) l.length vc) l → Calls Tryz.prog 92 #[.slice (some ⟨g0, o0, none⟩) l.length vc, .int .i64 8, .int .i64 4] W fun e w' => e = .returned (.int .u64 (p : Int)) ∧ W = w') := fun W h => by
            rw [hpn]; exact rget_any g0 o0 l.length vc 8 4 l W rfl (by decide) (by omega) HLM.out (HC0.out W h)
          have HG2 : Hid (∀ W, RdA W (.slice (some ⟨g0, o0, none⟩) l.length vc) l → Calls Tryz.prog 92 #[.slice (some ⟨g0, o0, none⟩) l.length vc, .int .i64 12, .int .i64 4] W fun e w' => e = .returned (.int .u64 (r : Int)) ∧ W = w') := fun W h => by
            rw [hrn]; exact rget_any g0 o0 l.length vc 12 4 l W rfl (by decide) (by omega) HLM.out (HC0.out W h)
          have HG3 : Hid (∀ W, RdA W (.slice (some ⟨g0, o0, none⟩) l.length vc) l → Calls Tryz.prog 92 #[.slice (some ⟨g0, o0, none⟩) l.length vc, .int .i64 16, .int .i64 8] W fun e w' => e = .returned (.int .u64 (T : Int)) ∧ W = w') := fun W h => by
            rw [← e3]; exact rget_any g0 o0 l.length vc 16 8 l W rfl (by decide) (by omega) HLM.out (HC0.out W h)
          have hp4 : p < 4294967296 := by have := beNat_lt (sub l 8 4); rw [sub_len _ _ _ (by omega)] at this; rw [hpn]; exact this
          have hr4 : r < 4294967296 := by have := beNat_lt (sub l 12 4); rw [sub_len _ _ _ (by omega)] at this; rw [hrn]; exact this
          have wp := wrap_n p (by omega)
          have wr' := wrap_n r (by omega)
          have ht : T < 18446744073709551616 := hnum.2.2.2.2
          have hne5 : ((l.length : Int) != 512) = false := by rw [hl]; rfl
          clear hmt hnum hpn hrn e3 hl hp4 hr4 HC0
          go_enter Tryz.func66, Tryz.ntmps66
          go_wp2_with fail
          generalize w.alloc (.cells #[.int .i64 0, .int .i64 0, .int .u64 0] 32) = W0 at *
          refine (HPM.out _).mono ?_
          rintro e w' ⟨rfl, rfl⟩
          go_wp2_with fail
          refine (HG1.out _ HV.out).mono ?_
          rintro e w' ⟨rfl, rfl⟩
          go_wp2_with fail
          refine (HG2.out _ HV.out).mono ?_
          rintro e w' ⟨rfl, rfl⟩
          go_wp2_with fail
          refine (HG3.out _ HV.out).mono ?_
          rintro e w' ⟨rfl, rfl⟩
          have hX1 := boxed_new W0 #[.int .i64 (p : Int), .int .i64 (r : Int), .int .u64 (T : Int)] 32
          have hb1 := below_new W0 (.cells #[.int .i64 (p : Int), .int .i64 (r : Int), .int .u64 (T : Int)] 32)
          have HX1 := hide hX1
          have HB1 := hide hb1
          clear hX1 hb1 wp wr'
          go_wp2_with fail
          generalize W0.alloc (.cells #[.int .i64 (p : Int), .int .i64 (r : Int), .int .u64 (T : Int)] 32) = W1 at *
          have HSL : Hid (∀ w, Calls Tryz.prog 49 #[.int .u64 (T : Int)] w fun e w' => e = .returned (.int .i64 ((T % 2 : Nat) : Int)) ∧ w = w') := fun w => rslot_any T w ht
          by_cases hmay : MayM ⟨(p : Int), (r : Int), T⟩
          · refine (renc_ok ⟨(p : Int), (r : Int), T⟩ W1 hmay ht).mono ?_
            rintro e w2 ⟨g2, cap2, rfl, ho2, hb2⟩
            have HR2 := hide (rd_of_owns ho2).any
            have HV2 := hide ((HV.out.below HB1.out).below hb2)
            have HBB2 := hide (Below.next HB1.out hb2)
            have HX2 := hide (HX1.out.below hb2)
            clear ho2 hb2
            go_wp2_with fail
            have SM := same_any (.slice (some ⟨g0, o0, none⟩) l.length vc) (.slice (some ⟨g2, 0, none⟩) 512 cap2) l (mpage ⟨(p : Int), (r : Int), T⟩) w2 HLM.out (by rw [mpage_len]; decide) HV2.out HR2.out
            have HPG : Hid (MayM ⟨(p : Int), (r : Int), T⟩) := hmay
            by_cases hE : l = mpage ⟨(p : Int), (r : Int), T⟩
            · rw [decide_eq_true hE] at SM
              have HEQ := hide hE
              clear hE hmay
              refine SM.mono ?_
              rintro e w3 ⟨rfl, hb3⟩
              have HB3 := Below.next HBB2.out hb3
              have hX3 := HX2.out.below hb3
              have c0 := hX3.2 0 (by simp)
              have c1 := hX3.2 1 (by simp)
              have c2 := hX3.2 2 (by simp)
              simp only [List.getElem_cons_zero, List.getElem_cons_succ] at c0 c1 c2
              have HZE := hide ((HB3.block _ HLT.out).trans HZ0.out)
              have HBE := hide (Below.next HB0.out HB3)
              clear hb3 hX3 HB3 SM
              by_cases hpp : (p : Int) = pages
              · have hdp : ((p : Int) != pages) = false := by rw [hpp]; simp
                by_cases hss : ((T % 2 : Nat) : Int) = slot
                · have hds : (((T % 2 : Nat) : Int) != slot) = false := by rw [hss]; simp
                  have HC : Hid (rdecV l pages slot = #[.agg #[.int .i64 (p : Int), .int .i64 (r : Int), .int .u64 (T : Int)], .int .i64 0]) := by
                    show _ = _
                    rw [HDV.out, if_pos (HOK.out.2 ⟨hpp, HPG.out, hss, HEQ.out.symm⟩)]
                  clear hpp hss
                  generalize ((T % 2 : Nat) : Int) = sv at *
                  obtain ⟨z0, z1, z2, y0, y1, y2⟩ := zero_cells HZE.out
                  go_wp2_with fail
                  refine (HSL.out _).mono ?_
                  rintro e w' ⟨rfl, rfl⟩
                  go_wp2_with fail
                  refine bodyPost_ret (results_row_tmp rfl _ _ w.heap.size 32 #[.int .i64 (p : Int), .int .i64 (r : Int), .int .u64 (T : Int)] (0, 0) _ rfl (set_three HZE.out) Tryz.underlying32 rfl (by kernel_rfl)) rfl ⟨by rw [HC.out]; rfl, below_three HBE.out (Nat.le_refl _)⟩
                · have hds : (((T % 2 : Nat) : Int) != slot) = true := bne_iff_ne.2 hss
                  have HC : Hid (rdecV l pages slot = #[zMt, .int .i64 2]) := by
                    show _ = _
                    rw [HDV.out, if_neg (fun h => (fun h => hss h.2.2.1) (HOK.out.1 h))]
                  clear hpp hss
                  generalize ((T % 2 : Nat) : Int) = sv at *
                  obtain ⟨z0, z1, z2, y0, y1, y2⟩ := zero_cells HZE.out
                  go_wp2_with fail
                  refine (HSL.out _).mono ?_
                  rintro e w' ⟨rfl, rfl⟩
                  go_wp2_with fail
                  refine bodyPost_ret (results_row_tmp rfl _ _ w.heap.size 32 #[.int .i64 0, .int .i64 0, .int .u64 0] (0, 0) _ rfl (set_three HZE.out) Tryz.underlying32 rfl (by kernel_rfl)) rfl ⟨by rw [HC.out]; rfl, below_three HBE.out (Nat.le_refl _)⟩
              · have hdp : ((p : Int) != pages) = true := bne_iff_ne.2 hpp
                have HC : Hid (rdecV l pages slot = #[zMt, .int .i64 2]) := by
                  show _ = _
                  rw [HDV.out, if_neg (fun h => (fun h => hpp h.1) (HOK.out.1 h))]
                clear hpp
                obtain ⟨z0, z1, z2, y0, y1, y2⟩ := zero_cells HZE.out
                go_wp2_with fail
                refine bodyPost_ret (results_row_tmp rfl _ _ w.heap.size 32 #[.int .i64 0, .int .i64 0, .int .u64 0] (0, 0) _ rfl (set_three HZE.out) Tryz.underlying32 rfl (by kernel_rfl)) rfl ⟨by rw [HC.out]; rfl, below_three HBE.out (Nat.le_refl _)⟩
            · rw [decide_eq_false hE] at SM
              have HC : Hid (rdecV l pages slot = #[zMt, .int .i64 2]) := by
                show _ = _
                rw [HDV.out, if_neg (fun h => (fun h => hE h.2.2.2.symm) (HOK.out.1 h))]
              clear hE hmay
              refine SM.mono ?_
              rintro e w3 ⟨rfl, hb3⟩
              have HB3 := Below.next HBB2.out hb3
              have HZE := hide ((HB3.block _ HLT.out).trans HZ0.out)
              have HBE := hide (Below.next HB0.out HB3)
              clear hb3 HB3 SM
              obtain ⟨z0, z1, z2, y0, y1, y2⟩ := zero_cells HZE.out
              go_wp2_with fail
              refine bodyPost_ret (results_row_tmp rfl _ _ w.heap.size 32 #[.int .i64 0, .int .i64 0, .int .u64 0] (0, 0) _ rfl (set_three HZE.out) Tryz.underlying32 rfl (by kernel_rfl)) rfl ⟨by rw [HC.out]; rfl, below_three HBE.out (Nat.le_refl _)⟩
          · refine (renc_no ⟨(p : Int), (r : Int), T⟩ W1 hmay).mono ?_
            rintro e w2 ⟨rfl, hb2⟩
            have HV2 := hide ((HV.out.below HB1.out).below hb2)
            have HBB2 := hide (Below.next HB1.out hb2)
            have HC : Hid (rdecV l pages slot = #[zMt, .int .i64 2]) := by
              show _ = _
              rw [HDV.out, if_neg (fun h => (fun h => hmay h.2.1) (HOK.out.1 h))]
            clear hb2 hmay
            go_wp2_with fail
            have SM := same_any (.slice (some ⟨g0, o0, none⟩) l.length vc) (.slice none 0 0) l [] w2 HLM.out (by decide) HV2.out ⟨none, 0, rfl, fun j h => by simp at h⟩
            refine SM.mono ?_
            rintro e w3 ⟨rfl, hb3⟩
            have HB3 := Below.next HBB2.out hb3
            have HZE := hide ((HB3.block _ HLT.out).trans HZ0.out)
            have HBE := hide (Below.next HB0.out HB3)
            clear hb3 HB3 SM
            generalize decide (l = []) = bb at *
            obtain ⟨z0, z1, z2, y0, y1, y2⟩ := zero_cells HZE.out
            go_wp2_with fail
            refine bodyPost_ret (results_row_tmp rfl _ _ w.heap.size 32 #[.int .i64 0, .int .i64 0, .int .u64 0] (0, 0) _ rfl (set_three HZE.out) Tryz.underlying32 rfl (by kernel_rfl)) rfl ⟨by rw [HC.out]; rfl, below_three HBE.out (Nat.le_refl _)⟩
        · have HC : Hid (rdecV l pages slot = #[zMt, .int .i64 2]) := by
            show _ = _
            rw [HDV.out, if_neg (fun h => hl h.1)]
          have hne5 : ((l.length : Int) != 512) = true := by rw [bne_iff_ne]; omega
          clear hl
          go_enter Tryz.func66, Tryz.ntmps66
          go_wp2_with fail
          generalize w.alloc (.cells #[.int .i64 0, .int .i64 0, .int .u64 0] 32) = W0 at *
          refine (HPM.out _).mono ?_
          rintro e w' ⟨rfl, rfl⟩
          have HZE := hide HZ0.out
          have HBE := hide HB0.out
          obtain ⟨z0, z1, z2, y0, y1, y2⟩ := zero_cells HZE.out
          go_wp2_with fail
          refine bodyPost_ret (results_row_tmp rfl _ _ w.heap.size 32 #[.int .i64 0, .int .i64 0, .int .u64 0] (0, 0) _ rfl (set_three HZE.out) Tryz.underlying32 rfl (by kernel_rfl)) rfl ⟨by rw [HC.out]; rfl, below_three HBE.out (Nat.le_refl _)⟩
  · rw [decide_eq_false hp] at HPM
    have HC : Hid (rdecV l pages slot = #[zMt, .int .i64 1]) := by
      show _ = _
      unfold rdecV
      rw [if_pos (.inl hp)]
    clear hp
    go_enter Tryz.func66, Tryz.ntmps66
    go_wp2_with fail
    generalize w.alloc (.cells #[.int .i64 0, .int .i64 0, .int .u64 0] 32) = W0 at *
    refine (HPM.out _).mono ?_
    rintro e w' ⟨rfl, rfl⟩
    have HZE := hide HZ0.out
    have HBE := hide HB0.out
    obtain ⟨z0, z1, z2, y0, y1, y2⟩ := zero_cells HZE.out
    go_wp2_with fail
    refine bodyPost_ret (results_row_tmp rfl _ _ w.heap.size 32 #[.int .i64 0, .int .i64 0, .int .u64 0] (0, 0) _ rfl (set_three HZE.out) Tryz.underlying32 rfl (by kernel_rfl)) rfl ⟨by rw [HC.out]; rfl, below_three HBE.out (Nat.le_refl _)⟩

end Go.Proofs.YtlopimdnjookeabGreatDoor

namespace Go.Proofs.YtlopimdnjookeabGreatDoor
open Go.RowKit

def marks4 : List UInt8 := [77, 77, 77, 77]
theorem RdA.owns {w : World} {base n : Nat} {v : Value} {l : List UInt8} (h : w.ownsRow base 5 1 v n (u8s l)) : RdA w v l := (rd_of_owns h).any

set_option maxRecDepth 100000 in
set_option maxHeartbeats 2000000 in
theorem copy_rda (v : Value) (l : List UInt8) (w : World) (hs : l.length ≤ 140737488355328) (hv : RdA w v l) :
    Calls Tryz.prog 31 #[v] w fun e w' => ∃ v, e = .returned v ∧ w'.ownsRow w.heap.size 5 1 v l.length (u8s l) ∧ Below w.heap.size w w' := by
  obtain ⟨i0, hi, hz0, hz1, hz2⟩ := info_parts Tryz.info5
  obtain ⟨a, cap, rfl, hc⟩ := hv
  have HC := hide hc
  clear hc
  go_enter Tryz.func31, Tryz.ntmps31
  go_wp2_with fail
  go_loopw [3, 4] (fun v i wr => ∃ k : Nat, k ≤ l.length ∧ i = .int .i64 k ∧ wr.ownsRow w.heap.size 5 1 v k (u8s (l.take k)) ∧ Below w.heap.size w wr)
    (fun _ i _ => l.length - (intOf i).toNat)
  case atStart => exact ⟨0, Nat.zero_le _, rfl, World.ownsRow_nil _ _ _ _, Below.refl _ _⟩
  case round =>
    obtain ⟨k, hk, rfl, hown, hnx⟩ := hrel
    by_cases hlt : k < l.length
    · obtain ⟨g, o, rfl, hck⟩ := HC.out k hlt
      have hcx : wr.cell? ⟨g, o + k, none⟩ = some (.int .u8 (l[k].toNat : Int)) := (hnx.cell (World.block_lt_of_cell? w _ hck)).trans hck
      have HS : Hid (l.take (k + 1) = l.take k ++ [l[k]]) := take_next l k hlt
      have j0 : (0 : Int) ≤ (k : Int) := by omega
      have j1 : (k : Int) < (l.length : Int) := by omega
      clear hck
      go_wp2_with (first
        | (at_builtin; refine wpList_append_lies _ rfl _ _ 33 rfl w.heap.size 5 i0 (.int .u8 0) 1 1 Tryz.underlying33 hi hz0 hz1 hz2 rfl (by decide) _ _ _ rfl (hown.alloc _) ⟨wr.heap.size, 0, none⟩ 1 1 [.int .u8 (l[k].toNat : Int)] rfl rfl ?c1 ?c2 ?c3 ?c4 ?c5 ?c6 (wr.heap.size + 1) ?c7 ?_))
      case c1 =>
        intro j u hj
        match j, hj with
        | 0, hj => simp at hj; subst hj; simp [Addr.add]
      case c2 => intro u hu; simp at hu; subst hu; rfl
      case c3 => decide
      case c4 => unfold maxLen; omega
      case c5 => omega
      case c6 => have := hnx.size; simp; omega
      case c7 => simp
      intro g' cap' w1 hown' hgrow hat hlg
      have hb1 : Below w.heap.size w w1 := (hnx.alloc (by have := hnx.size; omega) _).grown hgrow (by have := hnx.size; simp; omega) (fun j hj => (hown.lt j hj).1)
      have hown2 : w1.ownsRow w.heap.size 5 1 (.slice (some ⟨g', 0, none⟩) (k + 1) cap') (k + 1) (u8s (l.take (k + 1))) := by
        rw [HS.out, u8s_append]; exact hown'
      clear hown' hgrow hown hat hlg hnx hcx
      go_wp2_with fail
      go_roundw
      case rel => exact ⟨k + 1, by omega, by go_num, hown2, hb1⟩
      case measure => simp [intOf]; omega
    · have hke : k = l.length := by omega
      go_wp2_with fail
      go_ret
      subst hke
      refine ⟨_, rfl, ?_, hnx⟩
      have := hown
      rw [List.take_of_length_le (by simp)] at this
      exact this

end Go.Proofs.YtlopimdnjookeabGreatDoor

namespace Go.Proofs.YtlopimdnjookeabGreatDoor
open Go.RowKit

theorem marks_cells {w : World} {g : Nat} (h : w.heap[g]? = some (.cells #[.int .u8 77, .int .u8 77, .int .u8 77, .int .u8 77] 5 (0, 0))) : RdA w (.slice (some ⟨g, 0, none⟩) 4 4) marks4 := by
  refine ⟨_, 4, rfl, fun j hj => ⟨g, 0, rfl, ?_⟩⟩
  have h4 : marks4.length = 4 := rfl
  rw [cell_of_row _ _ _ _ _ _ h, Nat.zero_add]
  obtain rfl | rfl | rfl | rfl : j = 0 ∨ j = 1 ∨ j = 2 ∨ j = 3 := by omega
  all_goals rfl

end Go.Proofs.YtlopimdnjookeabGreatDoor

namespace Go.Proofs.YtlopimdnjookeabGreatDoor
open Go.RowKit

theorem mt_under : Tryz.prog.underlying 32 = some (.struct (Tryz.prog.fieldsOf 32)) := by kernel_rfl
theorem mt_held : Tryz.prog.stoodInHeld 32 = false := by kernel_rfl
set_option maxRecDepth 100000 in
set_option maxHeartbeats 1000000 in
theorem mt_eq (w : World) (p r t p' r' t' : Int) :
    (binOp .eql 32 (.agg #[.int .i64 p, .int .i64 r, .int .u64 t]) (.agg #[.int .i64 p', .int .i64 r', .int .u64 t'])).run Tryz.prog w = .ok (.bool (p == p' && (r == r' && t == t'))) w := by
  rw [run_eql_struct, run_equalIn_agg w 9999 32 _ _ mt_under mt_held]
  simp [go_sem]
  by_cases h1 : p = p'
  · by_cases h2 : r = r'
    · by_cases h3 : t = t'
      · simp [h1, h2, h3]
      · simp [h1, h2, h3]
    · simp [h1, h2]
  · simp [h1]
theorem mt_self (w : World) (p r t : Int) : (binOp .eql 32 (.agg #[.int .i64 p, .int .i64 r, .int .u64 t]) (.agg #[.int .i64 p, .int .i64 r, .int .u64 t])).run Tryz.prog w = .ok (.bool true) w := by
  rw [mt_eq]; simp
theorem mt_neq (w : World) (x y : Array Value) (bb : Bool) (h : (binOp .eql 32 (.agg x) (.agg y)).run Tryz.prog w = .ok (.bool bb) w) : (binOp .neq 32 (.agg x) (.agg y)).run Tryz.prog w = .ok (.bool (!bb)) w := by
  rw [run_eql_struct] at h
  rw [run_neq_struct]
  revert h
  generalize (Op.equalIn 10000 32 (.agg x) (.agg y)).run Tryz.prog w = r
  cases r with
  | ok v w' => intro h; simp [Result.andThen] at h ⊢; obtain ⟨rfl, rfl⟩ := h; simp
  | halt v w' => intro h; simp [Result.andThen] at h

end Go.Proofs.YtlopimdnjookeabGreatDoor

namespace Go.Proofs.YtlopimdnjookeabGreatDoor
open Go.RowKit

theorem three_keep {w : World} {b b' o : Nat} {v u0 u1 u2 : Value} (hne : ¬ b' = b) (h : w.cell? ⟨b', o, none⟩ = some v) :
    (((w.setCell ⟨b, 0, none⟩ u0).setCell ⟨b, 1, none⟩ u1).setCell ⟨b, 2, none⟩ u2).cell? ⟨b', o, none⟩ = some v := by
  have hs := ((Sole.set b 0 w u0).trans (Sole.set b 1 _ u1)).trans (Sole.set b 2 _ u2)
  exact hs.cell h hne

/-- Which answers go together. -/
theorem dec_cells (a0 a1 : Addr) (l : List UInt8) (pages slot : Int) : ∃ (P R : Int) (T : Nat) (ev : Value) (n : Int), decV a0 a1 l pages slot = #[.agg #[.int .i64 P, .int .i64 R, .int .u64 (T : Int)], ev] ∧ rdecV l pages slot = #[.agg #[.int .i64 P, .int .i64 R, .int .u64 (T : Int)], .int .i64 n] ∧
    ((ev = .nilIface ∧ n = 0) ∨ (ev = .iface 153 (.pointer (some a0)) ∧ n = 1) ∨ (ev = .iface 153 (.pointer (some a1)) ∧ n = 2)) := by
  unfold decV rdecV
  by_cases h1 : ¬ PagesOk pages ∨ ¬ (0 ≤ slot ∧ slot < 2)
  · rw [if_pos h1, if_pos h1]
    exact ⟨0, 0, 0, _, 1, rfl, rfl, .inr (.inl ⟨rfl, rfl⟩)⟩
  · rw [if_neg h1, if_neg h1]
    by_cases h2 : okM l pages slot
    · rw [if_pos h2, if_pos h2]
      exact ⟨(parseM l).pages, (parseM l).root, (parseM l).txid, _, 0, rfl, rfl, .inl ⟨rfl, rfl⟩⟩
    · rw [if_neg h2, if_neg h2]
      exact ⟨0, 0, 0, _, 2, rfl, rfl, .inr (.inr ⟨rfl, rfl⟩)⟩

end Go.Proofs.YtlopimdnjookeabGreatDoor

namespace Go.Proofs.YtlopimdnjookeabGreatDoor
open Go.RowKit

def rchoV (la lb : List UInt8) (pages : Int) : Array Value :=
  if ¬ PagesOk pages then #[zMt, .int .i64 1]
  else if okM la pages 0 ∧ (¬ okM lb pages 1 ∨ (parseM lb).txid < (parseM la).txid) then #[.agg (parseM la).cells.toArray, .int .i64 0]
  else if okM lb pages 1 then #[.agg (parseM lb).cells.toArray, .int .i64 0] else #[zMt, .int .i64 9]

/-- What the document's Decode answers, by cells. -/
theorem rdecV_cells (l : List UInt8) (pages slot : Int) (hp : PagesOk pages) (hs : 0 ≤ slot ∧ slot < 2) : ∃ (P R : Int) (T : Nat) (n : Int), rdecV l pages slot = #[.agg #[.int .i64 P, .int .i64 R, .int .u64 (T : Int)], .int .i64 n] ∧ ((okM l pages slot ∧ n = 0 ∧ (parseM l).cells.toArray = #[.int .i64 P, .int .i64 R, .int .u64 (T : Int)] ∧ (parseM l).txid = T) ∨ (¬ okM l pages slot ∧ n = 2)) := by
  unfold rdecV
  rw [if_neg (by rintro (h | h); exact h hp; exact h hs)]
  by_cases h : okM l pages slot
  · rw [if_pos h]
    exact ⟨(parseM l).pages, (parseM l).root, (parseM l).txid, 0, rfl, .inl ⟨h, rfl, rfl, rfl⟩⟩
  · rw [if_neg h]
    exact ⟨0, 0, 0, 2, rfl, .inr ⟨h, rfl⟩⟩

set_option maxRecDepth 100000 in
set_option maxHeartbeats 8000000 in
theorem rchoose_any (va vb : Value) (la lb : List UInt8) (pages : Int) (w : World) (ha : RdA w va la) (hb : RdA w vb lb) (hma : la.length ≤ 140737488355328) (hmb : lb.length ≤ 140737488355328) :
    Calls Tryz.prog 43 #[va, vb, .int .i64 pages] w fun e w' => e = .returned (.tuple (rchoV la lb pages)) ∧ Below w.heap.size w w' := by
  have HZ0 : Hid ((w.alloc (.cells #[.int .i64 0, .int .i64 0, .int .u64 0] 32)).heap[w.heap.size]? = some (.cells #[.int .i64 0, .int .i64 0, .int .u64 0] 32 (0, 0))) := heap_alloc_new w _
  have hb0 := below_new w (.cells #[.int .i64 0, .int .i64 0, .int .u64 0] 32)
  have HB0 := hide hb0
  have HLT : Hid (w.heap.size < (w.alloc (.cells #[.int .i64 0, .int .i64 0, .int .u64 0] 32)).heap.size) := by show _ < _; simp
  have HVA := hide (ha.below hb0)
  have HVB := hide (hb.below hb0)
  obtain ⟨a1, c1, rfl⟩ := ha.slice
  obtain ⟨a2, c2, rfl⟩ := hb.slice
  by_cases hp : PagesOk pages
  · obtain ⟨P1, R1, T1, n1, hr1, ho1⟩ := rdecV_cells la pages 0 hp (by decide)
    obtain ⟨P2, R2, T2, n2, hr2, ho2⟩ := rdecV_cells lb pages 1 hp (by decide)
    have HRA : Hid (∀ w, RdA w (.slice a1 la.length c1) la → Calls Tryz.prog 66 #[.slice a1 la.length c1, .int .i64 pages, .int .i64 0] w fun e w' => e = .returned (.tuple #[.agg #[.int .i64 P1, .int .i64 R1, .int .u64 (T1 : Int)], .int .i64 n1]) ∧ Below w.heap.size w w') := fun w h1 => by rw [← hr1]; exact rdecode_any _ la pages 0 w h1 hma
    have HRB : Hid (∀ w, RdA w (.slice a2 lb.length c2) lb → Calls Tryz.prog 66 #[.slice a2 lb.length c2, .int .i64 pages, .int .i64 1] w fun e w' => e = .returned (.tuple #[.agg #[.int .i64 P2, .int .i64 R2, .int .u64 (T2 : Int)], .int .i64 n2]) ∧ Below w.heap.size w w') := fun w h1 => by rw [← hr2]; exact rdecode_any _ lb pages 1 w h1 hmb
    have hcv : rchoV la lb pages = if n1 = 0 ∧ (¬ n2 = 0 ∨ T2 < T1) then #[.agg #[.int .i64 P1, .int .i64 R1, .int .u64 (T1 : Int)], .int .i64 0] else if n2 = 0 then #[.agg #[.int .i64 P2, .int .i64 R2, .int .u64 (T2 : Int)], .int .i64 0] else #[zMt, .int .i64 9] := by
      unfold rchoV
      rw [if_neg (by simpa using hp)]
      rcases ho1 with ⟨h1, rfl, e1, t1⟩ | ⟨h1, rfl⟩
      · rcases ho2 with ⟨h2, rfl, e2, t2⟩ | ⟨h2, rfl⟩
        · simp [h1, h2, e1, e2, t1, t2]
        · simp [h1, h2, e1]
      · rcases ho2 with ⟨h2, rfl, e2, t2⟩ | ⟨h2, rfl⟩
        · simp [h1, h2, e2]
        · simp [h1, h2]
    have hn1 : n1 = 0 ∨ n1 = 2 := by rcases ho1 with ⟨_, h, _⟩ | ⟨_, h⟩; exact .inl h; exact .inr h
    have hn2 : n2 = 0 ∨ n2 = 2 := by rcases ho2 with ⟨_, h, _⟩ | ⟨_, h⟩; exact .inl h; exact .inr h
    have HCV := hide hcv
    have HN := hide (And.intro hn1 hn2)
    clear hp ha hb hma hmb hb0 hr1 hr2 ho1 ho2 hcv hn1 hn2
    go_enter Tryz.func43, Tryz.ntmps43
    go_wp2_with fail
    generalize w.alloc (.cells #[.int .i64 0, .int .i64 0, .int .u64 0] 32) = W0 at *
    refine (HRA.out _ HVA.out).mono ?_
    rintro e w1 ⟨rfl, hb1⟩
    have hbb1 := Below.next hb1 (below_new w1 (.cells #[.int .i64 P1, .int .i64 R1, .int .u64 (T1 : Int)] 32))
    have HX1 := hide (boxed_new w1 #[.int .i64 P1, .int .i64 R1, .int .u64 (T1 : Int)] 32)
    have HBB1 := hide hbb1
    clear hb1 hbb1
    go_wp2_with fail
    generalize w1.alloc (.cells #[.int .i64 P1, .int .i64 R1, .int .u64 (T1 : Int)] 32) = W1 at *
    generalize w1.heap.size = xb at *
    refine (HRB.out _ (HVB.out.below HBB1.out)).mono ?_
    rintro e w2 ⟨rfl, hb2⟩
    have hbb2 := Below.next hb2 (below_new w2 (.cells #[.int .i64 P2, .int .i64 R2, .int .u64 (T2 : Int)] 32))
    have hX2 := boxed_new w2 #[.int .i64 P2, .int .i64 R2, .int .u64 (T2 : Int)] 32
    have hX1 := HX1.out.below hbb2
    have hB2 := Below.next HBB1.out hbb2
    have x0 := hX1.2 0 (by simp)
    have x1 := hX1.2 1 (by simp)
    have x2 := hX1.2 2 (by simp)
    have y0 := hX2.2 0 (by simp)
    have y1 := hX2.2 1 (by simp)
    have y2 := hX2.2 2 (by simp)
    simp only [List.getElem_cons_zero, List.getElem_cons_succ] at x0 x1 x2 y0 y1 y2
    have hz2 := (hB2.block _ HLT.out).trans HZ0.out
    obtain ⟨z0, z1, z2, f0, f1, f2⟩ := zero_cells hz2
    have HZ2 := hide hz2
    have HB2 := hide (Below.next HB0.out hB2)
    clear hb2 hbb2 hX2 hX1 hB2 hz2 HX1 HBB1
    obtain ⟨h1, h2⟩ := HN.out
    rcases h1 with rfl | rfl
    · rcases h2 with rfl | rfl
      · by_cases ht : T2 < T1
        · have HC2 : Hid (rchoV la lb pages = #[.agg #[.int .i64 P1, .int .i64 R1, .int .u64 (T1 : Int)], .int .i64 0]) := by show _ = _; rw [HCV.out, if_pos ⟨rfl, .inr ht⟩]
          have hd : decide ((T2 : Int) < (T1 : Int)) = true := decide_eq_true (by omega)
          clear HCV HN
          go_wp2_with fail
          refine bodyPost_ret (results_row_tmp rfl _ _ w.heap.size 32 #[.int .i64 P1, .int .i64 R1, .int .u64 (T1 : Int)] (0, 0) _ rfl (set_three HZ2.out) Tryz.underlying32 rfl (by kernel_rfl)) rfl ⟨by rw [HC2.out]; rfl, below_three HB2.out (Nat.le_refl _)⟩
        · have HC2 : Hid (rchoV la lb pages = #[.agg #[.int .i64 P2, .int .i64 R2, .int .u64 (T2 : Int)], .int .i64 0]) := by show _ = _; rw [HCV.out, if_neg (fun h => h.2.elim (fun h => h rfl) ht), if_pos rfl]
          have hd : decide ((T2 : Int) < (T1 : Int)) = false := decide_eq_false (by omega)
          clear HCV HN
          go_wp2_with fail
          refine bodyPost_ret (results_row_tmp rfl _ _ w.heap.size 32 #[.int .i64 P2, .int .i64 R2, .int .u64 (T2 : Int)] (0, 0) _ rfl (set_three HZ2.out) Tryz.underlying32 rfl (by kernel_rfl)) rfl ⟨by rw [HC2.out]; rfl, below_three HB2.out (Nat.le_refl _)⟩
      · have HC2 : Hid (rchoV la lb pages = #[.agg #[.int .i64 P1, .int .i64 R1, .int .u64 (T1 : Int)], .int .i64 0]) := by show _ = _; rw [HCV.out, if_pos ⟨rfl, .inl (by decide)⟩]
        clear HCV HN
        go_wp2_with fail
        refine bodyPost_ret (results_row_tmp rfl _ _ w.heap.size 32 #[.int .i64 P1, .int .i64 R1, .int .u64 (T1 : Int)] (0, 0) _ rfl (set_three HZ2.out) Tryz.underlying32 rfl (by kernel_rfl)) rfl ⟨by rw [HC2.out]; rfl, below_three HB2.out (Nat.le_refl _)⟩
    · rcases h2 with rfl | rfl
      · have HC2 : Hid (rchoV la lb pages = #[.agg #[.int .i64 P2, .int .i64 R2, .int .u64 (T2 : Int)], .int .i64 0]) := by show _ = _; rw [HCV.out, if_neg (fun h => by cases h.1), if_pos rfl]
        clear HCV HN
        go_wp2_with fail
        refine bodyPost_ret (results_row_tmp rfl _ _ w.heap.size 32 #[.int .i64 P2, .int .i64 R2, .int .u64 (T2 : Int)] (0, 0) _ rfl (set_three HZ2.out) Tryz.underlying32 rfl (by kernel_rfl)) rfl ⟨by rw [HC2.out]; rfl, below_three HB2.out (Nat.le_refl _)⟩
      · have HC2 : Hid (rchoV la lb pages = #[zMt, .int .i64 9]) := by show _ = _; rw [HCV.out, if_neg (fun h => by cases h.1), if_neg (fun h => by cases h)]
        clear HCV HN
        go_wp2_with fail
        refine bodyPost_ret (results_row_tmp rfl _ _ w.heap.size 32 #[.int .i64 0, .int .i64 0, .int .u64 0] (0, 0) _ rfl (set_three HZ2.out) Tryz.underlying32 rfl (by kernel_rfl)) rfl ⟨by rw [HC2.out]; rfl, below_three HB2.out (Nat.le_refl _)⟩
  · have hra : rdecV la pages 0 = #[zMt, .int .i64 1] := by unfold rdecV; rw [if_pos (.inl hp)]
    have hrb : rdecV lb pages 1 = #[zMt, .int .i64 1] := by unfold rdecV; rw [if_pos (.inl hp)]
    have HRA : Hid (∀ w, RdA w (.slice a1 la.length c1) la → Calls Tryz.prog 66 #[.slice a1 la.length c1, .int .i64 pages, .int .i64 0] w fun e w' => e = .returned (.tuple #[zMt, .int .i64 1]) ∧ Below w.heap.size w w') := fun w h1 => by rw [← hra]; exact rdecode_any _ la pages 0 w h1 hma
    have HRB : Hid (∀ w, RdA w (.slice a2 lb.length c2) lb → Calls Tryz.prog 66 #[.slice a2 lb.length c2, .int .i64 pages, .int .i64 1] w fun e w' => e = .returned (.tuple #[zMt, .int .i64 1]) ∧ Below w.heap.size w w') := fun w h1 => by rw [← hrb]; exact rdecode_any _ lb pages 1 w h1 hmb
    have HC2 : Hid (rchoV la lb pages = #[zMt, .int .i64 1]) := by show _ = _; unfold rchoV; rw [if_pos hp]
    clear hp ha hb hma hmb hb0 hra hrb
    go_enter Tryz.func43, Tryz.ntmps43
    go_wp2_with fail
    generalize w.alloc (.cells #[.int .i64 0, .int .i64 0, .int .u64 0] 32) = W0 at *
    refine (HRA.out _ HVA.out).mono ?_
    rintro e w1 ⟨rfl, hb1⟩
    have HBB1 := hide (Below.next hb1 (below_new w1 (.cells #[.int .i64 0, .int .i64 0, .int .u64 0] 32)))
    clear hb1
    go_wp2_with fail
    generalize w1.alloc (.cells #[.int .i64 0, .int .i64 0, .int .u64 0] 32) = W1 at *
    refine (HRB.out _ (HVB.out.below HBB1.out)).mono ?_
    rintro e w2 ⟨rfl, hb2⟩
    have hB2 := Below.next HBB1.out (Below.next hb2 (below_new w2 (.cells #[.int .i64 0, .int .i64 0, .int .u64 0] 32)))
    have hz2 := (hB2.block _ HLT.out).trans HZ0.out
    obtain ⟨z0, z1, z2, f0, f1, f2⟩ := zero_cells hz2
    have HZ2 := hide hz2
    have HB2 := hide (Below.next HB0.out hB2)
    clear hb2 hB2 hz2
    go_wp2_with fail
    refine bodyPost_ret (results_row_tmp rfl _ _ w.heap.size 32 #[.int .i64 0, .int .i64 0, .int .u64 0] (0, 0) _ rfl (set_three HZ2.out) Tryz.underlying32 rfl (by kernel_rfl)) rfl ⟨by rw [HC2.out]; rfl, below_three HB2.out (Nat.le_refl _)⟩

end Go.Proofs.YtlopimdnjookeabGreatDoor
