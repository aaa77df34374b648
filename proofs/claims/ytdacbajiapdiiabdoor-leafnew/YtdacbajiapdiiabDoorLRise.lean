import Derived.Test.YtdacbajiapdiiabDoorLSize
import Derived.Test.YtdacbajiapdiiabDoorBase
import Derived.Deep.RegionHeld3
import Derived.Deep.DeepCutAuto
import Derived.Deep.CutBlock
namespace Go.Proofs.YtdacbajiapdiiabDoor
open Go.RowKit

def headT (s : ByteArray) (n : Nat) : ByteArray := if s.size ≤ n then s else s.extract 0 n
theorem headT_size (s : ByteArray) (n : Nat) : (headT s n).size ≤ n := by
  unfold headT
  split
  · assumption
  · rw [ByteArray.size_extract]; omega
set_option maxHeartbeats 400000 in
theorem head_any (s : ByteArray) (n : Nat) (w : World) (hn : 1 ≤ n) (hb : n ≤ 1000) :
    Calls Tryd.prog 42 #[.string s, .int .i64 (n : Int)] w fun e w' => e = .returned (.string (headT s n)) ∧ w = w' := by
  have d0 : decide ((n : Int) < 1) = false := decide_eq_false (by omega)
  by_cases h : s.size ≤ n
  · have e : headT s n = s := if_pos h
    rw [e]
    have i1 : (s.size : Int) ≤ (n : Int) := by omega
    clear e
    go_enter Tryd.func42, Tryd.ntmps42
    go_wp2
    go_ret
    exact ⟨rfl, rfl⟩
  · have e : headT s n = s.extract 0 n := if_neg h
    rw [e]
    have i1 : ¬ (s.size : Int) ≤ (n : Int) := by omega
    have i2 : (n : Int) ≤ (s.size : Int) := by omega
    have i3 : (0 : Int) ≤ (n : Int) := by omega
    clear e
    go_enter Tryd.func42, Tryd.ntmps42
    go_wp2
    go_ret
    exact ⟨rfl, rfl⟩

/-- What rising takes of a pair, and when. -/
def cutP (p : Pr) : Pr := (headT p.1 255, headT p.2 700)
def lastLt (out : List Pr) (p : Pr) : Prop := ∀ (h : 0 < out.length), ltK (out[out.length - 1]'(by omega)).1 p.1 = true
instance (out : List Pr) (p : Pr) : Decidable (lastLt out p) := by unfold lastLt; exact inferInstance
def fitsR (out : List Pr) (p : Pr) (most : Nat) : Prop := 1 ≤ p.1.size ∧ lastLt out p ∧ szL out + szP p ≤ most
instance (out : List Pr) (p : Pr) (most : Nat) : Decidable (fitsR out p most) := by unfold fitsR; exact inferInstance
def risK (most : Nat) (l : List Pr) : Nat → List Pr
  | 0 => []
  | k + 1 => match l[k]? with
    | some p => if fitsR (risK most l k) (cutP p) most then risK most l k ++ [cutP p] else risK most l k
    | none => risK most l k
def risL (most : Nat) (l : List Pr) : List Pr := risK most l l.length
theorem risK_yes {most : Nat} {l : List Pr} {k : Nat} (hk : k < l.length) (h : fitsR (risK most l k) (cutP l[k]) most) : risK most l (k + 1) = risK most l k ++ [cutP l[k]] := by
  simp only [risK, List.getElem?_eq_getElem hk]; rw [if_pos h]
theorem risK_no {most : Nat} {l : List Pr} {k : Nat} (hk : k < l.length) (h : ¬ fitsR (risK most l k) (cutP l[k]) most) : risK most l (k + 1) = risK most l k := by
  simp only [risK, List.getElem?_eq_getElem hk]; rw [if_neg h]
theorem risK_ok (most : Nat) (l : List Pr) (k : Nat) : (∀ p ∈ risK most l k, mayP p = true) ∧ Rise (risK most l k) ∧ szL (risK most l k) ≤ most ∧ (risK most l k).length ≤ k := by
  induction k with
  | zero => exact ⟨fun p hp => by simp [risK] at hp, rise_nil, Nat.zero_le _, Nat.zero_le _⟩
  | succ k ih =>
    by_cases hk : k < l.length
    · by_cases hf : fitsR (risK most l k) (cutP l[k]) most
      · rw [risK_yes hk hf]
        refine ⟨fun p hp => ?_, (rise_snoc _).2 ⟨ih.2.1, hf.2.1⟩, ?_, by rw [List.length_append]; have := ih.2.2.2; simp; omega⟩
        · rcases List.mem_append.1 hp with h | h
          · exact ih.1 p h
          · simp only [List.mem_singleton] at h
            subst h
            exact decide_eq_true ⟨hf.1, headT_size _ _, headT_size _ _⟩
        · rw [szL_append, szL_cons, szL_nil]; exact hf.2.2
      · rw [risK_no hk hf]
        exact ⟨ih.1, ih.2.1, ih.2.2.1, by have := ih.2.2.2; omega⟩
    · have e : risK most l (k + 1) = risK most l k := by simp only [risK, List.getElem?_eq_none (Nat.le_of_not_lt hk)]
      rw [e]
      exact ⟨ih.1, ih.2.1, ih.2.2.1, by have := ih.2.2.2; omega⟩

theorem text_empty (s : ByteArray) : s.toList.isEmpty = decide (s.size = 0) := by
  rw [ByteArray.toList_eq, ← bsize]
  cases s.data.toList <;> simp

set_option maxRecDepth 20000 in
set_option maxHeartbeats 4000000 in
theorem rising_any (v : Value) (l : List Pr) (most : Nat) (w : World) (hm : l.length ≤ 4398046510976) (hmo : most ≤ 1099511627776) (hr : PrR w v l) :
    Calls Tryd.prog 17 #[v, .int .i64 (most : Int)] w fun e w' => ∃ u, e = .returned u ∧ PrO w' w.heap.size u (risL most l) ∧ Below w.heap.size w w' := by
  obtain ⟨a, cap, rfl, hcap, _, hc⟩ := hr
  have HC := hide hc
  obtain ⟨n, hn⟩ : ∃ n, n = l.length := ⟨_, rfl⟩
  rw [← hn] at hm ⊢
  have HN := hide hn
  clear hc hn hcap
  go_enter Tryd.func17, Tryd.ntmps17
  go_wp2
  go_loopw [5, 6, 7] (fun u z i wr => ∃ k : Nat, k ≤ n ∧ i = .int .i64 k ∧ z = .int .i64 (szL (risK most l k) : Int) ∧ PrO wr w.heap.size u (risK most l k) ∧ Below w.heap.size w wr) (fun _ _ i _ => n - (intOf i).toNat)
  case atStart => exact ⟨0, Nat.zero_le _, rfl, rfl, PrO.nil _ _, Below.refl _ _⟩
  case round =>
    obtain ⟨k, hk, rfl, rfl, hown, hbw⟩ := hrel
    have hri := risK_ok most l k
    by_cases hlt : k < n
    · have hkl : k < l.length := by have := HN.out; omega
      have hltI : (k : Int) < (n : Int) := by omega
      have j0 : (0 : Int) ≤ (k : Int) := by omega
      obtain ⟨g, o, rfl, f1, f2⟩ := HC.out k hkl
      have c1 : wr.cell? ⟨g, o + k * 2, none⟩ = some (.string l[k].1) := (hbw.cell (p := ⟨g, o + k * 2, none⟩) (World.block_lt_of_cell? w _ f1)).trans f1
      have c2 : wr.cell? ⟨g, o + k * 2 + 1, none⟩ = some (.string l[k].2) := (hbw.cell (p := ⟨g, o + k * 2 + 1, none⟩) (World.block_lt_of_cell? w _ f2)).trans f2
      have HH1 : Hid (∀ W, Calls Tryd.prog 42 #[.string l[k].1, .int .i64 255] W fun e w' => e = .returned (.string (headT l[k].1 255)) ∧ W = w') := fun W => head_any l[k].1 255 W (by decide) (by decide)
      have HH2 : Hid (∀ W, Calls Tryd.prog 42 #[.string l[k].2, .int .i64 700] W fun e w' => e = .returned (.string (headT l[k].2 700)) ∧ W = w') := fun W => head_any l[k].2 700 W (by decide) (by decide)
      have HYES := hide (risK_yes (most := most) hkl)
      have HNOO := hide (risK_no (most := most) hkl)
      have hq1 : headT l[k].1 255 = (cutP l[k]).1 := rfl
      have hq2 : headT l[k].2 700 = (cutP l[k]).2 := rfl
      have hz1 : (cutP l[k]).1.size ≤ 255 := headT_size _ _
      have hz2 : (cutP l[k]).2.size ≤ 700 := headT_size _ _
      rw [hq1] at HH1
      rw [hq2] at HH2
      obtain ⟨q, hq⟩ : ∃ q, q = cutP l[k] := ⟨_, rfl⟩
      rw [← hq] at HH1 HH2 HYES HNOO hz1 hz2
      obtain ⟨out, hout⟩ : ∃ out, out = risK most l k := ⟨_, rfl⟩
      rw [← hout] at HYES HNOO hown hri ⊢
      obtain ⟨m, hmm⟩ : ∃ m, m = out.length := ⟨_, rfl⟩
      obtain ⟨ua, uc, hu⟩ := hown.form
      rw [← hmm] at hu
      subst hu
      obtain ⟨s, hs⟩ : ∃ s, s = szL out := ⟨_, rfl⟩
      obtain ⟨z, hz⟩ : ∃ z, z = szP q := ⟨_, rfl⟩
      have hzv : z = 5 + q.1.size + q.2.size := hz
      have e1 : IntKind.i64.wrap (5 + (q.1.size : Int)) = 5 + (q.1.size : Int) := by rw [IntKind.wrap_i64]; omega
      have e2 : IntKind.i64.wrap (5 + (q.1.size : Int) + (q.2.size : Int)) = (z : Int) := by rw [IntKind.wrap_i64]; omega
      have hsb : s ≤ most := by rw [hs]; exact hri.2.2.1
      have e3 : IntKind.i64.wrap ((s : Int) + (z : Int)) = ((s + z : Nat) : Int) := by rw [IntKind.wrap_i64]; omega
      have hml : m ≤ k := by rw [hmm]; exact hri.2.2.2
      rw [← hs]
      have HFIT : Hid (fitsR out q most ↔ 1 ≤ q.1.size ∧ lastLt out q ∧ s + z ≤ most) := by rw [hs, hz]; exact Iff.rfl
      have HSZN : Hid (szL (out ++ [q]) = s + z) := by show _ = _; rw [szL_append, szL_cons, szL_nil, hs, hz]; rfl
      have HS := hide hs
      have HB0 := hide (Below.next hbw (below_new wr (.cells #[.string q.1, .string q.2] 45)))
      have HOW := hide hown
      have HMM := hide hmm
      have HOUT := hide hout
      obtain ⟨s1, hs1⟩ : ∃ s1, s1 = l[k].1 := ⟨_, rfl⟩
      obtain ⟨s2, hs2⟩ : ∃ s2, s2 = l[k].2 := ⟨_, rfl⟩
      rw [← hs1] at c1 HH1
      rw [← hs2] at c2 HH2
      clear hq1 hq2 hq hout hmm hs hz hzv f1 f2 HC hri hown hs1 hs2
      go_upto_region 6 with fail
      go_cut [8] (fun u8 wx => u8 = .pointer (some ⟨wr.heap.size, 0, none⟩) ∧ wx = (wr.alloc (.cells #[.string q.1, .string q.2] 45)).drew)
      case first =>
        go_region_held3 (fun w' => w'.cell? ⟨g, o + k * 2, none⟩ = some (.string s1) ∧ w'.cell? ⟨g, o + k * 2 + 1, none⟩ = some (.string s2)) (go_keep)
          (first
            | (go_at_call_of 42 (Value.string s1); refine (HH1.out _).mono ?_; rintro e w2 ⟨rfl, rfl⟩)
            | (go_at_call_of 42 (Value.string s2); refine (HH2.out _).mono ?_; rintro e w2 ⟨rfl, rfl⟩))
        all_goals
          go_wp2_with fail
          go_meet
        case rel => exact ⟨rfl, rfl⟩
        case rel => exact ⟨rfl, rfl⟩
        case rel => exact ⟨rfl, rfl⟩
      case rest =>
        obtain ⟨rfl, rfl⟩ := hcut
        have hbx := boxed_new wr #[.string q.1, .string q.2] 45
        have HBX : Hid (Below w.heap.size w (wr.alloc (.cells #[.string q.1, .string q.2] 45)).drew) := HB0.out.drew
        have HOX : Hid (PrO (wr.alloc (.cells #[.string q.1, .string q.2] 45)).drew w.heap.size (.slice ua m uc) out) := HOW.out.below (below_new wr _).drew
        have b0 : (wr.alloc (.cells #[.string q.1, .string q.2] 45)).drew.cell? ⟨wr.heap.size, 0, none⟩ = some (.string q.1) := hbx.2 0 (by simp)
        have b1 : (wr.alloc (.cells #[.string q.1, .string q.2] 45)).drew.cell? ⟨wr.heap.size, 1, none⟩ = some (.string q.2) := hbx.2 1 (by simp)
        clear hbx HB0 HOW HH1 HH2 c1 c2 hbw
        generalize (wr.alloc (.cells #[.string q.1, .string q.2] 45)).drew = WX at *
        generalize wr.heap.size = nb at *
        have hem := text_empty q.1
        obtain ⟨y, hy⟩ : ∃ y, y = s + z := ⟨_, rfl⟩
        rw [← hy] at e3 HFIT HSZN
        have HYE := hide hy
        by_cases hA : 1 ≤ q.1.size
        · have hne2 : ¬ q.1.toList = [] := fun h => by rw [ByteArray.toList_eq] at h; rw [← bsize, h] at hA; simp at hA
          have hne3 : q.1.toList.isEmpty = false := by rw [hem]; exact decide_eq_false (by omega)
          by_cases hm0 : m = 0
          · have hlast : lastLt out q := fun h => by have := HMM.out; omega
            have hm1 : ((m : Int) == 0) = true := by rw [beq_iff_eq]; omega
            have HM0 := hide hm0
            by_cases hfit : y ≤ most
            · have hfI : (y : Int) ≤ (most : Int) := by omega
              have HARG : Hid (1 ≤ q.1.size ∧ lastLt out q ∧ y ≤ most) := ⟨hA, hlast, hfit⟩
              clear hm0 hlast hem
              have HY1 := hide (HYES.out (HFIT.out.2 HARG.out))
              clear HYES HNOO HFIT
              go_wp2
              go_quiet (fail)
              obtain ⟨a1, cp1, w2, hrun, hown1, hb2, _⟩ := push_prs w.heap.size _ _ q 45 (WX.drewN nq) w w.heap.size m HMM.out.symm HOX.out (by omega) HBX.out.size (Nat.le_refl _) (below_drewN' HBX.out nq)
              rw [← HY1.out] at hown1
              have HO := hide hown1
              have HB := hide hb2
              clear hown1 hb2
              go_wp2_with (first | (at_builtin; refine wpList_append_run 24 rfl (.tmp 64) (.tmp 66) rfl rfl _ _ rfl rfl _ _ hrun ?_))
              clear hrun
              go_wp2
              go_roundw
              case rel => exact ⟨k + 1, by omega, by go_num, by rw [HY1.out, HSZN.out, HYE.out, Int.natCast_add], HO.out, HB.out⟩
              case measure => simp [intOf]; omega
            · have hfI : ¬ (y : Int) ≤ (most : Int) := by omega
              have HN1 := hide (HNOO.out (fun h => hfit (HFIT.out.1 h).2.2))
              clear hm0 hlast hem HYES HNOO HFIT
              go_wp2
              go_quiet (fail)
              go_wp2
              go_roundw
              case rel => exact ⟨k + 1, by omega, by go_num, by rw [HN1.out, HS.out], by rw [HN1.out]; exact HOX.out, below_drewN' HBX.out _⟩
              case measure => simp [intOf]; omega
          · have hm1 : ((m : Int) == 0) = false := by rw [beq_eq_false_iff_ne]; omega
            obtain ⟨m1, hm1e⟩ : ∃ m1, m1 = m - 1 := ⟨_, rfl⟩
            have hw1 : IntKind.i64.wrap ((m : Int) - 1) = (m1 : Int) := by rw [IntKind.wrap_i64]; omega
            have hml1 : m1 < out.length := by have := HMM.out; omega
            obtain ⟨a', c', he, _, _, hcc⟩ := HOX.out.at
            obtain ⟨ug, uo, ha, d1, d2⟩ := hcc m1 hml1
            simp only [Value.slice.injEq] at he
            obtain ⟨rfl, -⟩ := he
            subst ha
            have hll : lastLt out q ↔ ltK out[m1].1 q.1 = true := by
              unfold lastLt
              have e : out.length - 1 = m1 := by have := HMM.out; omega
              simp only [e]
              exact ⟨fun h => h (by omega), fun h _ => h⟩
            have HLL := hide hll
            obtain ⟨x, hx⟩ : ∃ x, x = out[m1].1 := ⟨_, rfl⟩
            rw [← hx] at d1 HLL
            have i0 : (0 : Int) ≤ (m1 : Int) := by omega
            have i1 : (m1 : Int) < (m : Int) := by omega
            clear hcc hll hx d2 hml1 hem hm1e
            cases hb : ltK x q.1 with
            | true =>
              have hbl : Op.bytesLess x.toList q.1.toList = true := hb
              have hlast := HLL.out.2 hb
              by_cases hfit : y ≤ most
              · have hfI : (y : Int) ≤ (most : Int) := by omega
                have HARG : Hid (1 ≤ q.1.size ∧ lastLt out q ∧ y ≤ most) := ⟨hA, hlast, hfit⟩
                clear hlast hb
                have HY1 := hide (HYES.out (HFIT.out.2 HARG.out))
                clear HYES HNOO HFIT
                go_wp2
                go_quiet (fail)
                obtain ⟨a1, cp1, w2, hrun, hown1, hb2, _⟩ := push_prs w.heap.size _ _ q 45 (WX.drewN nq) w w.heap.size m HMM.out.symm HOX.out (by omega) HBX.out.size (Nat.le_refl _) (below_drewN' HBX.out nq)
                rw [← HY1.out] at hown1
                have HO := hide hown1
                have HB := hide hb2
                clear hown1 hb2
                go_wp2_with (first | (at_builtin; refine wpList_append_run 24 rfl (.tmp 64) (.tmp 66) rfl rfl _ _ rfl rfl _ _ hrun ?_))
                clear hrun
                go_wp2
                go_roundw
                case rel => exact ⟨k + 1, by omega, by go_num, by rw [HY1.out, HSZN.out, HYE.out, Int.natCast_add], HO.out, HB.out⟩
                case measure => simp [intOf]; omega
              · have hfI : ¬ (y : Int) ≤ (most : Int) := by omega
                have HN1 := hide (HNOO.out (fun h => hfit (HFIT.out.1 h).2.2))
                clear hlast hb HYES HNOO HFIT
                go_wp2
                go_quiet (fail)
                go_wp2
                go_roundw
                case rel => exact ⟨k + 1, by omega, by go_num, by rw [HN1.out, HS.out], by rw [HN1.out]; exact HOX.out, below_drewN' HBX.out _⟩
                case measure => simp [intOf]; omega
            | false =>
              have hbl : Op.bytesLess x.toList q.1.toList = false := hb
              have HN1 := hide (HNOO.out (fun h => by
                have := HLL.out.1 (HFIT.out.1 h).2.1
                rw [hb] at this; cases this))
              clear hb HYES HNOO HFIT
              go_wp2
              go_quiet (fail)
              go_wp2
              go_roundw
              case rel => exact ⟨k + 1, by omega, by go_num, by rw [HN1.out, HS.out], by rw [HN1.out]; exact HOX.out, below_drewN' HBX.out _⟩
              case measure => simp [intOf]; omega
        · have hq0 : q.1 = ⟨#[]⟩ := by
            refine ba_ext' ?_
            have : q.1.data.toList.length = 0 := by rw [bsize]; omega
            rw [List.length_eq_zero_iff.1 this]
          have HN1 := hide (HNOO.out (fun h => hA (HFIT.out.1 h).1))
          rw [hq0] at b0
          obtain ⟨z1, hz1e⟩ : ∃ z1, z1 = q.2 := ⟨_, rfl⟩
          have e4 : IntKind.i64.wrap (5 + (z1.size : Int)) = (z : Int) := by rw [hz1e, ← e2]; congr 1; omega
          rw [← hz1e] at b1
          clear hem hq0 hA HYES HNOO HFIT hz1 hz2 e1 e2 hz1e
          go_wp2
          go_quiet (fail)
          go_wp2
          go_roundw
          case rel => exact ⟨k + 1, by omega, by go_num, by rw [HN1.out, HS.out], by rw [HN1.out]; exact HOX.out, below_drewN' HBX.out _⟩
          case measure => simp [intOf]; omega
    · have hall : risK most l k = risL most l := by unfold risL; congr 1; have := HN.out; omega
      rw [hall] at hown
      have HO := hide hown
      have HB := hide hbw
      have hltI : ¬ (k : Int) < (n : Int) := by omega
      rw [hall]
      obtain ⟨s, hs⟩ : ∃ s, s = szL (risL most l) := ⟨_, rfl⟩
      rw [← hs]
      clear hown hbw hall HC hri hs
      go_wp2
      go_ret
      exact ⟨_, rfl, HO.out, HB.out⟩

end Go.Proofs.YtdacbajiapdiiabDoor
