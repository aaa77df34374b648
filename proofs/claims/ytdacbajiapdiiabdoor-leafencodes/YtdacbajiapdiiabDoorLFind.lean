import Derived.Test.YtdacbajiapdiiabDoorPrR
namespace Go.Proofs.YtdacbajiapdiiabDoor
open Go.RowKit

theorem beq_text (x y : ByteArray) : (x.toList == y.toList) = decide (x = y) := by
  rw [Bool.eq_iff_iff, beq_iff_eq, decide_eq_true_eq, ByteArray.toList_eq, ByteArray.toList_eq]
  exact ⟨fun h => ba_ext' h, fun h => by rw [h]⟩

set_option maxHeartbeats 400000 in
theorem findf_any (p : Pr) (key : ByteArray) (b : Nat) (w : World) (hc : w.cell? ⟨b, 0, none⟩ = some (.string key)) :
    Calls Tryd.prog 58 #[.agg #[.string p.1, .string p.2], .pointer (some ⟨b, 0, none⟩)] w fun e w' => e = .returned (.bool (!ltK p.1 key)) ∧ Below w.heap.size w w' := by
  have hbn := below_new w (.cells #[.string p.1, .string p.2] 45)
  have hc1 : (w.alloc (.cells #[.string p.1, .string p.2] 45)).cell? ⟨b, 0, none⟩ = some (.string key) := (hbn.cell (p := ⟨b, 0, none⟩) (World.block_lt_of_cell? w _ hc)).trans hc
  go_enter Tryd.func58, Tryd.ntmps58
  go_wp2
  go_ret
  exact ⟨rfl, hbn⟩

set_option maxHeartbeats 1000000 in
theorem idxf_any (v : Value) (l : List Pr) (key : ByteArray) (b : Nat) (w : World) (hm : l.length ≤ 140737488355328) (hr : PrR w v l) (hk : w.cell? ⟨b, 0, none⟩ = some (.string key)) :
    Calls Tryd.prog 57 #[v, .func (.func 58) #[] #[.pointer (some ⟨b, 0, none⟩)]] w fun e w' => ((findN l key < l.length ∧ e = .returned (.int .i64 (findN l key : Int))) ∨ (¬ findN l key < l.length ∧ e = .returned (.int .i64 (-1)))) ∧ Below w.heap.size w w' := by
  obtain ⟨a, cap, rfl, hcap, _, hc⟩ := hr
  have HC := hide hc
  obtain ⟨n, hn⟩ : ∃ n, n = l.length := ⟨_, rfl⟩
  rw [← hn] at hm ⊢
  have HN := hide hn
  have HK := hide hk
  have HKB := hide (World.block_lt_of_cell? w _ hk)
  obtain ⟨Q, hQ⟩ : ∃ Q : Ending → World → Prop, Q = fun e w' => ((findN l key < n ∧ e = .returned (.int .i64 (findN l key : Int))) ∨ (¬ findN l key < n ∧ e = .returned (.int .i64 (-1)))) ∧ Below w.heap.size w w' := ⟨_, rfl⟩
  rw [← hQ]
  have HQ := hide hQ
  clear hc hn hcap hk hQ
  go_enter Tryd.func57, Tryd.ntmps57
  go_wp2
  go_loopw [8] (fun i wr => ∃ k : Nat, k ≤ n ∧ i = .int .i64 k ∧ (∀ j (h : j < l.length), j < k → ltK l[j].1 key = true) ∧ Below w.heap.size w wr) (fun i _ => n - (intOf i).toNat)
  case atStart => exact ⟨0, Nat.zero_le _, rfl, fun j _ h => absurd h (Nat.not_lt_zero _), Below.refl _ _⟩
  case round =>
    obtain ⟨k, hk, rfl, hpre, hbw⟩ := hrel
    have HP := hide hpre
    clear hpre
    by_cases hlt : k < n
    · have hkl : k < l.length := by have := HN.out; omega
      obtain ⟨g, o, rfl, f1, f2⟩ := HC.out k hkl
      have c1 : wr.cell? ⟨g, o + k * 2, none⟩ = some (.string l[k].1) := (hbw.cell (p := ⟨g, o + k * 2, none⟩) (World.block_lt_of_cell? w _ f1)).trans f1
      have c2 : wr.cell? ⟨g, o + k * 2 + 1, none⟩ = some (.string l[k].2) := (hbw.cell (p := ⟨g, o + k * 2 + 1, none⟩) (World.block_lt_of_cell? w _ f2)).trans f2
      have HF := hide (findf_any l[k] key b wr ((hbw.cell (p := ⟨b, 0, none⟩) HKB.out).trans HK.out))
      have HNX : Hid (ltK l[k].1 key = true → ∀ j (h : j < l.length), j < k + 1 → ltK l[j].1 key = true) := fun hl j h hj => by
        by_cases he : j = k
        · subst he; exact hl
        · exact HP.out j h (by omega)
      have HAT : Hid (ltK l[k].1 key = false → findN l key = k) := fun hl => findN_eq hkl (fun j hj => HP.out j (by omega) hj) hl
      obtain ⟨p, hp⟩ : ∃ p, p = l[k] := ⟨_, rfl⟩
      rw [← hp] at c1 c2 HF HNX HAT
      have hltI : (k : Int) < (n : Int) := by omega
      have HB := hide hbw
      clear hp HC f1 f2 hbw
      cases hb : ltK p.1 key with
      | true =>
        rw [hb] at HF
        have HNX2 := hide (HNX.out hb)
        clear hb HNX HAT
        go_wp2_with fail
        refine HF.out.mono ?_
        rintro e w1 ⟨rfl, hb1⟩
        have HB1 := hide (Below.next HB.out hb1)
        clear hb1 HB HF c1 c2
        go_wp2
        go_roundw
        case rel => exact ⟨k + 1, by omega, by go_num, HNX2.out, HB1.out⟩
        case measure => simp [intOf]; omega
      | false =>
        rw [hb] at HF
        have HAT2 := hide (HAT.out hb)
        clear hb HNX HAT
        go_wp2_with fail
        refine HF.out.mono ?_
        rintro e w1 ⟨rfl, hb1⟩
        have HB1 := hide (Below.next HB.out hb1)
        clear hb1 HB HF c1 c2
        go_wp2
        rw [HQ.out]
        exact ⟨.inl ⟨by rw [HAT2.out]; exact hlt, by rw [HAT2.out]; rfl⟩, HB1.out⟩
    · have HB := hide hbw
      have hltI : ¬ (k : Int) < (n : Int) := by omega
      have HNO : Hid (¬ findN l key < n) := by
        have h := findN_none (l := l) (key := key) (fun j hj => HP.out j hj (by have := HN.out; omega))
        have := HN.out
        intro h'; omega
      clear HC hbw HP
      go_wp2
      rw [HQ.out]
      exact ⟨.inr ⟨HNO.out, rfl⟩, HB.out⟩

set_option maxHeartbeats 1000000 in
theorem lfind_any (v : Value) (l : List Pr) (key : ByteArray) (w : World) (hm : l.length ≤ 140737488355328) (hr : PrR w v l) :
    Calls Tryd.prog 33 #[v, .string key] w fun e w' => e = .returned (.tuple #[.int .i64 (findN l key : Int), .bool (foundB l key)]) ∧ Below w.heap.size w w' := by
  have hmf : ∀ (fn : Fn) (first cap : Array Value) (w : World), (Instr.makeFunc fn first cap).run Tryd.prog w = .ok (.func fn first cap) w := fun _ _ _ _ => rfl
  have hbn := below_new w (.cells #[.string key] 9)
  have hx := boxed_new w #[.string key] 9
  have hr1 := hr.below hbn
  have HI := hide (idxf_any v l key w.heap.size _ hm hr1 (hx.2 0 (by simp)))
  have HR := hide hr1
  have HX := hide hx
  have HBN := hide hbn
  obtain ⟨a, c, rfl⟩ := hr.form
  have HFL := hide (findN_le l key)
  obtain ⟨q, hq⟩ : ∃ q, q = findN l key := ⟨_, rfl⟩
  have HAT : Hid (∀ (h : q < l.length), foundB l key = decide (l[q].1 = key)) := by subst hq; exact fun h => foundB_at h
  have HNO : Hid (¬ q < l.length → foundB l key = false) := by subst hq; exact fun h => foundB_none h
  rw [← hq] at HI HFL ⊢
  clear hq hr hr1 hbn hx
  go_enter Tryd.func33, Tryd.ntmps33
  go_wp2_with fail
  refine HI.out.mono ?_
  rintro e w1 ⟨⟨hlt, rfl⟩ | ⟨hlt, rfl⟩, hb1⟩
  · have hr1 := HR.out.below hb1
    have k0 : w1.cell? ⟨w.heap.size, 0, none⟩ = some (.string key) := (HX.out.below hb1).2 0 (by simp)
    obtain ⟨a', c', he, _, _, hc⟩ := hr1
    cases he
    obtain ⟨g, o, rfl, f1, f2⟩ := hc q hlt
    have HFD := hide (HAT.out hlt)
    have HB := hide (Below.next HBN.out hb1)
    have hd0 : decide ((q : Int) < 0) = false := decide_eq_false (by omega)
    have j0 : (0 : Int) ≤ (q : Int) := by omega
    have j1 : (q : Int) < (l.length : Int) := by omega
    generalize l[q].1 = x at *
    clear hc hb1 HI HR HX HBN HAT HNO f2
    go_wp2
    go_quiet (fail)
    go_wp2
    go_ret2
    refine ⟨?_, below_drewN' HB.out _⟩
    rw [HFD.out, ← beq_text]
    rfl
  · have HB := hide (Below.next HBN.out hb1)
    have HFD := hide (HNO.out hlt)
    have HQL : Hid (q = l.length) := by have := HFL.out; show q = l.length; omega
    clear hb1 HI HR HX HBN HAT HNO hlt
    go_wp2
    go_ret2
    exact ⟨by rw [HFD.out, HQL.out]; rfl, HB.out⟩

end Go.Proofs.YtdacbajiapdiiabDoor
