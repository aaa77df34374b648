import Derived.Test.YthnidlhcpelomaaDoorDRp0
import Derived.Deep.DeepCutAuto
import Derived.Deep.CutBlock
namespace Go.Proofs.YthnidlhcpelomaaDoor
open Go.RowKit
attribute [local go_sem ↓] Go.wp_at_zero Go.wp_at_succ

set_option maxRecDepth 100000 in
set_option maxHeartbeats 64000000 in
theorem rpatch_any (va vb : Value) (a : List Pr) (b : List Ch) (w : World) (hA : PrR w va a) (hB : ChR w vb b) (hn : (a.length + b.length + 1) * 56 ≤ 140737488355328) :
    Calls Tryd.prog 24 #[va, vb] w fun e w' => Below w.heap.size w w' ∧ (((riseB a && riseB b) = false ∧ e = .returned (.tuple #[.slice none 0 0, .int .i64 12])) ∨ ((riseB a && riseB b) = true ∧ patchD a b = none ∧ e = .returned (.tuple #[.slice none 0 0, .int .i64 6])) ∨ ((riseB a && riseB b) = true ∧ ∃ v l, patchD a b = some l ∧ e = .returned (.tuple #[v, .int .i64 0]) ∧ PrO w' w.heap.size v l)) := by
  have HRA : Hid (∀ W, Below w.heap.size w W → Calls Tryd.prog 32 #[va] W fun e w' => e = .returned (.bool (riseB a)) ∧ Below W.heap.size W w') := fun W hb => rprise_any va a W (by omega) (hA.below hb)
  have HRB : Hid (∀ W, Below w.heap.size w W → Calls Tryd.prog 40 #[vb] W fun e w' => e = .returned (.bool (riseB b)) ∧ Below W.heap.size W w') := fun W hb => rrise_any vb b W (by omega) (hB.below hb)
  have HFD : Hid (∀ W key, Below w.heap.size w W → Calls Tryd.prog 45 #[va, .string key] W fun e w' => e = .returned (.tuple #[.string ((lk a key).getD nilB), .bool (lk a key).isSome]) ∧ Below W.heap.size W w') := fun W key hb => rfind_any va a key W (by omega) (hA.below hb)
  obtain ⟨a1, c1, rfl⟩ : ∃ a1 c1, va = .slice a1 a.length c1 := by obtain ⟨x, y, h, _⟩ := hA; exact ⟨x, y, h⟩
  obtain ⟨a2, c2, rfl⟩ : ∃ a2 c2, vb = .slice a2 b.length c2 := by obtain ⟨x, y, h, _⟩ := hB; exact ⟨x, y, h⟩
  obtain ⟨n1, hn1⟩ : ∃ n, n = a.length := ⟨_, rfl⟩
  obtain ⟨n2, hn2⟩ : ∃ n, n = b.length := ⟨_, rfl⟩
  rw [← hn1] at hA HRA HFD ⊢
  rw [← hn2] at hB HRB ⊢
  have hm1 : n1 ≤ 2513169434916 := by omega
  have hm2 : n2 ≤ 2513169434916 := by omega
  have HN := hide (And.intro hn1 hn2)
  have HS := hide hn
  have HPA := hide hA
  have HPB := hide hB
  have HRI : Hid (riseB a = true → riseB b = true → ((side a b).all (fun e => okM e.2) = true ↔ ∀ c ∈ b, fitB c.2 (lk a c.1).isSome ((lk a c.1).getD nilB) = true)) := fun h1 h2 => patch_all ((riseB_iff a).1 h1) ((riseB_iff b).1 h2)
  obtain ⟨ra, hra⟩ : ∃ r, r = riseB a := ⟨_, rfl⟩
  obtain ⟨rb, hrb⟩ : ∃ r, r = riseB b := ⟨_, rfl⟩
  rw [← hra] at HRA HRI ⊢
  rw [← hrb] at HRB HRI ⊢
  obtain ⟨Q, hQ⟩ : ∃ Q : Ending → World → Prop, Q = fun e w' => Below w.heap.size w w' ∧ (((ra && rb) = false ∧ e = .returned (.tuple #[.slice none 0 0, .int .i64 12])) ∨ ((ra && rb) = true ∧ patchD a b = none ∧ e = .returned (.tuple #[.slice none 0 0, .int .i64 6])) ∨ ((ra && rb) = true ∧ ∃ v l, patchD a b = some l ∧ e = .returned (.tuple #[v, .int .i64 0]) ∧ PrO w' w.heap.size v l)) := ⟨_, rfl⟩
  rw [← hQ]
  have HQ := hide hQ
  clear hn1 hn2 hn hA hB hra hrb hQ
  go_enter Tryd.func24, Tryd.ntmps24
  go_wp2_with fail
  refine (HRA.out w (Below.refl _ _)).mono ?_
  rintro e W1 ⟨rfl, hb1⟩
  have HB1 := hide hb1
  clear hb1
  go_wp2_with fail
  refine (HRB.out W1 HB1.out).mono ?_
  rintro e W2 ⟨rfl, hb2⟩
  have HB2 := hide (Below.next HB1.out hb2)
  clear hb2
  cases ra with
  | false =>
    go_wp2
    rw [HQ.out]
    exact ⟨HB2.out, .inl ⟨rfl, rfl⟩⟩
  | true =>
    cases rb with
    | false =>
      go_wp2
      rw [HQ.out]
      exact ⟨HB2.out, .inl ⟨rfl, rfl⟩⟩
    | true =>
      go_wp2_with fail
      go_loopw [8] (fun v wr => ∃ q : Nat, q ≤ n2 ∧ v = .int .i64 (q : Int) ∧ Hid (∀ c ∈ b.take q, fitB c.2 (lk a c.1).isSome ((lk a c.1).getD nilB) = true) ∧ Below w.heap.size w wr) (fun v _ => n2 - (intOf v).toNat)
      case atStart => exact ⟨0, Nat.zero_le _, rfl, (fun c hc => by simp at hc), HB2.out⟩
      case round =>
        obtain ⟨q, hq, rfl, hall, hb⟩ := hrel
        have HBR := hide hb
        have HBL2 := hide (HPB.out.below hb)
        clear hb
        by_cases hqn : q < n2
        · have hqI : (q : Int) < (n2 : Int) := by omega
          have q0 : (0 : Int) ≤ (q : Int) := by omega
          have HBL : Hid (q < b.length) := by have := HN.out; show _ < _; omega
          obtain ⟨ad2, cap2, he2, hle2, hz2, hc2⟩ := HBL2.out
          obtain ⟨rfl, -, rfl⟩ : a2 = ad2 ∧ n2 = b.length ∧ c2 = cap2 := by simpa using he2
          obtain ⟨g2, o2, rfl, hd2⟩ := hc2 q HBL.out
          obtain ⟨kb, xb, hkb⟩ : ∃ z x, (b[q]'HBL.out) = (z, x) := ⟨_, _, rfl⟩
          rw [hkb] at hd2
          obtain ⟨r0, r1, r2, r3, r4⟩ := hd2
          simp only at r0 r1 r2 r3 r4
          have HKB := hide hkb
          have HQN := hide hqn
          have HFW := hide (HFD.out wr kb HBR.out)
          have HFT := hide (fun (t : Bool) (v : ByteArray) (W : World) => rfits_any kb xb t v W)
          simp only [chA] at HFT
          obtain ⟨y, hy⟩ : ∃ y, y = (lk a kb).getD nilB := ⟨_, rfl⟩
          obtain ⟨t, ht⟩ : ∃ t, t = (lk a kb).isSome := ⟨_, rfl⟩
          rw [← hy, ← ht] at HFW
          have HYT := hide (And.intro hy ht)
          clear hc2 hz2 he2 hle2 hkb hqn hq hy ht
          go_wp2_with fail
          refine HFW.out.mono ?_
          rintro e V1 ⟨rfl, hg⟩
          have s0 := cell_bel hg r0
          have s1 := cell_bel hg r1
          have s2 := cell_bel hg r2
          have s3 := cell_bel hg r3
          have s4 := cell_bel hg r4
          have HV1 := hide (Below.next HBR.out hg)
          clear hg r0 r1 r2 r3 r4 HFW HBR
          go_wp2_with fail
          refine (HFT.out t y V1).mono ?_
          rintro e V2 ⟨rfl, hg⟩
          have HV2 := hide (Below.next HV1.out hg)
          clear hg s0 s1 s2 s3 s4
          obtain ⟨z, hz⟩ : ∃ z, z = fitB xb t y := ⟨_, rfl⟩
          rw [← hz]
          have HZ := hide hz
          clear hz
          cases z with
          | true =>
            have HAL : Hid (∀ c ∈ b.take (q + 1), fitB c.2 (lk a c.1).isSome ((lk a c.1).getD nilB) = true) := fun c hc => by
              rw [List.take_succ_eq_append_getElem HBL.out] at hc
              rcases List.mem_append.1 hc with h | h
              · exact hall.out c h
              · rw [List.mem_singleton.1 h, HKB.out]
                have := HZ.out
                rw [HYT.out.1, HYT.out.2] at this
                exact this.symm
            clear hall
            go_wp2
            go_roundw
            case rel => have := HQN.out; exact ⟨q + 1, by omega, by go_num, HAL.out, HV2.out⟩
            case measure => have := HQN.out; simp [intOf]; omega
          | false =>
            have HNX : Hid (patchD a b = none) := by
              show _ = _
              unfold patchD
              rw [if_neg (fun h => by
                have h1 := (HRI.out (by trivial) (by trivial)).1 h (kb, xb) (by rw [← HKB.out]; exact List.getElem_mem _)
                have h2 := HZ.out
                rw [HYT.out.1, HYT.out.2] at h2
                rw [← h2] at h1
                cases h1)]
            clear hall
            go_wp2
            rw [HQ.out]
            exact ⟨HV2.out, .inr (.inl ⟨rfl, HNX.out, rfl⟩)⟩
        · have hqe : q = n2 := by omega
          have HALL : Hid (patchD a b = some (mL (side a b))) := by
            show _ = _
            have h1 := hall.out
            rw [hqe, HN.out.2, List.take_length] at h1
            unfold patchD
            rw [if_pos ((HRI.out (by trivial) (by trivial)).2 h1)]
          have hqI : ¬ (q : Int) < (n2 : Int) := by omega
          clear hall hqe hq hqn HBL2 HFD HRI
          go_wp2_with fail
          generalize wr = W3 at *
          go_loopw [12, 13, 14] (fun u kv iv wr => ∃ (i k no : Nat) (out : List Pr) (x : Option Addr) (c : Nat), i ≤ n1 ∧ k ≤ n2 ∧ iv = .int .i64 (i : Int) ∧ kv = .int .i64 (k : Int) ∧ u = .slice x no c ∧ Hid (no = out.length ∧ PrO wr w.heap.size (.slice x no c) out ∧ out ++ mL (side (a.drop i) (b.drop k)) = mL (side a b)) ∧ Below w.heap.size w wr) (fun _ _ iv _ => n1 - (intOf iv).toNat)
          case atStart => exact ⟨0, 0, 0, [], none, 0, Nat.zero_le _, Nat.zero_le _, rfl, rfl, rfl, ⟨rfl, PrO.nil _ _, rfl⟩, HBR.out⟩
          case round =>
            clear HBR
            obtain ⟨i, k, no, out, x, c, hi, hk, rfl, rfl, rfl, hh, hb⟩ := hrel
            have HBR := hide hb
            have HI := hide hi
            have hiI : (i : Int) ≤ (n1 : Int) := by omega
            have i0 : (0 : Int) ≤ (i : Int) := by omega
            clear hb
            generalize wr = W4 at *
            go_wp2_with fail
            go_loopw [12, 13] (fun u kv wr => ∃ (k no : Nat) (out : List Pr) (x : Option Addr) (c : Nat), k ≤ n2 ∧ kv = .int .i64 (k : Int) ∧ u = .slice x no c ∧ Hid (no = out.length ∧ PrO wr w.heap.size (.slice x no c) out ∧ out ++ mL (side (a.drop i) (b.drop k)) = mL (side a b)) ∧ Below w.heap.size w wr) (fun _ kv _ => n2 - (intOf kv).toNat)
            case atStart => exact ⟨k, no, out, x, c, hk, rfl, rfl, hh, HBR.out⟩
            case round =>
              clear HBR hh hk
              obtain ⟨k, no, out, x, c, hk, rfl, rfl, hh, hb⟩ := hrel
              have HBR := hide hb
              have HK := hide hk
              have HAR := hide (HPA.out.below hb)
              have HBRR := hide (HPB.out.below hb)
              have k0 : (0 : Int) ≤ (k : Int) := by omega
              clear hb
              by_cases hkl : k < n2
              · have kk : (k : Int) < (n2 : Int) := by omega
                have kk3 : decide (k < n2) = true := decide_eq_true hkl
                have HKL := hide hkl
                have HBL : Hid (k < b.length) := by have := HN.out; show _ < _; omega
                obtain ⟨ad2, cap2, he2, hle2, hz2, hc2⟩ := HBRR.out
                obtain ⟨rfl, -, rfl⟩ : a2 = ad2 ∧ n2 = b.length ∧ c2 = cap2 := by simpa using he2
                obtain ⟨g2, o2, rfl, hd2⟩ := hc2 k HBL.out
                obtain ⟨kb, xb, hkb⟩ : ∃ z x, (b[k]'HBL.out) = (z, x) := ⟨_, _, rfl⟩
                rw [hkb] at hd2
                obtain ⟨r0, r1, r2, r3, r4⟩ := hd2
                simp only at r0 r1 r2 r3 r4
                have HKB := hide hkb
                have HG2 : Hid (g2 < w.heap.size) := by
                  obtain ⟨ad4, cap4, he4, _, _, hc4⟩ := HPB.out
                  obtain ⟨g4, o4, hg4, hd4⟩ := hc4 k HBL.out
                  cases he4
                  cases hg4
                  exact hd4.lt
                clear hc2 hz2 he2 hle2 hkb
                by_cases hil : i < n1
                · have ii : (i : Int) < (n1 : Int) := by omega
                  have ine : ((i : Int) == (n1 : Int)) = false := by rw [beq_eq_false_iff_ne]; omega
                  have HIL := hide hil
                  have HAL : Hid (i < a.length) := by have := HN.out; show _ < _; omega
                  obtain ⟨ad1, cap1, he1, hle1, hz1, hc1⟩ := HAR.out
                  obtain ⟨rfl, -, rfl⟩ : a1 = ad1 ∧ n1 = a.length ∧ c1 = cap1 := by simpa using he1
                  obtain ⟨g1, o1, rfl, p0, p1⟩ := hc1 i HAL.out
                  obtain ⟨ka, ya, hka⟩ : ∃ k x, (a[i]'HAL.out) = (k, x) := ⟨_, _, rfl⟩
                  rw [hka] at p0 p1
                  simp only at p0 p1
                  have HKA := hide hka
                  clear hc1 hz1 he1 hle1 hka
                  clear hkl hil hk hi
                  cases hlt : Op.bytesLess kb.toList ka.toList with
                  | true =>
                    have HLT := hide hlt
                    go_upto_region 17 with fail
                    go_quiet (fail)
                    have hbd : Below wr.heap.size wr (wr.drewN nq) := below_drewN2 (Below.refl _ wr) nq
                    have hh2 : Hid (no = out.length ∧ PrO (wr.drewN nq) w.heap.size (.slice x no c) out ∧ out ++ mL (side (a.drop i) (b.drop k)) = mL (side a b)) := ⟨hh.out.1, hh.out.2.1.below hbd, hh.out.2.2⟩
                    clear hh
                    have hh := hh2
                    clear hh2
                    replace HBR := hide (Below.next HBR.out hbd)
                    replace p0 := cell_bel hbd p0
                    replace p1 := cell_bel hbd p1
                    replace r0 := cell_bel hbd r0
                    replace r1 := cell_bel hbd r1
                    replace r2 := cell_bel hbd r2
                    replace r3 := cell_bel hbd r3
                    replace r4 := cell_bel hbd r4
                    generalize wr.drewN nq = W5 at *
                    clear hbd
                    obtain ⟨had2, has2, old2, new2⟩ := xb
                    simp only at r0 r1 r2 r3 r4
                    cases has2 with
                    | true =>
                      go_upto_region 19 with fail
                      have HEQ2 : Hid ((out ++ [(kb, new2)]) ++ mL (side (a.drop i) (b.drop (k + 1))) = mL (side a b)) := by have h0 := hh.out.2.2; rw [side_new a b i k HBL.out (fun hi => by rw [HKA.out, HKB.out]; exact HLT.out), HKB.out, mL, fm_made, made_new, if_pos rfl, ← List.append_assoc] at h0; exact h0
                      have HLEN := hide (len_mL HEQ2.out HS.out rfl)
                      have hdw : Below W5.heap.size W5 W5.drew := (Below.refl _ W5).drew
                      have r0' := cell_bel hdw r0
                      have r4' := cell_bel hdw r4
                      have HBR8 := hide (Below.next HBR.out hdw)
                      have HO8 := hide (hh.out.2.1.below hdw)
                      have HNO := hide hh.out.1
                      obtain ⟨W9, hW9⟩ : ∃ W9, W9 = W5.drew := ⟨_, rfl⟩
                      rw [← hW9] at r0' r4' HBR8 HO8
                      have hb19 : Below w.heap.size w W9 := HBR8.out
                      obtain ⟨a3, c3, W6, hrun, hown1, hgr⟩ := push_prs' w.heap.size _ out (kb, new2) 28 W9 no HNO.out.symm (by have := HO8.out; exact this) (by have := HLEN.out; rw [← HNO.out] at this; exact this) HBR8.out.size
                      have HBF : Hid (Below w.heap.size w W6) := bel_but HBR8.out (((But.refl w.heap.size (fun _ => true) W9).alloc _).grown hgr (fun b o hb ho => ⟨(HO8.out.blk b hb).1, rfl⟩)) (Nat.le_refl _)
                      have HT0 : Hid ((fun w' => w'.cell? ⟨g2, o2 + k * 5, none⟩ = some (.string kb) ∧ w'.cell? ⟨g2, o2 + k * 5 + 4, none⟩ = some (.string new2)) W9) := ⟨r0', r4'⟩
                      have HT1 : Hid ((fun w' => w'.cell? ⟨g2, o2 + k * 5, none⟩ = some (.string kb) ∧ w'.cell? ⟨g2, o2 + k * 5 + 4, none⟩ = some (.string new2)) (W9.alloc (.cells #[.string kb, .string new2] 28))) := ⟨cell_bel (below_new W9 _) r0', cell_bel (below_new W9 _) r4'⟩
                      have HT2 : Hid ((fun w' => w'.cell? ⟨g2, o2 + k * 5, none⟩ = some (.string kb) ∧ w'.cell? ⟨g2, o2 + k * 5 + 4, none⟩ = some (.string new2)) W6) := by
                        have hk : ∀ (g o : Nat) (v : Value), g < w.heap.size → W9.cell? ⟨g, o, none⟩ = some v → W6.cell? ⟨g, o, none⟩ = some v := fun g o v hg hc => (World.cell?_of_block (a := ⟨g, o, none⟩) ((HBF.out.block g hg).trans (hb19.block g hg).symm)).trans hc
                        exact ⟨hk _ _ _ HG2.out r0', hk _ _ _ HG2.out r4'⟩
                      have HO1 : Hid (no + 1 = (out ++ [(kb, new2)]).length ∧ PrO W6 w.heap.size (.slice a3 (no + 1) c3) (out ++ [(kb, new2)]) ∧ (out ++ [(kb, new2)]) ++ mL (side (a.drop i) (b.drop (k + 1))) = mL (side a b)) := ⟨by rw [List.length_append, ← HNO.out]; rfl, hown1, HEQ2.out⟩
                      have HRUN := hide hrun
                      clear hown1 hgr hrun hdw r0 r1 r2 r3 r4 r0' r4' hb19 hh
                      refine AnyD.region (fun w' => w'.cell? ⟨g2, o2 + k * 5, none⟩ = some (.string kb) ∧ w'.cell? ⟨g2, o2 + k * 5 + 4, none⟩ = some (.string new2)) (fun j => j != 14) (by kernel_rfl) ?_
                      rw [← hW9]
                      clear hW9
                      refine AnyD.taked (i := 0) (d := 84) (v := .slice x no c) rfl rfl (by kernel_rfl) (by kernel_rfl) (by kernel_rfl) rfl (by kernel_rfl) (fun _ _ _ h => h) (Or.inl ⟨by rfl, ?_⟩) HT0.out ?_
                      · intro w' hw'
                        obtain ⟨t0, t1⟩ := hw'
                        go_simp
                      try simp only [Act.put, List.setIfInBounds_toArray, List.set_cons_zero, List.set_cons_succ]
                      refine AnyD.taked (i := 1) (d := 85) (v := .slice (some ⟨g2, o2, none⟩) n2 c2) rfl rfl (by kernel_rfl) (by kernel_rfl) (by kernel_rfl) rfl (by kernel_rfl) (fun _ _ _ h => h) (Or.inl ⟨by rfl, ?_⟩) HT0.out ?_
                      · intro w' hw'
                        obtain ⟨t0, t1⟩ := hw'
                        go_simp
                      try simp only [Act.put, List.setIfInBounds_toArray, List.set_cons_zero, List.set_cons_succ]
                      refine AnyD.taked (i := 2) (d := 86) (v := .int .i64 (k : Int)) rfl rfl (by kernel_rfl) (by kernel_rfl) (by kernel_rfl) rfl (by kernel_rfl) (fun _ _ _ h => h) (Or.inl ⟨by rfl, ?_⟩) HT0.out ?_
                      · intro w' hw'
                        obtain ⟨t0, t1⟩ := hw'
                        go_simp
                      try simp only [Act.put, List.setIfInBounds_toArray, List.set_cons_zero, List.set_cons_succ]
                      refine AnyD.taked (i := 3) (d := 87) (v := .pointer (some ⟨g2, o2 + k * 5, none⟩)) rfl rfl (by kernel_rfl) (by kernel_rfl) (by kernel_rfl) rfl (by kernel_rfl) (fun _ _ _ h => h) (Or.inl ⟨by rfl, ?_⟩) HT0.out ?_
                      · intro w' hw'
                        obtain ⟨t0, t1⟩ := hw'
                        go_simp
                      try simp only [Act.put, List.setIfInBounds_toArray, List.set_cons_zero, List.set_cons_succ]
                      refine AnyD.taked (i := 4) (d := 88) (v := .pointer (some ⟨g2, o2 + k * 5, none⟩)) rfl rfl (by kernel_rfl) (by kernel_rfl) (by kernel_rfl) rfl (by kernel_rfl) (fun _ _ _ h => h) (Or.inl ⟨by rfl, ?_⟩) HT0.out ?_
                      · intro w' hw'
                        obtain ⟨t0, t1⟩ := hw'
                        go_simp
                      try simp only [Act.put, List.setIfInBounds_toArray, List.set_cons_zero, List.set_cons_succ]
                      refine AnyD.taked (i := 5) (d := 89) (v := .string kb) rfl rfl (by kernel_rfl) (by kernel_rfl) (by kernel_rfl) rfl (by kernel_rfl) (fun _ _ _ h => h) (Or.inl ⟨by rfl, ?_⟩) HT0.out ?_
                      · intro w' hw'
                        obtain ⟨t0, t1⟩ := hw'
                        go_simp
                      try simp only [Act.put, List.setIfInBounds_toArray, List.set_cons_zero, List.set_cons_succ]
                      refine AnyD.taked (i := 6) (d := 90) (v := .slice (some ⟨g2, o2, none⟩) n2 c2) rfl rfl (by kernel_rfl) (by kernel_rfl) (by kernel_rfl) rfl (by kernel_rfl) (fun _ _ _ h => h) (Or.inl ⟨by rfl, ?_⟩) HT0.out ?_
                      · intro w' hw'
                        obtain ⟨t0, t1⟩ := hw'
                        go_simp
                      try simp only [Act.put, List.setIfInBounds_toArray, List.set_cons_zero, List.set_cons_succ]
                      refine AnyD.taked (i := 7) (d := 91) (v := .int .i64 (k : Int)) rfl rfl (by kernel_rfl) (by kernel_rfl) (by kernel_rfl) rfl (by kernel_rfl) (fun _ _ _ h => h) (Or.inl ⟨by rfl, ?_⟩) HT0.out ?_
                      · intro w' hw'
                        obtain ⟨t0, t1⟩ := hw'
                        go_simp
                      try simp only [Act.put, List.setIfInBounds_toArray, List.set_cons_zero, List.set_cons_succ]
                      refine AnyD.taked (i := 8) (d := 92) (v := .pointer (some ⟨g2, o2 + k * 5, none⟩)) rfl rfl (by kernel_rfl) (by kernel_rfl) (by kernel_rfl) rfl (by kernel_rfl) (fun _ _ _ h => h) (Or.inl ⟨by rfl, ?_⟩) HT0.out ?_
                      · intro w' hw'
                        obtain ⟨t0, t1⟩ := hw'
                        go_simp
                      try simp only [Act.put, List.setIfInBounds_toArray, List.set_cons_zero, List.set_cons_succ]
                      refine AnyD.taked (i := 9) (d := 93) (v := .pointer (some ⟨g2, o2 + k * 5 + 4, none⟩)) rfl rfl (by kernel_rfl) (by kernel_rfl) (by kernel_rfl) rfl (by kernel_rfl) (fun _ _ _ h => h) (Or.inl ⟨by rfl, ?_⟩) HT0.out ?_
                      · intro w' hw'
                        obtain ⟨t0, t1⟩ := hw'
                        go_simp
                      try simp only [Act.put, List.setIfInBounds_toArray, List.set_cons_zero, List.set_cons_succ]
                      refine AnyD.taked (i := 10) (d := 94) (v := .string new2) rfl rfl (by kernel_rfl) (by kernel_rfl) (by kernel_rfl) rfl (by kernel_rfl) (fun _ _ _ h => h) (Or.inl ⟨by rfl, ?_⟩) HT0.out ?_
                      · intro w' hw'
                        obtain ⟨t0, t1⟩ := hw'
                        go_simp
                      try simp only [Act.put, List.setIfInBounds_toArray, List.set_cons_zero, List.set_cons_succ]
                      refine AnyD.taked (i := 11) (d := 95) (v := .agg #[.string kb, .string new2]) rfl rfl (by kernel_rfl) (by kernel_rfl) (by kernel_rfl) rfl (by kernel_rfl) (fun _ _ _ h => h) (Or.inl ⟨by rfl, ?_⟩) HT0.out ?_
                      · intro w' hw'
                        obtain ⟨t0, t1⟩ := hw'
                        go_simp
                      try simp only [Act.put, List.setIfInBounds_toArray, List.set_cons_zero, List.set_cons_succ]
                      refine AnyD.one (i := 12) (by kernel_rfl) (wpOp_of rfl fun K hK => ?_)
                      go_simp
                      refine hK _ _ ⟨fun _ => HT1.out, ?_⟩
                      clear hK K
                      try simp only [Act.put, List.setIfInBounds_toArray, List.set_cons_zero, List.set_cons_succ]
                      refine AnyD.one (i := 13) (by kernel_rfl) (wpOp_of rfl fun K hK => ?_)
                      refine ite_of9 (by rfl) ?_
                      refine wp_append_run 22 (.tmp 84) (.tmp 96) rfl rfl _ _ rfl rfl _ _ HRUN.out ?_
                      refine hK _ _ ⟨fun _ => HT2.out, ?_⟩
                      clear hK K
                      try simp only [Act.put, List.setIfInBounds_toArray]
                      refine AnyD.one (i := 14) (by kernel_rfl) (wpOp_of rfl fun K hK => ?_)
                      go_simp
                      refine hK _ _ ⟨(fun h => by cases h), ?_⟩
                      clear hK K
                      try simp only [Act.put, List.setIfInBounds_toArray, List.set_cons_zero, List.set_cons_succ]
                      refine AnyD.done (by kernel_rfl) ?_ _
                      go_wp2
                      go_roundw
                      case rel => have := HKL.out; exact ⟨k + 1, no + 1, _, a3, c3, by omega, by go_num, rfl, HO1.out, HBF.out⟩
                      case measure => have := HKL.out; simp [intOf]; omega
                    | false =>
                      have HEQ2 : Hid (out ++ mL (side (a.drop i) (b.drop (k + 1))) = mL (side a b)) := by have h0 := hh.out.2.2; rw [side_new a b i k HBL.out (fun hi => by rw [HKA.out, HKB.out]; exact HLT.out), HKB.out, mL, fm_made, made_new, if_neg (by simp), List.nil_append] at h0; exact h0
                      have HF := hide (And.intro hh.out.1 (And.intro hh.out.2.1 HEQ2.out))
                      clear hh
                      go_wp2
                      go_roundw
                      case rel => have := HKL.out; exact ⟨k + 1, no, out, x, c, by omega, by go_num, rfl, HF.out, HBR.out⟩
                      case measure => have := HKL.out; simp [intOf]; omega
                  | false =>
                    go_upto_region 17 with fail
                    go_quiet (fail)
                    have hbd : Below wr.heap.size wr (wr.drewN nq) := below_drewN2 (Below.refl _ wr) nq
                    have hh2 : Hid (no = out.length ∧ PrO (wr.drewN nq) w.heap.size (.slice x no c) out ∧ out ++ mL (side (a.drop i) (b.drop k)) = mL (side a b)) := ⟨hh.out.1, hh.out.2.1.below hbd, hh.out.2.2⟩
                    clear hh
                    have hh := hh2
                    clear hh2
                    replace HBR := hide (Below.next HBR.out hbd)
                    replace p0 := cell_bel hbd p0
                    replace p1 := cell_bel hbd p1
                    replace r0 := cell_bel hbd r0
                    replace r1 := cell_bel hbd r1
                    replace r2 := cell_bel hbd r2
                    replace r3 := cell_bel hbd r3
                    replace r4 := cell_bel hbd r4
                    generalize wr.drewN nq = W5 at *
                    clear hbd
                    have hle := list_eq kb ka
                    go_upto_region 22 with fail
                    by_cases hke : kb = ka
                    · have HKE := hide hke
                      rw [decide_eq_true hke] at hle
                      clear hke hlt
                      go_quiet (fail)
                      have hbd : Below W5.heap.size W5 (W5.drewN nq) := below_drewN2 (Below.refl _ W5) nq
                      have hh2 : Hid (no = out.length ∧ PrO (W5.drewN nq) w.heap.size (.slice x no c) out ∧ out ++ mL (side (a.drop i) (b.drop k)) = mL (side a b)) := ⟨hh.out.1, hh.out.2.1.below hbd, hh.out.2.2⟩
                      clear hh
                      have hh := hh2
                      clear hh2
                      replace HBR := hide (Below.next HBR.out hbd)
                      replace p0 := cell_bel hbd p0
                      replace p1 := cell_bel hbd p1
                      replace r0 := cell_bel hbd r0
                      replace r1 := cell_bel hbd r1
                      replace r2 := cell_bel hbd r2
                      replace r3 := cell_bel hbd r3
                      replace r4 := cell_bel hbd r4
                      generalize W5.drewN nq = W7 at *
                      clear hbd
                      obtain ⟨had2, has2, old2, new2⟩ := xb
                      simp only at r0 r1 r2 r3 r4
                      cases has2 with
                      | true =>
                        go_upto_region 24 with fail
                        have HEQ2 : Hid ((out ++ [(kb, new2)]) ++ mL (side (a.drop (i + 1)) (b.drop (k + 1))) = mL (side a b)) := by have h0 := hh.out.2.2; rw [side_both a b i k HAL.out HBL.out (by rw [HKA.out, HKB.out]; exact HKE.out.symm), HKA.out, HKB.out, ← HKE.out, mL, fm_made, made_both, if_pos rfl, ← List.append_assoc] at h0; exact h0
                        have HLEN := hide (len_mL HEQ2.out HS.out rfl)
                        have hdw : Below W7.heap.size W7 W7.drew := (Below.refl _ W7).drew
                        have r0' := cell_bel hdw r0
                        have r4' := cell_bel hdw r4
                        have HBR8 := hide (Below.next HBR.out hdw)
                        have HO8 := hide (hh.out.2.1.below hdw)
                        have HNO := hide hh.out.1
                        obtain ⟨W9, hW9⟩ : ∃ W9, W9 = W7.drew := ⟨_, rfl⟩
                        rw [← hW9] at r0' r4' HBR8 HO8
                        have hb19 : Below w.heap.size w W9 := HBR8.out
                        obtain ⟨a3, c3, W6, hrun, hown1, hgr⟩ := push_prs' w.heap.size _ out (kb, new2) 28 W9 no HNO.out.symm (by have := HO8.out; exact this) (by have := HLEN.out; rw [← HNO.out] at this; exact this) HBR8.out.size
                        have HBF : Hid (Below w.heap.size w W6) := bel_but HBR8.out (((But.refl w.heap.size (fun _ => true) W9).alloc _).grown hgr (fun b o hb ho => ⟨(HO8.out.blk b hb).1, rfl⟩)) (Nat.le_refl _)
                        have HT0 : Hid ((fun w' => w'.cell? ⟨g2, o2 + k * 5, none⟩ = some (.string kb) ∧ w'.cell? ⟨g2, o2 + k * 5 + 4, none⟩ = some (.string new2)) W9) := ⟨r0', r4'⟩
                        have HT1 : Hid ((fun w' => w'.cell? ⟨g2, o2 + k * 5, none⟩ = some (.string kb) ∧ w'.cell? ⟨g2, o2 + k * 5 + 4, none⟩ = some (.string new2)) (W9.alloc (.cells #[.string kb, .string new2] 28))) := ⟨cell_bel (below_new W9 _) r0', cell_bel (below_new W9 _) r4'⟩
                        have HT2 : Hid ((fun w' => w'.cell? ⟨g2, o2 + k * 5, none⟩ = some (.string kb) ∧ w'.cell? ⟨g2, o2 + k * 5 + 4, none⟩ = some (.string new2)) W6) := by
                          have hk : ∀ (g o : Nat) (v : Value), g < w.heap.size → W9.cell? ⟨g, o, none⟩ = some v → W6.cell? ⟨g, o, none⟩ = some v := fun g o v hg hc => (World.cell?_of_block (a := ⟨g, o, none⟩) ((HBF.out.block g hg).trans (hb19.block g hg).symm)).trans hc
                          exact ⟨hk _ _ _ HG2.out r0', hk _ _ _ HG2.out r4'⟩
                        have HO1 : Hid (no + 1 = (out ++ [(kb, new2)]).length ∧ PrO W6 w.heap.size (.slice a3 (no + 1) c3) (out ++ [(kb, new2)]) ∧ (out ++ [(kb, new2)]) ++ mL (side (a.drop (i + 1)) (b.drop (k + 1))) = mL (side a b)) := ⟨by rw [List.length_append, ← HNO.out]; rfl, hown1, HEQ2.out⟩
                        have HRUN := hide hrun
                        clear hown1 hgr hrun hdw r0 r1 r2 r3 r4 r0' r4' hb19 hh
                        refine AnyD.region (fun w' => w'.cell? ⟨g2, o2 + k * 5, none⟩ = some (.string kb) ∧ w'.cell? ⟨g2, o2 + k * 5 + 4, none⟩ = some (.string new2)) (fun j => j != 14) (by kernel_rfl) ?_
                        rw [← hW9]
                        clear hW9
                        refine AnyD.taked (i := 0) (d := 126) (v := .slice x no c) rfl rfl (by kernel_rfl) (by kernel_rfl) (by kernel_rfl) rfl (by kernel_rfl) (fun _ _ _ h => h) (Or.inl ⟨by rfl, ?_⟩) HT0.out ?_
                        · intro w' hw'
                          obtain ⟨t0, t1⟩ := hw'
                          go_simp
                        try simp only [Act.put, List.setIfInBounds_toArray, List.set_cons_zero, List.set_cons_succ]
                        refine AnyD.taked (i := 1) (d := 127) (v := .slice (some ⟨g2, o2, none⟩) n2 c2) rfl rfl (by kernel_rfl) (by kernel_rfl) (by kernel_rfl) rfl (by kernel_rfl) (fun _ _ _ h => h) (Or.inl ⟨by rfl, ?_⟩) HT0.out ?_
                        · intro w' hw'
                          obtain ⟨t0, t1⟩ := hw'
                          go_simp
                        try simp only [Act.put, List.setIfInBounds_toArray, List.set_cons_zero, List.set_cons_succ]
                        refine AnyD.taked (i := 2) (d := 128) (v := .int .i64 (k : Int)) rfl rfl (by kernel_rfl) (by kernel_rfl) (by kernel_rfl) rfl (by kernel_rfl) (fun _ _ _ h => h) (Or.inl ⟨by rfl, ?_⟩) HT0.out ?_
                        · intro w' hw'
                          obtain ⟨t0, t1⟩ := hw'
                          go_simp
                        try simp only [Act.put, List.setIfInBounds_toArray, List.set_cons_zero, List.set_cons_succ]
                        refine AnyD.taked (i := 3) (d := 129) (v := .pointer (some ⟨g2, o2 + k * 5, none⟩)) rfl rfl (by kernel_rfl) (by kernel_rfl) (by kernel_rfl) rfl (by kernel_rfl) (fun _ _ _ h => h) (Or.inl ⟨by rfl, ?_⟩) HT0.out ?_
                        · intro w' hw'
                          obtain ⟨t0, t1⟩ := hw'
                          go_simp
                        try simp only [Act.put, List.setIfInBounds_toArray, List.set_cons_zero, List.set_cons_succ]
                        refine AnyD.taked (i := 4) (d := 130) (v := .pointer (some ⟨g2, o2 + k * 5, none⟩)) rfl rfl (by kernel_rfl) (by kernel_rfl) (by kernel_rfl) rfl (by kernel_rfl) (fun _ _ _ h => h) (Or.inl ⟨by rfl, ?_⟩) HT0.out ?_
                        · intro w' hw'
                          obtain ⟨t0, t1⟩ := hw'
                          go_simp
                        try simp only [Act.put, List.setIfInBounds_toArray, List.set_cons_zero, List.set_cons_succ]
                        refine AnyD.taked (i := 5) (d := 131) (v := .string kb) rfl rfl (by kernel_rfl) (by kernel_rfl) (by kernel_rfl) rfl (by kernel_rfl) (fun _ _ _ h => h) (Or.inl ⟨by rfl, ?_⟩) HT0.out ?_
                        · intro w' hw'
                          obtain ⟨t0, t1⟩ := hw'
                          go_simp
                        try simp only [Act.put, List.setIfInBounds_toArray, List.set_cons_zero, List.set_cons_succ]
                        refine AnyD.taked (i := 6) (d := 132) (v := .slice (some ⟨g2, o2, none⟩) n2 c2) rfl rfl (by kernel_rfl) (by kernel_rfl) (by kernel_rfl) rfl (by kernel_rfl) (fun _ _ _ h => h) (Or.inl ⟨by rfl, ?_⟩) HT0.out ?_
                        · intro w' hw'
                          obtain ⟨t0, t1⟩ := hw'
                          go_simp
                        try simp only [Act.put, List.setIfInBounds_toArray, List.set_cons_zero, List.set_cons_succ]
                        refine AnyD.taked (i := 7) (d := 133) (v := .int .i64 (k : Int)) rfl rfl (by kernel_rfl) (by kernel_rfl) (by kernel_rfl) rfl (by kernel_rfl) (fun _ _ _ h => h) (Or.inl ⟨by rfl, ?_⟩) HT0.out ?_
                        · intro w' hw'
                          obtain ⟨t0, t1⟩ := hw'
                          go_simp
                        try simp only [Act.put, List.setIfInBounds_toArray, List.set_cons_zero, List.set_cons_succ]
                        refine AnyD.taked (i := 8) (d := 134) (v := .pointer (some ⟨g2, o2 + k * 5, none⟩)) rfl rfl (by kernel_rfl) (by kernel_rfl) (by kernel_rfl) rfl (by kernel_rfl) (fun _ _ _ h => h) (Or.inl ⟨by rfl, ?_⟩) HT0.out ?_
                        · intro w' hw'
                          obtain ⟨t0, t1⟩ := hw'
                          go_simp
                        try simp only [Act.put, List.setIfInBounds_toArray, List.set_cons_zero, List.set_cons_succ]
                        refine AnyD.taked (i := 9) (d := 135) (v := .pointer (some ⟨g2, o2 + k * 5 + 4, none⟩)) rfl rfl (by kernel_rfl) (by kernel_rfl) (by kernel_rfl) rfl (by kernel_rfl) (fun _ _ _ h => h) (Or.inl ⟨by rfl, ?_⟩) HT0.out ?_
                        · intro w' hw'
                          obtain ⟨t0, t1⟩ := hw'
                          go_simp
                        try simp only [Act.put, List.setIfInBounds_toArray, List.set_cons_zero, List.set_cons_succ]
                        refine AnyD.taked (i := 10) (d := 136) (v := .string new2) rfl rfl (by kernel_rfl) (by kernel_rfl) (by kernel_rfl) rfl (by kernel_rfl) (fun _ _ _ h => h) (Or.inl ⟨by rfl, ?_⟩) HT0.out ?_
                        · intro w' hw'
                          obtain ⟨t0, t1⟩ := hw'
                          go_simp
                        try simp only [Act.put, List.setIfInBounds_toArray, List.set_cons_zero, List.set_cons_succ]
                        refine AnyD.taked (i := 11) (d := 137) (v := .agg #[.string kb, .string new2]) rfl rfl (by kernel_rfl) (by kernel_rfl) (by kernel_rfl) rfl (by kernel_rfl) (fun _ _ _ h => h) (Or.inl ⟨by rfl, ?_⟩) HT0.out ?_
                        · intro w' hw'
                          obtain ⟨t0, t1⟩ := hw'
                          go_simp
                        try simp only [Act.put, List.setIfInBounds_toArray, List.set_cons_zero, List.set_cons_succ]
                        refine AnyD.one (i := 12) (by kernel_rfl) (wpOp_of rfl fun K hK => ?_)
                        go_simp
                        refine hK _ _ ⟨fun _ => HT1.out, ?_⟩
                        clear hK K
                        try simp only [Act.put, List.setIfInBounds_toArray, List.set_cons_zero, List.set_cons_succ]
                        refine AnyD.one (i := 13) (by kernel_rfl) (wpOp_of rfl fun K hK => ?_)
                        refine ite_of9 (by rfl) ?_
                        refine wp_append_run 22 (.tmp 126) (.tmp 138) rfl rfl _ _ rfl rfl _ _ HRUN.out ?_
                        refine hK _ _ ⟨fun _ => HT2.out, ?_⟩
                        clear hK K
                        try simp only [Act.put, List.setIfInBounds_toArray]
                        refine AnyD.one (i := 14) (by kernel_rfl) (wpOp_of rfl fun K hK => ?_)
                        go_simp
                        refine hK _ _ ⟨(fun h => by cases h), ?_⟩
                        clear hK K
                        try simp only [Act.put, List.setIfInBounds_toArray, List.set_cons_zero, List.set_cons_succ]
                        refine AnyD.done (by kernel_rfl) ?_ _
                        go_wp2
                        go_roundw
                        case rel => have := HKL.out; have := HIL.out; exact ⟨i + 1, k + 1, no + 1, _, a3, c3, by omega, by omega, by go_num, by go_num, rfl, HO1.out, HBF.out⟩
                        case measure => have := HIL.out; simp [intOf]; omega
                      | false =>
                        have HEQ2 : Hid (out ++ mL (side (a.drop (i + 1)) (b.drop (k + 1))) = mL (side a b)) := by have h0 := hh.out.2.2; rw [side_both a b i k HAL.out HBL.out (by rw [HKA.out, HKB.out]; exact HKE.out.symm), HKA.out, HKB.out, mL, fm_made, made_both, if_neg (by simp), List.nil_append] at h0; exact h0
                        have HF := hide (And.intro hh.out.1 (And.intro hh.out.2.1 HEQ2.out))
                        clear hh
                        go_wp2
                        go_roundw
                        case rel => have := HKL.out; have := HIL.out; exact ⟨i + 1, k + 1, no, out, x, c, by omega, by omega, by go_num, by go_num, rfl, HF.out, HBR.out⟩
                        case measure => have := HIL.out; simp [intOf]; omega
                    · have HLT2 : Hid (ltK ka kb = true) := by
                        cases h9 : ltK ka kb with
                        | true => rfl
                        | false => exact absurd (ltK_total hlt h9) hke
                      rw [decide_eq_false hke] at hle
                      clear hke hlt
                      go_quiet (fail)
                      have hbd : Below W5.heap.size W5 (W5.drewN nq) := below_drewN2 (Below.refl _ W5) nq
                      have hh2 : Hid (no = out.length ∧ PrO (W5.drewN nq) w.heap.size (.slice x no c) out ∧ out ++ mL (side (a.drop i) (b.drop k)) = mL (side a b)) := ⟨hh.out.1, hh.out.2.1.below hbd, hh.out.2.2⟩
                      clear hh
                      have hh := hh2
                      clear hh2
                      replace HBR := hide (Below.next HBR.out hbd)
                      replace p0 := cell_bel hbd p0
                      replace p1 := cell_bel hbd p1
                      replace r0 := cell_bel hbd r0
                      replace r1 := cell_bel hbd r1
                      replace r2 := cell_bel hbd r2
                      replace r3 := cell_bel hbd r3
                      replace r4 := cell_bel hbd r4
                      generalize W5.drewN nq = W7 at *
                      clear hbd
                      go_upto_region 26 with fail
                      have HEQ2 : Hid ((out ++ [(ka, ya)]) ++ mL (side (a.drop (i + 1)) (b.drop k)) = mL (side a b)) := by have h0 := hh.out.2.2; rw [side_old a b i k HAL.out (fun hk => by rw [HKA.out, HKB.out]; exact HLT2.out), HKA.out, mL, fm_made, made_old, ← List.append_assoc] at h0; exact h0
                      have HLEN := hide (len_mL HEQ2.out HS.out rfl)
                      have HNO := hide hh.out.1
                      obtain ⟨a3, c3, W6, hrun, hown1, hgr⟩ := push_prs' w.heap.size _ out (ka, ya) 28 W7 no HNO.out.symm hh.out.2.1 (by have := HLEN.out; rw [← HNO.out] at this; exact this) HBR.out.size
                      have HOB := hide hh.out.2.1
                      have HBF : Hid (Below w.heap.size w W6) := bel_but HBR.out (((But.refl w.heap.size (fun _ => true) W7).alloc _).grown hgr (fun b o hb ho => ⟨(HOB.out.blk b hb).1, rfl⟩)) (Nat.le_refl _)
                      have HO1 : Hid (no + 1 = (out ++ [(ka, ya)]).length ∧ PrO W6 w.heap.size (.slice a3 (no + 1) c3) (out ++ [(ka, ya)]) ∧ (out ++ [(ka, ya)]) ++ mL (side (a.drop (i + 1)) (b.drop k)) = mL (side a b)) := ⟨by rw [List.length_append, ← HNO.out]; rfl, hown1, HEQ2.out⟩
                      have HRUN := hide hrun
                      clear hown1 hgr hrun hh
                      go_wp2_with (first | (at_builtin; refine wpList_append_run 22 rfl (.tmp 142) (.tmp 147) rfl rfl _ _ rfl rfl _ _ HRUN.out ?_))
                      go_wp2
                      go_roundw
                      case rel => have := HIL.out; have := HK.out; exact ⟨i + 1, k, no + 1, _, a3, c3, by omega, by omega, by go_num, rfl, rfl, HO1.out, HBF.out⟩
                      case measure => have := HIL.out; simp [intOf]; omega
                · have ieq : ((i : Int) == (n1 : Int)) = true := by rw [beq_iff_eq]; omega
                  have HIE : Hid (n1 ≤ i) := by show _ ≤ _; omega
                  clear hkl hil hk hi
                  go_upto_region 17 with fail
                  go_quiet (fail)
                  have hbd : Below wr.heap.size wr (wr.drewN nq) := below_drewN2 (Below.refl _ wr) nq
                  have hh2 : Hid (no = out.length ∧ PrO (wr.drewN nq) w.heap.size (.slice x no c) out ∧ out ++ mL (side (a.drop i) (b.drop k)) = mL (side a b)) := ⟨hh.out.1, hh.out.2.1.below hbd, hh.out.2.2⟩
                  clear hh
                  have hh := hh2
                  clear hh2
                  replace HBR := hide (Below.next HBR.out hbd)
                  replace r0 := cell_bel hbd r0
                  replace r1 := cell_bel hbd r1
                  replace r2 := cell_bel hbd r2
                  replace r3 := cell_bel hbd r3
                  replace r4 := cell_bel hbd r4
                  generalize wr.drewN nq = W5 at *
                  clear hbd
                  obtain ⟨had2, has2, old2, new2⟩ := xb
                  simp only at r0 r1 r2 r3 r4
                  cases has2 with
                  | true =>
                    go_upto_region 19 with fail
                    have HEQ2 : Hid ((out ++ [(kb, new2)]) ++ mL (side (a.drop i) (b.drop (k + 1))) = mL (side a b)) := by have h0 := hh.out.2.2; rw [side_new a b i k HBL.out (fun hi => by have := HN.out; have := HIE.out; omega), HKB.out, mL, fm_made, made_new, if_pos rfl, ← List.append_assoc] at h0; exact h0
                    have HLEN := hide (len_mL HEQ2.out HS.out rfl)
                    have hdw : Below W5.heap.size W5 W5.drew := (Below.refl _ W5).drew
                    have r0' := cell_bel hdw r0
                    have r4' := cell_bel hdw r4
                    have HBR8 := hide (Below.next HBR.out hdw)
                    have HO8 := hide (hh.out.2.1.below hdw)
                    have HNO := hide hh.out.1
                    obtain ⟨W9, hW9⟩ : ∃ W9, W9 = W5.drew := ⟨_, rfl⟩
                    rw [← hW9] at r0' r4' HBR8 HO8
                    have hb19 : Below w.heap.size w W9 := HBR8.out
                    obtain ⟨a3, c3, W6, hrun, hown1, hgr⟩ := push_prs' w.heap.size _ out (kb, new2) 28 W9 no HNO.out.symm (by have := HO8.out; exact this) (by have := HLEN.out; rw [← HNO.out] at this; exact this) HBR8.out.size
                    have HBF : Hid (Below w.heap.size w W6) := bel_but HBR8.out (((But.refl w.heap.size (fun _ => true) W9).alloc _).grown hgr (fun b o hb ho => ⟨(HO8.out.blk b hb).1, rfl⟩)) (Nat.le_refl _)
                    have HT0 : Hid ((fun w' => w'.cell? ⟨g2, o2 + k * 5, none⟩ = some (.string kb) ∧ w'.cell? ⟨g2, o2 + k * 5 + 4, none⟩ = some (.string new2)) W9) := ⟨r0', r4'⟩
                    have HT1 : Hid ((fun w' => w'.cell? ⟨g2, o2 + k * 5, none⟩ = some (.string kb) ∧ w'.cell? ⟨g2, o2 + k * 5 + 4, none⟩ = some (.string new2)) (W9.alloc (.cells #[.string kb, .string new2] 28))) := ⟨cell_bel (below_new W9 _) r0', cell_bel (below_new W9 _) r4'⟩
                    have HT2 : Hid ((fun w' => w'.cell? ⟨g2, o2 + k * 5, none⟩ = some (.string kb) ∧ w'.cell? ⟨g2, o2 + k * 5 + 4, none⟩ = some (.string new2)) W6) := by
                      have hk : ∀ (g o : Nat) (v : Value), g < w.heap.size → W9.cell? ⟨g, o, none⟩ = some v → W6.cell? ⟨g, o, none⟩ = some v := fun g o v hg hc => (World.cell?_of_block (a := ⟨g, o, none⟩) ((HBF.out.block g hg).trans (hb19.block g hg).symm)).trans hc
                      exact ⟨hk _ _ _ HG2.out r0', hk _ _ _ HG2.out r4'⟩
                    have HO1 : Hid (no + 1 = (out ++ [(kb, new2)]).length ∧ PrO W6 w.heap.size (.slice a3 (no + 1) c3) (out ++ [(kb, new2)]) ∧ (out ++ [(kb, new2)]) ++ mL (side (a.drop i) (b.drop (k + 1))) = mL (side a b)) := ⟨by rw [List.length_append, ← HNO.out]; rfl, hown1, HEQ2.out⟩
                    have HRUN := hide hrun
                    clear hown1 hgr hrun hdw r0 r1 r2 r3 r4 r0' r4' hb19 hh
                    refine AnyD.region (fun w' => w'.cell? ⟨g2, o2 + k * 5, none⟩ = some (.string kb) ∧ w'.cell? ⟨g2, o2 + k * 5 + 4, none⟩ = some (.string new2)) (fun j => j != 14) (by kernel_rfl) ?_
                    rw [← hW9]
                    clear hW9
                    refine AnyD.taked (i := 0) (d := 84) (v := .slice x no c) rfl rfl (by kernel_rfl) (by kernel_rfl) (by kernel_rfl) rfl (by kernel_rfl) (fun _ _ _ h => h) (Or.inl ⟨by rfl, ?_⟩) HT0.out ?_
                    · intro w' hw'
                      obtain ⟨t0, t1⟩ := hw'
                      go_simp
                    try simp only [Act.put, List.setIfInBounds_toArray, List.set_cons_zero, List.set_cons_succ]
                    refine AnyD.taked (i := 1) (d := 85) (v := .slice (some ⟨g2, o2, none⟩) n2 c2) rfl rfl (by kernel_rfl) (by kernel_rfl) (by kernel_rfl) rfl (by kernel_rfl) (fun _ _ _ h => h) (Or.inl ⟨by rfl, ?_⟩) HT0.out ?_
                    · intro w' hw'
                      obtain ⟨t0, t1⟩ := hw'
                      go_simp
                    try simp only [Act.put, List.setIfInBounds_toArray, List.set_cons_zero, List.set_cons_succ]
                    refine AnyD.taked (i := 2) (d := 86) (v := .int .i64 (k : Int)) rfl rfl (by kernel_rfl) (by kernel_rfl) (by kernel_rfl) rfl (by kernel_rfl) (fun _ _ _ h => h) (Or.inl ⟨by rfl, ?_⟩) HT0.out ?_
                    · intro w' hw'
                      obtain ⟨t0, t1⟩ := hw'
                      go_simp
                    try simp only [Act.put, List.setIfInBounds_toArray, List.set_cons_zero, List.set_cons_succ]
                    refine AnyD.taked (i := 3) (d := 87) (v := .pointer (some ⟨g2, o2 + k * 5, none⟩)) rfl rfl (by kernel_rfl) (by kernel_rfl) (by kernel_rfl) rfl (by kernel_rfl) (fun _ _ _ h => h) (Or.inl ⟨by rfl, ?_⟩) HT0.out ?_
                    · intro w' hw'
                      obtain ⟨t0, t1⟩ := hw'
                      go_simp
                    try simp only [Act.put, List.setIfInBounds_toArray, List.set_cons_zero, List.set_cons_succ]
                    refine AnyD.taked (i := 4) (d := 88) (v := .pointer (some ⟨g2, o2 + k * 5, none⟩)) rfl rfl (by kernel_rfl) (by kernel_rfl) (by kernel_rfl) rfl (by kernel_rfl) (fun _ _ _ h => h) (Or.inl ⟨by rfl, ?_⟩) HT0.out ?_
                    · intro w' hw'
                      obtain ⟨t0, t1⟩ := hw'
                      go_simp
                    try simp only [Act.put, List.setIfInBounds_toArray, List.set_cons_zero, List.set_cons_succ]
                    refine AnyD.taked (i := 5) (d := 89) (v := .string kb) rfl rfl (by kernel_rfl) (by kernel_rfl) (by kernel_rfl) rfl (by kernel_rfl) (fun _ _ _ h => h) (Or.inl ⟨by rfl, ?_⟩) HT0.out ?_
                    · intro w' hw'
                      obtain ⟨t0, t1⟩ := hw'
                      go_simp
                    try simp only [Act.put, List.setIfInBounds_toArray, List.set_cons_zero, List.set_cons_succ]
                    refine AnyD.taked (i := 6) (d := 90) (v := .slice (some ⟨g2, o2, none⟩) n2 c2) rfl rfl (by kernel_rfl) (by kernel_rfl) (by kernel_rfl) rfl (by kernel_rfl) (fun _ _ _ h => h) (Or.inl ⟨by rfl, ?_⟩) HT0.out ?_
                    · intro w' hw'
                      obtain ⟨t0, t1⟩ := hw'
                      go_simp
                    try simp only [Act.put, List.setIfInBounds_toArray, List.set_cons_zero, List.set_cons_succ]
                    refine AnyD.taked (i := 7) (d := 91) (v := .int .i64 (k : Int)) rfl rfl (by kernel_rfl) (by kernel_rfl) (by kernel_rfl) rfl (by kernel_rfl) (fun _ _ _ h => h) (Or.inl ⟨by rfl, ?_⟩) HT0.out ?_
                    · intro w' hw'
                      obtain ⟨t0, t1⟩ := hw'
                      go_simp
                    try simp only [Act.put, List.setIfInBounds_toArray, List.set_cons_zero, List.set_cons_succ]
                    refine AnyD.taked (i := 8) (d := 92) (v := .pointer (some ⟨g2, o2 + k * 5, none⟩)) rfl rfl (by kernel_rfl) (by kernel_rfl) (by kernel_rfl) rfl (by kernel_rfl) (fun _ _ _ h => h) (Or.inl ⟨by rfl, ?_⟩) HT0.out ?_
                    · intro w' hw'
                      obtain ⟨t0, t1⟩ := hw'
                      go_simp
                    try simp only [Act.put, List.setIfInBounds_toArray, List.set_cons_zero, List.set_cons_succ]
                    refine AnyD.taked (i := 9) (d := 93) (v := .pointer (some ⟨g2, o2 + k * 5 + 4, none⟩)) rfl rfl (by kernel_rfl) (by kernel_rfl) (by kernel_rfl) rfl (by kernel_rfl) (fun _ _ _ h => h) (Or.inl ⟨by rfl, ?_⟩) HT0.out ?_
                    · intro w' hw'
                      obtain ⟨t0, t1⟩ := hw'
                      go_simp
                    try simp only [Act.put, List.setIfInBounds_toArray, List.set_cons_zero, List.set_cons_succ]
                    refine AnyD.taked (i := 10) (d := 94) (v := .string new2) rfl rfl (by kernel_rfl) (by kernel_rfl) (by kernel_rfl) rfl (by kernel_rfl) (fun _ _ _ h => h) (Or.inl ⟨by rfl, ?_⟩) HT0.out ?_
                    · intro w' hw'
                      obtain ⟨t0, t1⟩ := hw'
                      go_simp
                    try simp only [Act.put, List.setIfInBounds_toArray, List.set_cons_zero, List.set_cons_succ]
                    refine AnyD.taked (i := 11) (d := 95) (v := .agg #[.string kb, .string new2]) rfl rfl (by kernel_rfl) (by kernel_rfl) (by kernel_rfl) rfl (by kernel_rfl) (fun _ _ _ h => h) (Or.inl ⟨by rfl, ?_⟩) HT0.out ?_
                    · intro w' hw'
                      obtain ⟨t0, t1⟩ := hw'
                      go_simp
                    try simp only [Act.put, List.setIfInBounds_toArray, List.set_cons_zero, List.set_cons_succ]
                    refine AnyD.one (i := 12) (by kernel_rfl) (wpOp_of rfl fun K hK => ?_)
                    go_simp
                    refine hK _ _ ⟨fun _ => HT1.out, ?_⟩
                    clear hK K
                    try simp only [Act.put, List.setIfInBounds_toArray, List.set_cons_zero, List.set_cons_succ]
                    refine AnyD.one (i := 13) (by kernel_rfl) (wpOp_of rfl fun K hK => ?_)
                    refine ite_of9 (by rfl) ?_
                    refine wp_append_run 22 (.tmp 84) (.tmp 96) rfl rfl _ _ rfl rfl _ _ HRUN.out ?_
                    refine hK _ _ ⟨fun _ => HT2.out, ?_⟩
                    clear hK K
                    try simp only [Act.put, List.setIfInBounds_toArray]
                    refine AnyD.one (i := 14) (by kernel_rfl) (wpOp_of rfl fun K hK => ?_)
                    go_simp
                    refine hK _ _ ⟨(fun h => by cases h), ?_⟩
                    clear hK K
                    try simp only [Act.put, List.setIfInBounds_toArray, List.set_cons_zero, List.set_cons_succ]
                    refine AnyD.done (by kernel_rfl) ?_ _
                    go_wp2
                    go_roundw
                    case rel => have := HKL.out; exact ⟨k + 1, no + 1, _, a3, c3, by omega, by go_num, rfl, HO1.out, HBF.out⟩
                    case measure => have := HKL.out; simp [intOf]; omega
                  | false =>
                    have HEQ2 : Hid (out ++ mL (side (a.drop i) (b.drop (k + 1))) = mL (side a b)) := by have h0 := hh.out.2.2; rw [side_new a b i k HBL.out (fun hi => by have := HN.out; have := HIE.out; omega), HKB.out, mL, fm_made, made_new, if_neg (by simp), List.nil_append] at h0; exact h0
                    have HF := hide (And.intro hh.out.1 (And.intro hh.out.2.1 HEQ2.out))
                    clear hh
                    go_wp2
                    go_roundw
                    case rel => have := HKL.out; exact ⟨k + 1, no, out, x, c, by omega, by go_num, rfl, HF.out, HBR.out⟩
                    case measure => have := HKL.out; simp [intOf]; omega
              · have kk : ¬ (k : Int) < (n2 : Int) := by omega
                have kk3 : decide (k < n2) = false := decide_eq_false hkl
                by_cases hil : i < n1
                · have ii : (i : Int) < (n1 : Int) := by omega
                  have ine : ((i : Int) == (n1 : Int)) = false := by rw [beq_eq_false_iff_ne]; omega
                  have HIL := hide hil
                  have HAL : Hid (i < a.length) := by have := HN.out; show _ < _; omega
                  obtain ⟨ad1, cap1, he1, hle1, hz1, hc1⟩ := HAR.out
                  obtain ⟨rfl, -, rfl⟩ : a1 = ad1 ∧ n1 = a.length ∧ c1 = cap1 := by simpa using he1
                  obtain ⟨g1, o1, rfl, p0, p1⟩ := hc1 i HAL.out
                  obtain ⟨ka, ya, hka⟩ : ∃ k x, (a[i]'HAL.out) = (k, x) := ⟨_, _, rfl⟩
                  rw [hka] at p0 p1
                  simp only at p0 p1
                  have HKA := hide hka
                  clear hc1 hz1 he1 hle1 hka
                  have HKE : Hid (n2 ≤ k) := by show _ ≤ _; omega
                  clear hkl hil hk hi
                  go_upto_region 17 with fail
                  go_quiet (fail)
                  have hbd : Below wr.heap.size wr (wr.drewN nq) := below_drewN2 (Below.refl _ wr) nq
                  have hh2 : Hid (no = out.length ∧ PrO (wr.drewN nq) w.heap.size (.slice x no c) out ∧ out ++ mL (side (a.drop i) (b.drop k)) = mL (side a b)) := ⟨hh.out.1, hh.out.2.1.below hbd, hh.out.2.2⟩
                  clear hh
                  have hh := hh2
                  clear hh2
                  replace HBR := hide (Below.next HBR.out hbd)
                  replace p0 := cell_bel hbd p0
                  replace p1 := cell_bel hbd p1
                  generalize wr.drewN nq = W5 at *
                  clear hbd
                  go_upto_region 22 with fail
                  go_quiet (fail)
                  have hbd : Below W5.heap.size W5 (W5.drewN nq) := below_drewN2 (Below.refl _ W5) nq
                  have hh2 : Hid (no = out.length ∧ PrO (W5.drewN nq) w.heap.size (.slice x no c) out ∧ out ++ mL (side (a.drop i) (b.drop k)) = mL (side a b)) := ⟨hh.out.1, hh.out.2.1.below hbd, hh.out.2.2⟩
                  clear hh
                  have hh := hh2
                  clear hh2
                  replace HBR := hide (Below.next HBR.out hbd)
                  replace p0 := cell_bel hbd p0
                  replace p1 := cell_bel hbd p1
                  generalize W5.drewN nq = W7 at *
                  clear hbd
                  go_upto_region 26 with fail
                  have HEQ2 : Hid ((out ++ [(ka, ya)]) ++ mL (side (a.drop (i + 1)) (b.drop k)) = mL (side a b)) := by have h0 := hh.out.2.2; rw [side_old a b i k HAL.out (fun hk => by have := HN.out; have := HKE.out; omega), HKA.out, mL, fm_made, made_old, ← List.append_assoc] at h0; exact h0
                  have HLEN := hide (len_mL HEQ2.out HS.out rfl)
                  have HNO := hide hh.out.1
                  obtain ⟨a3, c3, W6, hrun, hown1, hgr⟩ := push_prs' w.heap.size _ out (ka, ya) 28 W7 no HNO.out.symm hh.out.2.1 (by have := HLEN.out; rw [← HNO.out] at this; exact this) HBR.out.size
                  have HOB := hide hh.out.2.1
                  have HBF : Hid (Below w.heap.size w W6) := bel_but HBR.out (((But.refl w.heap.size (fun _ => true) W7).alloc _).grown hgr (fun b o hb ho => ⟨(HOB.out.blk b hb).1, rfl⟩)) (Nat.le_refl _)
                  have HO1 : Hid (no + 1 = (out ++ [(ka, ya)]).length ∧ PrO W6 w.heap.size (.slice a3 (no + 1) c3) (out ++ [(ka, ya)]) ∧ (out ++ [(ka, ya)]) ++ mL (side (a.drop (i + 1)) (b.drop k)) = mL (side a b)) := ⟨by rw [List.length_append, ← HNO.out]; rfl, hown1, HEQ2.out⟩
                  have HRUN := hide hrun
                  clear hown1 hgr hrun hh
                  go_wp2_with (first | (at_builtin; refine wpList_append_run 22 rfl (.tmp 142) (.tmp 147) rfl rfl _ _ rfl rfl _ _ HRUN.out ?_))
                  go_wp2
                  go_roundw
                  case rel => have := HIL.out; have := HK.out; exact ⟨i + 1, k, no + 1, _, a3, c3, by omega, by omega, by go_num, rfl, rfl, HO1.out, HBF.out⟩
                  case measure => have := HIL.out; simp [intOf]; omega
                · have ieq : ((i : Int) == (n1 : Int)) = true := by rw [beq_iff_eq]; omega
                  have HEND : Hid (patchD a b = some out) := by
                    show _ = _
                    have h0 := hh.out.2.2
                    have h1 : a.drop i = [] := List.drop_eq_nil_of_le (by have := HN.out; omega)
                    have h2 : b.drop k = [] := List.drop_eq_nil_of_le (by have := HN.out; omega)
                    have h3 : side ([] : List Pr) ([] : List Ch) = [] := by unfold side; rfl
                    rw [h1, h2, h3, mL, fm_nil, List.append_nil] at h0
                    rw [HALL.out, ← h0]
                  clear hkl hil hk hi
                  go_upto_region 17 with fail
                  go_quiet (fail)
                  have hbd : Below wr.heap.size wr (wr.drewN nq) := below_drewN2 (Below.refl _ wr) nq
                  have hh2 : Hid (no = out.length ∧ PrO (wr.drewN nq) w.heap.size (.slice x no c) out ∧ out ++ mL (side (a.drop i) (b.drop k)) = mL (side a b)) := ⟨hh.out.1, hh.out.2.1.below hbd, hh.out.2.2⟩
                  clear hh
                  have hh := hh2
                  clear hh2
                  replace HBR := hide (Below.next HBR.out hbd)
                  generalize wr.drewN nq = W5 at *
                  clear hbd
                  go_wp2
                  rw [HQ.out]
                  exact ⟨HBR.out, .inr (.inr ⟨rfl, _, _, HEND.out, rfl, hh.out.2.1⟩)⟩
end Go.Proofs.YthnidlhcpelomaaDoor
