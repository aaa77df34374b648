import Derived.Test.YthnidlhcpelomaaDoorDFn2
namespace Go.Proofs.YthnidlhcpelomaaDoor
open Go.RowKit
attribute [local go_sem ↓] Go.wp_at_zero Go.wp_at_succ
/-- Is it the turn of the first list, of what is left of both? -/
def turnK (ks ms : List ByteArray) : Bool := match ks, ms with
  | [], _ => false
  | _ :: _, [] => true
  | k :: _, m :: _ => !ltK m k
theorem leK_eq (k m : ByteArray) : (!ltK m k) = (Op.bytesLess k.toList m.toList || k.toList == m.toList) := by
  unfold ltK
  cases h1 : Op.bytesLess k.toList m.toList with
  | true =>
    have : Op.bytesLess m.toList k.toList = false := ltK_asymm h1
    simp [this]
  | false =>
    cases h2 : Op.bytesLess m.toList k.toList with
    | true =>
      have : k.toList ≠ m.toList := fun e => by rw [e, bless_irrefl] at h2; cases h2
      simp [this]
    | false =>
      have := bless_total _ _ h1 h2
      simp [this]
set_option maxHeartbeats 1000000 in
theorem turn_pp (v u : Value) (ks ms : List ByteArray) (w : World) (hm : ks.length ≤ 140737488355328) (hm2 : ms.length ≤ 140737488355328) (h : KeyR 2 w v ks) (h' : KeyR 2 w u ms) :
    Calls Tryd.prog 50 #[.agg #[v, keyPF], .agg #[u, keyPF]] w fun e w' => e = .returned (.bool (turnK ks ms)) ∧ Below w.heap.size w w' := by
  obtain ⟨a, c, rfl, _⟩ := id h
  obtain ⟨a', c', rfl, _⟩ := id h'
  have q1 := below_new w (.cells #[.slice a ks.length c, keyPF] 56)
  obtain ⟨b0, b1⟩ := box2 w (.slice a ks.length c) keyPF 56
  obtain ⟨W1, hW1⟩ : ∃ W1, w.alloc (.cells #[.slice a ks.length c, keyPF] 56) = W1 := ⟨_, rfl⟩
  rw [hW1] at q1 b0 b1
  have hs1 : W1.heap.size = w.heap.size + 1 := by rw [← hW1]; simp
  have q2 := below_new W1 (.cells #[.slice a' ms.length c', keyPF] 56)
  obtain ⟨d0, d1⟩ := box2 W1 (.slice a' ms.length c') keyPF 56
  have b0 := cell_bel q2 b0
  have b1 := cell_bel q2 b1
  obtain ⟨W2, hW2⟩ : ∃ W2, W1.alloc (.cells #[.slice a' ms.length c', keyPF] 56) = W2 := ⟨_, rfl⟩
  rw [hW2] at q2 b0 b1 d0 d1
  rw [hs1] at d0 d1
  have HB := hide (Below.next q1 q2)
  have HW : Hid ((w.alloc (.cells #[.slice a ks.length c, keyPF] 56)).alloc (.cells #[.slice a' ms.length c', keyPF] 56) = W2) := by rw [hW1]; exact hW2
  have hg := h.below HB.out
  have hg' := h'.below HB.out
  obtain ⟨t, ht⟩ : ∃ t, t = turnK ks ms := ⟨_, rfl⟩
  rw [← ht]
  cases ks with
  | nil =>
    have HT : Hid (t = false) := by show _ = _; rw [ht]; rfl
    simp only [List.length_nil] at HW b0 ⊢
    clear hg hg' h h' q1 q2 hW1 hW2 ht hs1
    go_enter Tryd.func50, Tryd.ntmps50
    go_wp2
    rw [HW.out]
    go_wp2
    go_ret
    exact ⟨by rw [HT.out]; rfl, HB.out⟩
  | cons k ks =>
    cases ms with
    | nil =>
      have HT : Hid (t = true) := by show _ = _; rw [ht]; rfl
      obtain ⟨n, hn⟩ : ∃ n, n = (k :: ks).length := ⟨_, rfl⟩
      rw [← hn] at b0 HW ⊢
      have l0 : 0 < n := by rw [hn]; simp
      have hne : ((n : Int) == 0) = false := beq_eq_false_iff_ne.2 (by omega)
      have hpos : (0 : Int) < (n : Int) := by omega
      have HN := hide hn
      simp only [List.length_nil] at HW d0 ⊢
      clear hg hg' h h' q1 q2 hW1 hW2 ht hs1 hn hm hm2
      go_enter Tryd.func50, Tryd.ntmps50
      go_wp2
      rw [HW.out]
      go_wp2
      go_ret
      exact ⟨by rw [HT.out]; rfl, HB.out⟩
    | cons m ms =>
      have HT : Hid (t = (Op.bytesLess k.toList m.toList || k.toList == m.toList)) := by show _ = _; rw [ht, ← leK_eq]; rfl
      obtain ⟨n, hn⟩ : ∃ n, n = (k :: ks).length := ⟨_, rfl⟩
      obtain ⟨n', hn'⟩ : ∃ n', n' = (m :: ms).length := ⟨_, rfl⟩
      have l0 : 0 < n := by rw [hn]; simp
      have l0' : 0 < n' := by rw [hn']; simp
      have hne : ((n : Int) == 0) = false := beq_eq_false_iff_ne.2 (by omega)
      have hne' : ((n' : Int) == 0) = false := beq_eq_false_iff_ne.2 (by omega)
      rw [← hn] at b0 HW hg ⊢
      rw [← hn'] at d0 HW hg' ⊢
      have HK1 : Hid (∀ W, Below W2.heap.size W2 W → Calls Tryd.prog 48 #[.agg #[.slice a n c, keyPF], .int .i64 0] W fun e w' => e = .returned (.string k) ∧ Below W.heap.size W w') := fun W hb => by
        have := kats_p a n c (k :: ks) W2 hn hg 0 W (Int.le_refl _) (by omega) hb
        exact this
      have HK2 : Hid (∀ W, Below W2.heap.size W2 W → Calls Tryd.prog 48 #[.agg #[.slice a' n' c', keyPF], .int .i64 0] W fun e w' => e = .returned (.string m) ∧ Below W.heap.size W w') := fun W hb => by
        have := kats_p a' n' c' (m :: ms) W2 hn' hg' 0 W (Int.le_refl _) (by omega) hb
        exact this
      have HN := hide hn
      have HN' := hide hn'
      clear hg hg' h h' q1 q2 hW1 hW2 ht hs1 hn hn' hm hm2
      go_enter Tryd.func50, Tryd.ntmps50
      go_wp2
      rw [HW.out]
      go_wp2
      go_region_held3 (fun w' => w'.cell? ⟨w.heap.size, 0, none⟩ = some (.slice a n c) ∧ w'.cell? ⟨w.heap.size, 1, none⟩ = some keyPF ∧ w'.cell? ⟨w.heap.size + 1, 0, none⟩ = some (.slice a' n' c') ∧ w'.cell? ⟨w.heap.size + 1, 1, none⟩ = some keyPF) (go_keep)
        (first
          | (go_at_call_of 48 (Value.agg #[.slice a n c, keyPF]); refine (HK1.out _ ?_).mono ?_; (first | exact HB6.out | exact Below.refl _ _ | exact (Below.refl _ _).drew | exact below_drewN2 (Below.refl _ _) _); rintro e w6 ⟨rfl, hg⟩; have HB6 : Hid (Below W2.heap.size W2 w6) := (by (first | exact Below.next HB6.out hg | exact Below.next (b := W2) (Below.refl _ _) ⟨hg.os, hg.tape, hg.output, hg.size, hg.block⟩)); have k0 := cell_bel HB6.out b0; have k1 := cell_bel HB6.out b1; have k2 := cell_bel HB6.out d0; have k3 := cell_bel HB6.out d1; clear hg)
          | (go_at_call_of 48 (Value.agg #[.slice a' n' c', keyPF]); refine (HK2.out _ ?_).mono ?_; (first | exact HB6.out | exact Below.refl _ _ | exact (Below.refl _ _).drew | exact below_drewN2 (Below.refl _ _) _); rintro e w6 ⟨rfl, hg⟩; have HB6 : Hid (Below W2.heap.size W2 w6) := (by (first | exact Below.next HB6.out hg | exact Below.next (b := W2) (Below.refl _ _) ⟨hg.os, hg.tape, hg.output, hg.size, hg.block⟩)); have k0 := cell_bel HB6.out b0; have k1 := cell_bel HB6.out b1; have k2 := cell_bel HB6.out d0; have k3 := cell_bel HB6.out d1; clear hg))
      all_goals
        go_wp2
        go_ret
        exact ⟨by rw [HT.out]; rfl, Below.next HB.out HB6.out⟩
set_option maxHeartbeats 1000000 in
theorem turn_cc (v u : Value) (ks ms : List ByteArray) (w : World) (hm : ks.length ≤ 140737488355328) (hm2 : ms.length ≤ 140737488355328) (h : KeyR 5 w v ks) (h' : KeyR 5 w u ms) :
    Calls Tryd.prog 56 #[.agg #[v, keyCF], .agg #[u, keyCF]] w fun e w' => e = .returned (.bool (turnK ks ms)) ∧ Below w.heap.size w w' := by
  obtain ⟨a, c, rfl, _⟩ := id h
  obtain ⟨a', c', rfl, _⟩ := id h'
  have q1 := below_new w (.cells #[.slice a ks.length c, keyCF] 69)
  obtain ⟨b0, b1⟩ := box2 w (.slice a ks.length c) keyCF 69
  obtain ⟨W1, hW1⟩ : ∃ W1, w.alloc (.cells #[.slice a ks.length c, keyCF] 69) = W1 := ⟨_, rfl⟩
  rw [hW1] at q1 b0 b1
  have hs1 : W1.heap.size = w.heap.size + 1 := by rw [← hW1]; simp
  have q2 := below_new W1 (.cells #[.slice a' ms.length c', keyCF] 69)
  obtain ⟨d0, d1⟩ := box2 W1 (.slice a' ms.length c') keyCF 69
  have b0 := cell_bel q2 b0
  have b1 := cell_bel q2 b1
  obtain ⟨W2, hW2⟩ : ∃ W2, W1.alloc (.cells #[.slice a' ms.length c', keyCF] 69) = W2 := ⟨_, rfl⟩
  rw [hW2] at q2 b0 b1 d0 d1
  rw [hs1] at d0 d1
  have HB := hide (Below.next q1 q2)
  have HW : Hid ((w.alloc (.cells #[.slice a ks.length c, keyCF] 69)).alloc (.cells #[.slice a' ms.length c', keyCF] 69) = W2) := by rw [hW1]; exact hW2
  have hg := h.below HB.out
  have hg' := h'.below HB.out
  obtain ⟨t, ht⟩ : ∃ t, t = turnK ks ms := ⟨_, rfl⟩
  rw [← ht]
  cases ks with
  | nil =>
    have HT : Hid (t = false) := by show _ = _; rw [ht]; rfl
    simp only [List.length_nil] at HW b0 ⊢
    clear hg hg' h h' q1 q2 hW1 hW2 ht hs1
    go_enter Tryd.func56, Tryd.ntmps56
    go_wp2
    rw [HW.out]
    go_wp2
    go_ret
    exact ⟨by rw [HT.out]; rfl, HB.out⟩
  | cons k ks =>
    cases ms with
    | nil =>
      have HT : Hid (t = true) := by show _ = _; rw [ht]; rfl
      obtain ⟨n, hn⟩ : ∃ n, n = (k :: ks).length := ⟨_, rfl⟩
      rw [← hn] at b0 HW ⊢
      have l0 : 0 < n := by rw [hn]; simp
      have hne : ((n : Int) == 0) = false := beq_eq_false_iff_ne.2 (by omega)
      have hpos : (0 : Int) < (n : Int) := by omega
      have HN := hide hn
      simp only [List.length_nil] at HW d0 ⊢
      clear hg hg' h h' q1 q2 hW1 hW2 ht hs1 hn hm hm2
      go_enter Tryd.func56, Tryd.ntmps56
      go_wp2
      rw [HW.out]
      go_wp2
      go_ret
      exact ⟨by rw [HT.out]; rfl, HB.out⟩
    | cons m ms =>
      have HT : Hid (t = (Op.bytesLess k.toList m.toList || k.toList == m.toList)) := by show _ = _; rw [ht, ← leK_eq]; rfl
      obtain ⟨n, hn⟩ : ∃ n, n = (k :: ks).length := ⟨_, rfl⟩
      obtain ⟨n', hn'⟩ : ∃ n', n' = (m :: ms).length := ⟨_, rfl⟩
      have l0 : 0 < n := by rw [hn]; simp
      have l0' : 0 < n' := by rw [hn']; simp
      have hne : ((n : Int) == 0) = false := beq_eq_false_iff_ne.2 (by omega)
      have hne' : ((n' : Int) == 0) = false := beq_eq_false_iff_ne.2 (by omega)
      rw [← hn] at b0 HW hg ⊢
      rw [← hn'] at d0 HW hg' ⊢
      have HK1 : Hid (∀ W, Below W2.heap.size W2 W → Calls Tryd.prog 54 #[.agg #[.slice a n c, keyCF], .int .i64 0] W fun e w' => e = .returned (.string k) ∧ Below W.heap.size W w') := fun W hb => by
        have := kats_c a n c (k :: ks) W2 hn hg 0 W (Int.le_refl _) (by omega) hb
        exact this
      have HK2 : Hid (∀ W, Below W2.heap.size W2 W → Calls Tryd.prog 54 #[.agg #[.slice a' n' c', keyCF], .int .i64 0] W fun e w' => e = .returned (.string m) ∧ Below W.heap.size W w') := fun W hb => by
        have := kats_c a' n' c' (m :: ms) W2 hn' hg' 0 W (Int.le_refl _) (by omega) hb
        exact this
      have HN := hide hn
      have HN' := hide hn'
      clear hg hg' h h' q1 q2 hW1 hW2 ht hs1 hn hn' hm hm2
      go_enter Tryd.func56, Tryd.ntmps56
      go_wp2
      rw [HW.out]
      go_wp2
      go_region_held3 (fun w' => w'.cell? ⟨w.heap.size, 0, none⟩ = some (.slice a n c) ∧ w'.cell? ⟨w.heap.size, 1, none⟩ = some keyCF ∧ w'.cell? ⟨w.heap.size + 1, 0, none⟩ = some (.slice a' n' c') ∧ w'.cell? ⟨w.heap.size + 1, 1, none⟩ = some keyCF) (go_keep)
        (first
          | (go_at_call_of 54 (Value.agg #[.slice a n c, keyCF]); refine (HK1.out _ ?_).mono ?_; (first | exact HB6.out | exact Below.refl _ _ | exact (Below.refl _ _).drew | exact below_drewN2 (Below.refl _ _) _); rintro e w6 ⟨rfl, hg⟩; have HB6 : Hid (Below W2.heap.size W2 w6) := (by (first | exact Below.next HB6.out hg | exact Below.next (b := W2) (Below.refl _ _) ⟨hg.os, hg.tape, hg.output, hg.size, hg.block⟩)); have k0 := cell_bel HB6.out b0; have k1 := cell_bel HB6.out b1; have k2 := cell_bel HB6.out d0; have k3 := cell_bel HB6.out d1; clear hg)
          | (go_at_call_of 54 (Value.agg #[.slice a' n' c', keyCF]); refine (HK2.out _ ?_).mono ?_; (first | exact HB6.out | exact Below.refl _ _ | exact (Below.refl _ _).drew | exact below_drewN2 (Below.refl _ _) _); rintro e w6 ⟨rfl, hg⟩; have HB6 : Hid (Below W2.heap.size W2 w6) := (by (first | exact Below.next HB6.out hg | exact Below.next (b := W2) (Below.refl _ _) ⟨hg.os, hg.tape, hg.output, hg.size, hg.block⟩)); have k0 := cell_bel HB6.out b0; have k1 := cell_bel HB6.out b1; have k2 := cell_bel HB6.out d0; have k3 := cell_bel HB6.out d1; clear hg))
      all_goals
        go_wp2
        go_ret
        exact ⟨by rw [HT.out]; rfl, Below.next HB.out HB6.out⟩
set_option maxHeartbeats 1000000 in
theorem turn_pc (v u : Value) (ks ms : List ByteArray) (w : World) (hm : ks.length ≤ 140737488355328) (hm2 : ms.length ≤ 140737488355328) (h : KeyR 2 w v ks) (h' : KeyR 5 w u ms) :
    Calls Tryd.prog 61 #[.agg #[v, keyPF], .agg #[u, keyCF]] w fun e w' => e = .returned (.bool (turnK ks ms)) ∧ Below w.heap.size w w' := by
  obtain ⟨a, c, rfl, _⟩ := id h
  obtain ⟨a', c', rfl, _⟩ := id h'
  have q1 := below_new w (.cells #[.slice a ks.length c, keyPF] 56)
  obtain ⟨b0, b1⟩ := box2 w (.slice a ks.length c) keyPF 56
  obtain ⟨W1, hW1⟩ : ∃ W1, w.alloc (.cells #[.slice a ks.length c, keyPF] 56) = W1 := ⟨_, rfl⟩
  rw [hW1] at q1 b0 b1
  have hs1 : W1.heap.size = w.heap.size + 1 := by rw [← hW1]; simp
  have q2 := below_new W1 (.cells #[.slice a' ms.length c', keyCF] 69)
  obtain ⟨d0, d1⟩ := box2 W1 (.slice a' ms.length c') keyCF 69
  have b0 := cell_bel q2 b0
  have b1 := cell_bel q2 b1
  obtain ⟨W2, hW2⟩ : ∃ W2, W1.alloc (.cells #[.slice a' ms.length c', keyCF] 69) = W2 := ⟨_, rfl⟩
  rw [hW2] at q2 b0 b1 d0 d1
  rw [hs1] at d0 d1
  have HB := hide (Below.next q1 q2)
  have HW : Hid ((w.alloc (.cells #[.slice a ks.length c, keyPF] 56)).alloc (.cells #[.slice a' ms.length c', keyCF] 69) = W2) := by rw [hW1]; exact hW2
  have hg := h.below HB.out
  have hg' := h'.below HB.out
  obtain ⟨t, ht⟩ : ∃ t, t = turnK ks ms := ⟨_, rfl⟩
  rw [← ht]
  cases ks with
  | nil =>
    have HT : Hid (t = false) := by show _ = _; rw [ht]; rfl
    simp only [List.length_nil] at HW b0 ⊢
    clear hg hg' h h' q1 q2 hW1 hW2 ht hs1
    go_enter Tryd.func61, Tryd.ntmps61
    go_wp2
    rw [HW.out]
    go_wp2
    go_ret
    exact ⟨by rw [HT.out]; rfl, HB.out⟩
  | cons k ks =>
    cases ms with
    | nil =>
      have HT : Hid (t = true) := by show _ = _; rw [ht]; rfl
      obtain ⟨n, hn⟩ : ∃ n, n = (k :: ks).length := ⟨_, rfl⟩
      rw [← hn] at b0 HW ⊢
      have l0 : 0 < n := by rw [hn]; simp
      have hne : ((n : Int) == 0) = false := beq_eq_false_iff_ne.2 (by omega)
      have hpos : (0 : Int) < (n : Int) := by omega
      have HN := hide hn
      simp only [List.length_nil] at HW d0 ⊢
      clear hg hg' h h' q1 q2 hW1 hW2 ht hs1 hn hm hm2
      go_enter Tryd.func61, Tryd.ntmps61
      go_wp2
      rw [HW.out]
      go_wp2
      go_ret
      exact ⟨by rw [HT.out]; rfl, HB.out⟩
    | cons m ms =>
      have HT : Hid (t = (Op.bytesLess k.toList m.toList || k.toList == m.toList)) := by show _ = _; rw [ht, ← leK_eq]; rfl
      obtain ⟨n, hn⟩ : ∃ n, n = (k :: ks).length := ⟨_, rfl⟩
      obtain ⟨n', hn'⟩ : ∃ n', n' = (m :: ms).length := ⟨_, rfl⟩
      have l0 : 0 < n := by rw [hn]; simp
      have l0' : 0 < n' := by rw [hn']; simp
      have hne : ((n : Int) == 0) = false := beq_eq_false_iff_ne.2 (by omega)
      have hne' : ((n' : Int) == 0) = false := beq_eq_false_iff_ne.2 (by omega)
      rw [← hn] at b0 HW hg ⊢
      rw [← hn'] at d0 HW hg' ⊢
      have HK1 : Hid (∀ W, Below W2.heap.size W2 W → Calls Tryd.prog 48 #[.agg #[.slice a n c, keyPF], .int .i64 0] W fun e w' => e = .returned (.string k) ∧ Below W.heap.size W w') := fun W hb => by
        have := kats_p a n c (k :: ks) W2 hn hg 0 W (Int.le_refl _) (by omega) hb
        exact this
      have HK2 : Hid (∀ W, Below W2.heap.size W2 W → Calls Tryd.prog 54 #[.agg #[.slice a' n' c', keyCF], .int .i64 0] W fun e w' => e = .returned (.string m) ∧ Below W.heap.size W w') := fun W hb => by
        have := kats_c a' n' c' (m :: ms) W2 hn' hg' 0 W (Int.le_refl _) (by omega) hb
        exact this
      have HN := hide hn
      have HN' := hide hn'
      clear hg hg' h h' q1 q2 hW1 hW2 ht hs1 hn hn' hm hm2
      go_enter Tryd.func61, Tryd.ntmps61
      go_wp2
      rw [HW.out]
      go_wp2
      go_region_held3 (fun w' => w'.cell? ⟨w.heap.size, 0, none⟩ = some (.slice a n c) ∧ w'.cell? ⟨w.heap.size, 1, none⟩ = some keyPF ∧ w'.cell? ⟨w.heap.size + 1, 0, none⟩ = some (.slice a' n' c') ∧ w'.cell? ⟨w.heap.size + 1, 1, none⟩ = some keyCF) (go_keep)
        (first
          | (go_at_call_of 48 (Value.agg #[.slice a n c, keyPF]); refine (HK1.out _ ?_).mono ?_; (first | exact HB6.out | exact Below.refl _ _ | exact (Below.refl _ _).drew | exact below_drewN2 (Below.refl _ _) _); rintro e w6 ⟨rfl, hg⟩; have HB6 : Hid (Below W2.heap.size W2 w6) := (by (first | exact Below.next HB6.out hg | exact Below.next (b := W2) (Below.refl _ _) ⟨hg.os, hg.tape, hg.output, hg.size, hg.block⟩)); have k0 := cell_bel HB6.out b0; have k1 := cell_bel HB6.out b1; have k2 := cell_bel HB6.out d0; have k3 := cell_bel HB6.out d1; clear hg)
          | (go_at_call_of 54 (Value.agg #[.slice a' n' c', keyCF]); refine (HK2.out _ ?_).mono ?_; (first | exact HB6.out | exact Below.refl _ _ | exact (Below.refl _ _).drew | exact below_drewN2 (Below.refl _ _) _); rintro e w6 ⟨rfl, hg⟩; have HB6 : Hid (Below W2.heap.size W2 w6) := (by (first | exact Below.next HB6.out hg | exact Below.next (b := W2) (Below.refl _ _) ⟨hg.os, hg.tape, hg.output, hg.size, hg.block⟩)); have k0 := cell_bel HB6.out b0; have k1 := cell_bel HB6.out b1; have k2 := cell_bel HB6.out d0; have k3 := cell_bel HB6.out d1; clear hg))
      all_goals
        go_wp2
        go_ret
        exact ⟨by rw [HT.out]; rfl, Below.next HB.out HB6.out⟩
set_option maxHeartbeats 1000000 in
theorem turn_cp (v u : Value) (ks ms : List ByteArray) (w : World) (hm : ks.length ≤ 140737488355328) (hm2 : ms.length ≤ 140737488355328) (h : KeyR 5 w v ks) (h' : KeyR 2 w u ms) :
    Calls Tryd.prog 62 #[.agg #[v, keyCF], .agg #[u, keyPF]] w fun e w' => e = .returned (.bool (turnK ks ms)) ∧ Below w.heap.size w w' := by
  obtain ⟨a, c, rfl, _⟩ := id h
  obtain ⟨a', c', rfl, _⟩ := id h'
  have q1 := below_new w (.cells #[.slice a ks.length c, keyCF] 69)
  obtain ⟨b0, b1⟩ := box2 w (.slice a ks.length c) keyCF 69
  obtain ⟨W1, hW1⟩ : ∃ W1, w.alloc (.cells #[.slice a ks.length c, keyCF] 69) = W1 := ⟨_, rfl⟩
  rw [hW1] at q1 b0 b1
  have hs1 : W1.heap.size = w.heap.size + 1 := by rw [← hW1]; simp
  have q2 := below_new W1 (.cells #[.slice a' ms.length c', keyPF] 56)
  obtain ⟨d0, d1⟩ := box2 W1 (.slice a' ms.length c') keyPF 56
  have b0 := cell_bel q2 b0
  have b1 := cell_bel q2 b1
  obtain ⟨W2, hW2⟩ : ∃ W2, W1.alloc (.cells #[.slice a' ms.length c', keyPF] 56) = W2 := ⟨_, rfl⟩
  rw [hW2] at q2 b0 b1 d0 d1
  rw [hs1] at d0 d1
  have HB := hide (Below.next q1 q2)
  have HW : Hid ((w.alloc (.cells #[.slice a ks.length c, keyCF] 69)).alloc (.cells #[.slice a' ms.length c', keyPF] 56) = W2) := by rw [hW1]; exact hW2
  have hg := h.below HB.out
  have hg' := h'.below HB.out
  obtain ⟨t, ht⟩ : ∃ t, t = turnK ks ms := ⟨_, rfl⟩
  rw [← ht]
  cases ks with
  | nil =>
    have HT : Hid (t = false) := by show _ = _; rw [ht]; rfl
    simp only [List.length_nil] at HW b0 ⊢
    clear hg hg' h h' q1 q2 hW1 hW2 ht hs1
    go_enter Tryd.func62, Tryd.ntmps62
    go_wp2
    rw [HW.out]
    go_wp2
    go_ret
    exact ⟨by rw [HT.out]; rfl, HB.out⟩
  | cons k ks =>
    cases ms with
    | nil =>
      have HT : Hid (t = true) := by show _ = _; rw [ht]; rfl
      obtain ⟨n, hn⟩ : ∃ n, n = (k :: ks).length := ⟨_, rfl⟩
      rw [← hn] at b0 HW ⊢
      have l0 : 0 < n := by rw [hn]; simp
      have hne : ((n : Int) == 0) = false := beq_eq_false_iff_ne.2 (by omega)
      have hpos : (0 : Int) < (n : Int) := by omega
      have HN := hide hn
      simp only [List.length_nil] at HW d0 ⊢
      clear hg hg' h h' q1 q2 hW1 hW2 ht hs1 hn hm hm2
      go_enter Tryd.func62, Tryd.ntmps62
      go_wp2
      rw [HW.out]
      go_wp2
      go_ret
      exact ⟨by rw [HT.out]; rfl, HB.out⟩
    | cons m ms =>
      have HT : Hid (t = (Op.bytesLess k.toList m.toList || k.toList == m.toList)) := by show _ = _; rw [ht, ← leK_eq]; rfl
      obtain ⟨n, hn⟩ : ∃ n, n = (k :: ks).length := ⟨_, rfl⟩
      obtain ⟨n', hn'⟩ : ∃ n', n' = (m :: ms).length := ⟨_, rfl⟩
      have l0 : 0 < n := by rw [hn]; simp
      have l0' : 0 < n' := by rw [hn']; simp
      have hne : ((n : Int) == 0) = false := beq_eq_false_iff_ne.2 (by omega)
      have hne' : ((n' : Int) == 0) = false := beq_eq_false_iff_ne.2 (by omega)
      rw [← hn] at b0 HW hg ⊢
      rw [← hn'] at d0 HW hg' ⊢
      have HK1 : Hid (∀ W, Below W2.heap.size W2 W → Calls Tryd.prog 54 #[.agg #[.slice a n c, keyCF], .int .i64 0] W fun e w' => e = .returned (.string k) ∧ Below W.heap.size W w') := fun W hb => by
        have := kats_c a n c (k :: ks) W2 hn hg 0 W (Int.le_refl _) (by omega) hb
        exact this
      have HK2 : Hid (∀ W, Below W2.heap.size W2 W → Calls Tryd.prog 48 #[.agg #[.slice a' n' c', keyPF], .int .i64 0] W fun e w' => e = .returned (.string m) ∧ Below W.heap.size W w') := fun W hb => by
        have := kats_p a' n' c' (m :: ms) W2 hn' hg' 0 W (Int.le_refl _) (by omega) hb
        exact this
      have HN := hide hn
      have HN' := hide hn'
      clear hg hg' h h' q1 q2 hW1 hW2 ht hs1 hn hn' hm hm2
      go_enter Tryd.func62, Tryd.ntmps62
      go_wp2
      rw [HW.out]
      go_wp2
      go_region_held3 (fun w' => w'.cell? ⟨w.heap.size, 0, none⟩ = some (.slice a n c) ∧ w'.cell? ⟨w.heap.size, 1, none⟩ = some keyCF ∧ w'.cell? ⟨w.heap.size + 1, 0, none⟩ = some (.slice a' n' c') ∧ w'.cell? ⟨w.heap.size + 1, 1, none⟩ = some keyPF) (go_keep)
        (first
          | (go_at_call_of 54 (Value.agg #[.slice a n c, keyCF]); refine (HK1.out _ ?_).mono ?_; (first | exact HB6.out | exact Below.refl _ _ | exact (Below.refl _ _).drew | exact below_drewN2 (Below.refl _ _) _); rintro e w6 ⟨rfl, hg⟩; have HB6 : Hid (Below W2.heap.size W2 w6) := (by (first | exact Below.next HB6.out hg | exact Below.next (b := W2) (Below.refl _ _) ⟨hg.os, hg.tape, hg.output, hg.size, hg.block⟩)); have k0 := cell_bel HB6.out b0; have k1 := cell_bel HB6.out b1; have k2 := cell_bel HB6.out d0; have k3 := cell_bel HB6.out d1; clear hg)
          | (go_at_call_of 48 (Value.agg #[.slice a' n' c', keyPF]); refine (HK2.out _ ?_).mono ?_; (first | exact HB6.out | exact Below.refl _ _ | exact (Below.refl _ _).drew | exact below_drewN2 (Below.refl _ _) _); rintro e w6 ⟨rfl, hg⟩; have HB6 : Hid (Below W2.heap.size W2 w6) := (by (first | exact Below.next HB6.out hg | exact Below.next (b := W2) (Below.refl _ _) ⟨hg.os, hg.tape, hg.output, hg.size, hg.block⟩)); have k0 := cell_bel HB6.out b0; have k1 := cell_bel HB6.out b1; have k2 := cell_bel HB6.out d0; have k3 := cell_bel HB6.out d1; clear hg))
      all_goals
        go_wp2
        go_ret
        exact ⟨by rw [HT.out]; rfl, Below.next HB.out HB6.out⟩
end Go.Proofs.YthnidlhcpelomaaDoor
