import Derived.Test.YtkdmocnjpajfkaaDoorDSta
import Derived.BigQuiet
namespace Go.Proofs.YtkdmocnjpajfkaaDoor
open Go.RowKit
attribute [local go_sem ↓] Go.wp_at_zero Go.wp_at_succ

/-- A clean change. -/
def ClV (x : ChV) : Prop := (x.had = true ∧ x.has = true ∧ ¬ x.old = x.new) ∨ (x.had = true ∧ x.has = false ∧ x.new = nilB) ∨ (x.had = false ∧ x.has = true ∧ x.old = nilB)
theorem cl_chg {o n : Option ByteArray} (h : o ≠ n) : ClV (chgV o n) := by
  cases o <;> cases n <;> simp [ClV, chgV] at h ⊢ <;> exact h
theorem ne_nil (b : ByteArray) : (b.toList != (⟨#[]⟩ : ByteArray).toList) = !decide (b = nilB) := by
  show (!(b.toList == (⟨#[]⟩ : ByteArray).toList)) = _
  rw [list_eq]
set_option maxHeartbeats 8000000 in
theorem clean_true (v : Value) (l : List Ch) (w : World) (hm : l.length ≤ 140737488355328) (hR : ChR w v l) (hkr : KR l) (hcl : ∀ c ∈ l, ClV c.2) :
    Calls Tryd.prog 19 #[v] w fun e w' => e = .returned (.bool true) ∧ Below w.heap.size w w' := by
  obtain ⟨a, c, rfl⟩ := hR.form
  obtain ⟨n, hnl⟩ : ∃ n, n = l.length := ⟨_, rfl⟩
  rw [← hnl] at hR hm ⊢
  have HR := hide hR
  have HNL := hide hnl
  have HKR := hide hkr
  have HCL := hide hcl
  obtain ⟨Q, hQ⟩ : ∃ Q : Ending → World → Prop, Q = fun e w' => e = .returned (.bool true) ∧ Below w.heap.size w w' := ⟨_, rfl⟩
  rw [← hQ]
  have HQ := hide hQ
  clear hQ hR hnl hkr hcl
  go_enter Tryd.func19, Tryd.ntmps19
  go_wp2
  go_loopw [3] (fun i wr => ∃ (q : Nat), q ≤ n ∧ i = .int .i64 (q : Int) ∧ Below w.heap.size w wr) (fun i _ => n - (intOf i).toNat)
  case atStart => exact ⟨0, Nat.zero_le _, rfl, Below.refl _ _⟩
  case round =>
    obtain ⟨q, hq, rfl, hb⟩ := hrel
    have HB := hide hb
    by_cases hlt : q < n
    · have j1 : (q : Int) < (n : Int) := by omega
      have j0 : (0 : Int) ≤ (q : Int) := by omega
      have hql : q < l.length := by have := HNL.out; omega
      obtain ⟨a'', cap, he, hle, hnl', hc⟩ := HR.out.below HB.out
      obtain ⟨rfl, -, rfl⟩ : a = a'' ∧ n = l.length ∧ c = cap := by simpa using he
      obtain ⟨g, o, rfl, hch⟩ := hc q hql
      obtain ⟨k, x, hkx⟩ : ∃ k x, l[q] = (k, x) := ⟨_, _, rfl⟩
      rw [hkx] at hch
      have HX : Hid (ClV x) := by have := HCL.out _ (List.getElem_mem hql); rw [hkx] at this; exact this
      have HLT := hide hlt
      -- the key ahead
      have HPV : Hid (q = 0 ∨ ∃ m k0, m + 1 = q ∧ wr.cell? ⟨g, o + m * 5, none⟩ = some (.string k0) ∧ ltK k0 k = true) := by
        rcases Nat.eq_zero_or_pos q with h0 | h0
        · exact .inl h0
        · obtain ⟨m, rfl⟩ : ∃ m, q = m + 1 := ⟨q - 1, by omega⟩
          obtain ⟨g', o', he', hch'⟩ := hc m (by omega)
          cases he'
          refine .inr ⟨m, l[m].1, rfl, hch'.1, ?_⟩
          have := List.pairwise_iff_getElem.1 HKR.out m (m + 1) (by omega) hql (Nat.lt_succ_self m)
          rw [hkx] at this
          exact this
      clear hc hnl' he hle hkx hb
      obtain ⟨W1, hW1⟩ : ∃ W1, wr.alloc (.cells #[.string ⟨#[]⟩, .bool false, .bool false, .string ⟨#[]⟩, .string ⟨#[]⟩] 41) = W1 := ⟨_, rfl⟩
      have x2 : Bx5 W1 wr.heap.size ⟨#[]⟩ ⟨false, false, ⟨#[]⟩, ⟨#[]⟩⟩ := by rw [← hW1]; exact World.alloc_heap_new wr _
      have hb1 : Below wr.heap.size wr W1 := by rw [← hW1]; exact (Below.refl _ wr).alloc (Nat.le_refl _) _
      have HX2 := hide x2
      have HB1 := hide hb1
      obtain ⟨c0, c1, c2, c3, c4⟩ := hch
      obtain ⟨e0, e1, e2, e3, e4⟩ := x2.cells
      have f0 := x2.frz 0
      have f1 := x2.frz 1
      have f2 := x2.frz 2
      have f3 := x2.frz 3
      have f4 := x2.frz 4
      simp only at c0 c1 c2 c3 c4 e0 e1 e2 e3 e4
      clear x2 hb1
      go_upto_region 5 with fail
      have q1 := HX2.out.all k x
      have HB2 := hide (((((HB1.out.setCell (p := ⟨wr.heap.size, 0, none⟩) (Nat.le_refl _) (.string k)).setCell (p := ⟨wr.heap.size, 1, none⟩) (Nat.le_refl _) (.bool x.had)).setCell (p := ⟨wr.heap.size, 2, none⟩) (Nat.le_refl _) (.bool x.has)).setCell (p := ⟨wr.heap.size, 3, none⟩) (Nat.le_refl _) (.string x.old)).setCell (p := ⟨wr.heap.size, 4, none⟩) (Nat.le_refl _) (.string x.new))
      clear c0 c1 c2 c3 c4 e0 e1 e2 e3 e4 f0 f1 f2 f3 f4 hW1 HX2 HB1
      generalize ((((W1.setCell ⟨wr.heap.size, 0, none⟩ (.string k)).setCell ⟨wr.heap.size, 1, none⟩ (.bool x.had)).setCell ⟨wr.heap.size, 2, none⟩ (.bool x.has)).setCell ⟨wr.heap.size, 3, none⟩ (.string x.old)).setCell ⟨wr.heap.size, 4, none⟩ (.string x.new) = V at *
      obtain ⟨c0, c1, c2, c3, c4⟩ := q1.cells
      clear q1
      go_cut [61] (fun u wx => u = .bool false ∧ ∃ nq, wx = V.drewN nq)
      case first =>
        obtain ⟨had, has, old, new⟩ := x
        have HNN := hide (ne_nil old)
        have HNM := hide (ne_nil new)
        have HON := hide (list_eq old new)
        simp only at c0 c1 c2 c3 c4
        rcases HPV.out with h0 | ⟨m, k0, hm1, d0, hlt0⟩
        · subst h0
          rcases HX.out with ⟨h1, h2, h3⟩ | ⟨h1, h2, h3⟩ | ⟨h1, h2, h3⟩
          · simp only at h1 h2 h3
            subst h1
            subst h2
            have hon : (old.toList == new.toList) = false := by rw [HON.out]; simp [h3]
            clear HX HNN HNM HON h3
            go_quiet (fail)
            go_wp2_with fail
            go_meet
            exact ⟨rfl, _, rfl⟩
          · simp only at h1 h2 h3
            subst h1
            subst h2
            subst h3
            clear HX HNN HNM HON
            go_quiet (fail)
            go_wp2_with fail
            go_meet
            exact ⟨rfl, _, rfl⟩
          · simp only at h1 h2 h3
            subst h1
            subst h2
            subst h3
            clear HX HNN HNM HON
            go_quiet (fail)
            go_wp2_with fail
            go_meet
            exact ⟨rfl, _, rfl⟩
        · have hpos : 0 < q := by omega
          have hpd : decide (0 < q) = true := decide_eq_true hpos
          have hwm : IntKind.i64.wrap ((q : Int) - 1) = (m : Int) := by rw [IntKind.wrap_i64]; omega
          have i0 : (0 : Int) ≤ (m : Int) := by omega
          have i1 : (m : Int) < (n : Int) := by omega
          have d1 := cell_bel HB2.out d0
          have hA : Op.bytesLess k.toList k0.toList = false := ltK_asymm hlt0
          have hne : ¬ k = k0 := fun e => ltK_ne hlt0 e.symm
          have hB : (k.toList == k0.toList) = false := by rw [list_eq]; simp [hne]
          clear d0 hlt0 hm1 hne
          rcases HX.out with ⟨h1, h2, h3⟩ | ⟨h1, h2, h3⟩ | ⟨h1, h2, h3⟩
          · simp only at h1 h2 h3
            subst h1
            subst h2
            have hon : (old.toList == new.toList) = false := by rw [HON.out]; simp [h3]
            clear HX HNN HNM HON h3
            go_quiet (fail)
            go_wp2_with fail
            go_meet
            exact ⟨rfl, _, rfl⟩
          · simp only at h1 h2 h3
            subst h1
            subst h2
            subst h3
            clear HX HNN HNM HON
            go_quiet (fail)
            go_wp2_with fail
            go_meet
            exact ⟨rfl, _, rfl⟩
          · simp only at h1 h2 h3
            subst h1
            subst h2
            subst h3
            clear HX HNN HNM HON
            go_quiet (fail)
            go_wp2_with fail
            go_meet
            exact ⟨rfl, _, rfl⟩
      case rest =>
        obtain ⟨rfl, nq, rfl⟩ := hcut
        have HBF := hide (below_drewN2 (Below.next HB.out HB2.out) nq)
        clear c0 c1 c2 c3 c4 HB2
        go_wp2
        go_roundw
        case rel => exact ⟨q + 1, HLT.out, by go_num, HBF.out⟩
        case measure => have := HLT.out; simp [intOf]; omega
    · obtain rfl : q = n := by omega
      go_wp2
      rw [HQ.out]
      refine ⟨rfl, HB.out⟩
end Go.Proofs.YtkdmocnjpajfkaaDoor
