import Derived.Test.YtdieacdkomiooaaDoorChFn
namespace Go.Proofs.YtdieacdkomiooaaDoor
open Go.RowKit Go.Maps

/-- What may's outer loop holds at i: no earlier place is the one that serves. -/
def Left1 (now : ByteArray) (s : Int) (pend : List Sec) (l : List Fate) (i : Nat) : Prop :=
  ∃ j, ∃ h : j < pend.length, i ≤ j ∧ pend[j].ix = s ∧ (now = pend[j].dat ∨ ∃ k, ∃ h' : k < l.length, l[k].ix = (j : Int) ∧ l[k].kind = 3 ∧ now = tornB pend[j].dat l[k])
/-- The inner loop's, at k: either the place is a later one, or a later fate serves. -/
def Left2 (now : ByteArray) (s : Int) (pend : List Sec) (l : List Fate) (i k : Nat) (dat : ByteArray) : Prop :=
  Left1 now s pend l (i + 1) ∨ ∃ m, ∃ h' : m < l.length, k ≤ m ∧ l[m].ix = (i : Int) ∧ l[m].kind = 3 ∧ now = tornB dat l[m]
theorem tl_ne {a b : ByteArray} (h : ¬ a = b) : (a.toList == b.toList) = false := by
  rw [beq_eq_false_iff_ne]
  intro he
  rw [ByteArray.toList_eq, ByteArray.toList_eq] at he
  exact h (bl_inj he)
theorem Left1.skip {now : ByteArray} {s : Int} {pend : List Sec} {l : List Fate} {i : Nat} (hi : i < pend.length) (h : Left1 now s pend l i) (hn : pend[i].ix ≠ s) : Left1 now s pend l (i + 1) := by
  obtain ⟨j, hj, hij, he, hr⟩ := h
  refine ⟨j, hj, ?_, he, hr⟩
  rcases (show i = j ∨ i + 1 ≤ j by omega) with h | h
  · subst h; exact absurd he hn
  · exact h
theorem Left1.into {now : ByteArray} {s : Int} {pend : List Sec} {l : List Fate} {i : Nat} (hi : i < pend.length) (h : Left1 now s pend l i) (hn : now ≠ pend[i].dat) : Left2 now s pend l i 0 pend[i].dat := by
  obtain ⟨j, hj, hij, he, hr⟩ := h
  rcases (show i = j ∨ i + 1 ≤ j by omega) with h | h
  · subst h
    rcases hr with h | ⟨k, hk, h1, h2, h3⟩
    · exact absurd h hn
    · exact .inr ⟨k, hk, Nat.zero_le _, h1, h2, h3⟩
  · exact .inl ⟨j, hj, h, he, hr⟩
theorem Left2.skip {now : ByteArray} {s : Int} {pend : List Sec} {l : List Fate} {i k : Nat} {dat : ByteArray} (hk : k < l.length) (h : Left2 now s pend l i k dat) (hn : ¬ (l[k].ix = (i : Int) ∧ l[k].kind = 3 ∧ now = tornB dat l[k])) : Left2 now s pend l i (k + 1) dat := by
  rcases h with h | ⟨m, hm, hkm, hr⟩
  · exact .inl h
  · refine .inr ⟨m, hm, ?_, hr⟩
    rcases (show k = m ∨ k + 1 ≤ m by omega) with h | h
    · subst h; exact absurd hr hn
    · exact h
theorem Left2.out {now : ByteArray} {s : Int} {pend : List Sec} {l : List Fate} {i k : Nat} {dat : ByteArray} (hk : l.length ≤ k) (h : Left2 now s pend l i k dat) : Left1 now s pend l (i + 1) := by
  rcases h with h | ⟨m, hm, hkm, _⟩
  · exact h
  · omega

set_option maxRecDepth 100000 in
set_option maxHeartbeats 3200000 in
theorem may_any (now old : ByteArray) (s : Int) (pend : List Sec) (pv : Value) (l : List Fate) (lv : Value) (w : World) (hp : SecsIn w pv pend) (hps : ∀ x ∈ pend, x.dat.size = 512) (hl : FatesIn w lv l) (hlj : ∀ f ∈ l, f.junk.size ≤ 1048576) (hm : Mays now old s pend l) :
    Calls Tryd.prog 29 #[.string now, .string old, .int .i64 s, pv, lv] w fun e w' => e = .returned (.bool true) ∧ Below w.heap.size w w' := by
  obtain ⟨pa, pc, pg, poff, rfl, hpl, hpa, hpc⟩ := hp.cells
  obtain ⟨la, lc, lg, loff, rfl, hll, hla, hlc⟩ := hl.cells
  obtain ⟨P, hP⟩ : ∃ P, P = pend.length := ⟨_, rfl⟩
  obtain ⟨L, hL⟩ : ∃ L, L = l.length := ⟨_, rfl⟩
  have HP : Hid (P = pend.length) := hP
  have HL : Hid (L = l.length) := hL
  have HPC : Hid (∀ i (h : i < pend.length), w.cell? ⟨pg, poff + i * 2, none⟩ = some (.int .i64 pend[i].ix) ∧ w.cell? ⟨pg, poff + i * 2 + 1, none⟩ = some (.string pend[i].dat)) := hpc
  have HLC : Hid (∀ i (h : i < l.length), w.cell? ⟨lg, loff + i * 4, none⟩ = some (.int .i64 l[i].ix) ∧ w.cell? ⟨lg, loff + i * 4 + 1, none⟩ = some (.int .i64 l[i].kind) ∧ w.cell? ⟨lg, loff + i * 4 + 2, none⟩ = some (.int .i64 l[i].cut) ∧ w.cell? ⟨lg, loff + i * 4 + 3, none⟩ = some (.string l[i].junk)) := hlc
  have HPS : Hid (∀ i (h : i < pend.length), pend[i].dat.size = 512) := fun i h => hps _ (List.getElem_mem h)
  have HLJ : Hid (∀ i (h : i < l.length), l[i].junk.size ≤ 1048576) := fun i h => hlj _ (List.getElem_mem h)
  rw [← hP] at hpl hpa ⊢
  rw [← hL] at hll hla ⊢
  clear hpc hlc hps hlj hP hL hp hl
  go_enter Tryd.func29, Tryd.ntmps29
  by_cases hno : now = old
  · subst hno
    go_wp2_with fail
    go_ret
    exact ⟨rfl, Below.refl _ _⟩
  · have HM : Hid (Left1 now s pend l 0) := by
      rcases hm with h | ⟨j, hj, h1, h2⟩
      · exact absurd h hno
      · exact ⟨j, hj, Nat.zero_le _, h1, h2⟩
    have t1 : (now.toList == old.toList) = false := tl_ne hno
    clear hm hno
    go_wp2_with fail
    go_loopw [11] (fun i wr => ∃ k : Nat, k ≤ P ∧ i = .int .i64 (k : Int) ∧ Left1 now s pend l k ∧ Below w.heap.size w wr) (fun i _ => P - (intOf i).toNat)
    case atStart => exact ⟨0, Nat.zero_le _, rfl, HM.out, Below.refl _ _⟩
    case round =>
      obtain ⟨i, hi, rfl, hleft, hbel⟩ := hrel
      have HLE : Hid (Left1 now s pend l i) := hleft
      have HBE : Hid (Below w.heap.size w wr) := hbel
      clear hleft hbel HM t1
      by_cases hlt : i < P
      · obtain rfl := hpa (by omega)
        have hil : i < pend.length := by rw [← HP.out]; exact hlt
        obtain ⟨c0, c1⟩ := HPC.out i hil
        have cw1 := c1
        have c0 := cell_below HBE.out c0
        have c1 := cell_below HBE.out c1
        have i0 : (0 : Int) ≤ (i : Int) := Int.natCast_nonneg _
        have i1 : (i : Int) < (P : Int) := by omega
        have HSK : Hid (pend[i].ix ≠ s → Left1 now s pend l (i + 1)) := fun h => HLE.out.skip hil h
        have HIN : Hid (now ≠ pend[i].dat → Left2 now s pend l i 0 pend[i].dat) := fun h => HLE.out.into hil h
        have hds := HPS.out i hil
        generalize pend[i].ix = xi at *
        generalize pend[i].dat = xd at *
        by_cases hx : xi = s
        · subst hx
          by_cases hn : now = xd
          · subst hn
            go_wp2_with fail
            go_ret
            exact ⟨rfl, HBE.out⟩
          · have HI2 : Hid (Left2 now xi pend l i 0 xd) := HIN.out hn
            have t1 : (now.toList == xd.toList) = false := tl_ne hn
            have HPD : Hid (w.cell? ⟨pg, poff + i * 2 + 1, none⟩ = some (.string xd)) := cw1
            clear HSK HIN HLE cw1
            go_wp2_with fail
            go_loopw [12] (fun k wr => ∃ m : Nat, m ≤ L ∧ k = .int .i64 (m : Int) ∧ Left2 now xi pend l i m xd ∧ Below w.heap.size w wr) (fun k _ => L - (intOf k).toNat)
            case atStart => exact ⟨0, Nat.zero_le _, rfl, HI2.out, HBE.out⟩
            case round =>
              obtain ⟨m, hm, rfl, hleft2, hbel2⟩ := hrel
              have HLE2 : Hid (Left2 now xi pend l i m xd) := hleft2
              have HBE2 : Hid (Below w.heap.size w wr) := hbel2
              clear hleft2 hbel2 HI2 t1 c0 c1
              by_cases hlm : m < L
              · obtain rfl := hla (by omega)
                have hml : m < l.length := by rw [← HL.out]; exact hlm
                obtain ⟨f0, f1, f2, f3⟩ := HLC.out m hml
                have f0 := cell_below HBE2.out f0
                have f1 := cell_below HBE2.out f1
                have f2 := cell_below HBE2.out f2
                have f3 := cell_below HBE2.out f3
                have c1 := cell_below HBE2.out (HPD.out)
                have m0 : (0 : Int) ≤ (m : Int) := Int.natCast_nonneg _
                have m1 : (m : Int) < (L : Int) := by omega
                have HSK : Hid (¬ (l[m].ix = (i : Int) ∧ l[m].kind = 3 ∧ now = tornB xd l[m]) → Left2 now xi pend l i (m + 1) xd) := fun h => HLE2.out.skip hml h
                have HTN : Hid (∀ w', Calls Tryd.prog 32 #[.string xd, .agg #[.int .i64 l[m].ix, .int .i64 l[m].kind, .int .i64 l[m].cut, .string l[m].junk]] w' fun e w'' => e = .returned (.string (tornB xd l[m])) ∧ Below w'.heap.size w' w'') := fun w' => ltorn_any xd l[m] w' hds (HLJ.out m hml)
                generalize tornB xd l[m] = TB at *
                generalize l[m].ix = yi at *
                generalize l[m].kind = yk at *
                generalize l[m].cut = yc at *
                generalize l[m].junk = yj at *
                by_cases h1 : yi = (i : Int)
                · subst h1
                  by_cases h2 : yk = 3
                  · subst h2
                    by_cases h3 : now = TB
                    · subst h3
                      go_wp2_with fail
                      go_region_held (fun w' => w'.cell? ⟨lg, loff + m * 4, none⟩ = some (.int .i64 (i : Int)) ∧ w'.cell? ⟨lg, loff + m * 4 + 1, none⟩ = some (.int .i64 3) ∧ w'.cell? ⟨lg, loff + m * 4 + 2, none⟩ = some (.int .i64 yc) ∧ w'.cell? ⟨lg, loff + m * 4 + 3, none⟩ = some (.string yj) ∧ w'.cell? ⟨pg, poff + i * 2 + 1, none⟩ = some (.string xd)) (go_keep)
                        (first
                          | (go_at_call 32; refine (HTN.out _).mono ?_; rintro e w1 ⟨rfl, hbd⟩; have hb1 := undrew hbd; have k0 := cell_below hb1 f0; have k1 := cell_below hb1 f1; have k2 := cell_below hb1 f2; have k3 := cell_below hb1 f3; have k4 := cell_below hb1 c1; clear hbd))
                      have HR : Hid (Below w.heap.size w w1) := Below.next HBE2.out hb1
                      clear hb1 k0 k1 k2 k3 k4
                      go_wp2_with fail
                      go_ret
                      exact ⟨rfl, HR.out⟩
                    · have HNX : Hid (Left2 now xi pend l i (m + 1) xd) := HSK.out (fun h => h3 h.2.2)
                      have t3 : (now.toList == TB.toList) = false := tl_ne h3
                      go_wp2_with fail
                      go_region_held (fun w' => w'.cell? ⟨lg, loff + m * 4, none⟩ = some (.int .i64 (i : Int)) ∧ w'.cell? ⟨lg, loff + m * 4 + 1, none⟩ = some (.int .i64 3) ∧ w'.cell? ⟨lg, loff + m * 4 + 2, none⟩ = some (.int .i64 yc) ∧ w'.cell? ⟨lg, loff + m * 4 + 3, none⟩ = some (.string yj) ∧ w'.cell? ⟨pg, poff + i * 2 + 1, none⟩ = some (.string xd)) (go_keep)
                        (first
                          | (go_at_call 32; refine (HTN.out _).mono ?_; rintro e w1 ⟨rfl, hbd⟩; have hb1 := undrew hbd; have k0 := cell_below hb1 f0; have k1 := cell_below hb1 f1; have k2 := cell_below hb1 f2; have k3 := cell_below hb1 f3; have k4 := cell_below hb1 c1; clear hbd))
                      have HR : Hid (Below w.heap.size w w1) := Below.next HBE2.out hb1
                      clear hb1 k0 k1 k2 k3 k4
                      go_wp2_with fail
                      go_roundw
                      case rel => exact ⟨m + 1, by omega, by go_num, HNX.out, HR.out⟩
                      case measure => simp [intOf]; omega
                  · have HNX : Hid (Left2 now xi pend l i (m + 1) xd) := HSK.out (fun h => h2 h.2.1)
                    have t3 : (yk == 3) = false := by simp [h2]
                    have t4 : decide (yk = 3) = false := decide_eq_false h2
                    go_wp2_with fail
                    go_quiet (fail)
                    go_wp2_with fail
                    go_roundw
                    case rel => exact ⟨m + 1, by omega, by go_num, HNX.out, below_drewN HBE2.out _⟩
                    case measure => simp [intOf]; omega
                · have HNX : Hid (Left2 now xi pend l i (m + 1) xd) := HSK.out (fun h => h1 h.1)
                  have t3 : (yi == (i : Int)) = false := by simp [h1]
                  have t4 : decide (yi = (i : Int)) = false := decide_eq_false h1
                  go_wp2_with fail
                  go_quiet (fail)
                  go_wp2_with fail
                  go_roundw
                  case rel => exact ⟨m + 1, by omega, by go_num, HNX.out, below_drewN HBE2.out _⟩
                  case measure => simp [intOf]; omega
              · have HNX : Hid (Left1 now xi pend l (i + 1)) := HLE2.out.out (by have := HL.out; omega)
                go_wp2_with fail
                go_roundw
                case rel => exact ⟨i + 1, by omega, by go_num, HNX.out, HBE2.out⟩
                case measure => simp [intOf]; omega
        · have HNX : Hid (Left1 now s pend l (i + 1)) := HSK.out hx
          have t1 : (xi == s) = false := by simp [hx]
          have t2 : decide (xi = s) = false := decide_eq_false hx
          have t3 : (xi != s) = true := by simp [hx]
          clear HSK HIN HLE cw1
          go_wp2_with fail
          go_roundw
          case rel => exact ⟨i + 1, by omega, by go_num, HNX.out, HBE.out⟩
          case measure => simp [intOf]; omega
      · exfalso
        obtain ⟨j, hj, hij, _⟩ := HLE.out
        have := HP.out
        omega

end Go.Proofs.YtdieacdkomiooaaDoor
