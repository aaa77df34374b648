import Derived.Test.YtdieacdkomiooaaDoorStand
namespace Go.Proofs.YtdieacdkomiooaaDoor
open Go.RowKit Go.Maps

/-- What may's answer is true for. -/
def Mays (now old : ByteArray) (s : Int) (pend : List Sec) (l : List Fate) : Prop :=
  now = old ∨ ∃ j, ∃ h : j < pend.length, pend[j].ix = s ∧ (now = pend[j].dat ∨ ∃ k, ∃ h' : k < l.length, l[k].ix = (j : Int) ∧ l[k].kind = 3 ∧ now = tornB pend[j].dat l[k])

theorem settle_may (i : Int) (pend : List Sec) (hp : ∀ x ∈ pend, x.dat.size = 512) : ∀ (l : List Fate) (seen : List Int) (dur : List Sec),
    lasting (settleD pend seen dur l) i = lasting dur i ∨ ∃ j, ∃ h : j < pend.length, pend[j].ix = i ∧ (lasting (settleD pend seen dur l) i = pend[j].dat ∨ ∃ f ∈ l, f.ix = (j : Int) ∧ f.kind = 3 ∧ lasting (settleD pend seen dur l) i = tornB pend[j].dat f)
  | [], _, _ => .inl rfl
  | f :: r, seen, dur => by
    unfold settleD
    split
    · rcases settle_may i pend hp r seen dur with h | ⟨j, h, h1, h2 | ⟨g, hg, h3⟩⟩
      · exact .inl h
      · exact .inr ⟨j, h, h1, .inl h2⟩
      · exact .inr ⟨j, h, h1, .inr ⟨g, by simp [hg], h3⟩⟩
    · rename_i hn
      rcases settle_may i pend hp r (f.ix :: seen) (meetD pend dur f) with h | ⟨j, h, h1, h2 | ⟨g, hg, h3⟩⟩
      · rw [h]
        have hlt : f.ix.toNat < pend.length := by omega
        have hix : f.ix = ((f.ix.toNat : Nat) : Int) := by omega
        unfold meetD
        rw [List.getElem?_eq_getElem hlt]
        simp only []
        have hs := hp _ (List.getElem_mem hlt)
        by_cases h2 : f.kind = 2
        · rw [if_pos h2, lasting_set _ _ _ _ hs]
          by_cases hx : pend[f.ix.toNat].ix = i
          · rw [if_pos hx]; exact .inr ⟨_, hlt, hx, .inl rfl⟩
          · rw [if_neg hx]; exact .inl rfl
        · rw [if_neg h2]
          by_cases h3 : f.kind = 3
          · rw [if_pos h3, lasting_set _ _ _ _ (tornB_size _ _)]
            by_cases hx : pend[f.ix.toNat].ix = i
            · rw [if_pos hx]; exact .inr ⟨_, hlt, hx, .inr ⟨f, by simp, hix, h3, rfl⟩⟩
            · rw [if_neg hx]; exact .inl rfl
          · rw [if_neg h3]; exact .inl rfl
      · exact .inr ⟨j, h, h1, .inl h2⟩
      · exact .inr ⟨j, h, h1, .inr ⟨g, by simp [hg], h3⟩⟩
theorem crash_may (d : Dev) (hok : d.Ok) (hd : d.dead = false) (l : List Fate) (i : Int) : Mays (lasting (d.crash l).dur i) (lasting d.dur i) i d.pend l := by
  have hc : (d.crash l).dur = settleD d.pend [] d.dur l := by simp [Dev.crash, hd, Dev.kill]
  rw [hc]
  rcases settle_may i d.pend (fun x hx => (hok.pend x hx).len) l [] d.dur with h | ⟨j, h, h1, h2 | ⟨f, hf, h3⟩⟩
  · exact .inl h
  · exact .inr ⟨j, h, h1, .inl h2⟩
  · obtain ⟨k, hk, rfl⟩ := List.getElem_of_mem hf
    exact .inr ⟨j, h, h1, .inr ⟨k, hk, h3⟩⟩
theorem zsec_reps : zsec = mkb (reps 512 0) := rfl
theorem chunk0 {w : World} {n g cap : Nat} (h : w.ownsRow n 5 1 (.slice (some ⟨g, 0, none⟩) 512 cap) 512 (u8s (reps 512 0))) (m : Nat) : (convert 48 9 (.slice (some ⟨g, 0, none⟩) 512 cap)).run Tryd.prog (w.drewN m) = .ok (.string zsec) (w.drewN m) := by
  have h' := chunk_cells (w := w.drewN m) (g := g) (l := reps 512 0) (fun j hj => by
    have := owns_cell h rfl j _ (u8s_get _ j hj)
    exact this) 0 (by rw [reps_len]; omega) cap
  rw [Nat.zero_mul, List.drop_zero, List.take_of_length_le (by rw [reps_len]; omega), ← zsec_reps] at h'
  exact h'
theorem SecsIn.cells {w : World} {v : Value} {l : List Sec} (h : SecsIn w v l) : ∃ a cap g off, v = .slice a l.length cap ∧ l.length ≤ 5864062014805 ∧ (0 < l.length → a = some ⟨g, off, none⟩) ∧ ∀ i (h : i < l.length), w.cell? ⟨g, off + i * 2, none⟩ = some (.int .i64 l[i].ix) ∧ w.cell? ⟨g, off + i * 2 + 1, none⟩ = some (.string l[i].dat) := by
  obtain ⟨a, cap, g, off, h1, h2, h3, h4⟩ := h
  exact ⟨a, cap, g, off, h1, h2, h3, fun i hi => ⟨h4 _ _ (secCells_get l i hi).1, h4 _ _ (secCells_get l i hi).2⟩⟩
theorem FatesIn.cells {w : World} {v : Value} {l : List Fate} (h : FatesIn w v l) : ∃ a cap g off, v = .slice a l.length cap ∧ l.length ≤ 3518437208883 ∧ (0 < l.length → a = some ⟨g, off, none⟩) ∧ ∀ i (h : i < l.length), w.cell? ⟨g, off + i * 4, none⟩ = some (.int .i64 l[i].ix) ∧ w.cell? ⟨g, off + i * 4 + 1, none⟩ = some (.int .i64 l[i].kind) ∧ w.cell? ⟨g, off + i * 4 + 2, none⟩ = some (.int .i64 l[i].cut) ∧ w.cell? ⟨g, off + i * 4 + 3, none⟩ = some (.string l[i].junk) := by
  obtain ⟨a, cap, g, off, h1, h2, h3, h4⟩ := h
  exact ⟨a, cap, g, off, h1, h2, h3, fun i hi => ⟨h4 _ _ (fateCells_get l i hi).1, h4 _ _ (fateCells_get l i hi).2.1, h4 _ _ (fateCells_get l i hi).2.2.1, h4 _ _ (fateCells_get l i hi).2.2.2⟩⟩
theorem lasting_take (l : List Sec) (s : Int) (k : Nat) (hk : k < l.length) (h : ∀ i (hi : i < l.length), i < k → l[i].ix ≠ s) (he : l[k].ix = s) : lasting l s = l[k].dat := by
  have : l.find? (fun x => decide (x.ix = s)) = some l[k] := by
    rw [List.find?_eq_some_iff_getElem]
    exact ⟨by simp [he], k, hk, rfl, fun j hj => by simp [h j (by omega) hj]⟩
  unfold lasting
  rw [this]
theorem lasting_none (l : List Sec) (s : Int) (h : ∀ i (hi : i < l.length), l[i].ix ≠ s) : lasting l s = zsec := by
  have : l.find? (fun x => decide (x.ix = s)) = none := by
    rw [List.find?_eq_none]
    intro x hx
    obtain ⟨i, hi, rfl⟩ := List.getElem_of_mem hx
    simp [h i hi]
  unfold lasting
  rw [this]

set_option maxRecDepth 100000 in
set_option maxHeartbeats 800000 in
theorem ldur_any (l : List Sec) (v : Value) (s : Int) (w : World) (hv : SecsIn w v l) :
    Calls Tryd.prog 30 #[v, .int .i64 s] w fun e w' => e = .returned (.string (lasting l s)) ∧ Below w.heap.size w w' := by
  obtain ⟨a, cap, g, off, rfl, hl, ha, hc⟩ := hv.cells
  obtain ⟨n, hn⟩ : ∃ n, n = l.length := ⟨_, rfl⟩
  have HC : Hid (∀ i (h : i < l.length), w.cell? ⟨g, off + i * 2, none⟩ = some (.int .i64 l[i].ix) ∧ w.cell? ⟨g, off + i * 2 + 1, none⟩ = some (.string l[i].dat)) := hc
  have HL : Hid (∀ k (hk : k < l.length), (∀ i (hi : i < l.length), i < k → l[i].ix ≠ s) → l[k].ix = s → lasting l s = l[k].dat) := lasting_take l s
  have HZ : Hid ((∀ i (hi : i < l.length), l[i].ix ≠ s) → lasting l s = zsec) := lasting_none l s
  have HN : Hid (n = l.length) := hn
  rw [← hn] at hl ha ⊢
  clear hc hn
  go_enter Tryd.func30, Tryd.ntmps30
  go_wp2_with fail
  go_loopw [5] (fun i wr => ∃ k : Nat, k ≤ n ∧ i = .int .i64 (k : Int) ∧ (∀ i (hi : i < l.length), i < k → l[i].ix ≠ s) ∧ w = wr) (fun i _ => n - (intOf i).toNat)
  case atStart => exact ⟨0, Nat.zero_le _, rfl, fun i _ h => by omega, rfl⟩
  case round =>
    obtain ⟨k, hk, rfl, hno, rfl⟩ := hrel
    have HNO : Hid (∀ i (hi : i < l.length), i < k → l[i].ix ≠ s) := hno
    clear hno
    by_cases hlt : k < n
    · obtain rfl := ha (by omega)
      have hkl : k < l.length := by rw [← HN.out]; exact hlt
      obtain ⟨c0, c1⟩ := HC.out k hkl
      have HK : Hid (l[k].ix = s → lasting l s = l[k].dat) := fun h => HL.out k hkl HNO.out h
      have HK2 : Hid (l[k].ix ≠ s → ∀ i (hi : i < l.length), i < k + 1 → l[i].ix ≠ s) := fun h i hi hik => by
        rcases (show i < k ∨ i = k by omega) with h' | h'
        · exact HNO.out i hi h'
        · subst h'; exact h
      have k0 : (0 : Int) ≤ (k : Int) := Int.natCast_nonneg _
      have k1 : (k : Int) < (n : Int) := by omega
      generalize l[k].ix = xi at *
      generalize l[k].dat = xd at *
      by_cases hx : xi = s
      · have HR : Hid (lasting l s = xd) := HK.out hx
        subst hx
        clear HK HK2
        go_wp2_with fail
        go_ret
        exact ⟨ret_str HR.out.symm, Below.refl _ _⟩
      · have HR : Hid (∀ i (hi : i < l.length), i < k + 1 → l[i].ix ≠ s) := HK2.out hx
        have t1 : (xi == s) = false := by simp [hx]
        have t2 : decide (xi = s) = false := decide_eq_false hx
        clear HK HK2
        go_wp2_with fail
        go_roundw
        case rel => exact ⟨k + 1, by omega, by go_num, HR.out, (by first | rfl | trivial)⟩
        case measure => simp [intOf]; omega
    · have HR : Hid (lasting l s = zsec) := HZ.out (fun i hi => HNO.out i hi (by have := HN.out; omega))
      go_wp2_with fail
      refine (fill_any 0 0 rfl w).mono ?_
      rintro e w1 ⟨vz, rfl, hvz, hb1⟩
      obtain ⟨va, vc, rfl, hva⟩ := owns_form hvz
      obtain ⟨gz, rfl⟩ := hva (by decide)
      have hcv : (convert 48 9 (.slice (some ⟨gz, 0, none⟩) 512 vc)).run Tryd.prog w1 = .ok (.string zsec) w1 := chunk0 hvz 0
      have HB : Hid (Below w.heap.size w w1) := hb1
      clear hvz hva hb1
      go_wp2_with fail
      go_ret
      exact ⟨ret_str HR.out.symm, HB.out⟩

end Go.Proofs.YtdieacdkomiooaaDoor
