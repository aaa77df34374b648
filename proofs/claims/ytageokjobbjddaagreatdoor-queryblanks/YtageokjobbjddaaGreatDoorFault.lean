import Derived.Test.YtageokjobbjddaaGreatDoorFit
namespace Go.Proofs.YtageokjobbjddaaGreatDoor
open Go.RowKit

def firstF (f : It → Nat) : List It → Nat
  | [] => 0
  | x :: r => if f x = 0 then firstF f r else f x
def oneF (rec : List It → Nat) (x : It) : Nat := if fits x = false then 1 else if x.kind = 5 then rec x.list else 0
/-- The fault of a list within which r lists may lie in one another: 0: none. -/
def faultR : Nat → List It → Nat
  | 0, l => if 16 < l.length then 3 else firstF (oneF fun _ => 3) l
  | r + 1, l => if 16 < l.length then 3 else firstF (oneF (faultR r)) l
theorem firstF_take (f : It → Nat) (l : List It) (j : Nat) (hj : j < l.length) (h : firstF f (l.take j) = 0) : firstF f (l.take (j + 1)) = f l[j] := by
  induction l generalizing j with
  | nil => simp at hj
  | cons x r ih =>
    cases j with
    | zero => simp [firstF]; intro h; exact h.symm
    | succ j =>
      simp only [List.take_succ_cons, firstF] at h ⊢
      split at h
      · rename_i h0
        simp only [List.getElem_cons_succ]
        rw [if_pos h0]; exact ih j (by simpa using hj) h
      · exact absurd h ‹_›
theorem firstF_stop (f : It → Nat) (l : List It) (j : Nat) (hj : j < l.length) (h : firstF f (l.take j) = 0) (hx : f l[j] ≠ 0) : firstF f l = f l[j] := by
  induction l generalizing j with
  | nil => simp at hj
  | cons x r ih =>
    cases j with
    | zero => simp only [List.getElem_cons_zero] at hx ⊢; simp [firstF, hx]
    | succ j =>
      simp only [List.take_succ_cons, firstF] at h ⊢
      split at h
      · rename_i h0
        simp only [List.getElem_cons_succ] at hx ⊢
        rw [if_pos h0]; exact ih j (by simpa using hj) h hx
      · exact absurd h ‹_›

/-- Two of the refusals lie in their variables. -/
structure Errs2 (aA aM : Addr) (w : World) : Prop where
  arg : w.cell? ⟨2, 0, none⟩ = some (.iface 166 (.pointer (some aA)))
  many : w.cell? ⟨0, 0, none⟩ = some (.iface 166 (.pointer (some aM)))
theorem Errs2.keep {aA aM : Addr} {w w' : World} (h : Errs2 aA aM w) (hb : Below w.heap.size w w') : Errs2 aA aM w' := ⟨cell_below hb h.arg, cell_below hb h.many⟩
def errOf (aA aM : Addr) (f : Nat) : Value := if f = 0 then .nilIface else if f = 1 then .iface 166 (.pointer (some aA)) else .iface 166 (.pointer (some aM))

set_option maxHeartbeats 1000000 in
theorem fault_step (aA aM : Addr) (rec : List It → Nat) (d : Int) (hd0 : 0 ≤ d) (hd4 : d ≤ 4)
    (ih : d < 4 → ∀ (l : List It) (v : Value) (w : World), ItsAt w anyB v l → Errs2 aA aM w → Calls Tryz.prog 50 #[v, .int .i64 (d + 1)] w fun e w' => e = .returned (errOf aA aM (rec l)) ∧ Below w.heap.size w w')
    (i4 : ¬ d < 4 → ∀ l, rec l = 3) (l : List It) (v : Value) (w : World) (hv : ItsAt w anyB v l) (he : Errs2 aA aM w) :
    Calls Tryz.prog 50 #[v, .int .i64 d] w fun e w' => e = .returned (errOf aA aM (if 16 < l.length then 3 else firstF (oneF rec) l)) ∧ Below w.heap.size w w' := by
  obtain ⟨a, g, off, cap, l, vs, hlen, ha, hok, h0, h1, h2, h3, hin⟩ := hv
  have e1 := he.arg
  have e2 := he.many
  by_cases h16 : 16 < l.length
  · rw [if_pos h16]
    clear ha hok h0 h1 h2 h3 hin ih i4
    go_enter Tryz.func50, Tryz.ntmps50
    go_wp2_with fail
    go_ret
    exact ⟨rfl, Below.refl _ _⟩
  · rw [if_neg h16]
    go_enter Tryz.func50, Tryz.ntmps50
    have IH : Hid (d < 4 → ∀ (l : List It) (v : Value) (w : World), ItsAt w anyB v l → Errs2 aA aM w → Calls Tryz.prog 50 #[v, .int .i64 (d + 1)] w fun e w' => e = .returned (errOf aA aM (rec l)) ∧ Below w.heap.size w w') := ih
    have I4 : Hid (¬ d < 4 → ∀ l, rec l = 3) := i4
    clear ih i4
    go_wp2_with fail
    go_loopw [14] (fun i wr => ∃ j : Nat, j ≤ l.length ∧ i = .int .i64 j ∧ firstF (oneF rec) (l.take j) = 0 ∧ Below w.heap.size w wr) (fun i _ => l.length - (intOf i).toNat)
    case atStart => exact ⟨0, Nat.zero_le _, rfl, rfl, Below.refl _ _⟩
    case round =>
      obtain ⟨j, hj, rfl, hfj, hbl⟩ := hrel
      have HFJ : Hid (firstF (oneF rec) (l.take j) = 0) := hfj
      clear hfj
      by_cases hlt : j < l.length
      · obtain ⟨rfl, -⟩ := ha (by omega)
        have c0 := cell_below hbl (h0 j hlt)
        have c1 := cell_below hbl (h1 j hlt)
        have c2 := cell_below hbl (h2 j hlt)
        have c3 := cell_below hbl (h3 j hlt)
        have ia := (hin j hlt).keep hbl
        have HS : Hid (oneF rec l[j] ≠ 0 → firstF (oneF rec) l = oneF rec l[j]) := fun h => firstF_stop _ l j hlt HFJ.out h
        have HN : Hid (oneF rec l[j] = 0 → firstF (oneF rec) (l.take (j + 1)) = 0) := fun h => by rw [firstF_take _ l j hlt HFJ.out, h]
        generalize l[j] = x at *
        generalize vs j = va at *
        obtain ⟨aa, ca, rfl⟩ := ia.form
        clear h0 h1 h2 h3 hin hok ha
        obtain ⟨f, hf⟩ : ∃ f, f = fits x := ⟨_, rfl⟩
        have FF : Hid (∀ w', Calls Tryz.prog 76 #[.agg #[.int .i64 x.kind, .int .i64 x.num, .string x.text, .slice aa x.list.length ca]] w' fun e w'' => e = .returned (.bool f) ∧ Below w'.heap.size w' w'') := fun w' => by
          rw [hf]; exact fieldsFit_any _ _ _ _ _ _ w'
        have HO : Hid (oneF rec x = if f = false then 1 else if x.kind = 5 then rec x.list else 0) := by
          show oneF rec x = _
          rw [hf]; rfl
        clear hf
        have j0 : (0 : Int) ≤ (j : Int) := Int.natCast_nonneg _
        have j1 : (j : Int) < (l.length : Int) := by omega
        have b1 := below_new wr (.cells #[.int .i64 x.kind, .int .i64 x.num, .string x.text, .slice aa x.list.length ca] 32)
        have x1 := boxed_new wr #[.int .i64 x.kind, .int .i64 x.num, .string x.text, .slice aa x.list.length ca] 32
        have B1 : Hid (Below wr.heap.size wr (wr.alloc (.cells #[.int .i64 x.kind, .int .i64 x.num, .string x.text, .slice aa x.list.length ca] 32)) ∧ Boxed wr.heap.size #[.int .i64 x.kind, .int .i64 x.num, .string x.text, .slice aa x.list.length ca].toList (wr.alloc (.cells #[.int .i64 x.kind, .int .i64 x.num, .string x.text, .slice aa x.list.length ca] 32))) := ⟨b1, x1⟩
        clear b1 x1
        generalize x.kind = xk at *
        generalize x.num = xn at *
        generalize x.text = xt at *
        generalize x.list = xl at *
        go_wp2_with fail
        obtain ⟨b1, x1⟩ := B1.out
        clear B1
        generalize wr.alloc (.cells #[.int .i64 xk, .int .i64 xn, .string xt, .slice aa xl.length ca] 32) = W1 at *
        refine (FF.out _).mono ?_
        rintro e w2 ⟨rfl, hb2⟩
        have hbw : Below wr.heap.size wr w2 := Below.next b1 hb2
        have x2 := x1.keep hb2
        have k0 : w2.cell? ⟨wr.heap.size, 0, none⟩ = some (.int .i64 xk) := x2.2 0 (by simp)
        have k3 : w2.cell? ⟨wr.heap.size, 3, none⟩ = some (.slice aa xl.length ca) := x2.2 3 (by simp)
        have HB : Hid (Below w.heap.size w w2) := Below.next hbl hbw
        have he2 := he.keep HB.out
        have q1 := he2.arg
        have q2 := he2.many
        have il : ItsAt w2 anyB (.slice aa xl.length ca) xl := ia.keep hbw
        clear b1 x1 hb2 hbw x2 hbl ia c0 c1 c2 c3 e1 e2 he FF
        cases f
        · have HE : Hid (firstF (oneF rec) l = 1) := by
            have h1 := HO.out
            simp only [if_pos] at h1
            show _ = 1
            rw [HS.out (by rw [h1]; decide), h1]
          clear HS HN HO
          go_wp2_with fail
          go_ret
          exact ⟨by rw [HE.out]; rfl, HB.out⟩
        · by_cases hk5 : xk = 5
          · subst hk5
            have HO2 : Hid (oneF rec x = rec xl) := by have h := HO.out; show oneF rec x = rec xl; simpa using h
            clear HO
            by_cases hd : d < 4
            · have hw : IntKind.i64.wrap (d + 1) = d + 1 := wrap_i64 _ (by omega) (by omega)
              go_wp2_with fail
              refine (IH.out hd _ _ _ il he2).mono ?_
              rintro e w3 ⟨rfl, hb3⟩
              have HB3 : Hid (Below w.heap.size w w3) := Below.next HB.out hb3
              clear HB hb3
              by_cases hr : rec xl = 0
              · have HE : Hid (errOf aA aM (rec xl) = .nilIface) := by show errOf _ _ _ = _; rw [hr]; rfl
                have HQ : Hid (firstF (oneF rec) (l.take (j + 1)) = 0) := HN.out (by rw [HO2.out, hr])
                rw [HE.out]
                clear HE HS HN HO2 hr
                go_wp2_with fail
                go_roundw
                case rel => exact ⟨j + 1, by omega, by go_num, HQ.out, HB3.out⟩
                case measure => simp [intOf]; omega
              · have HQ : Hid (firstF (oneF rec) l = rec xl) := by
                  show _ = _
                  rw [HS.out (by rw [HO2.out]; exact hr), HO2.out]
                obtain ⟨aE, hE⟩ : ∃ aE, errOf aA aM (rec xl) = .iface 166 (.pointer (some aE)) := by
                  unfold errOf
                  rw [if_neg hr]
                  split
                  · exact ⟨aA, rfl⟩
                  · exact ⟨aM, rfl⟩
                have HE : Hid (errOf aA aM (rec xl) = .iface 166 (.pointer (some aE))) := hE
                rw [HE.out]
                clear hE HS HN HO2 hr
                go_wp2_with fail
                go_ret
                exact ⟨by rw [HQ.out, HE.out]; rfl, HB3.out⟩
            · have hr := I4.out (by omega) xl
              have HQ : Hid (firstF (oneF rec) l = 3) := by
                show _ = _
                rw [HS.out (by rw [HO2.out, hr]; decide), HO2.out, hr]
              clear HS HN HO2 hr il he2
              go_wp2_with fail
              go_ret
              exact ⟨by rw [HQ.out]; rfl, HB.out⟩
          · have g5 : (xk != 5) = true := by rw [bne_iff_ne]; exact hk5
            have HQ : Hid (firstF (oneF rec) (l.take (j + 1)) = 0) := HN.out (by rw [HO.out, if_neg (by decide), if_neg hk5])
            clear HS HN HO il he2 hk5
            go_wp2_with fail
            go_roundw
            case rel => exact ⟨j + 1, by omega, by go_num, HQ.out, HB.out⟩
            case measure => simp [intOf]; omega
      · have hke : j = l.length := by omega
        have HQ : Hid (firstF (oneF rec) l = 0) := by
          have := HFJ.out
          rwa [List.take_of_length_le (by omega)] at this
        subst hke
        clear h0 h1 h2 h3 hin hok ha HFJ
        go_wp2_with fail
        go_ret
        exact ⟨by rw [HQ.out]; rfl, hbl⟩

theorem fault_any (aA aM : Addr) (r : Nat) : ∀ (l : List It) (d : Int) (v : Value) (w : World), r ≤ 4 → d = 4 - r → ItsAt w anyB v l → Errs2 aA aM w →
    Calls Tryz.prog 50 #[v, .int .i64 d] w fun e w' => e = .returned (errOf aA aM (faultR r l)) ∧ Below w.heap.size w w' := by
  induction r with
  | zero =>
    intro l d v w _ hd hv he
    exact fault_step aA aM (fun _ => 3) d (by omega) (by omega) (fun h => by omega) (fun _ _ => rfl) l v w hv he
  | succ r ih =>
    intro l d v w hr hd hv he
    exact fault_step aA aM (faultR r) d (by omega) (by omega) (fun _ l v w hv he => ih l (d + 1) v w (by omega) (by omega) hv he) (fun h => by omega) l v w hv he

end Go.Proofs.YtageokjobbjddaaGreatDoor
