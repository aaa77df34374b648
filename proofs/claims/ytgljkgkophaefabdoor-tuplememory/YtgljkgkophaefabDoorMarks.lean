import Derived.Test.YtgljkgkophaefabDoorTree
import Derived.Test.YtgljkgkophaefabDoorEnc
namespace Go.Proofs.YtgljkgkophaefabDoor
open Go.RowKit

mutual
/-- How many items a list has, inner ones too. -/
def It.cnt : It → Nat
  | .mk _ _ _ l => 1 + cntL l
def cntL : List It → Nat
  | [] => 0
  | x :: r => x.cnt + cntL r
end
theorem It.cnt_eq (x : It) : x.cnt = 1 + cntL x.list := by cases x; simp only [It.cnt, It.list]
theorem cntL_append (a b : List It) : cntL (a ++ b) = cntL a + cntL b := by
  induction a with
  | nil => simp [cntL]
  | cons x r ih => simp only [List.cons_append, cntL, ih]; omega
theorem cntL_take_succ (l : List It) (i : Nat) (h : i < l.length) : cntL (l.take (i + 1)) = cntL (l.take i) + l[i].cnt := by
  rw [List.take_succ_eq_append_getElem h, cntL_append]
  simp only [cntL, Nat.add_zero]
theorem cntL_take_le (l : List It) (i : Nat) : cntL (l.take i) ≤ cntL l := by
  have := cntL_append (l.take i) (l.drop i)
  rw [List.take_append_drop] at this
  omega
mutual
/-- Do the items hold the numbers from n + 1 on? -/
def It.mrk : It → Nat → Bool
  | .mk _ m _ l, n => (m == ((n + 1 : Nat) : Int)) && mrkL l (n + 1)
def mrkL : List It → Nat → Bool
  | [], _ => true
  | x :: r, n => x.mrk n && mrkL r (n + x.cnt)
end
theorem It.mrk_eq (x : It) (n : Nat) : x.mrk n = ((x.num == ((n + 1 : Nat) : Int)) && mrkL x.list (n + 1)) := by cases x; simp only [It.mrk, It.num, It.list]
theorem mrkL_append (a b : List It) (n : Nat) : mrkL (a ++ b) n = (mrkL a n && mrkL b (n + cntL a)) := by
  induction a generalizing n with
  | nil => simp [mrkL, cntL]
  | cons x r ih => simp only [List.cons_append, mrkL, cntL, ih, Bool.and_assoc, Nat.add_assoc]
theorem mrkL_take_succ (l : List It) (i n : Nat) (h : i < l.length) : mrkL (l.take (i + 1)) n = (mrkL (l.take i) n && l[i].mrk (n + cntL (l.take i))) := by
  rw [List.take_succ_eq_append_getElem h, mrkL_append]
  simp only [mrkL, Bool.and_true]

def MarkedL (k : Nat) : Prop := ∀ (l : List It) (v : Value) (n : Nat) (w : World), SizeOf.sizeOf l ≤ k → ItsAt w anyB v l → n + cntL l ≤ 1000000000 →
    Calls Tryd.prog 21 #[v, .int .i64 (n : Int)] w fun e w' => e = .returned (.tuple #[.int .i64 ((n + cntL l : Nat) : Int), .bool (mrkL l n)]) ∧ Below w.heap.size w w'
set_option maxHeartbeats 1000000 in
theorem marked_any (k : Nat) : MarkedL k := by
  induction k with
  | zero => intro l v n w hk; cases l <;> simp at hk
  | succ k ih =>
    intro l v n w hk hv hn
    obtain ⟨a, g, off, cap, l, vs, hlen, ha, hok, h0, h1, h2, h3, hin⟩ := hv
    have HH : Hid (MarkedL k ∧ SizeOf.sizeOf l ≤ k + 1) := ⟨ih, hk⟩
    clear ih hk
    go_enter Tryd.func21, Tryd.ntmps21
    go_wp2_with fail
    go_loopw [1, 6, 7] (fun m b i wr => ∃ (j : Nat) (bb : Bool), j ≤ l.length ∧ i = .int .i64 j ∧ m = .int .i64 ((n + cntL (l.take j) : Nat) : Int) ∧ b = .bool bb ∧ bb = mrkL (l.take j) n ∧ Below w.heap.size w wr) (fun _ _ i _ => l.length - (intOf i).toNat)
    case atStart => exact ⟨0, true, Nat.zero_le _, rfl, by simp [cntL], rfl, by simp [mrkL], Below.refl _ _⟩
    case round =>
      obtain ⟨j, bb, hj, rfl, rfl, rfl, hbb, hbl⟩ := hrel
      have HBB : Hid (bb = mrkL (l.take j) n) := hbb
      clear hbb
      have hcle := cntL_take_le l j
      by_cases hlt : j < l.length
      · obtain ⟨rfl, -⟩ := ha (by omega)
        have c1 := cell_below hbl (h1 j hlt)
        have c3 := cell_below hbl (h3 j hlt)
        have ia := (hin j hlt).keep hbl
        have HS : Hid (mrkL (l.take (j + 1)) n = (mrkL (l.take j) n && l[j].mrk (n + cntL (l.take j)))) := mrkL_take_succ l j n hlt
        have hcs := cntL_take_succ l j hlt
        have hcl2 := cntL_take_le l (j + 1)
        have hce := l[j].cnt_eq
        have HC : Hid (cntL (l.take (j + 1)) = cntL (l.take j) + 1 + cntL l[j].list) := by show _ = _; omega
        have HMR : Hid (l[j].mrk (n + cntL (l.take j)) = ((l[j].num == ((n + cntL (l.take j) + 1 : Nat) : Int)) && mrkL l[j].list (n + cntL (l.take j) + 1))) := It.mrk_eq _ _
        have IH : Hid (∀ w', ItsAt w' anyB (vs j) l[j].list → Calls Tryd.prog 21 #[vs j, .int .i64 (((n + cntL (l.take j) + 1 : Nat)) : Int)] w' fun e w'' => e = .returned (.tuple #[.int .i64 ((n + cntL (l.take j) + 1 + cntL l[j].list : Nat) : Int), .bool (mrkL l[j].list (n + cntL (l.take j) + 1))]) ∧ Below w'.heap.size w' w'') := fun w' p => HH.out.1 l[j].list (vs j) _ w' (by have := list_lt_of_get hlt; have := HH.out.2; omega) p (by have := HC.out; omega)
        obtain ⟨N, hN⟩ : ∃ N : Nat, N = n + cntL (l.take j) := ⟨_, rfl⟩
        have hNb : N + 1 ≤ 1000000000 := by have := HC.out; omega
        have HNN : Hid (N = n + cntL (l.take j)) := hN
        rw [← hN] at IH HMR HS ⊢
        obtain ⟨mr, hmr⟩ : ∃ mr, mr = mrkL l[j].list (N + 1) := ⟨_, rfl⟩
        rw [← hmr] at IH HMR
        obtain ⟨cl, hcl⟩ : ∃ cl, cl = cntL l[j].list := ⟨_, rfl⟩
        rw [← hcl] at IH HC
        generalize l[j].num = xn at *
        generalize vs j = va at *
        have j0 : (0 : Int) ≤ (j : Int) := Int.natCast_nonneg _
        have j1 : (j : Int) < (l.length : Int) := by omega
        have HIA : Hid (ItsAt wr anyB va l[j].list) := ia
        have HBL : Hid (Below w.heap.size w wr) := hbl
        obtain ⟨aa, ca, rfl⟩ := ia.form
        clear h0 h1 h2 h3 hin hok ha hcs hcl2 hce hcle hN hcl hmr ia hbl HH
        obtain ⟨eq, heq⟩ : ∃ eq, (xn == ((N + 1 : Nat) : Int)) = eq := ⟨_, rfl⟩
        have HEQ : Hid ((xn == ((N + 1 : Nat) : Int)) = eq) := heq
        rw [heq] at HMR
        have heq' : (xn == (N : Int) + 1) = eq := by rw [← heq]; rfl
        clear heq
        cases bb <;> cases eq
        all_goals
          go_wp2_with fail
          refine (IH.out _ HIA.out).mono ?_
          rintro e w3 ⟨rfl, hb3⟩
          have HB3 : Hid (Below w.heap.size w w3) := Below.next HBL.out hb3
          have HNS : Hid (((N + 1 + cl : Nat) : Int) = ((n + cntL (l.take (j + 1)) : Nat) : Int)) := by
            have h1 := HNN.out
            have h2 := HC.out
            show _ = _
            omega
          obtain ⟨M, hM⟩ : ∃ M : Nat, M = N + 1 + cl := ⟨_, rfl⟩
          rw [← hM] at HNS ⊢
          clear hb3 IH HIA HBL hM
          cases mr
          all_goals
            go_wp2_with fail
            go_roundw
            case rel => exact ⟨j + 1, _, by omega, by go_num, by first | rw [HNS.out] | (simp; exact HNS.out), rfl, by rw [HS.out, ← HBB.out, HMR.out]; rfl, HB3.out⟩
            case measure => simp [intOf]; omega
      · have hke : j = l.length := by omega
        have HF : Hid (bb = mrkL l n ∧ cntL (l.take j) = cntL l) := by
          have h := HBB.out
          rw [List.take_of_length_le (by omega)] at h ⊢
          exact ⟨h, rfl⟩
        obtain ⟨N, hN⟩ : ∃ N : Nat, N = n + cntL (l.take j) := ⟨_, rfl⟩
        have HNN : Hid (N = n + cntL l) := by rw [hN, HF.out.2]; exact rfl
        rw [← hN]
        subst hke
        clear h0 h1 h2 h3 hin hok ha HBB hN hcle
        go_wp2_with fail
        go_ret2
        exact ⟨by rw [← HF.out.1, ← HNN.out]; rfl, hbl⟩

end Go.Proofs.YtgljkgkophaefabDoor
