import Derived.Test.YtddhjnfcbpookaaDoorIt
namespace Go.Proofs.YtddhjnfcbpookaaDoor
open Go.RowKit

mutual
def It.cnt : It → Nat
  | .mk _ _ t l => 1 + t.size + cntL l
def cntL : List It → Nat
  | [] => 0
  | x :: r => x.cnt + cntL r
end
theorem It.cnt_eq (x : It) : x.cnt = 1 + x.text.size + cntL x.list := by cases x; simp [It.cnt, It.text, It.list]
theorem cntL_append (a b : List It) : cntL (a ++ b) = cntL a + cntL b := by
  induction a with
  | nil => simp [cntL]
  | cons x r ih => simp only [List.cons_append, cntL, ih]; omega
theorem cntL_take_succ (l : List It) (i : Nat) (h : i < l.length) : cntL (l.take (i + 1)) = cntL (l.take i) + (1 + l[i].text.size + cntL l[i].list) := by
  rw [List.take_succ_eq_append_getElem h, cntL_append]
  simp only [cntL, It.cnt_eq, Nat.add_zero]
theorem cntL_take_le (l : List It) (i : Nat) : cntL (l.take i) ≤ cntL l := by
  have := cntL_append (l.take i) (l.drop i)
  rw [List.take_append_drop] at this
  omega

set_option maxHeartbeats 400000 in
theorem left_any (k : Nat) : ∀ (l : List It) (n : Int) (v : Value) (w : World), SizeOf.sizeOf l ≤ k → ItsAt w anyB v l → -150000000000000 ≤ n → n ≤ 16777216 →
    Calls Tryd.prog 16 #[v, .int .i64 n] w fun e w' => ∃ m : Int, e = .returned (.int .i64 m) ∧ (n < 0 → m = n) ∧ (0 ≤ m → m = n - cntL l) ∧ -150000000000000 ≤ m ∧ m ≤ 16777216 ∧ Below w.heap.size w w' := by
  induction k with
  | zero => intro l n v w hk; cases l <;> simp at hk
  | succ k ih =>
    intro l n v w hk hv hn1 hn2
    obtain ⟨a, g, off, cap, l, vs, hlen, ha, hok, h0, h1, h2, h3, hin⟩ := hv
    go_enter Tryd.func16, Tryd.ntmps16
    go_wp2_with fail
    go_loopw [1, 5] (fun nv i wr => ∃ (j : Nat) (m : Int), j ≤ l.length ∧ i = .int .i64 j ∧ nv = .int .i64 m ∧ (n < 0 → m = n ∧ j = 0) ∧ (0 ≤ m → m = n - cntL (l.take j)) ∧ -150000000000000 ≤ m ∧ m ≤ 16777216 ∧ Below w.heap.size w wr) (fun _ i _ => l.length - (intOf i).toNat)
    case atStart => exact ⟨0, n, Nat.zero_le _, rfl, rfl, fun _ => ⟨rfl, rfl⟩, fun _ => by simp [cntL], hn1, hn2, Below.refl _ _⟩
    case round =>
      obtain ⟨j, m, hj, rfl, rfl, hneg, hpos, hm1, hm2, hb⟩ := hrel
      have HP : Hid ((n < 0 → m = n ∧ j = 0) ∧ (0 ≤ m → m = n - cntL (l.take j))) := ⟨hneg, hpos⟩
      clear hneg hpos
      by_cases hlt : j < l.length
      · by_cases hm : 0 ≤ m
        · obtain ⟨rfl, -⟩ := ha (by omega)
          have c2 := cell_below hb (h2 j hlt)
          have c3 := cell_below hb (h3 j hlt)
          have hin' := (hin j hlt).keep hb
          have hsz := (hok j hlt).t
          have hs := list_lt_of_get hlt
          have hlt' : SizeOf.sizeOf l[j].list ≤ k := by omega
          have IH := fun (nn : Int) (w' : World) => ih l[j].list nn (vs j) w' hlt'
          have hcs := cntL_take_succ l j hlt
          generalize hT : l[j].text = T at *
          generalize vs j = vj at *
          generalize l[j].list = lj at *
          have HH : Hid ((∀ (nn : Int) (w' : World), ItsAt w' anyB vj lj → -150000000000000 ≤ nn → nn ≤ 16777216 → Calls Tryd.prog 16 #[vj, .int .i64 nn] w' fun e w'' => ∃ m : Int, e = .returned (.int .i64 m) ∧ (nn < 0 → m = nn) ∧ (0 ≤ m → m = nn - cntL lj) ∧ -150000000000000 ≤ m ∧ m ≤ 16777216 ∧ Below w'.heap.size w' w'') ∧ cntL (l.take (j + 1)) = cntL (l.take j) + (1 + T.size + cntL lj)) := ⟨IH, hcs⟩
          clear IH hcs ih hk hs hlt' hT h0 h1 h2 h3 hin hok
          have j0 : (0 : Int) ≤ (j : Int) := Int.natCast_nonneg _
          have j1 : (j : Int) < (l.length : Int) := by omega
          have hw1 : IntKind.i64.wrap (m - 1) = m - 1 := wrap_i64 _ (by omega) (by omega)
          have hw2 : IntKind.i64.wrap (m - 1 - (T.size : Int)) = m - 1 - (T.size : Int) := wrap_i64 _ (by omega) (by omega)
          go_wp2_with fail
          go_region_held3 (fun w' => w'.cell? ⟨g, off + j * 4 + 2, none⟩ = some (.string T) ∧ w'.cell? ⟨g, off + j * 4 + 3, none⟩ = some vj) (go_keep)
            (first
              | (go_at_call 16; refine (HH.out.1 _ _ ?_ ?_ ?_).mono ?_; (exact hin'.drew); (omega); (omega); rintro e w1 ⟨m1, rfl, q1, q2, q3, q4, hbd⟩; have hb1 := undrew hbd; have HQ : Hid ((m - 1 - T.size < 0 → m1 = m - 1 - T.size) ∧ (0 ≤ m1 → m1 = m - 1 - T.size - cntL lj)) := ⟨q1, q2⟩; clear hbd q1 q2; have k1 := cell_below hb1 c2; have k2 := cell_below hb1 c3))
          have HB : Hid (Below w.heap.size w w1) := Below.next hb hb1
          clear hb hb1 c2 c3 k1 k2 hin' hw1 hw2
          go_wp2_with fail
          go_roundw
          case rel =>
            refine ⟨j + 1, m1, by omega, by go_num, rfl, ?_, ?_, q3, q4, HB.out⟩
            · intro hneg
              obtain ⟨e1, -⟩ := HP.out.1 hneg
              omega
            · intro hp
              have e1 := HP.out.2 hm
              have e2 := HQ.out.2 hp
              rw [HH.out.2]
              simp only [Int.natCast_add]
              omega
          case measure => simp [intOf]; omega
        · clear ih h0 h1 h2 h3 hin hok
          go_wp2_with fail
          go_ret
          exact ⟨m, rfl, fun h => (HP.out.1 h).1, fun h => by omega, hm1, hm2, hb⟩
      · have hke : j = l.length := by omega
        subst hke
        have HT : Hid (0 ≤ m → m = n - cntL l) := fun h => by
          have e := HP.out.2 h
          rwa [List.take_of_length_le (Nat.le_refl _)] at e
        clear ih h0 h1 h2 h3 hin hok
        go_wp2_with fail
        go_ret
        exact ⟨m, rfl, fun h => (HP.out.1 h).1, HT.out, hm1, hm2, hb⟩

end Go.Proofs.YtddhjnfcbpookaaDoor
