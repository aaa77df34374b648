import Derived.Test.YtdacbajiapdiiabDoorSet2
import Derived.Test.YtdacbajiapdiiabDoorBase
namespace Go.Proofs.YtdacbajiapdiiabDoor
open Go.RowKit

set_option maxRecDepth 20000 in
set_option maxHeartbeats 1000000 in
theorem rlfind_any (v : Value) (l : List Pr) (key : ByteArray) (w : World) (hm : l.length ≤ 140737488355328) (hr : PrR w v l) :
    Calls Tryd.prog 37 #[v, .string key] w fun e w' => e = .returned (.tuple #[.int .i64 (findN l key : Int), .bool (foundB l key)]) ∧ Below w.heap.size w w' := by
  obtain ⟨a, cap, rfl, hcap, _, hc⟩ := hr
  have HC := hide hc
  obtain ⟨n, hn⟩ : ∃ n, n = l.length := ⟨_, rfl⟩
  rw [← hn] at hm ⊢
  have HN := hide hn
  obtain ⟨Q, hQ⟩ : ∃ Q : Ending → World → Prop, Q = fun e w' => e = .returned (.tuple #[.int .i64 (findN l key : Int), .bool (foundB l key)]) ∧ Below w.heap.size w w' := ⟨_, rfl⟩
  rw [← hQ]
  have HQ := hide hQ
  clear hc hn hcap hQ
  go_enter Tryd.func37, Tryd.ntmps37
  go_wp2
  go_loop [6] (fun i => ∃ k : Nat, k ≤ n ∧ i = .int .i64 k ∧ (∀ j (h : j < l.length), j < k → ltK l[j].1 key = true)) (fun i => n - (intOf i).toNat)
  case atStart => exact ⟨0, Nat.zero_le _, rfl, fun j _ h => absurd h (Nat.not_lt_zero _)⟩
  case round =>
    obtain ⟨k, hk, rfl, hpre⟩ := hrel
    have HP := hide hpre
    clear hpre
    by_cases hlt : k < n
    · have hkl : k < l.length := by have := HN.out; omega
      obtain ⟨g, o, rfl, c1, _⟩ := HC.out k hkl
      have HNX : Hid (ltK l[k].1 key = true → ∀ j (h : j < l.length), j < k + 1 → ltK l[j].1 key = true) := fun hl j h hj => by
        by_cases he : j = k
        · subst he; exact hl
        · exact HP.out j h (by omega)
      have HAT : Hid (ltK l[k].1 key = false → findN l key = k ∧ foundB l key = decide (l[k].1 = key)) := fun hl => by
        have he := findN_eq hkl (fun j hj => HP.out j (by omega) hj) hl
        refine ⟨he, ?_⟩
        rw [foundB_at (by rw [he]; exact hkl)]
        simp only [he]
      obtain ⟨x, hx⟩ : ∃ x, x = l[k].1 := ⟨_, rfl⟩
      rw [← hx] at c1 HNX HAT
      have hltI : (k : Int) < (n : Int) := by omega
      have j0 : (0 : Int) ≤ (k : Int) := by omega
      clear hx HC
      cases hb : ltK x key with
      | true =>
        have hbl : Op.bytesLess x.toList key.toList = true := hb
        have HNX2 := hide (HNX.out hb)
        clear hb HNX HAT
        go_wp2
        go_round
        case rel => exact ⟨k + 1, by omega, by go_num, HNX2.out⟩
        case measure => simp [intOf]; omega
      | false =>
        have hbl : Op.bytesLess x.toList key.toList = false := hb
        have HAT2 := hide (HAT.out hb)
        clear hb HNX HAT
        go_wp2
        go_quiet (fail)
        go_wp2
        rw [HQ.out]
        refine ⟨?_, below_drewN' (Below.refl _ _) _⟩
        rw [HAT2.out.1, HAT2.out.2, ← beq_text]
        rfl
    · have hltI : ¬ (k : Int) < (n : Int) := by omega
      have HNO : Hid (findN l key = n ∧ foundB l key = false) := by
        have h := findN_none (l := l) (key := key) (fun j hj => HP.out j hj (by have := HN.out; omega))
        exact ⟨by rw [h, HN.out], foundB_none (by omega)⟩
      clear HC HP
      go_wp2
      rw [HQ.out]
      refine ⟨?_, Below.refl _ _⟩
      rw [HNO.out.1, HNO.out.2]

/-- The list of the pairs from i on, one by one: what a loop over them keeps. -/
theorem take_drop_succ (l : List Pr) (i k : Nat) (h : i + k < l.length) : (l.drop i).take (k + 1) = (l.drop i).take k ++ [l[i + k]] := by
  rw [List.take_succ_eq_append_getElem (by rw [List.length_drop]; omega), List.getElem_drop]

set_option maxRecDepth 20000 in
set_option maxHeartbeats 2000000 in
theorem rlset_any (v : Value) (l : List Pr) (key value : ByteArray) (w : World) (hm : l.length ≤ 4398046511000) (hr : PrR w v l) :
    Calls Tryd.prog 40 #[v, .string key, .string value] w fun e w' => ∃ u, e = .returned u ∧ PrO w' w.heap.size u (setL l key value) ∧ Below w.heap.size w w' := by
  have HF := hide (rlfind_any v l key w (by omega) hr)
  have hfl := findN_le l key
  have hbl := behindN_le l key
  have hqr := behindN_ge l key
  obtain ⟨a, cap, rfl, hcap, _, hc⟩ := hr
  have HC := hide hc
  obtain ⟨n, hn⟩ : ∃ n, n = l.length := ⟨_, rfl⟩
  obtain ⟨q, hq⟩ : ∃ q, q = findN l key := ⟨_, rfl⟩
  obtain ⟨r, hrr⟩ : ∃ r, r = behindN l key := ⟨_, rfl⟩
  obtain ⟨fb, hfb⟩ : ∃ fb, fb = foundB l key := ⟨_, rfl⟩
  have hbe : (if fb then q + 1 else q : Nat) = r := by rw [hrr, hq, hfb]; rfl
  have HL : Hid (setL l key value = l.take q ++ [(key, value)] ++ l.drop r) := by show _ = _; unfold setL; rw [← hq, ← hrr]; simp
  rw [← hq, ← hfb] at HF
  rw [← hn] at hfl hbl hm HF ⊢
  rw [← hq] at hfl hqr
  rw [← hrr] at hbl hqr
  have HN := hide hn
  have HBE := hide hbe
  clear hc hn hq hrr hfb hbe hcap
  go_enter Tryd.func40, Tryd.ntmps40
  go_wp2_with fail
  refine HF.out.mono ?_
  rintro e w1 ⟨rfl, hb1⟩
  have HB1 := hide hb1
  clear hb1 HF
  go_wp2
  go_loopw [9, 10] (fun u i wr => ∃ k : Nat, k ≤ q ∧ i = .int .i64 k ∧ PrO wr w.heap.size u (l.take k) ∧ Below w.heap.size w wr) (fun _ i _ => q - (intOf i).toNat)
  case atStart => exact ⟨0, Nat.zero_le _, rfl, PrO.nil _ _, HB1.out⟩
  case round =>
    obtain ⟨k, hk, rfl, hown, hbw⟩ := hrel
    clear HB1
    have htk : (l.take k).length = k := by rw [List.length_take]; have := HN.out; omega
    obtain ⟨ua, uc, hu⟩ := hown.form
    rw [htk] at hu
    subst hu
    by_cases hlt : k < q
    · have hkl : k < l.length := by have := HN.out; omega
      obtain ⟨g, o, rfl, f1, f2⟩ := HC.out k hkl
      have HS := hide (List.take_succ_eq_append_getElem hkl)
      have c1 : wr.cell? ⟨g, o + k * 2, none⟩ = some (.string l[k].1) := (hbw.cell (p := ⟨g, o + k * 2, none⟩) (World.block_lt_of_cell? w _ f1)).trans f1
      have c2 : wr.cell? ⟨g, o + k * 2 + 1, none⟩ = some (.string l[k].2) := (hbw.cell (p := ⟨g, o + k * 2 + 1, none⟩) (World.block_lt_of_cell? w _ f2)).trans f2
      obtain ⟨p, hp⟩ : ∃ p, p = l[k] := ⟨_, rfl⟩
      rw [← hp] at c1 c2 HS
      obtain ⟨a1, cp1, w2, hrun, hown1, hb2, _⟩ := push_prs w.heap.size _ _ p 45 wr w w.heap.size k htk hown (by omega) hbw.size (Nat.le_refl _) hbw
      rw [← HS.out] at hown1
      have HO := hide hown1
      have HB := hide hb2
      have hltI : (k : Int) < (q : Int) := by omega
      have hknI : (k : Int) < (n : Int) := by omega
      clear hp HC f1 f2 hbw hown hown1 hb2 HS
      go_wp2_with (first | (at_builtin; refine wpList_append_run 24 rfl (.tmp 23) (.tmp 28) rfl rfl _ _ rfl rfl _ _ hrun ?_))
      clear hrun
      go_wp2
      go_roundw
      case rel => exact ⟨k + 1, by omega, by go_num, HO.out, HB.out⟩
      case measure => simp [intOf]; omega
    · have hkq : k = q := by omega
      subst hkq
      have hltI : ¬ (k : Int) < (k : Int) := by omega
      obtain ⟨a1, cp1, w2, hrun, hown1, hb2, _⟩ := push_prs w.heap.size _ _ (key, value) 45 wr w w.heap.size k htk hown (by omega) hbw.size (Nat.le_refl _) hbw
      have HO := hide hown1
      have HB := hide hb2
      have HTK := hide htk
      clear hbw hown hown1 hb2 hlt hk htk
      simp only [] at hrun
      cases fb with
      | true =>
        have hr1 : r = k + 1 := HBE.out.symm
        have HR1 := hide hr1
        obtain ⟨k1, hk1⟩ : ∃ k1, k1 = k + 1 := ⟨_, rfl⟩
        have hw : IntKind.i64.wrap ((k : Int) + 1) = (r : Int) := by rw [IntKind.wrap_i64]; omega
        rw [← hk1] at hrun HO
        clear hk1 hr1
        go_wp2_with (first | (at_builtin; refine wpList_append_run 24 rfl (.tmp 30) (.tmp 34) rfl rfl _ _ rfl rfl _ _ hrun ?_))
        clear hrun
        go_loopw [9, 11] (fun u i wr => ∃ j : Nat, r + j ≤ n ∧ i = .int .i64 ((r + j : Nat) : Int) ∧ PrO wr w.heap.size u (l.take k ++ [(key, value)] ++ (l.drop r).take j) ∧ Below w.heap.size w wr) (fun _ i _ => n - (intOf i).toNat)
        case atStart => exact ⟨0, hbl, rfl, by simpa using HO.out, HB.out⟩
        case round =>
          obtain ⟨j, hj, rfl, hown, hbw⟩ := hrel
          clear HO HB
          have hlen : (l.take k ++ [(key, value)] ++ (l.drop r).take j).length = k + 1 + j := by
            rw [List.length_append, List.length_append, HTK.out, List.length_take, List.length_drop]; have := HN.out; simp; omega
          obtain ⟨ua2, uc2, hu⟩ := hown.form
          rw [hlen] at hu
          subst hu
          obtain ⟨x, hx⟩ : ∃ x, x = r + j := ⟨_, rfl⟩
          rw [← hx]
          by_cases hlt : x < n
          · have hkl : x < l.length := by have := HN.out; omega
            obtain ⟨g, o, rfl, f1, f2⟩ := HC.out x hkl
            have c1 : wr.cell? ⟨g, o + x * 2, none⟩ = some (.string l[x].1) := (hbw.cell (p := ⟨g, o + x * 2, none⟩) (World.block_lt_of_cell? w _ f1)).trans f1
            have c2 : wr.cell? ⟨g, o + x * 2 + 1, none⟩ = some (.string l[x].2) := (hbw.cell (p := ⟨g, o + x * 2 + 1, none⟩) (World.block_lt_of_cell? w _ f2)).trans f2
            have HS : Hid ((l.drop r).take (j + 1) = (l.drop r).take j ++ [l[x]]) := by
              have := take_drop_succ l r j (by omega)
              simp only [hx]; exact this
            obtain ⟨p, hp⟩ : ∃ p, p = l[x] := ⟨_, rfl⟩
            rw [← hp] at c1 c2 HS
            obtain ⟨a3, cp3, w3, hrun, hown1, hb3, _⟩ := push_prs w.heap.size _ _ p 45 wr w w.heap.size (k + 1 + j) hlen hown (by omega) hbw.size (Nat.le_refl _) hbw
            rw [List.append_assoc, ← HS.out] at hown1
            have HO := hide hown1
            have HB := hide hb3
            have hltI : (x : Int) < (n : Int) := by omega
            have j0 : (0 : Int) ≤ (x : Int) := by omega
            obtain ⟨x1, hx1⟩ : ∃ x1, x1 = x + 1 := ⟨_, rfl⟩
            have hwx : IntKind.i64.wrap ((x : Int) + 1) = (x1 : Int) := by rw [IntKind.wrap_i64]; omega
            have HX : Hid (x1 = r + (j + 1) ∧ x1 ≤ n ∧ x < x1) := ⟨by omega, by omega, by omega⟩
            clear hp HC f1 f2 hbw hown hown1 hb3 HS hlen hx hx1
            go_wp2_with (first | (at_builtin; refine wpList_append_run 24 rfl (.tmp 46) (.tmp 51) rfl rfl _ _ rfl rfl _ _ hrun ?_))
            clear hrun
            go_wp2
            go_roundw
            case rel => exact ⟨j + 1, by have := HX.out; omega, by rw [HX.out.1], HO.out, HB.out⟩
            case measure => simp [intOf]; have := HX.out; omega
          · have hltI : ¬ (x : Int) < (n : Int) := by omega
            have hall : (l.drop r).take j = l.drop r := by rw [List.take_of_length_le]; rw [List.length_drop]; have := HN.out; omega
            rw [hall, ← HL.out] at hown
            have HO := hide hown
            have HB := hide hbw
            clear hown hbw hall HC hlen hx
            go_wp2
            go_ret
            exact ⟨_, rfl, HO.out, HB.out⟩
      | false =>
        obtain rfl : k = r := HBE.out
        obtain ⟨k1, hk1⟩ : ∃ k1, k1 = k + 1 := ⟨_, rfl⟩
        rw [← hk1] at hrun HO
        clear hk1
        go_wp2_with (first | (at_builtin; refine wpList_append_run 24 rfl (.tmp 30) (.tmp 34) rfl rfl _ _ rfl rfl _ _ hrun ?_))
        clear hrun
        go_loopw [9, 11] (fun u i wr => ∃ j : Nat, k + j ≤ n ∧ i = .int .i64 ((k + j : Nat) : Int) ∧ PrO wr w.heap.size u (l.take k ++ [(key, value)] ++ (l.drop k).take j) ∧ Below w.heap.size w wr) (fun _ i _ => n - (intOf i).toNat)
        case atStart => exact ⟨0, hbl, rfl, by simpa using HO.out, HB.out⟩
        case round =>
          obtain ⟨j, hj, rfl, hown, hbw⟩ := hrel
          clear HO HB
          have hlen : (l.take k ++ [(key, value)] ++ (l.drop k).take j).length = k + 1 + j := by
            rw [List.length_append, List.length_append, HTK.out, List.length_take, List.length_drop]; have := HN.out; simp; omega
          obtain ⟨ua2, uc2, hu⟩ := hown.form
          rw [hlen] at hu
          subst hu
          obtain ⟨x, hx⟩ : ∃ x, x = k + j := ⟨_, rfl⟩
          rw [← hx]
          by_cases hlt : x < n
          · have hkl : x < l.length := by have := HN.out; omega
            obtain ⟨g, o, rfl, f1, f2⟩ := HC.out x hkl
            have c1 : wr.cell? ⟨g, o + x * 2, none⟩ = some (.string l[x].1) := (hbw.cell (p := ⟨g, o + x * 2, none⟩) (World.block_lt_of_cell? w _ f1)).trans f1
            have c2 : wr.cell? ⟨g, o + x * 2 + 1, none⟩ = some (.string l[x].2) := (hbw.cell (p := ⟨g, o + x * 2 + 1, none⟩) (World.block_lt_of_cell? w _ f2)).trans f2
            have HS : Hid ((l.drop k).take (j + 1) = (l.drop k).take j ++ [l[x]]) := by
              have := take_drop_succ l k j (by omega)
              simp only [hx]; exact this
            obtain ⟨p, hp⟩ : ∃ p, p = l[x] := ⟨_, rfl⟩
            rw [← hp] at c1 c2 HS
            obtain ⟨a3, cp3, w3, hrun, hown1, hb3, _⟩ := push_prs w.heap.size _ _ p 45 wr w w.heap.size (k + 1 + j) hlen hown (by omega) hbw.size (Nat.le_refl _) hbw
            rw [List.append_assoc, ← HS.out] at hown1
            have HO := hide hown1
            have HB := hide hb3
            have hltI : (x : Int) < (n : Int) := by omega
            have j0 : (0 : Int) ≤ (x : Int) := by omega
            obtain ⟨x1, hx1⟩ : ∃ x1, x1 = x + 1 := ⟨_, rfl⟩
            have hwx : IntKind.i64.wrap ((x : Int) + 1) = (x1 : Int) := by rw [IntKind.wrap_i64]; omega
            have HX : Hid (x1 = k + (j + 1) ∧ x1 ≤ n ∧ x < x1) := ⟨by omega, by omega, by omega⟩
            clear hp HC f1 f2 hbw hown hown1 hb3 HS hlen hx hx1
            go_wp2_with (first | (at_builtin; refine wpList_append_run 24 rfl (.tmp 46) (.tmp 51) rfl rfl _ _ rfl rfl _ _ hrun ?_))
            clear hrun
            go_wp2
            go_roundw
            case rel => exact ⟨j + 1, by have := HX.out; omega, by rw [HX.out.1], HO.out, HB.out⟩
            case measure => simp [intOf]; have := HX.out; omega
          · have hltI : ¬ (x : Int) < (n : Int) := by omega
            have hall : (l.drop k).take j = l.drop k := by rw [List.take_of_length_le]; rw [List.length_drop]; have := HN.out; omega
            rw [hall, ← HL.out] at hown
            have HO := hide hown
            have HB := hide hbw
            clear hown hbw hall HC hlen hx
            go_wp2
            go_ret
            exact ⟨_, rfl, HO.out, HB.out⟩

/-- l without the pair at q, if b. -/
def lessAt (l : List Pr) (q : Nat) (b : Bool) (k : Nat) : List Pr := if b = true ∧ q < k then l.take q ++ (l.drop (q + 1)).take (k - q - 1) else l.take k
theorem lessAt_len (l : List Pr) (q : Nat) (b : Bool) (k : Nat) (hk : k ≤ l.length) : (lessAt l q b k).length = (if b = true ∧ q < k then k - 1 else k) := by
  unfold lessAt
  split
  · rw [List.length_append, List.length_take, List.length_take, List.length_drop]; omega
  · rw [List.length_take]; omega
theorem lessAt_keep (l : List Pr) (q : Nat) (b : Bool) (k : Nat) (hk : k < l.length) (h : b = false ∨ k ≠ q) : lessAt l q b (k + 1) = lessAt l q b k ++ [l[k]] := by
  unfold lessAt
  by_cases h1 : b = true ∧ q < k
  · rw [if_pos ⟨h1.1, by omega⟩, if_pos h1]
    have e := take_drop_succ l (q + 1) (k - q - 1) (by omega)
    rw [show k + 1 - q - 1 = k - q - 1 + 1 by omega, e]
    simp only [show q + 1 + (k - q - 1) = k by omega, List.append_assoc]
  · have h2 : ¬ (b = true ∧ q < k + 1) := by
      rintro ⟨hb, hq⟩
      rcases h with h | h
      · rw [h] at hb; cases hb
      · exact h1 ⟨hb, by omega⟩
    rw [if_neg h1, if_neg h2, List.take_succ_eq_append_getElem hk]
theorem lessAt_skip (l : List Pr) (q : Nat) (_hq : q < l.length) : lessAt l q true (q + 1) = lessAt l q true q := by
  unfold lessAt
  rw [if_pos ⟨rfl, by omega⟩, if_neg (by omega)]
  simp
theorem lessAt_all (l : List Pr) (key : ByteArray) : lessAt l (findN l key) (foundB l key) l.length = dropL l key := by
  unfold lessAt dropL behindN
  cases hb : foundB l key with
  | true =>
    have := foundB_lt hb
    rw [if_pos ⟨rfl, this⟩, if_pos rfl, List.take_of_length_le (i := l.length - findN l key - 1)]
    rw [List.length_drop]; omega
  | false =>
    rw [if_neg (by simp), if_neg (by simp), List.take_append_drop, List.take_length]

set_option maxRecDepth 20000 in
set_option maxHeartbeats 2000000 in
theorem rldrop_any (v : Value) (l : List Pr) (key : ByteArray) (w : World) (hm : l.length ≤ 4398046511000) (hr : PrR w v l) :
    Calls Tryd.prog 38 #[v, .string key] w fun e w' => ∃ u, e = .returned (.tuple #[u, .bool (foundB l key)]) ∧ PrO w' w.heap.size u (dropL l key) ∧ Below w.heap.size w w' := by
  have HF := hide (rlfind_any v l key w (by omega) hr)
  have hfl := findN_le l key
  obtain ⟨a, cap, rfl, hcap, _, hc⟩ := hr
  have HC := hide hc
  obtain ⟨n, hn⟩ : ∃ n, n = l.length := ⟨_, rfl⟩
  have HFLT : Hid (foundB l key = true → findN l key < n) := by rw [hn]; exact foundB_lt
  obtain ⟨q, hq⟩ : ∃ q, q = findN l key := ⟨_, rfl⟩
  obtain ⟨fb, hfb⟩ : ∃ fb, fb = foundB l key := ⟨_, rfl⟩
  have HALL : Hid (lessAt l q fb n = dropL l key) := by rw [hq, hfb, hn]; exact lessAt_all l key
  rw [← hq, ← hfb] at HF HFLT
  rw [← hfb]
  rw [← hn] at hfl hm HF ⊢
  rw [← hq] at hfl
  have HN := hide hn
  clear hc hn hq hfb hcap
  go_enter Tryd.func38, Tryd.ntmps38
  go_wp2_with fail
  refine HF.out.mono ?_
  rintro e w1 ⟨rfl, hb1⟩
  have HB1 := hide hb1
  clear hb1 HF
  go_wp2
  go_loopw [8, 9] (fun u i wr => ∃ k : Nat, k ≤ n ∧ i = .int .i64 k ∧ PrO wr w.heap.size u (lessAt l q fb k) ∧ Below w.heap.size w wr) (fun _ i _ => n - (intOf i).toNat)
  case atStart => exact ⟨0, Nat.zero_le _, rfl, by simpa [lessAt] using PrO.nil w1 w.heap.size, HB1.out⟩
  case round =>
    obtain ⟨k, hk, rfl, hown, hbw⟩ := hrel
    clear HB1
    have hln := lessAt_len l q fb k (by have := HN.out; omega)
    obtain ⟨m, hmk⟩ : ∃ m, m = (lessAt l q fb k).length := ⟨_, rfl⟩
    have hmle : m ≤ k := by rw [hmk, hln]; split <;> omega
    obtain ⟨ua, uc, hu⟩ := hown.form
    rw [← hmk] at hu
    subst hu
    by_cases hlt : k < n
    · have hkl : k < l.length := by have := HN.out; omega
      have hltI : (k : Int) < (n : Int) := by omega
      by_cases hsk : fb = true ∧ k = q
      · obtain ⟨rfl, rfl⟩ := hsk
        have hs := lessAt_skip l k hkl
        rw [← hs] at hown
        have HO := hide hown
        have HB := hide hbw
        have hd0 : ((k : Int) != (k : Int)) = false := by simp
        clear hown hbw HC hs hln hmk
        go_wp2
        go_roundw
        case rel => exact ⟨k + 1, by omega, by go_num, HO.out, HB.out⟩
        case measure => simp [intOf]; omega
      · have hcond : fb = false ∨ k ≠ q := by
          cases fb with
          | true => exact .inr (fun h => hsk ⟨rfl, h⟩)
          | false => exact .inl rfl
        have HS := hide (lessAt_keep l q fb k hkl hcond)
        obtain ⟨g, o, rfl, f1, f2⟩ := HC.out k hkl
        have c1 : wr.cell? ⟨g, o + k * 2, none⟩ = some (.string l[k].1) := (hbw.cell (p := ⟨g, o + k * 2, none⟩) (World.block_lt_of_cell? w _ f1)).trans f1
        have c2 : wr.cell? ⟨g, o + k * 2 + 1, none⟩ = some (.string l[k].2) := (hbw.cell (p := ⟨g, o + k * 2 + 1, none⟩) (World.block_lt_of_cell? w _ f2)).trans f2
        obtain ⟨p, hp⟩ : ∃ p, p = l[k] := ⟨_, rfl⟩
        rw [← hp] at c1 c2 HS
        obtain ⟨a1, cp1, w2, hrun, hown1, hb2, _⟩ := push_prs w.heap.size _ _ p 45 wr w w.heap.size m hmk.symm hown (by omega) hbw.size (Nat.le_refl _) hbw
        rw [← HS.out] at hown1
        have HO := hide hown1
        have HB := hide hb2
        clear hp HC f1 f2 hbw hown hown1 hb2 HS hln hmk
        cases fb with
        | false =>
          go_wp2_with (first | (at_builtin; refine wpList_append_run 24 rfl (.tmp 29) (.tmp 34) rfl rfl _ _ rfl rfl _ _ hrun ?_))
          clear hrun
          go_wp2
          go_roundw
          case rel => exact ⟨k + 1, by omega, by go_num, HO.out, HB.out⟩
          case measure => simp [intOf]; omega
        | true =>
          have hkq : ((k : Int) != (q : Int)) = true := by
            rw [bne_iff_ne]
            intro h
            exact hsk ⟨rfl, by omega⟩
          clear hsk hcond
          go_wp2_with (first | (at_builtin; refine wpList_append_run 24 rfl (.tmp 29) (.tmp 34) rfl rfl _ _ rfl rfl _ _ hrun ?_))
          clear hrun
          go_wp2
          go_roundw
          case rel => exact ⟨k + 1, by omega, by go_num, HO.out, HB.out⟩
          case measure => simp [intOf]; omega
    · have hkn : k = n := by omega
      subst hkn
      rw [HALL.out] at hown
      have HO := hide hown
      have HB := hide hbw
      have hltI : ¬ (k : Int) < (k : Int) := by omega
      clear hown hbw HC hln hmk
      go_wp2
      go_ret2
      exact ⟨_, rfl, HO.out, HB.out⟩

end Go.Proofs.YtdacbajiapdiiabDoor
