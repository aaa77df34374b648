import Derived.Test.YtdacbajiapdiiabDoorCBegun
namespace Go.Proofs.YtdacbajiapdiiabDoor
open Go.RowKit

set_option maxHeartbeats 1000000 in
theorem rsize_any (v : Value) (l : List ByteArray) (w : World) (hm : sizeL l ≤ 1152921504606846976) (hr : StrR w v l) :
    Calls Tryd.prog 56 #[v] w fun e w' => e = .returned (.int .i64 ((sizeL l : Nat) : Int)) ∧ w = w' := by
  obtain ⟨va, vc, rfl, hcap, hc⟩ := hr
  have HC := hide hc
  obtain ⟨n, hn⟩ : ∃ n, n = l.length := ⟨_, rfl⟩
  rw [← hn]
  have HE : Hid (l.length = n) := hn.symm
  have HS := hide hm
  have h2 : n ≤ 576460752303423488 := by
    have : sizeL l = 2 * l.length + (flatTo l l.length).length := rfl
    omega
  clear hc hn hm hcap
  go_enter Tryd.func56, Tryd.ntmps56
  go_wp2
  go_loop [3, 4] (fun r i => ∃ k : Nat, k ≤ n ∧ i = .int .i64 k ∧ r = .int .i64 ((2 * k + (flatTo l k).length : Nat) : Int)) (fun _ i => n - (intOf i).toNat)
  case atStart => exact ⟨0, Nat.zero_le _, rfl, rfl⟩
  case round =>
    obtain ⟨k, hk, rfl, rfl⟩ := hrel
    by_cases hlt : k < n
    · have hkl : k < l.length := by have := HE.out; omega
      obtain ⟨g, o, rfl, f1⟩ := HC.out k hkl
      have HF := hide (flatTo_succ l k hkl)
      have HL := hide (endL_mono l (k + 1) l.length (by omega) (Nat.le_refl _))
      have hfl : (flatTo l (k + 1)).length = (flatTo l k).length + l[k].size := by rw [HF.out, List.length_append, bsize]
      have hel : endL l (k + 1) = 2 * l.length + (flatTo l (k + 1)).length := rfl
      have hbd : 2 * k + 2 + (flatTo l (k + 1)).length ≤ 1152921504606846976 := by
        have h1 := HL.out
        have h2 : endL l l.length ≤ 1152921504606846976 := HS.out
        have := HE.out
        omega
      obtain ⟨x, hx⟩ : ∃ x, x = l[k] := ⟨_, rfl⟩
      rw [← hx] at f1 hfl
      obtain ⟨p, hp⟩ : ∃ p, p = 2 * k + (flatTo l k).length := ⟨_, rfl⟩
      rw [← hp]
      obtain ⟨q, hq⟩ : ∃ q, q = 2 * (k + 1) + (flatTo l (k + 1)).length := ⟨_, rfl⟩
      have hw1 : IntKind.i64.wrap ((p : Int) + 2) = (p : Int) + 2 := by rw [IntKind.wrap_i64]; omega
      have hw2 : IntKind.i64.wrap ((p : Int) + 2 + (x.size : Int)) = (q : Int) := by rw [IntKind.wrap_i64]; omega
      have HQ := hide hq
      have hltI : (k : Int) < (n : Int) := by omega
      clear hx hp hq hfl hel hbd HF HL HC
      go_wp2
      go_round
      case rel => exact ⟨k + 1, by omega, by go_num, by rw [← HQ.out]⟩
      case measure => simp [intOf]; omega
    · have hkn : k = n := by omega
      have hltI : ¬ (k : Int) < (n : Int) := by omega
      have HZ : Hid (2 * k + (flatTo l k).length = sizeL l) := by show _ = _; rw [hkn, ← HE.out]; rfl
      obtain ⟨z, hz⟩ : ∃ z, z = 2 * k + (flatTo l k).length := ⟨_, rfl⟩
      rw [← hz] at HZ ⊢
      clear hz hkn HC
      go_wp2
      go_ret
      exact ⟨by rw [← HZ.out]; rfl, rfl⟩

theorem owns_alloc {w : World} {base e n : Nat} {v : Value} {us : List Value} (h : w.ownsRow base e 1 v n us) (o : Obj) : (w.alloc o).ownsRow base e 1 v n us := owns_below h (below_new w o)
theorem lit_u8 (w : World) (us : List UInt8) (n : Nat) (hn : us.length = n) (hm : n ≤ maxLen) : RowR (w.alloc (.cells (u8s us).toArray 5)) (.slice (some ⟨w.heap.size, 0, none⟩) n n) (u8s us) :=
  lit_row w (u8s us) 5 n (by rw [u8s_length]; exact hn) hm

set_option maxRecDepth 100000 in
set_option maxHeartbeats 8000000 in
theorem rlay_fits (a : Option Addr) (cap n : Nat) (l : List ByteArray) (w : World) (hn : n = l.length) (hf : sizeL l ≤ 4072)
    (hc : ∀ j (h : j < l.length), ∃ g o, a = some ⟨g, o, none⟩ ∧ w.cell? ⟨g, o + j, none⟩ = some (.string l[j])) (hle : n ≤ cap) :
    Calls Tryd.prog 32 #[.slice a n cap] w fun e w' => e = .returned (.tuple #[.string ⟨(layL l).toArray⟩, .int .i64 0]) ∧ Below w.heap.size w w' := by
  have HSZ := hide (rsize_any (.slice a n cap) l w (by omega) ⟨a, cap, by rw [hn], by rw [← hn]; exact hle, hc⟩)
  have hsz : ¬ (4072 : Int) < ((sizeL l : Nat) : Int) := by omega
  have h2n : 2 * n ≤ 4072 := by
    have : sizeL l = 2 * l.length + (flatTo l l.length).length := rfl
    omega
  have hwn : IntKind.i64.wrap (2 * (n : Int)) = ((endL l 0 : Nat) : Int) := by rw [IntKind.wrap_i64, endL_zero, hn]; omega
  have HC := hide hc
  have HN := hide hn
  have HF := hide hf
  have HLL := hide (layL_len l hf)
  obtain ⟨sz, hszl⟩ : ∃ sz, sz = sizeL l := ⟨_, rfl⟩
  rw [← hszl] at HSZ hsz
  have HSL := hide hszl
  have hszle : sz ≤ 4072 := by omega
  clear hc hn hf hszl hle
  go_enter Tryd.func32, Tryd.ntmps32
  go_wp2_with fail
  refine HSZ.out.mono ?_
  rintro e w' ⟨rfl, rfl⟩
  go_wp2_with fail
  clear HSZ
  go_loopw [5, 6, 7] (fun b en i wr => ∃ (k nb cb : Nat) (ab : Option Addr), k ≤ n ∧ nb = 2 * k ∧ i = .int .i64 k ∧ en = .int .i64 ((endL l k : Nat) : Int) ∧ b = .slice ab nb cb ∧ wr.ownsRow w.heap.size 5 1 (.slice ab nb cb) nb (u8s (slotsTo l k)) ∧ Below w.heap.size w wr) (fun _ _ i _ => n - (intOf i).toNat)
  case atStart => exact ⟨0, 0, 0, none, Nat.zero_le _, rfl, rfl, rfl, rfl, World.ownsRow_nil _ _ _ _, Below.refl _ _⟩
  case round =>
    obtain ⟨k, nb, cb, ab, hk, hnb, rfl, rfl, rfl, hown, hbw⟩ := hrel
    have HNB := hide hnb
    have hnbl : nb ≤ 4072 := by omega
    clear hwn hnb
    by_cases hlt : k < n
    · have hkl : k < l.length := by have := HN.out; omega
      obtain ⟨g, o, rfl, f0⟩ := HC.out k hkl
      have f1 : wr.cell? ⟨g, o + k, none⟩ = some (.string l[k]) := (hbw.cell (p := ⟨g, o + k, none⟩) (World.block_lt_of_cell? w _ f0)).trans f0
      have HS := hide (endL_succ l k hkl)
      have hle : endL l (k + 1) ≤ 4072 := endL_le HF.out (show k + 1 ≤ l.length by omega)
      obtain ⟨x, hx⟩ : ∃ x, x = l[k] := ⟨_, rfl⟩
      rw [← hx] at f1 HS
      obtain ⟨p, hp⟩ : ∃ p, p = endL l k := ⟨_, rfl⟩
      obtain ⟨q, hq⟩ : ∃ q, q = endL l (k + 1) := ⟨_, rfl⟩
      rw [← hp] at HS ⊢
      rw [← hq] at HS hle
      have HQ := hide hq
      have e1 : (hi8 q).toNat = q / 256 := hi8_toNat q hle
      have e2 : (lo8 q).toNat = q % 256 := lo8_toNat q
      have hul : u8s [hi8 q, lo8 q] = [.int .u8 ((q / 256 : Nat) : Int), .int .u8 ((q % 256 : Nat) : Int)] := by simp [u8s, e1, e2]
      obtain ⟨a2, c2, w2, hrun2, ho2, hg2⟩ := append_row 78 5 _ 1 Tryd.info5 Tryd.underlying78 rfl w.heap.size nb (.slice ab nb cb) (u8s (slotsTo l k)) (wr.alloc (.cells (u8s [hi8 q, lo8 q]).toArray 5)) (owns_alloc hown _) (.slice (some ⟨wr.heap.size, 0, none⟩) 2 2) (u8s [hi8 q, lo8 q]) (lit_u8 wr [hi8 q, lo8 q] 2 rfl (by decide)) (u8s_one _) (by rw [u8s_length]; show (nb + 2) * 1 ≤ _; omega) (by decide) (by have := hbw.size; simp; omega)
      rw [u8s_length, show ([hi8 q, lo8 q] : List UInt8).length = 2 from rfl] at hrun2 ho2
      rw [← u8s_append] at ho2
      have hb2 : Below w.heap.size w w2 := (hbw.alloc (by have := hbw.size; omega) _).grown hg2 (by have := hbw.size; simp; omega) (fun j hj => (hown.lt j hj).1)
      have HO2 : Hid (w2.ownsRow w.heap.size 5 1 (.slice a2 (nb + 2) c2) (nb + 2) (u8s (slotsTo l (k + 1)))) := by
        show World.ownsRow _ _ _ _ _ _ _
        have : slotsTo l (k + 1) = slotsTo l k ++ [hi8 q, lo8 q] := by rw [slotsTo, ← HQ.out]
        rw [this]; exact ho2
      have HB2 := hide hb2
      rw [hul] at hrun2
      have hq1 : IntKind.i64.wrap ((p : Int) + (x.size : Int)) = (q : Int) := by rw [IntKind.wrap_i64]; have := HS.out; omega
      have hd1 : (q : Int).tdiv 256 = ((q / 256 : Nat) : Int) := by rw [Int.tdiv_eq_ediv_of_nonneg (by omega)]; omega
      have hd2 : (q : Int).tmod 256 = ((q % 256 : Nat) : Int) := by rw [Int.tmod_eq_emod_of_nonneg (by omega)]; omega
      obtain ⟨u1, hu1⟩ : ∃ u, u = q / 256 := ⟨_, rfl⟩
      obtain ⟨u2, hu2⟩ : ∃ u, u = q % 256 := ⟨_, rfl⟩
      rw [← hu1] at hd1 hrun2
      rw [← hu2] at hd2 hrun2
      have hl1 : u1 < 256 := by omega
      have hl2 : u2 < 256 := by omega
      have hx1 : IntKind.u8.wrap (u1 : Int) = (u1 : Int) := by rw [IntKind.wrap_u8]; omega
      have hx2 : IntKind.u8.wrap (u2 : Int) = (u2 : Int) := by rw [IntKind.wrap_u8]; omega
      have hy1 : IntKind.i64.wrap (u1 : Int) = (u1 : Int) := by rw [IntKind.wrap_i64]; omega
      have hy2 : IntKind.i64.wrap (u2 : Int) = (u2 : Int) := by rw [IntKind.wrap_i64]; omega
      have hltI : (k : Int) < (n : Int) := by omega
      clear hx hp hq HC ho2 hb2 hg2 hown hbw f0 e1 e2 hul hu1 hu2
      go_wp2_with (first | (at_builtin; refine wpList_append_run 78 rfl (.tmp 30) (.tmp 37) rfl rfl _ _ rfl rfl _ _ hrun2 ?_))
      refine ⟨⟨k + 1, nb + 2, c2, a2, by omega, by have := HNB.out; omega, by go_num, by rw [← HQ.out], rfl, HO2.out, HB2.out⟩, ?_⟩
      simp only [intOf]
      omega
    · have hkn : k = n := by omega
      have hltI : ¬ (k : Int) < (n : Int) := by omega
      have HO1 : Hid (wr.ownsRow w.heap.size 5 1 (.slice ab nb cb) nb (u8s (slotsTo l n ++ flatTo l 0))) := by
        rw [flatTo_zero, List.append_nil, ← hkn]; exact hown
      have HB1 := hide hbw
      have HNN : Hid (nb = 2 * n + (flatTo l 0).length) := by rw [flatTo_zero]; show nb = 2 * n + 0; have := HNB.out; omega
      obtain ⟨pe, hpe⟩ : ∃ p, p = endL l k := ⟨_, rfl⟩
      rw [← hpe]
      clear hown hbw hkn hpe HNB
      generalize wr = W1 at *
      go_wp2_with fail
      go_loopw [5, 8] (fun b i wr => ∃ (k nb cb : Nat) (ab : Option Addr), k ≤ n ∧ nb = 2 * n + (flatTo l k).length ∧ i = .int .i64 k ∧ b = .slice ab nb cb ∧ wr.ownsRow w.heap.size 5 1 (.slice ab nb cb) nb (u8s (slotsTo l n ++ flatTo l k)) ∧ Below w.heap.size w wr) (fun _ i _ => n - (intOf i).toNat)
      case atStart => exact ⟨0, nb, cb, ab, Nat.zero_le _, HNN.out, rfl, rfl, HO1.out, HB1.out⟩
      case round =>
        clear HO1 HB1 HNN
        obtain ⟨k2, nb2, cb2, ab2, hk2, hnb2, rfl, rfl, hown, hbw⟩ := hrel
        have HNB := hide hnb2
        clear hnb2
        by_cases hlt2 : k2 < n
        · have hkl : k2 < l.length := by have := HN.out; omega
          obtain ⟨g, o, rfl, f0⟩ := HC.out k2 hkl
          have f1 : wr.cell? ⟨g, o + k2, none⟩ = some (.string l[k2]) := (hbw.cell (p := ⟨g, o + k2, none⟩) (World.block_lt_of_cell? w _ f0)).trans f0
          have HFS := hide (flatTo_succ l k2 hkl)
          have hle : endL l (k2 + 1) ≤ 4072 := endL_le HF.out (show k2 + 1 ≤ l.length by omega)
          have hel : endL l (k2 + 1) = 2 * l.length + (flatTo l (k2 + 1)).length := rfl
          obtain ⟨x, hx⟩ : ∃ x, x = l[k2] := ⟨_, rfl⟩
          rw [← hx] at f1 HFS
          have hfl : (flatTo l (k2 + 1)).length = (flatTo l k2).length + x.size := by rw [HFS.out, List.length_append, bsize]
          obtain ⟨a2, c2, w2, hrun2, ho2, hg2⟩ := append_str w.heap.size nb2 (.slice ab2 nb2 cb2) (slotsTo l n ++ flatTo l k2) wr hown x (by have := HNB.out; have := HN.out; omega) hbw.size
          have hb2 : Below w.heap.size w w2 := hbw.grown hg2 hbw.size (fun j hj => (hown.lt j hj).1)
          have HO2 : Hid (w2.ownsRow w.heap.size 5 1 (.slice a2 (nb2 + x.size) c2) (nb2 + x.size) (u8s (slotsTo l n ++ flatTo l (k2 + 1)))) := by
            show World.ownsRow _ _ _ _ _ _ _
            rw [HFS.out, ← List.append_assoc]; exact ho2
          have HB2 := hide hb2
          have HNB2 : Hid (nb2 + x.size = 2 * n + (flatTo l (k2 + 1)).length) := by show _ = _; have := HNB.out; omega
          have hltI2 : (k2 : Int) < (n : Int) := by omega
          clear hx HC ho2 hb2 hg2 hown hbw f0 hfl hel hle
          go_wp2_with (first | (at_builtin; refine wpList_append_run2 78 9 rfl (.tmp 45) (.tmp 49) rfl rfl _ _ rfl rfl _ _ hrun2 ?_))
          refine ⟨⟨k2 + 1, nb2 + x.size, c2, a2, by omega, HNB2.out, by go_num, rfl, HO2.out, HB2.out⟩, ?_⟩
          simp only [intOf]
          omega
        · have hkn2 : k2 = n := by omega
          have hltI2 : ¬ (k2 : Int) < (n : Int) := by omega
          have HSZ2 : Hid (sz = 2 * n + (flatTo l n).length) := by show _ = _; rw [HSL.out, HN.out]; rfl
          have HO2 : Hid (wr.ownsRow w.heap.size 5 1 (.slice ab2 nb2 cb2) nb2 (u8s (slotsTo l n ++ flatTo l n ++ List.replicate (sz - sz) 0))) := by
            rw [Nat.sub_self, List.replicate_zero, List.append_nil]
            rw [hkn2] at hown; exact hown
          have HB2 := hide hbw
          have HNN2 : Hid (nb2 = sz) := by show _ = _; rw [HNB.out, hkn2]; exact HSZ2.out.symm
          clear hown hbw hkn2 HNB HC
          generalize wr = W2 at *
          go_wp2_with fail
          go_loopw [5, 9] (fun b i wr => ∃ (k cb : Nat) (ab : Option Addr), sz ≤ k ∧ k ≤ 4072 ∧ i = .int .i64 k ∧ b = .slice ab k cb ∧ wr.ownsRow w.heap.size 5 1 (.slice ab k cb) k (u8s (slotsTo l n ++ flatTo l n ++ List.replicate (k - sz) 0)) ∧ Below w.heap.size w wr) (fun _ i _ => 4072 - (intOf i).toNat)
          case atStart =>
            obtain rfl := HNN2.out
            exact ⟨nb2, cb2, ab2, Nat.le_refl _, hszle, rfl, rfl, HO2.out, HB2.out⟩
          case round =>
            clear HO2 HB2 HNN2
            obtain ⟨k3, cb3, ab3, hk3, hk4, rfl, rfl, hown, hbw⟩ := hrel
            by_cases hlt3 : k3 < 4072
            · obtain ⟨a2, c2, w2, hrun2, ho2, hg2⟩ := append_row 78 5 _ 1 Tryd.info5 Tryd.underlying78 rfl w.heap.size k3 (.slice ab3 k3 cb3) _ (wr.alloc (.cells (u8s [0]).toArray 5)) (owns_alloc hown _) (.slice (some ⟨wr.heap.size, 0, none⟩) 1 1) (u8s [0]) (lit_u8 wr [0] 1 rfl (by decide)) (u8s_one _) (by rw [u8s_length]; show (k3 + 1) * 1 ≤ _; omega) (by decide) (by have := hbw.size; simp; omega)
              rw [u8s_length, show ([0] : List UInt8).length = 1 from rfl] at hrun2 ho2
              rw [← u8s_append] at ho2
              have hb2 : Below w.heap.size w w2 := (hbw.alloc (by have := hbw.size; omega) _).grown hg2 (by have := hbw.size; simp; omega) (fun j hj => (hown.lt j hj).1)
              have HO2 : Hid (w2.ownsRow w.heap.size 5 1 (.slice a2 (k3 + 1) c2) (k3 + 1) (u8s (slotsTo l n ++ flatTo l n ++ List.replicate (k3 + 1 - sz) 0))) := by
                show World.ownsRow _ _ _ _ _ _ _
                rw [show k3 + 1 - sz = (k3 - sz) + 1 by omega, List.replicate_succ', ← List.append_assoc]; exact ho2
              have HB2 := hide hb2
              have hu0 : (u8s [0]).toArray = #[.int .u8 0] := rfl
              rw [hu0] at hrun2
              have hltI3 : (k3 : Int) < 4072 := by omega
              clear ho2 hb2 hg2 hown hbw hu0
              go_wp2_with (first | (at_builtin; refine wpList_append_run 78 rfl (.tmp 56) (.tmp 57) rfl rfl _ _ rfl rfl _ _ hrun2 ?_))
              refine ⟨⟨k3 + 1, c2, a2, by omega, by omega, by go_num, rfl, HO2.out, HB2.out⟩, ?_⟩
              simp only [intOf]
              omega
            · have hk5 : k3 = 4072 := by omega
              have hltI3 : ¬ (k3 : Int) < 4072 := by omega
              have hll : slotsTo l n ++ flatTo l n ++ List.replicate (k3 - sz) 0 = layL l := by
                unfold layL
                rw [hk5, HSL.out, HN.out]
              rw [hll] at hown
              subst hk5
              obtain ⟨L, hL⟩ : ∃ L, L = layL l := ⟨_, rfl⟩
              rw [← hL] at hown HLL
              have hcv := run_str wr (.slice ab3 4072 cb3) L (by
                obtain ⟨g, c, he, _, _⟩ := hown.form (by decide)
                cases he
                exact ⟨some ⟨g, 0, none⟩, cb3, by rw [HLL.out], fun j hj => ⟨g, 0, rfl, by rw [Nat.zero_add, hown.cellAt j (by rw [HLL.out] at hj; omega), u8s_get L j hj]⟩⟩) (by rw [HLL.out]; decide)
              have HLQ := hide hL
              have HBW := hide hbw
              clear hL hown hbw hll
              go_wp2
              go_ret2
              exact ⟨by rw [← HLQ.out]; rfl, HBW.out⟩

def LayN (l : List ByteArray) (s : ByteArray) (c : Nat) : Prop := (sizeL l ≤ 4072 ∧ s = ⟨(layL l).toArray⟩ ∧ c = 0) ∨ (¬ sizeL l ≤ 4072 ∧ s = ⟨#[]⟩ ∧ c = 3)
theorem LayN.unique {l : List ByteArray} {s s' : ByteArray} {c c' : Nat} (h : LayN l s c) (k : LayN l s' c') : s = s' ∧ c = c' := by
  rcases h with ⟨h1, rfl, rfl⟩ | ⟨h1, rfl, rfl⟩ <;> rcases k with ⟨k1, rfl, rfl⟩ | ⟨k1, rfl, rfl⟩
  · exact ⟨rfl, rfl⟩
  · exact absurd h1 k1
  · exact absurd k1 h1
  · exact ⟨rfl, rfl⟩
theorem LayV.num {A : Nat → Addr} {l : List ByteArray} {e : Ending} (h : LayV A l e) : ∃ (s : ByteArray) (c : Nat) (ev : Value), e = .returned (.tuple #[.string s, ev]) ∧ LayN l s c ∧ NumOf A ev c := by
  rcases h with ⟨h1, rfl⟩ | ⟨h1, rfl⟩
  · exact ⟨_, 0, _, rfl, .inl ⟨h1, rfl, rfl⟩, .inl ⟨rfl, rfl⟩⟩
  · exact ⟨_, 3, _, rfl, .inr ⟨h1, rfl, rfl⟩, .inr (.inr (.inr (.inl ⟨rfl, rfl⟩)))⟩

set_option maxHeartbeats 1000000 in
theorem rlay_any (v : Value) (l : List ByteArray) (w : World) (hm : sizeL l ≤ 1152921504606846976) (hr : StrR w v l) :
    Calls Tryd.prog 32 #[v] w fun e w' => (∃ (s : ByteArray) (c : Nat), e = .returned (.tuple #[.string s, .int .i64 (c : Int)]) ∧ LayN l s c) ∧ Below w.heap.size w w' := by
  by_cases hf : sizeL l ≤ 4072
  · obtain ⟨a, cap, rfl, hcap, hc⟩ := hr
    refine (rlay_fits a cap l.length l w rfl hf hc hcap).mono ?_
    rintro e w' ⟨rfl, hb⟩
    exact ⟨⟨_, 0, rfl, .inl ⟨hf, rfl, rfl⟩⟩, hb⟩
  · have HSZ := hide (rsize_any v l w hm hr)
    have hsz : (4072 : Int) < ((sizeL l : Nat) : Int) := by omega
    have HF : Hid (LayN l ⟨#[]⟩ 3) := .inr ⟨hf, rfl, rfl⟩
    obtain ⟨sz, hszl⟩ : ∃ sz, sz = sizeL l := ⟨_, rfl⟩
    rw [← hszl] at HSZ hsz
    clear hf hr hm hszl
    go_enter Tryd.func32, Tryd.ntmps32
    go_wp2_with fail
    refine HSZ.out.mono ?_
    rintro e w' ⟨rfl, rfl⟩
    go_wp2
    go_ret2
    exact ⟨⟨_, 3, rfl, HF.out⟩, Below.refl _ _⟩

end Go.Proofs.YtdacbajiapdiiabDoor
