import Derived.Test.YtgljkgkophaefabDoorMarks3
namespace Go.Proofs.YtgljkgkophaefabDoor
open Go.RowKit

theorem hide' {p : Prop} (h : p) : Hid p := h
theorem flat_apart {bss : List (List Nat)} (h : bss.flatten.Nodup) {i j : Nat} (hi : i < bss.length) (hj : j < bss.length) (hne : i ≠ j) : ∀ k ∈ bss[i], k ∉ bss[j] := by
  have hp := (List.pairwise_flatten.1 h).2
  have hq := List.pairwise_iff_getElem.1 hp
  intro k hk hk'
  rcases Nat.lt_or_gt_of_ne hne with hl | hl
  · exact hq i j hi hj hl k hk k hk' rfl
  · exact hq j i hj hi hl k hk' k hk rfl
theorem mem_flat {bss : List (List Nat)} {i : Nat} (hi : i < bss.length) : ∀ k ∈ bss[i], k ∈ bss.flatten := fun _ hk => List.mem_flatten.2 ⟨_, List.getElem_mem hi, hk⟩
theorem mkdL_get (l : List It) (n i : Nat) (h : i < l.length) (h' : i < (mkdL l n).length) : (mkdL l n)[i] = l[i].mkd (n + cntL (l.take i)) := by
  have e : mkdL l n = mkdL (l.take i) n ++ mkdL (l.drop i) (n + cntL (l.take i)) := by rw [← mkdL_append, List.take_append_drop]
  have hl : (mkdL (l.take i) n).length = i := by rw [mkdL_len, List.length_take]; omega
  have hd : l.drop i = l[i] :: l.drop (i + 1) := List.drop_eq_getElem_cons h
  rw [hd] at e
  simp only [mkdL] at e
  simp only [e]
  rw [List.getElem_append_right (by omega)]
  simp [hl]
theorem mkd_ok (x : It) (n : Nat) (h : x.Ok) (hn : n + 1 ≤ 1000000000) : (x.mkd n).Ok := by
  rw [It.mkd_eq]
  exact ⟨h.k1, h.k2, by show -9223372036854775808 ≤ ((n + 1 : Nat) : Int); omega, by show ((n + 1 : Nat) : Int) ≤ 9223372036854775807; omega, h.t⟩
theorem part_ne (l : List It) (n j i : Nat) (h : j < l.length) (hi : i < (part l n (j + 1)).length) (hi' : i < (part l n j).length) (hne : i ≠ j) : (part l n (j + 1))[i] = (part l n j)[i] := by
  simp only [part_succ l n j h]
  rw [List.getElem_set_ne (by omega)]
theorem part_new (l : List It) (n j : Nat) (h : j < l.length) (hi : j < (part l n (j + 1)).length) : (part l n (j + 1))[j] = l[j].mkd (n + cntL (l.take j)) := by
  simp only [part_succ l n j h]
  rw [List.getElem_set_self]
theorem OnlyB.cell {bs : List Nat} {w w' : World} (h : OnlyB bs w w') {a : Addr} {v : Value} (hc : w.cell? a = some v) (hn : a.block ∉ bs) : w'.cell? a = some v :=
  (World.cell?_of_block (a := a) (h.block a.block (World.block_lt_of_cell? w a hc) hn)).trans hc

/-- What stands when j items are numbered. -/
structure MkS (w : World) (g : Nat) (v : Value) (l : List It) (n j : Nat) (us : List Value) (bss : List (List Nat)) (wr : World) : Prop where
  own : wr.ownsRow 0 43 4 v l.length (cellsOf' (part l n j) us)
  tree : ∀ i (_h : i < l.length) (h0 : i < (part l n j).length) (h1 : i < us.length) (h2 : i < bss.length), Tr wr us[i] (part l n j)[i].list bss[i]
  only : OnlyB (g :: bss.flatten) w wr

theorem MkS.step {w : World} {g cap : Nat} {l : List It} {n j : Nat} {us : List Value} {bss : List (List Nat)} {wr w3 : World} (h : MkS w g (.slice (some ⟨g, 0, none⟩) l.length cap) l n j us bss wr) (hj : j < l.length) (hus : us.length = l.length) (hbs : bss.length = l.length) (hnd : (g :: bss.flatten).Nodup)
    (h1 : j < us.length) (h2 : j < bss.length) (ht : Tr w3 us[j] (mkdL l[j].list (n + cntL (l.take j) + 1)) bss[j]) (ho : OnlyB bss[j] (wr.setCell ⟨g, j * 4 + 1, none⟩ (.int .i64 ((n + cntL (l.take j) + 1 : Nat) : Int))) w3) :
    MkS w g (.slice (some ⟨g, 0, none⟩) l.length cap) l n (j + 1) us bss w3 := by
  have hn := List.nodup_cons.1 hnd
  have hpl := part_len l n j (by omega)
  have hset : (cellsOf' (part l n j) us).set (j * 4 + 1) (.int .i64 ((n + cntL (l.take j) + 1 : Nat) : Int)) = cellsOf' (part l n (j + 1)) us := by
    rw [cells_num (part l n j) us j _ (mkdL l[j].list (n + cntL (l.take j) + 1)) (by omega) (by omega), part_at l n j hj (by omega), part_succ l n j hj, It.mkd_eq]
  have hst := (h.own.stored (j * 4 + 1) (.int .i64 ((n + cntL (l.take j) + 1 : Nat) : Int))).1
  rw [hset] at hst
  have ho1 : OnlyB (g :: bss.flatten) wr (wr.setCell ⟨g, j * 4 + 1, none⟩ (.int .i64 ((n + cntL (l.take j) + 1 : Nat) : Int))) := (OnlyB.set g _ wr _).more (fun k hk => by simp at hk; simp [hk])
  have hlt : g < (wr.setCell ⟨g, j * 4 + 1, none⟩ (.int .i64 ((n + cntL (l.take j) + 1 : Nat) : Int))).heap.size := (owns_blk hst g rfl).2
  refine ⟨owns_same hst rfl (ho.block g hlt (fun hm => hn.1 (mem_flat h2 g hm))), fun i hi h0 h1' h2' => ?_, (h.only.trans ho1).trans (ho.more (fun k hk => List.mem_cons_of_mem _ (mem_flat h2 k hk)))⟩
  by_cases hij : i = j
  · subst hij
    rw [part_new l n i hj h0, It.mkd_eq]
    exact ht
  · rw [part_ne l n j i hj h0 (by omega) hij]
    have t1 := (h.tree i hi (by omega) h1' h2').only (OnlyB.set g (j * 4 + 1) wr (.int .i64 ((n + cntL (l.take j) + 1 : Nat) : Int))) (fun k hk hm => by
      simp at hm
      subst hm
      exact hn.1 (mem_flat h2' k hk))
    exact t1.only ho (fun k hk => flat_apart hn.2 h2' h2 hij k hk)

set_option maxHeartbeats 1000000 in
theorem marks_nil (n : Nat) (w : World) : Calls Tryd.prog 19 #[.slice none 0 0, .int .i64 (n : Int)] w fun e w' => e = .returned (.int .i64 (n : Int)) ∧ w = w' := by
  go_enter Tryd.func19, Tryd.ntmps19
  go_wp2
  go_loop [1, 5] (fun m i => m = .int .i64 (n : Int) ∧ i = .int .i64 0) (fun _ _ => 0)
  case atStart => exact ⟨rfl, rfl⟩
  case round =>
    obtain ⟨rfl, rfl⟩ := hrel
    go_wp2
    go_ret
    exact ⟨rfl, rfl⟩

set_option maxHeartbeats 4000000 in
theorem marks_any (k : Nat) : MarksC k := by
  induction k with
  | zero => intro l v n bs w hk; cases l <;> simp at hk
  | succ k ih =>
    intro l v n bs w hk hv hn
    cases hv with
    | nil =>
      refine (marks_nil n w).mono ?_
      rintro e w' ⟨rfl, rfl⟩
      exact ⟨by simp [cntL], by simp only [mkdL]; exact .nil, OnlyB.refl _ _⟩
    | row _ g _ us bss hne hlen hus hbs hvb how hok hin hnd =>
      have hpos : 0 < l.length := by
        rcases Nat.eq_zero_or_pos l.length with h | h
        · exact absurd (List.length_eq_zero_iff.1 h) hne
        · exact h
      obtain ⟨g', cap, rfl, _, _⟩ := how.form hpos
      simp only [Value.ownBlock, Option.some.injEq] at hvb
      subst hvb
      have HH : Hid (MarksC k ∧ SizeOf.sizeOf l ≤ k + 1) := ⟨ih, hk⟩
      have HS0 : Hid (MkS w g' (.slice (some ⟨g', 0, none⟩) l.length cap) l n 0 us bss w) := ⟨by rw [part_zero]; exact how, fun i h h0 h1 h2 => by simp only [part_zero]; exact hin i h h1 h2, OnlyB.refl _ _⟩
      have HFIX : Hid (us.length = l.length ∧ bss.length = l.length ∧ (g' :: bss.flatten).Nodup ∧ l ≠ [] ∧ l.length ≤ 2513169434843 ∧ ∀ i (h : i < l.length), l[i].Ok) := ⟨hus, hbs, hnd, hne, hlen, hok⟩
      obtain ⟨len, hln⟩ : ∃ len, len = l.length := ⟨_, rfl⟩
      rw [← hln] at hpos hlen ⊢
      have HLN := hide' hln
      clear ih hk how hok hin hnd hus hbs hne hln
      go_enter Tryd.func19, Tryd.ntmps19
      go_wp2_with fail
      go_loopw [1, 5] (fun m i wr => ∃ j : Nat, j ≤ len ∧ i = .int .i64 j ∧ m = .int .i64 ((n + cntL (l.take j) : Nat) : Int) ∧ MkS w g' (.slice (some ⟨g', 0, none⟩) l.length cap) l n j us bss wr) (fun _ i _ => len - (intOf i).toNat)
      case atStart => exact ⟨0, Nat.zero_le _, rfl, by simp [cntL], HS0.out⟩
      case round =>
        obtain ⟨j, hj, rfl, rfl, hst⟩ := hrel
        have hcle := cntL_take_le l j
        by_cases hlt : j < len
        · have hjl : j < l.length := by have := HLN.out; omega
          have h1 : j < us.length := by have := HFIX.out.1; omega
          have h2 : j < bss.length := by have := HFIX.out.2.1; omega
          have hpl := part_len l n j (by omega)
          have hup : us.length = (part l n j).length := by rw [hpl]; exact HFIX.out.1
          have hcs := cntL_take_succ l j hjl
          have hcl2 := cntL_take_le l (j + 1)
          have hce := l[j].cnt_eq
          obtain ⟨N, hN⟩ : ∃ N : Nat, N = n + cntL (l.take j) := ⟨_, rfl⟩
          have hNb : N + 1 + cntL l[j].list ≤ 1000000000 := by omega
          have HNX : Hid (N + 1 + cntL l[j].list = n + cntL (l.take (j + 1))) := by show _ = _; omega
          have hce1 := hst.own.cellAt (j * 4 + 1) (by omega)
          rw [(cellsOf'_get (part l n j) us (by omega) j (by omega)).2.1] at hce1
          have hce3 := hst.own.cellAt (j * 4 + 3) (by omega)
          rw [(cellsOf'_get (part l n j) us (by omega) j (by omega)).2.2.2, List.getElem?_eq_getElem h1] at hce3
          have hfz := hst.own.frozenAt (j * 4 + 1)
          have htj : Tr wr us[j] l[j].list bss[j] := by
            have := hst.tree j hjl (by omega) h1 h2
            rw [part_at l n j hjl (by omega)] at this
            exact this
          have hn' := List.nodup_cons.1 HFIX.out.2.2.1
          have ht2 := htj.only (OnlyB.set g' (j * 4 + 1) wr (.int .i64 ((N + 1 : Nat) : Int))) (fun k hk hm => by
            simp at hm
            subst hm
            exact hn'.1 (mem_flat h2 k hk))
          have HIH := hide' (HH.out.1 l[j].list us[j] (N + 1) bss[j] _ (by have := list_lt_of_get hjl; have := HH.out.2; omega) ht2 hNb)
          have HSTEP : Hid (∀ w3, Tr w3 us[j] (mkdL l[j].list (N + 1)) bss[j] → OnlyB bss[j] (wr.setCell ⟨g', j * 4 + 1, none⟩ (.int .i64 ((N + 1 : Nat) : Int))) w3 → MkS w g' (.slice (some ⟨g', 0, none⟩) l.length cap) l n (j + 1) us bss w3) := fun w3 p q => by
            subst hN
            exact hst.step hjl HFIX.out.1 HFIX.out.2.1 HFIX.out.2.2.1 h1 h2 p q
          obtain ⟨aa, ca, hform⟩ := htj.form
          rw [← hN]
          obtain ⟨uj, huj⟩ : ∃ u, u = us[j] := ⟨_, rfl⟩
          rw [← huj] at HIH HSTEP hce3 hform
          subst hform
          obtain ⟨N1, hN1⟩ : ∃ N1, N1 = N + 1 := ⟨_, rfl⟩
          rw [← hN1] at HIH HSTEP HNX
          have hw : IntKind.i64.wrap ((N : Int) + 1) = (N1 : Int) := by rw [IntKind.wrap_i64]; omega
          obtain ⟨cl, hcl⟩ : ∃ cl, cl = cntL l[j].list := ⟨_, rfl⟩
          rw [← hcl] at HIH HNX
          generalize (part l n j)[j].num = old at *
          have hltI : (j : Int) < (len : Int) := by omega
          clear htj ht2 hst hn' hN hN1 huj hcs hcl2 hce hcl hNb hcle hpl hup HS0
          go_wp2_with fail
          refine HIH.out.mono ?_
          rintro e w3 ⟨rfl, ht3, ho3⟩
          have HS3 := hide' (HSTEP.out w3 ht3 ho3)
          obtain ⟨M, hM⟩ : ∃ M : Nat, M = N1 + cl := ⟨_, rfl⟩
          rw [← hM] at HNX ⊢
          clear ht3 ho3 HIH HSTEP hce1 hce3 hfz hM
          go_wp2_with fail
          go_roundw
          case rel => exact ⟨j + 1, by omega, by go_num, by rw [HNX.out], HS3.out⟩
          case measure => simp [intOf]; omega
        · have hkn : j = l.length := by have := HLN.out; omega
          have hltI : ¬ (j : Int) < (len : Int) := by omega
          have HF : Hid (cntL (l.take j) = cntL l) := by show _ = _; rw [hkn, List.take_of_length_le (Nat.le_refl _)]
          have HT : Hid (Tr wr (.slice (some ⟨g', 0, none⟩) l.length cap) (mkdL l n) (g' :: bss.flatten)) := by
            obtain ⟨f1, f2, f3, f4, f5, f6⟩ := HFIX.out
            have ho := hst.own
            have htr := hst.tree
            rw [hkn, part_all] at ho
            refine .row _ g' (mkdL l n) us bss (fun h => f4 (List.length_eq_zero_iff.1 (by rw [← mkdL_len l n, h]; rfl))) (by rw [mkdL_len]; exact f5) (by rw [mkdL_len]; exact f1) (by rw [mkdL_len]; exact f2) rfl (by rw [mkdL_len]; exact ho) (fun i h => ?_) (fun i h h1 h2 => ?_) f3
            · rw [mkdL_len] at h
              rw [mkdL_get l n i h]
              refine mkd_ok _ _ (f6 i h) ?_
              have a1 := cntL_take_succ l i h
              have a2 := cntL_take_le l (i + 1)
              have a3 := l[i].cnt_eq
              omega
            · rw [mkdL_len] at h
              have := htr i h (by rw [part_len l n j (by omega)]; exact h) h1 h2
              simp only [hkn, part_all] at this
              exact this
          have HO := hide' hst.only
          obtain ⟨N, hN⟩ : ∃ N : Nat, N = n + cntL (l.take j) := ⟨_, rfl⟩
          have HNN : Hid (N = n + cntL l) := by rw [hN, HF.out]; exact rfl
          rw [← hN]
          clear hst hkn hN hcle HF HS0
          go_wp2_with fail
          go_ret
          exact ⟨congrArg (fun z : Int => Ending.returned (.int .i64 z)) (by have := HNN.out; omega), by have := HT.out; rw [← HLN.out] at this; exact this, HO.out⟩

end Go.Proofs.YtgljkgkophaefabDoor
