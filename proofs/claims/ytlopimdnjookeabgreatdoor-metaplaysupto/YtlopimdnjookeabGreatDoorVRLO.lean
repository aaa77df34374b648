import Derived.Test.YtlopimdnjookeabGreatDoorA7
namespace Go.Proofs.YtlopimdnjookeabGreatDoor.V
open Go.RowKit Go.Maps

theorem chunkO_cells {w : World} {g off : Nat} {l : List UInt8} (hc : ∀ j (h : j < l.length), w.cell? ⟨g, off + j, none⟩ = some (.int .u8 (l[j].toNat : Int))) (k : Nat) (hk : (k + 1) * 512 ≤ l.length) (cap : Nat) :
    (convert 33 9 (.slice (some ⟨g, off + k * 512, none⟩) 512 cap)).run Tryz.prog w = .ok (.string (mkb ((l.drop (k * 512)).take 512))) w := by
  have hl : ((l.drop (k * 512)).take 512).length = 512 := by rw [List.length_take, List.length_drop]; omega
  have h := run_convert_bytes_back (P := Tryz.prog) w 33 9 5 ⟨g, off + k * 512, none⟩ cap ((l.drop (k * 512)).take 512) Tryz.underlying33 Tryz.underlying5 Tryz.underlying9 (fun j hj => by
    rw [Addr.add_mid]
    have := hc (k * 512 + j) (by omega)
    rw [← Nat.add_assoc] at this
    rw [this]
    simp)
  rw [hl] at h
  exact h
/-- A slice of bytes, anywhere in a block that the device lacks. -/
def BytesO (w : World) (F : Nat → Prop) (v : Value) (l : List UInt8) : Prop := ∃ a cap g off, v = .slice a l.length cap ∧ l.length ≤ cap ∧ l.length ≤ 140737488355328 ∧ (0 < l.length → a = some ⟨g, off, none⟩ ∧ ¬ F g) ∧ ∀ j (h : j < l.length), w.cell? ⟨g, off + j, none⟩ = some (.int .u8 (l[j].toNat : Int))

set_option maxRecDepth 100000 in
set_option maxHeartbeats 2000000 in
theorem rwriteO_any (b : Nat) (F : Nat → Prop) (d : Dev) (T : Nat) (w : World) (h : RAll w b F d T) (s : Int) (hs : -9223372036854775808 ≤ s ∧ s < 9223372036854775808) (v : Value) (l : List UInt8) (hv : BytesO w F v l) (hp : d.pend.length + l.length / 512 ≤ 5864062014805) (hT : T ≤ 1048576) (hA : ∀ a ∈ d.arms, a.fates.length ≤ 1048576 ∧ ∀ f ∈ a.fates, f.junk.size ≤ 1048576) :
    Calls Tryz.prog 32 #[.pointer (some ⟨b, 0, none⟩), .int .i64 s, v] w fun e w' => e = .returned (.int .i64 ((d.write s l).2 : Int)) ∧ ∃ F' T', RAll w' b F' (d.write s l).1 T' ∧ Step F F' w w' ∧ T' + armSum (d.write s l).1.arms ≤ T + armSum d.arms := by
  have HK := Hid.mk2 h
  obtain ⟨a, cap, g, off, rfl, hcap, hlen, hag, hcell⟩ := hv
  obtain ⟨tv, lv, pv, av, h⟩ := h
  have c4 : w.cell? ⟨b, 4, none⟩ = some (.bool d.dead) := h.body.cell 4
  have c1 : w.cell? ⟨b, 1, none⟩ = some (.int .i64 d.size) := h.body.cell 1
  have s0 := h.ok.s0
  have s1 := h.ok.s1
  have HA := Hid.mk2 hA
  have HC := Hid.mk2 hcell
  obtain ⟨L, hL⟩ : ∃ L, L = l.length := ⟨_, rfl⟩
  have HL := Hid.mk2 hL
  obtain ⟨n, hn⟩ : ∃ n, n = L / 512 := ⟨_, rfl⟩
  obtain ⟨m, hm⟩ : ∃ m, m = L % 512 := ⟨_, rfl⟩
  have q1 : ((L : Int) / 512) = (n : Int) := by omega
  have q1' : (L : Int).tdiv 512 = (n : Int) := by rw [Int.tdiv_eq_ediv_of_nonneg (by omega)]; omega
  have q2 : ((L : Int) % 512) = (m : Int) := by omega
  have q2' : (L : Int).tmod 512 = (m : Int) := by rw [Int.tmod_eq_emod_of_nonneg (by omega)]; omega
  have HNM : Hid (L = n * 512 + m ∧ m < 512) := ⟨by omega, by omega⟩
  have HP : Hid (d.pend.length + n ≤ 5864062014805) := by rw [← hL] at hp; rw [hn]; exact hp
  have HW : Hid (d.write s l = if d.dead then (d, 8) else if L = 0 ∨ m ≠ 0 ∨ d.fits s (n : Int) = false then (d, 1) else Dev.done { d with pend := d.pend ++ chunks s l n, nw := wrap64 (d.nw + (n : Int)) }) := by rw [hm, hn, hL]; rfl
  have HFI : Hid (d.fits s (n : Int) = decide (0 ≤ s ∧ 0 ≤ (n : Int) ∧ s ≤ d.size - n)) := (rfl : d.fits s _ = _)
  have HH := Hid.mk2 h
  rw [← hL] at hcap hlen hag
  rw [← hL]
  clear h hcell hL hp hA hn hm
  have HER : Hid (d.write s l = (d, 1) → (Ending.returned (.int .i64 1) = .returned (.int .i64 ((d.write s l).2 : Int)) ∧ ∃ F' T', RAll w b F' (d.write s l).1 T' ∧ Step F F' w w ∧ T' + armSum (d.write s l).1.arms ≤ T + armSum d.arms)) := fun e => by
    rw [e]; exact ⟨rfl, F, T, HK.out, Step.refl _ _, Nat.le_refl _⟩
  obtain ⟨sz, hsz⟩ : ∃ sz, sz = d.size := ⟨_, rfl⟩
  have HSZ := Hid.mk2 hsz
  rw [← hsz] at c1 s0 s1 HFI
  clear hsz
  cases hd : d.dead
  · rw [hd] at c4
    by_cases b1 : L = 0
    · have HR : Hid (d.write s l = (d, 1)) := by show d.write s l = _; rw [HW.out, hd, if_neg (by simp), if_pos (.inl b1)]
      have t1 : ((L : Int) == 0) = true := by simp [b1]
      clear HW b1 HNM
      go_enter Tryz.func32, Tryz.ntmps32
      go_wp2_with fail
      go_ret
      exact HER.out HR.out
    · have t1 : ((L : Int) == 0) = false := by simp; omega
      by_cases b2 : m = 0
      · subst b2
        by_cases b3 : s < 0
        · have HR : Hid (d.write s l = (d, 1)) := by show d.write s l = _; rw [HW.out, hd, if_neg (by simp), if_pos (.inr (.inr (by rw [HFI.out]; exact decide_eq_false (by omega))))]
          clear HW b1 HNM
          go_enter Tryz.func32, Tryz.ntmps32
          go_wp2_with fail
          go_ret
          exact HER.out HR.out
        · by_cases b4 : sz < s
          · have HR : Hid (d.write s l = (d, 1)) := by show d.write s l = _; rw [HW.out, hd, if_neg (by simp), if_pos (.inr (.inr (by rw [HFI.out]; exact decide_eq_false (by omega))))]
            clear HW b1 HNM
            go_enter Tryz.func32, Tryz.ntmps32
            go_wp2_with fail
            go_ret
            exact HER.out HR.out
          · have q4 : IntKind.i64.wrap (sz - s) = sz - s := wrap_i64 _ (by omega) (by omega)
            by_cases b5 : sz - s < (n : Int)
            · have HR : Hid (d.write s l = (d, 1)) := by show d.write s l = _; rw [HW.out, hd, if_neg (by simp), if_pos (.inr (.inr (by rw [HFI.out]; exact decide_eq_false (by omega))))]
              clear HW b1 HNM
              go_enter Tryz.func32, Tryz.ntmps32
              go_wp2_with fail
              go_ret
              exact HER.out HR.out
            · have HR : Hid (d.write s l = Dev.done { d with pend := d.pend ++ chunks s l n, nw := wrap64 (d.nw + (n : Int)) }) := by
                show d.write s l = _
                rw [HW.out, hd, if_neg (by simp), if_neg]
                rintro (h | h | h)
                · exact b1 h
                · exact h rfl
                · rw [HFI.out] at h
                  exact absurd (of_decide_eq_false h) (by omega)
              have HLn : Hid (L = n * 512) := by have := HNM.out; show L = _; omega
              have HLn2 : Hid (l.length = n * 512) := by show l.length = _; rw [← HL.out]; exact HLn.out
              obtain ⟨hag1, hag2⟩ := hag (by omega)
              subst hag1
              have hfs1 : 0 ≤ s := by omega
              have hfs2 : s ≤ sz - (n : Int) := by omega
              have HCK : Hid (∀ k, k < n → SecOk d.size (chunk s l k)) := fun k hk => chunk_ok hfs1 (by rw [← HSZ.out]; exact hfs2) HLn2.out hk
              have HI0 : Hid (RFul w b F { d with pend := d.pend ++ chunks s l 0 } T tv lv pv av) := by simpa [chunks, Hid] using HH.out
              have HOK := Hid.mk2 HH.out.ok
              obtain ⟨i0, hi, hz0, hz1, hz2⟩ := info_parts Tryz.info72
              clear HW HNM hag HH HER
              go_enter Tryz.func32, Tryz.ntmps32
              go_wp2_with fail
              clear c1 c4 q1 q1' q2 q2' t1 q4
              go_loopw [8] (fun i wr => ∃ k F' pv', k ≤ n ∧ i = .int .i64 (k : Int) ∧ RFul wr b F' { d with pend := d.pend ++ chunks s l k } T tv lv pv' av ∧ Step F F' w wr) (fun i _ => n - (intOf i).toNat)
              case atStart => exact ⟨0, F, pv, Nat.zero_le _, rfl, HI0.out, Step.refl _ _⟩
              case round =>
                obtain ⟨k, F', pv', hk, rfl, hful, hst⟩ := hrel
                have HF := Hid.mk2 hful
                have HST := Hid.mk2 hst
                clear hful hst HI0
                by_cases hlt : k < n
                · have hplen : (d.pend ++ chunks s l k).length = d.pend.length + k := by simp [chunks_len]
                  obtain ⟨P, hP⟩ : ∃ P, P = d.pend.length + k := ⟨_, rfl⟩
                  rw [← hP] at hplen
                  have hPb : P + 1 ≤ 5864062014805 := by have := HP.out; omega
                  have hpend : wr.ownsRow 0 72 2 pv' P (secCells (d.pend ++ chunks s l k)) := by rw [← hplen]; exact HF.out.body.pend
                  have x3 : wr.cell? ⟨b, 3, none⟩ = some pv' := HF.out.body.cell 3
                  obtain ⟨pa, pc, rfl, -⟩ := owns_form hpend
                  have hwk2 : IntKind.i64.wrap (s + (k : Int)) = s + (k : Int) := wrap_i64 _ (by omega) (by omega)
                  have hcv := chunkO_cells (w := wr) (g := g) (off := off) (l := l) (fun j h => HST.out.cell (a := ⟨g, off + j, none⟩) (HC.out j h) hag2) k (by rw [← HL.out, HLn.out]; omega) (cap - k * 512)
                  obtain ⟨D, hD⟩ : ∃ D, D = mkb ((l.drop (k * 512)).take 512) := ⟨_, rfl⟩
                  rw [← hD] at hcv
                  have HD := Hid.mk2 hD
                  have i1 : IntKind.i64.wrap ((k : Int) * 512) = (k : Int) * 512 := wrap_i64 _ (by omega) (by omega)
                  have i2 : IntKind.i64.wrap (((k : Int) + 1) * 512) = ((k : Int) + 1) * 512 := wrap_i64 _ (by omega) (by omega)
                  have hLb1 : ((k : Int) + 1) * 512 ≤ (cap : Int) := by have := HLn.out; omega
                  have e512 : (k + 1) * 512 - k * 512 = 512 := by omega
                  have hLb2 : (k : Int) * 512 ≤ ((k : Int) + 1) * 512 := by omega
                  have hLb3 : (0 : Int) ≤ (k : Int) * 512 := by omega
                  have hlt' : (k : Int) < (n : Int) := by omega
                  have HROW := Hid.mk2 hpend
                  have HPL := Hid.mk2 hplen
                  have HPP := Hid.mk2 hP
                  clear hD hpend hplen hP
                  go_wp2_with (first
                    | (at_builtin; refine wpList_append_lies _ rfl _ _ 38 rfl 0 72 i0 (.agg #[.int .i64 0, .string ⟨#[]⟩]) 2 24 Tryz.underlying38 hi hz0 hz1 hz2 rfl (by decide) _ P _ rfl (HROW.out.alloc _) ⟨wr.heap.size, 0, none⟩ 1 1 [.int .i64 (s + (k : Int)), .string D] rfl rfl ?c1 ?c2 ?c3 ?c4 ?c5 ?c6 (wr.heap.size + 1) ?c7 ?_))
                  case c1 => exact World.news_of_block (heap_alloc_new wr _)
                  case c2 => intro u hu; simp only [List.mem_cons, List.not_mem_nil, or_false] at hu; rcases hu with rfl | rfl <;> rfl
                  case c3 => decide
                  case c4 => unfold maxLen; omega
                  case c5 => omega
                  case c6 => exact Nat.zero_le _
                  case c7 => simp
                  intro g2 cap2 w2 hown2 hgrow2 hat2 hlg2
                  have hW := HF.out.below (below_new wr (.cells #[.int .i64 (s + (k : Int)), .string D] 72))
                  have hrow2 : w2.ownsRow 0 72 2 (.slice (some ⟨g2, 0, none⟩) (P + 1) cap2) (d.pend ++ chunks s l (k + 1)).length (secCells (d.pend ++ chunks s l (k + 1))) := by
                    rw [chunks_succ, ← List.append_assoc, List.length_append, HPL.out, secCells_app]
                    have : secCells [chunk s l k] = [.int .i64 (s + (k : Int)), .string D] := by rw [HD.out]; rfl
                    rw [this]
                    exact hown2
                  have hok2 : ({ d with pend := d.pend ++ chunks s l (k + 1) } : Dev).Ok := ⟨HOK.out.s0, HOK.out.s1, HOK.out.dur, HOK.out.rise, fun x hx => by
                    rcases List.mem_append.1 hx with hx | hx
                    · exact HOK.out.pend x hx
                    · simp only [chunks, List.mem_map, List.mem_range] at hx
                      obtain ⟨j, hj, rfl⟩ := hx
                      exact HCK.out j (by omega), HOK.out.arms⟩
                  have PB := hW.setPend (w1 := w2) (l' := d.pend ++ chunks s l (k + 1)) hgrow2.os hgrow2.tape hgrow2.output hgrow2.size (fun j hj hne => hgrow2.block j hj (fun e => hne e.symm)) hrow2 (fun j hj => by
                    simp only [Value.ownBlock, Option.some.injEq] at hj
                    subst hj
                    exact hat2.imp id (fun e => by simp; omega)) hok2
                  have hpb : (Value.slice pa P pc).ownBlock ≠ some b := fun e => by
                    obtain ⟨_, _, c, hc⟩ := owns_blk HROW.out b e
                    rw [HF.out.body.blk] at hc
                    simp at hc
                  have hb2 : w2.heap[b]? = _ := (hgrow2.block b (hW.body.lt b hW.body.fb) (fun e => hpb e.symm)).trans hW.body.blk
                  have z3 : w2.cell? ⟨b, 3, none⟩ = some (.slice pa P pc) := by rw [cell_of_row _ _ _ _ _ _ hb2]; rfl
                  have fz3 : w2.frozen? ⟨b, 3, none⟩ = false := frozen_cells hb2
                  have HPB := Hid.mk2 PB
                  have HSB := Hid.mk2 ((HST.out.trans (Step.of_below (below_new wr (.cells #[.int .i64 (s + (k : Int)), .string D] 72)))).trans PB.2)
                  clear PB hrow2 hown2 hgrow2 hat2 hlg2 hb2 hW hok2 hpb x3 hcv
                  go_wp2_with fail
                  go_roundw
                  case rel => exact ⟨k + 1, _, _, by omega, by go_num, HPB.out.1, HSB.out⟩
                  case measure => simp [intOf]; omega
                · have hke : k = n := by omega
                  subst hke
                  have x7 : wr.cell? ⟨b, 7, none⟩ = some (.int .i64 d.nw) := HF.out.body.cell 7
                  have f7 : wr.frozen? ⟨b, 7, none⟩ = false := frozen_cells HF.out.body.blk
                  have hok := HF.out.ok
                  obtain ⟨h5, s5⟩ := HF.out.setCount (d' := { d with pend := d.pend ++ chunks s l k, nw := wrap64 (d.nw + (k : Int)) }) 7 (.int .i64 (wrap64 (d.nw + (k : Int)))) rfl rfl rfl rfl ⟨hok.s0, hok.s1, hok.dur, hok.rise, hok.pend, hok.arms⟩
                  have DN := Hid.mk2 (rdone_any b F' { d with pend := d.pend ++ chunks s l k, nw := wrap64 (d.nw + (k : Int)) } T _ ⟨_, _, _, _, h5⟩ (by have := HP.out; simp [chunks_len]; omega) hT HA.out)
                  have HS2 := Hid.mk2 (HST.out.trans s5)
                  clear h5 s5 hok
                  rw [← HR.out] at DN
                  go_wp2_with fail
                  refine DN.out.mono ?_
                  rintro e w4 ⟨rfl, F4, T4, h4, s4, t4⟩
                  have HPF : Hid (∃ F' T', RAll w4 b F' (d.write s l).1 T' ∧ Step F F' w w4 ∧ T' + armSum (d.write s l).1.arms ≤ T + armSum d.arms) := ⟨F4, T4, h4, HS2.out.trans s4, t4⟩
                  clear h4 s4 t4 DN HS2
                  go_wp2_with fail
                  go_ret
                  exact ⟨rfl, HPF.out⟩
      · have HR : Hid (d.write s l = (d, 1)) := by show d.write s l = _; rw [HW.out, hd, if_neg (by simp), if_pos (.inr (.inl b2))]
        have t2 : ((m : Int) != 0) = true := by simp; omega
        clear HW b1 b2 HNM
        go_enter Tryz.func32, Tryz.ntmps32
        go_wp2_with fail
        go_ret
        exact HER.out HR.out
  · rw [hd] at c4
    have HR : Hid (d.write s l = (d, 8)) := by show d.write s l = _; rw [HW.out, hd]; rfl
    clear HW HNM
    go_enter Tryz.func32, Tryz.ntmps32
    go_wp2_with fail
    go_ret
    rw [HR.out]
    exact ⟨rfl, F, T, HK.out, Step.refl _ _, Nat.le_refl _⟩

end Go.Proofs.YtlopimdnjookeabGreatDoor.V
