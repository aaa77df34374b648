import Derived.Test.YtddhjnfcbpookaaDoorPMts
namespace Go.Proofs.YtddhjnfcbpookaaDoor
open Go.RowKit Go.Maps

theorem matchD_meets {fs : List Fd} {items : List It} {l : List Cd} (h1 : items.length = fs.length) (h2 : firstN (mcondF fs) l = 0) : matchD fs items l = meetsD fs items l := by
  unfold matchD meetsD
  rw [if_pos h1, if_pos h2]
theorem mcond_kinds (fs : List Fd) (c : Cd) : mcondF fs c = 0 ∨ mcondF fs c = 1 ∨ mcondF fs c = 2 ∨ mcondF fs c = 3 ∨ mcondF fs c = 6 := by
  unfold mcondF
  split
  · exact .inr (.inr (.inr (.inr rfl)))
  · split
    · rcases packF_kinds [c.item] with h | h | h
      · exact .inl h
      · exact .inr (.inl h)
      · exact .inr (.inr (.inr (.inl h)))
    · exact .inr (.inl rfl)
theorem mconds_kinds (fs : List Fd) : ∀ (l : List Cd), firstN (mcondF fs) l = 0 ∨ firstN (mcondF fs) l = 1 ∨ firstN (mcondF fs) l = 2 ∨ firstN (mcondF fs) l = 3 ∨ firstN (mcondF fs) l = 6
  | [] => .inl rfl
  | c :: l => by
    rw [firstN]
    split
    · exact mconds_kinds fs l
    · exact mcond_kinds fs c
theorem match_kinds (fs : List Fd) (items : List It) (l : List Cd) : (matchD fs items l).2 = 0 ∨ (matchD fs items l).2 = 1 ∨ (matchD fs items l).2 = 2 ∨ (matchD fs items l).2 = 3 ∨ (matchD fs items l).2 = 6 := by
  unfold matchD
  split
  · split
    · split
      · exact .inl rfl
      · rcases rowF_kinds items with h | h | h
        · exact .inl h
        · exact .inr (.inl h)
        · exact .inr (.inr (.inr (.inl h)))
    · exact mconds_kinds fs l
  · exact .inr (.inl rfl)
set_option maxHeartbeats 8000000 in
set_option maxRecDepth 100000 in
theorem pmatch_any (A : Nat → Addr) (tn : ByteArray) (fv iv cv rv : Value) (id : Int) (fs : List Fd) (items : List It) (l : List Cd) (w : World) (hf : FsAt w fv fs) (hn : ∀ f ∈ fs, f.1.size ≤ 140737488355328) (hiv : ∃ a n c, iv = .slice a n c) (hi : ItsAt w anyB rv items) (hc : CsAt w anyB cv l) (he : ErrsAt 13 gAll A w) (hsz : cntL items + cntC l ≤ 16777216) :
    Calls Tryd.prog 12 #[.agg (tV tn fv iv), .agg #[.int .i64 id, rv], cv] w fun e w' => e = .returned (.tuple #[.bool (matchD fs items l).1, errQ A (matchD fs items l).2]) ∧ Below w.heap.size w w' := by
  obtain ⟨r, hr⟩ : ∃ r, r = matchD fs items l := ⟨_, rfl⟩
  rw [← hr]
  obtain ⟨rb, hrb⟩ : ∃ rb, rb = r.1 := ⟨_, rfl⟩
  obtain ⟨re, hre⟩ : ∃ re, re = errQ A r.2 := ⟨_, rfl⟩
  rw [← hrb, ← hre]
  have HR := hide hr
  have HRB := hide hrb
  have HRE := hide hre
  simp only [tV]
  have hclen := hc.len
  have hilen := hi.len_le
  have hflen := hf.len
  obtain ⟨ca, cc, hcv⟩ := hc.form
  obtain ⟨fa, fc, hfv⟩ := hf.form
  obtain ⟨ra, rc, hrv⟩ := hi.form
  obtain ⟨ia, im, ic, hiv⟩ := hiv
  subst hcv hfv hiv hrv
  have q1 := below_new w (.cells #[.string tn, .slice fa fs.length fc, .slice ia im ic] 25)
  have x1 := RowAt.new w #[.string tn, .slice fa fs.length fc, .slice ia im ic] 25
  have hs1 : (w.alloc (.cells #[.string tn, .slice fa fs.length fc, .slice ia im ic] 25)).heap.size = w.heap.size + 1 := by simp
  generalize hW1 : w.alloc (.cells #[.string tn, .slice fa fs.length fc, .slice ia im ic] 25) = W1 at q1 x1 hs1
  have q2 := below_new W1 (.cells #[.int .i64 id, .slice ra items.length rc] 28)
  have x2 := RowAt.new W1 #[.int .i64 id, .slice ra items.length rc] 28
  rw [hs1] at x2
  generalize hW2 : W1.alloc (.cells #[.int .i64 id, .slice ra items.length rc] 28) = W2 at q2 x2
  have HW : Hid ((w.alloc (.cells #[.string tn, .slice fa fs.length fc, .slice ia im ic] 25)).alloc (.cells #[.int .i64 id, .slice ra items.length rc] 28) = W2) := by rw [hW1]; exact hW2
  have hb2 := Below.next q1 q2
  have HB := hide hb2
  have HX2 := hide x2
  have xr := x1.below q2
  have a0 := xr.cell 0 (by simp)
  have a1 := xr.cell 1 (by simp)
  have a2 := xr.cell 2 (by simp)
  have c0 := x2.cell 0 (by simp)
  have c1 := x2.cell 1 (by simp)
  simp only [List.getElem_toArray, List.getElem_cons_zero, List.getElem_cons_succ] at a0 a1 a2 c0 c1
  have HI := hide (hi.keep hb2)
  have HE := hide (he.keep hb2)
  have ea : W2.cell? ⟨0, 0, none⟩ = some (.iface 144 (.pointer (some (A 0)))) := HE.out.two.arg
  have HTS := hide (ptests_any A tn (.slice fa fs.length fc) (.slice ia im ic) (.slice ca l.length cc) fs l W2 (hf.keep hb2) hn ⟨_, _, _, rfl⟩ (hc.keep hb2) HE.out (by omega))
  simp only [tV] at HTS
  rw [← hW2, ← hW1] at a0 a1 a2 c0 c1 ea
  have HSZ := hide hsz
  clear hr hrb hre hf hn hi hc he q1 x1 hs1 q2 x2 hb2 hW1 hW2 xr hsz
  go_enter Tryd.func12, Tryd.ntmps12
  by_cases hlen : items.length = fs.length
  · have hlI : ((items.length : Int) != (fs.length : Int)) = false := by simp; omega
    have HLN := hide hlen
    clear hlen ea
    go_wp2_with fail
    rw [HW.out] at a0 a1 a2 c0 c1 ⊢
    refine HTS.out.mono ?_
    rintro e w3 ⟨hcase, hb3⟩
    rcases hcase with ⟨hz, tv, base, rfl, hto⟩ | ⟨p, hnz, hp, rfl⟩
    · have HMT := hide (pmeets_any A id (.slice ra items.length rc) tv items fs l base w3 (HI.out.keep hb3) hto HLN.out hz (HE.out.keep hb3) HSZ.out hclen)
      rw [← matchD_meets HLN.out hz, ← HR.out, ← HRB.out, ← HRE.out] at HMT
      have HB3 := hide (Below.next HB.out hb3)
      obtain ⟨ta, tc, htv⟩ := hto.form
      subst htv
      have d0 := cell_below hb3 c0
      have d1 := cell_below hb3 c1
      clear a0 a1 a2 c0 c1 HTS hb3 hto hz
      go_wp2_with fail
      refine HMT.out.mono ?_
      rintro e w5 ⟨rfl, hb5⟩
      have HEB := hide (Below.next HB3.out hb5)
      clear hb5 HMT d0 d1
      go_wp2
      go_ret2
      exact ⟨rfl, HEB.out⟩
    · have hE1 : r = (false, firstN (mcondF fs) l) := by
        rw [HR.out, matchD, if_pos HLN.out, if_neg hnz]
      have HP1 : Hid (rb = false) := by show _ = _; rw [HRB.out, hE1]
      have HP2 : Hid (re = .iface 144 (.pointer (some p))) := by show _ = _; rw [HRE.out, hE1]; exact hp
      have HEB := hide (Below.next HB.out hb3)
      clear a0 a1 a2 c0 c1 HTS hb3 hE1 hnz hp
      go_wp2
      go_ret2
      exact ⟨by rw [HP1.out, HP2.out]; rfl, HEB.out⟩
  · have hlI : ((items.length : Int) != (fs.length : Int)) = true := by simp; omega
    have hE1 : r = (false, 1) := by rw [HR.out, matchD, if_neg hlen]
    have HP1 : Hid (rb = false) := by show _ = _; rw [HRB.out, hE1]
    have HP2 : Hid (re = .iface 144 (.pointer (some (A 0)))) := by show _ = _; rw [HRE.out, hE1]; rfl
    clear hlen hE1 HTS
    go_upto_region 2 with fail
    rw [HW.out] at a0 a1 a2 c0 c1 ea ⊢
    clear a0 a1 a2 c0 c1
    go_quiet (fail)
    go_wp2
    go_ret2
    exact ⟨by rw [HP1.out, HP2.out]; rfl, below_drewN' HB.out _⟩
end Go.Proofs.YtddhjnfcbpookaaDoor
