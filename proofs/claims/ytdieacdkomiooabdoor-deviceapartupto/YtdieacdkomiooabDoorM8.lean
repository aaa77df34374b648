import Derived.Test.YtdieacdkomiooabDoorM7
namespace Go.Proofs.YtdieacdkomiooabDoor
open Go.RowKit Go.Maps

/-- Bytes that are handed in. -/
def BytesAt (w : World) (F : Nat → Prop) (v : Value) (l : List UInt8) : Prop := ∃ a cap g, v = .slice a l.length cap ∧ l.length ≤ cap ∧ l.length ≤ 140737488355328 ∧ (0 < l.length → a = some ⟨g, 0, none⟩ ∧ ¬ F g) ∧ ∀ j (h : j < l.length), w.cell? ⟨g, j, none⟩ = some (.int .u8 (l[j].toNat : Int))

theorem wrap64_id {x : Int} (h1 : -9223372036854775808 ≤ x) (h2 : x ≤ 9223372036854775807) : wrap64 x = x := by unfold wrap64; omega
theorem chunk_cells {w : World} {g : Nat} {l : List UInt8} (hc : ∀ j (h : j < l.length), w.cell? ⟨g, j, none⟩ = some (.int .u8 (l[j].toNat : Int))) (k : Nat) (hk : (k + 1) * 512 ≤ l.length) (cap : Nat) :
    (convert 36 9 (.slice (some ⟨g, k * 512, none⟩) 512 cap)).run Tryd.prog w = .ok (.string (mkb ((l.drop (k * 512)).take 512))) w := by
  have hl : ((l.drop (k * 512)).take 512).length = 512 := by rw [List.length_take, List.length_drop]; omega
  have h := run_convert_bytes_back (P := Tryd.prog) w 36 9 5 ⟨g, k * 512, none⟩ cap ((l.drop (k * 512)).take 512) Tryd.underlying36 Tryd.underlying5 Tryd.underlying9 (fun j hj => by
    rw [Addr.add_mid]
    have := hc (k * 512 + j) (by omega)
    simpa using this)
  rw [hl] at h
  exact h
/-- What Write's loop holds. -/
structure WrInv (w wr : World) (b : Nat) (F F' : Nat → Prop) (d : Dev) (s : Int) (l : List UInt8) (k : Nat) : Prop where
  dev : DevAt wr b F' { d with pend := d.pend ++ chunks s l k }
  step : Step F F' w wr

set_option maxRecDepth 100000 in
set_option maxHeartbeats 1600000 in
theorem write_any (base : Nat) (A : Nat → Addr) (b : Nat) (F : Nat → Prop) (d : Dev) (w : World) (h : DevAt w b F d) (hE : ErrsB base A w) (hF : ∀ k, F k → base ≤ k) (s : Int) (v : Value) (l : List UInt8) (hv : BytesAt w F v l) (hp : d.pend.length + l.length / 512 ≤ 5864062014805) (hop : OpOk base A b d.arms) :
    Calls Tryd.prog 39 #[.pointer (some ⟨b, 0, none⟩), .int .i64 s, v] w fun e w' => e = .returned (errV A (d.write s l).2) ∧ DevPost w b F (d.write s l).1 w' := by
  have HK : Hid (DevAt w b F d) := h
  obtain ⟨a, cap, g, rfl, hcap, hlen, hag, hcell⟩ := hv
  obtain ⟨L, hL⟩ : ∃ L, L = l.length := ⟨_, rfl⟩
  have HL : Hid (L = l.length) := hL
  have q1 : ((L : Int) / 512) = ((L / 512 : Nat) : Int) := by omega
  have q2 : ((L : Int) % 512) = ((L % 512 : Nat) : Int) := by omega
  have H0 := holds_any b F d s ((L / 512 : Nat) : Int) w h (by omega)
  obtain ⟨mb, nb, pv, av, Dn, h⟩ := h
  have c5 : w.cell? ⟨b, 5, none⟩ = some (.bool d.dead) := h.cell 5
  have e7 := hE.dead
  have e0 := hE.arg
  have HE : Hid (ErrsB base A w) := hE
  have HF : Hid (∀ k, F k → base ≤ k) := hF
  have HO : Hid (OpOk base A b d.arms) := hop
  have HP : Hid (d.pend.length + L / 512 ≤ 5864062014805) := by rw [hL]; exact hp
  have HC : Hid (∀ j (h : j < l.length), w.cell? ⟨g, j, none⟩ = some (.int .u8 (l[j].toNat : Int))) := hcell
  have HW : Hid (d.write s l = if d.dead then (d, 8) else if L = 0 ∨ L % 512 ≠ 0 ∨ d.fits s (L / 512 : Nat) = false then (d, 1) else Dev.done { d with pend := d.pend ++ chunks s l (L / 512), nw := wrap64 (d.nw + (L / 512 : Nat)) }) := by rw [hL]; rfl
  rw [← hL] at hcap hlen hag
  rw [← hL]
  generalize hfits : d.fits s (L / 512 : Nat) = fb at *
  have HFI : Hid (d.fits s (L / 512 : Nat) = fb) := hfits
  have HH0 : Hid (Calls Tryd.prog 46 #[.pointer (some ⟨b, 0, none⟩), .int .i64 s, .int .i64 ((L / 512 : Nat) : Int)] w fun e w' => e = .returned (.bool fb) ∧ w = w') := H0
  obtain ⟨n, hn⟩ : ∃ n, n = L / 512 := ⟨_, rfl⟩
  obtain ⟨m, hm⟩ : ∃ m, m = L % 512 := ⟨_, rfl⟩
  rw [← hn] at q1 HH0 HFI HP HW
  rw [← hm] at q2 HW
  have HNM : Hid (L = n * 512 + m ∧ m < 512) := ⟨by omega, by omega⟩
  clear h hE hF hop hL hcell H0 hfits hp hn hm
  cases hd : d.dead
  · rw [hd] at c5
    by_cases b1 : n = 0
    · have HR : Hid (d.write s l = (d, 1)) := by
        show d.write s l = _
        rw [HW.out, hd, if_neg (by simp), if_pos]
        have := HNM.out
        by_cases e : L = 0
        · exact .inl e
        · exact .inr (.inl (by omega))
      have t1 : ((n : Int) == 0) = true := by simp [b1]
      clear HW b1 HNM
      go_enter Tryd.func39, Tryd.ntmps39
      go_wp2_with fail
      go_ret
      rw [HR.out]
      exact ⟨rfl, F, HK.out, Step.refl _ _⟩
    · have t1 : ((n : Int) == 0) = false := by simp; omega
      by_cases b2 : m = 0
      · subst b2
        cases fb
        · have HR : Hid (d.write s l = (d, 1)) := by
            show d.write s l = _
            rw [HW.out, hd, if_neg (by simp), if_pos (.inr (.inr rfl))]
          clear HW b1 HNM
          go_enter Tryd.func39, Tryd.ntmps39
          go_wp2_with (go_at_call 46; refine HH0.out.mono ?_; rintro e w' ⟨rfl, rfl⟩)
          go_ret
          rw [HR.out]
          exact ⟨rfl, F, HK.out, Step.refl _ _⟩
        · have HR : Hid (d.write s l = Dev.done { d with pend := d.pend ++ chunks s l n, nw := wrap64 (d.nw + (n : Int)) }) := by
            show d.write s l = _
            rw [HW.out, hd, if_neg (by simp), if_neg]
            have := HNM.out
            rintro (h | h | h)
            · omega
            · exact h rfl
            · cases h
          have hLn : L = n * 512 := by have := HNM.out; omega
          clear HW HNM
          go_enter Tryd.func39, Tryd.ntmps39
          go_wp2_with (go_at_call 46; refine HH0.out.mono ?_; rintro e w' ⟨rfl, rfl⟩)
          have HLn : Hid (L = n * 512) := hLn
          have HI : Hid (WrInv w w b F F d s l 0) := ⟨by simpa [chunks] using HK.out, Step.refl _ _⟩
          obtain ⟨hag1, hag2⟩ := hag (by omega)
          subst hag1
          have hfit := HFI.out
          simp only [Dev.fits, decide_eq_true_eq] at hfit
          have hs1 := HK.out.ok.s1
          have hfs1 : 0 ≤ s := hfit.1
          have hfs2 : s ≤ d.size - (n : Int) := hfit.2.2
          have HLn2 : Hid (l.length = n * 512) := by show l.length = _; rw [← HL.out]; exact hLn
          obtain ⟨i0, hi, hz0, hz1, hz2⟩ := info_parts Tryd.info68
          clear hLn hag c5 e7 e0 HH0 HFI q1 q2 t1
          go_loopw [35] (fun i wr => ∃ k F', k ≤ n ∧ i = .int .i64 (k : Int) ∧ WrInv w wr b F F' d s l k) (fun i _ => n - (intOf i).toNat)
          case atStart => exact ⟨0, F, Nat.zero_le _, rfl, HI.out⟩
          case round =>
            obtain ⟨k, F', hk, rfl, inv⟩ := hrel
            have INV : Hid (WrInv w wr b F F' d s l k) := inv
            obtain ⟨mb', nb', pv', av', Dn', h'⟩ := inv.dev
            clear inv HI
            have hplen : ({ d with pend := d.pend ++ chunks s l k } : Dev).pend.length = d.pend.length + k := by simp [chunks_len]
            by_cases hlt : k < n
            · have hpn := HP.out
              obtain ⟨P, hP⟩ : ∃ P, P = d.pend.length + k := ⟨_, rfl⟩
              have HPP : Hid (P = d.pend.length + k) := hP
              rw [← hP] at hplen
              have hPb : P + 1 ≤ 5864062014805 := by omega
              have x2 : wr.cell? ⟨b, 2, none⟩ = some pv' := h'.cell 2
              have x3 : wr.cell? ⟨b, 3, none⟩ = some (.map (some nb')) := h'.cell 3
              have hmapN := h'.mapN
              have hpend := h'.pend
              rw [hplen] at hmapN hpend
              obtain ⟨pa, pc, rfl, -⟩ := owns_form hpend
              have hwk : wrap64 (s + (k : Int)) = s + (k : Int) := wrap64_id (by omega) (by omega)
              have hwk2 : IntKind.i64.wrap (s + (k : Int)) = s + (k : Int) := wrap_i64 _ (by omega) (by omega)
              obtain ⟨w1, hrun1, hown1, hturn1⟩ := hmapN.drew.store klaw Tryd.underlying94 (by unfold maxLen; omega) (kkey (i := s + (k : Int)) (by omega) (by omega)) (plainElem_int Tryd.underlying3 (kwf (i := (P : Int)) (by omega) (by omega)))
              have hg1 : wr.grownBy w1 (some nb') := ⟨hturn1.grown.os, hturn1.grown.tape, hturn1.grown.output, hturn1.grown.size, hturn1.grown.block⟩
              have hbn : b ≠ nb' := map_ne_cells h'.mapN h'.blk
              have y2 := grown_cell hg1 x2 hbn
              have y3 := grown_cell hg1 x3 hbn
              have fz : w1.frozen? ⟨b, 2, none⟩ = false := by
                unfold World.frozen?
                rw [show w1.heap[(⟨b, 2, none⟩ : Addr).block]? = _ from (hg1.block b (Array.getElem?_eq_some_iff.1 h'.blk).1 (by simpa using hbn)).trans h'.blk]
                simp
              have hgw : ∀ j (h : j < l.length), g < w.heap.size := fun j h => World.block_lt_of_cell? w _ (HC.out j h)
              have hcv := chunk_cells (w := w1) (g := g) (l := l) (fun j h => by
                have c := HC.out j h
                have hF' : ¬ F' g := fun hf => (INV.out.step.sub g hf).elim hag2 (fun hs => by have := hgw j h; omega)
                have c1 := INV.out.step.cell (a := ⟨g, j, none⟩) c hag2
                exact grown_cell hg1 c1 (fun e => hF' (by rw [show g = nb' from e]; exact h'.fn))) k (by rw [← HL.out, HLn.out]; omega) (cap - k * 512)
              obtain ⟨D, hD⟩ : ∃ D, D = mkb ((l.drop (k * 512)).take 512) := ⟨_, rfl⟩
              rw [← hD] at hcv
              have HD : Hid (D = mkb ((l.drop (k * 512)).take 512)) := hD
              have HH : Hid (DevBody wr b F' { d with pend := d.pend ++ chunks s l k } mb' nb' (.slice pa P pc) av' Dn') := h'
              have HM : Hid (w1.ownsMap Tryd.prog 3 (plainElem Tryd.prog 3) nb' (P + 1) (Dn'.put (.int .i64 (s + (k : Int))) (.lit (.int .i64 (P : Int))))) := hown1
              have HG1 : Hid (wr.grownBy w1 (some nb')) := hg1
              have hrow1 : w1.ownsRow 0 68 2 (.slice pa P pc) P (secCells (d.pend ++ chunks s l k)) := owns_block hpend fun j hj => by
                obtain ⟨_, hlt, cur, hcur⟩ := owns_blk hpend j hj
                exact hg1.block j hlt (by simpa using map_ne_cells h'.mapN hcur)
              have i1 : IntKind.i64.wrap ((k : Int) * 512) = (k : Int) * 512 := wrap_i64 _ (by omega) (by omega)
              have i2 : IntKind.i64.wrap (((k : Int) + 1) * 512) = ((k : Int) + 1) * 512 := wrap_i64 _ (by omega) (by omega)
              have hLb1 : ((k : Int) + 1) * 512 ≤ (cap : Int) := by have := HLn.out; omega
              have e512 : (k + 1) * 512 - k * 512 = 512 := by omega
              have hLb2 : (k : Int) * 512 ≤ ((k : Int) + 1) * 512 := by omega
              have hLb3 : (0 : Int) ≤ (k : Int) * 512 := by omega
              clear hD h' hown1 hturn1 hg1 hmapN hpend hP hgw hfit
              go_wp2_with fail
              go_region_held3 (fun w' => w'.cell? ⟨b, 2, none⟩ = some (.slice pa P pc) ∧ w'.cell? ⟨b, 3, none⟩ = some (.map (some nb'))) (first | exact ⟨x2, x3⟩ | exact ⟨y2, y3⟩ | go_keep) (fail)
              have hbx := boxed_new w1 #[.int .i64 (s + (k : Int)), .string D] 68
              go_wp2_with (first
                | (at_builtin; refine wpList_append_lies _ rfl _ _ 22 rfl 0 68 i0 (.agg #[.int .i64 0, .string ⟨#[]⟩]) 2 24 Tryd.underlying22 hi hz0 hz1 hz2 rfl (by decide) _ _ _ rfl (hrow1.alloc _) ⟨w1.heap.size, 0, none⟩ 1 1 [.int .i64 (s + (k : Int)), .string D] rfl rfl ?c1 ?c2 ?c3 ?c4 ?c5 ?c6 (w1.heap.size + 1) ?c7 ?_))
              case c2 => exact ⟨rfl, rfl⟩
              case c4 => unfold maxLen; omega
              case c5 => omega
              intro g2 cap2 w2 hown2 hgrow2 hat2 hlg2
              have hpl2 : ({ d with pend := d.pend ++ chunks s l k } : Dev).pend.length = P := hplen
              have hb2 : w2.heap[b]? = w1.heap[b]? := by
                have hbw : b < w1.heap.size := World.block_lt_of_cell? w1 _ y2
                rw [hgrow2.block b (by simp; omega) (fun e => ?_)]
                · exact (below_new w1 _).block b hbw
                · obtain ⟨_, _, cur, hcur⟩ := owns_blk hrow1 b e.symm
                  have hx := (HG1.out.block b (Array.getElem?_eq_some_iff.1 HH.out.blk).1 (by simpa using hbn)).trans HH.out.blk
                  rw [hcur] at hx; simp at hx
              have z2 : w2.cell? ⟨b, 2, none⟩ = some (.slice pa P pc) := (World.cell?_of_block (a := ⟨b, 2, none⟩) hb2).trans y2
              have fz2 : w2.frozen? ⟨b, 2, none⟩ = false := by
                have hx := (HG1.out.block b (Array.getElem?_eq_some_iff.1 HH.out.blk).1 (by simpa using hbn)).trans HH.out.blk
                unfold World.frozen?
                rw [show w2.heap[(⟨b, 2, none⟩ : Addr).block]? = _ from hb2.trans hx]
                simp
              have hrow2 : w2.ownsRow 0 68 2 (.slice (some ⟨g2, 0, none⟩) (P + 1) cap2) (P + 1) (secCells ((d.pend ++ chunks s l k) ++ [chunk s l k])) := by
                rw [secCells_app]
                have : secCells [chunk s l k] = [.int .i64 (s + (k : Int)), .string D] := by rw [HD.out]; rfl
                rw [this]
                exact hown2
              have hsz1 := HG1.out.size
              have hg12 : w1.grownBy w2 (Value.slice pa P pc).ownBlock := (World.grownBy_alloc w1 _ _).trans hgrow2
              have PB := HH.out.pended (w1 := w1) (w2 := w2) (w3 := w2.setCell ⟨b, 2, none⟩ (.slice (some ⟨g2, 0, none⟩) (P + 1) cap2)) (chunk s l k) (chunk_ok hfs1 hfs2 HLn2.out hlt) (by rw [hpl2]; exact HM.out) HG1.out g2 cap2 (by rw [hpl2]; exact hrow2) hg12 (hat2.imp id (fun e => by omega)) (by rw [hpl2])
              have V : WrInv w (w2.setCell ⟨b, 2, none⟩ (.slice (some ⟨g2, 0, none⟩) (P + 1) cap2)) b F (fun k => F' k ∨ k = g2) d s l (k + 1) := by
                refine ⟨?_, INV.out.step.trans PB.2⟩
                rw [chunks_succ, ← List.append_assoc]
                exact ⟨_, _, _, _, _, PB.1⟩
              clear PB hrow2 hg12 hown2 hgrow2 hat2 hlg2 hb2 HM HG1 HH INV x2 x3 y2 y3 hrow1 hbx hcv hrun1
              go_wp2_with fail
              go_roundw
              case rel => exact ⟨k + 1, _, by omega, by go_num, V⟩
              case measure => simp [intOf]; omega
            · have hke : k = n := by omega
              subst hke
              have x7 : wr.cell? ⟨b, 7, none⟩ = some (.int .i64 d.nw) := h'.cell 7
              have f7 := h'.frozen 7
              have hok := h'.ok
              obtain ⟨h5, s5⟩ := h'.set (d' := { d with pend := d.pend ++ chunks s l k, nw := wrap64 (d.nw + (k : Int)) }) 7 (.int .i64 (wrap64 (d.nw + (k : Int)))) rfl rfl rfl rfl ⟨hok.s0, hok.s1, hok.dur, hok.rise, hok.pend, hok.arms⟩
              have S5 := INV.out.step.trans s5
              have O := HO.out _ _ { d with pend := d.pend ++ chunks s l k, nw := wrap64 (d.nw + (k : Int)) } rfl ⟨_, _, _, _, _, h5⟩ (HE.out.step S5 HF.out) (S5.ge HF.out HE.out.size) (by rw [hplen]; have := HP.out; omega) hd
              have HO2 : Hid (DoneOk A (wr.setCell ⟨b, 7, none⟩ (.int .i64 (wrap64 (d.nw + (k : Int))))) b F' { d with pend := d.pend ++ chunks s l k, nw := wrap64 (d.nw + (k : Int)) }) := O
              have HS5 : Hid (Step F F' w (wr.setCell ⟨b, 7, none⟩ (.int .i64 (wrap64 (d.nw + (k : Int)))))) := S5
              clear h' h5 s5 S5 O hok hplen INV hfit
              go_wp2_with fail
              refine HO2.out.mono ?_
              rintro e w6 ⟨rfl, F6, h6, s6⟩
              have HR2 : Hid (DevPost w b F (d.write s l).1 w6) := by rw [HR.out]; exact ⟨F6, h6, HS5.out.trans s6⟩
              have HV : Hid (Dev.done { d with pend := d.pend ++ chunks s l k, nw := wrap64 (d.nw + (k : Int)) } = d.write s l) := HR.out.symm
              rw [HV.out]
              clear HO2 HS5 HR h6 s6
              go_wp2_with fail
              go_ret
              exact ⟨rfl, HR2.out⟩
      · have HR : Hid (d.write s l = (d, 1)) := by
          show d.write s l = _
          rw [HW.out, hd, if_neg (by simp), if_pos (.inr (.inl b2))]
        have t2 : ((m : Int) != 0) = true := by simp; omega
        clear HW b1 b2 HNM
        go_enter Tryd.func39, Tryd.ntmps39
        go_wp2_with fail
        go_ret
        rw [HR.out]
        exact ⟨rfl, F, HK.out, Step.refl _ _⟩
  · rw [hd] at c5
    have HR : Hid (d.write s l = (d, 8)) := by show d.write s l = _; rw [HW.out, hd]; rfl
    clear HW HNM
    go_enter Tryd.func39, Tryd.ntmps39
    go_wp2_with fail
    go_ret
    rw [HR.out]
    exact ⟨rfl, F, HK.out, Step.refl _ _⟩

end Go.Proofs.YtdieacdkomiooabDoor
