import Derived.Test.YtlopimdnjookeabGreatDoorA3
namespace Go.Proofs.YtlopimdnjookeabGreatDoor.V
open Go.RowKit Go.Maps

/-- Bytes that are handed in. -/
def BytesAt (w : World) (F : Nat → Prop) (v : Value) (l : List UInt8) : Prop := ∃ a cap g, v = .slice a l.length cap ∧ l.length ≤ cap ∧ l.length ≤ 140737488355328 ∧ (0 < l.length → a = some ⟨g, 0, none⟩ ∧ ¬ F g) ∧ ∀ j (h : j < l.length), w.cell? ⟨g, j, none⟩ = some (.int .u8 (l[j].toNat : Int))

theorem wrap64_id {x : Int} (h1 : -9223372036854775808 ≤ x) (h2 : x ≤ 9223372036854775807) : wrap64 x = x := by unfold wrap64; omega
theorem chunk_cells {w : World} {g : Nat} {l : List UInt8} (hc : ∀ j (h : j < l.length), w.cell? ⟨g, j, none⟩ = some (.int .u8 (l[j].toNat : Int))) (k : Nat) (hk : (k + 1) * 512 ≤ l.length) (cap : Nat) :
    (convert 33 9 (.slice (some ⟨g, k * 512, none⟩) 512 cap)).run Tryz.prog w = .ok (.string (mkb ((l.drop (k * 512)).take 512))) w := by
  have hl : ((l.drop (k * 512)).take 512).length = 512 := by rw [List.length_take, List.length_drop]; omega
  have h := run_convert_bytes_back (P := Tryz.prog) w 33 9 5 ⟨g, k * 512, none⟩ cap ((l.drop (k * 512)).take 512) Tryz.underlying33 Tryz.underlying5 Tryz.underlying9 (fun j hj => by
    rw [Addr.add_mid]
    have := hc (k * 512 + j) (by omega)
    simpa using this)
  rw [hl] at h
  exact h
/-- What Write's loop holds. -/
structure WrInv (w wr : World) (b : Nat) (F F' : Nat → Prop) (d : Dev) (s : Int) (l : List UInt8) (k : Nat) : Prop where
  dev : DevAt wr b F' { d with pend := d.pend ++ chunks s l k }
  step : Step F F' w wr

set_option maxRecDepth 100000 in
set_option maxHeartbeats 1600000 in
theorem write_any (base : Nat) (A : Nat → Addr) (b : Nat) (F : Nat → Prop) (d : Dev) (w : World) (h : DevAt w b F d) (hE : ErrsB base A w) (hF : ∀ k, F k → base ≤ k) (s : Int) (v : Value) (l : List UInt8) (hv : BytesAt w F v l) (hp : d.pend.length + l.length / 512 ≤ 5864062014805) (hop : OpOk base A b d.arms) :
    Calls Tryz.prog 30 #[.pointer (some ⟨b, 0, none⟩), .int .i64 s, v] w fun e w' => e = .returned (errV A (d.write s l).2) ∧ DevPost w b F (d.write s l).1 w' := by
  have HK : Hid (DevAt w b F d) := h
  obtain ⟨a, cap, g, rfl, hcap, hlen, hag, hcell⟩ := hv
  obtain ⟨L, hL⟩ : ∃ L, L = l.length := ⟨_, rfl⟩
  have HL : Hid (L = l.length) := hL
  have q1 : ((L : Int) / 512) = ((L / 512 : Nat) : Int) := by omega
  have q2 : ((L : Int) % 512) = ((L % 512 : Nat) : Int) := by omega
  have H0 := holds_any b F d s ((L / 512 : Nat) : Int) w h (by omega)
  obtain ⟨mb, nb, pv, av, Dn, h⟩ := h
  have c5 : w.cell? ⟨b, 5, none⟩ = some (.bool d.dead) := h.cell 5
  have e7 := hE.dead
  have e0 := hE.arg
  have HE : Hid (ErrsB base A w) := hE
  have HF : Hid (∀ k, F k → base ≤ k) := hF
  have HO : Hid (OpOk base A b d.arms) := hop
  have HP : Hid (d.pend.length + L / 512 ≤ 5864062014805) := by rw [hL]; exact hp
  have HC : Hid (∀ j (h : j < l.length), w.cell? ⟨g, j, none⟩ = some (.int .u8 (l[j].toNat : Int))) := hcell
  have HW : Hid (d.write s l = if d.dead then (d, 8) else if L = 0 ∨ L % 512 ≠ 0 ∨ d.fits s (L / 512 : Nat) = false then (d, 1) else Dev.done { d with pend := d.pend ++ chunks s l (L / 512), nw := wrap64 (d.nw + (L / 512 : Nat)) }) := by rw [hL]; rfl
  rw [← hL] at hcap hlen hag
  rw [← hL]
  generalize hfits : d.fits s (L / 512 : Nat) = fb at *
  have HFI : Hid (d.fits s (L / 512 : Nat) = fb) := hfits
  have HH0 : Hid (Calls Tryz.prog 59 #[.pointer (some ⟨b, 0, none⟩), .int .i64 s, .int .i64 ((L / 512 : Nat) : Int)] w fun e w' => e = .returned (.bool fb) ∧ w = w') := H0
  obtain ⟨n, hn⟩ : ∃ n, n = L / 512 := ⟨_, rfl⟩
  obtain ⟨m, hm⟩ : ∃ m, m = L % 512 := ⟨_, rfl⟩
  rw [← hn] at q1 HH0 HFI HP HW
  rw [← hm] at q2 HW
  have HNM : Hid (L = n * 512 + m ∧ m < 512) := ⟨by omega, by omega⟩
  clear h hE hF hop hL hcell H0 hfits hp hn hm
  cases hd : d.dead
  · rw [hd] at c5
    by_cases b1 : n = 0
    · have HR : Hid (d.write s l = (d, 1)) := by
        show d.write s l = _
        rw [HW.out, hd, if_neg (by simp), if_pos]
        have := HNM.out
        by_cases e : L = 0
        · exact .inl e
        · exact .inr (.inl (by omega))
      have t1 : ((n : Int) == 0) = true := by simp [b1]
      clear HW b1 HNM
      go_enter Tryz.func30, Tryz.ntmps30
      go_wp2_with fail
      go_ret
      rw [HR.out]
      exact ⟨rfl, F, HK.out, Step.refl _ _⟩
    · have t1 : ((n : Int) == 0) = false := by simp; omega
      by_cases b2 : m = 0
      · subst b2
        cases fb
        · have HR : Hid (d.write s l = (d, 1)) := by
            show d.write s l = _
            rw [HW.out, hd, if_neg (by simp), if_pos (.inr (.inr rfl))]
          clear HW b1 HNM
          go_enter Tryz.func30, Tryz.ntmps30
          go_wp2_with (go_at_call 59; refine HH0.out.mono ?_; rintro e w' ⟨rfl, rfl⟩)
          go_ret
          rw [HR.out]
          exact ⟨rfl, F, HK.out, Step.refl _ _⟩
        · have HR : Hid (d.write s l = Dev.done { d with pend := d.pend ++ chunks s l n, nw := wrap64 (d.nw + (n : Int)) }) := by
            show d.write s l = _
            rw [HW.out, hd, if_neg (by simp), if_neg]
            have := HNM.out
            rintro (h | h | h)
            · omega
            · exact h rfl
            · cases h
          have hLn : L = n * 512 := by have := HNM.out; omega
          clear HW HNM
          go_enter Tryz.func30, Tryz.ntmps30
          go_wp2_with (go_at_call 59; refine HH0.out.mono ?_; rintro e w' ⟨rfl, rfl⟩)
          have HLn : Hid (L = n * 512) := hLn
          have HI : Hid (WrInv w w b F F d s l 0) := ⟨by simpa [chunks] using HK.out, Step.refl _ _⟩
          obtain ⟨hag1, hag2⟩ := hag (by omega)
          subst hag1
          have hfit := HFI.out
          simp only [Dev.fits, decide_eq_true_eq] at hfit
          have hs1 := HK.out.ok.s1
          have hfs1 : 0 ≤ s := hfit.1
          have hfs2 : s ≤ d.size - (n : Int) := hfit.2.2
          have HLn2 : Hid (l.length = n * 512) := by show l.length = _; rw [← HL.out]; exact hLn
          obtain ⟨i0, hi, hz0, hz1, hz2⟩ := info_parts Tryz.info72
          clear hLn hag c5 e7 e0 HH0 HFI q1 q2 t1
          go_loopw [35] (fun i wr => ∃ k F', k ≤ n ∧ i = .int .i64 (k : Int) ∧ WrInv w wr b F F' d s l k) (fun i _ => n - (intOf i).toNat)
          case atStart => exact ⟨0, F, Nat.zero_le _, rfl, HI.out⟩
          case round =>
            obtain ⟨k, F', hk, rfl, inv⟩ := hrel
            have INV : Hid (WrInv w wr b F F' d s l k) := inv
            obtain ⟨mb', nb', pv', av', Dn', h'⟩ := inv.dev
            clear inv HI
            have hplen : ({ d with pend := d.pend ++ chunks s l k } : Dev).pend.length = d.pend.length + k := by simp [chunks_len]
            by_cases hlt : k < n
            · have hpn := HP.out
              obtain ⟨P, hP⟩ : ∃ P, P = d.pend.length + k := ⟨_, rfl⟩
              have HPP : Hid (P = d.pend.length + k) := hP
              rw [← hP] at hplen
              have hPb : P + 1 ≤ 5864062014805 := by omega
              have x2 : wr.cell? ⟨b, 2, none⟩ = some pv' := h'.cell 2
              have x3 : wr.cell? ⟨b, 3, none⟩ = some (.map (some nb')) := h'.cell 3
              have hmapN := h'.mapN
              have hpend := h'.pend
              rw [hplen] at hmapN hpend
              obtain ⟨pa, pc, rfl, -⟩ := owns_form hpend
              have hwk : wrap64 (s + (k : Int)) = s + (k : Int) := wrap64_id (by omega) (by omega)
              have hwk2 : IntKind.i64.wrap (s + (k : Int)) = s + (k : Int) := wrap_i64 _ (by omega) (by omega)
              obtain ⟨w1, hrun1, hown1, hturn1⟩ := hmapN.drew.store klaw Tryz.underlying44 (by unfold maxLen; omega) (kkey (i := s + (k : Int)) (by omega) (by omega)) (plainElem_int Tryz.underlying3 (kwf (i := (P : Int)) (by omega) (by omega)))
              have hg1 : wr.grownBy w1 (some nb') := ⟨hturn1.grown.os, hturn1.grown.tape, hturn1.grown.output, hturn1.grown.size, hturn1.grown.block⟩
              have hbn : b ≠ nb' := map_ne_cells h'.mapN h'.blk
              have y2 := grown_cell hg1 x2 hbn
              have y3 := grown_cell hg1 x3 hbn
              have fz : w1.frozen? ⟨b, 2, none⟩ = false := by
                unfold World.frozen?
                rw [show w1.heap[(⟨b, 2, none⟩ : Addr).block]? = _ from (hg1.block b (Array.getElem?_eq_some_iff.1 h'.blk).1 (by simpa using hbn)).trans h'.blk]
                simp
              have hgw : ∀ j (h : j < l.length), g < w.heap.size := fun j h => World.block_lt_of_cell? w _ (HC.out j h)
              have hcv := chunk_cells (w := w1) (g := g) (l := l) (fun j h => by
                have c := HC.out j h
                have hF' : ¬ F' g := fun hf => (INV.out.step.sub g hf).elim hag2 (fun hs => by have := hgw j h; omega)
                have c1 := INV.out.step.cell (a := ⟨g, j, none⟩) c hag2
                exact grown_cell hg1 c1 (fun e => hF' (by rw [show g = nb' from e]; exact h'.fn))) k (by rw [← HL.out, HLn.out]; omega) (cap - k * 512)
              obtain ⟨D, hD⟩ : ∃ D, D = mkb ((l.drop (k * 512)).take 512) := ⟨_, rfl⟩
              rw [← hD] at hcv
              have HD : Hid (D = mkb ((l.drop (k * 512)).take 512)) := hD
              have HH : Hid (DevBody wr b F' { d with pend := d.pend ++ chunks s l k } mb' nb' (.slice pa P pc) av' Dn') := h'
              have HM : Hid (w1.ownsMap Tryz.prog 3 (plainElem Tryz.prog 3) nb' (P + 1) (Dn'.put (.int .i64 (s + (k : Int))) (.lit (.int .i64 (P : Int))))) := hown1
              have HG1 : Hid (wr.grownBy w1 (some nb')) := hg1
              have hrow1 : w1.ownsRow 0 72 2 (.slice pa P pc) P (secCells (d.pend ++ chunks s l k)) := owns_block hpend fun j hj => by
                obtain ⟨_, hlt, cur, hcur⟩ := owns_blk hpend j hj
                exact hg1.block j hlt (by simpa using map_ne_cells h'.mapN hcur)
              have i1 : IntKind.i64.wrap ((k : Int) * 512) = (k : Int) * 512 := wrap_i64 _ (by omega) (by omega)
              have i2 : IntKind.i64.wrap (((k : Int) + 1) * 512) = ((k : Int) + 1) * 512 := wrap_i64 _ (by omega) (by omega)
              have hLb1 : ((k : Int) + 1) * 512 ≤ (cap : Int) := by have := HLn.out; omega
              have e512 : (k + 1) * 512 - k * 512 = 512 := by omega
              have hLb2 : (k : Int) * 512 ≤ ((k : Int) + 1) * 512 := by omega
              have hLb3 : (0 : Int) ≤ (k : Int) * 512 := by omega
              clear hD h' hown1 hturn1 hg1 hmapN hpend hP hgw hfit
              go_wp2_with fail
              go_region_held3 (fun w' => w'.cell? ⟨b, 2, none⟩ = some (.slice pa P pc) ∧ w'.cell? ⟨b, 3, none⟩ = some (.map (some nb'))) (first | exact ⟨x2, x3⟩ | exact ⟨y2, y3⟩ | go_keep) (fail)
              have hbx := boxed_new w1 #[.int .i64 (s + (k : Int)), .string D] 72
              go_wp2_with (first
                | (at_builtin; refine wpList_append_lies _ rfl _ _ 38 rfl 0 72 i0 (.agg #[.int .i64 0, .string ⟨#[]⟩]) 2 24 Tryz.underlying38 hi hz0 hz1 hz2 rfl (by decide) _ _ _ rfl (hrow1.alloc _) ⟨w1.heap.size, 0, none⟩ 1 1 [.int .i64 (s + (k : Int)), .string D] rfl rfl ?c1 ?c2 ?c3 ?c4 ?c5 ?c6 (w1.heap.size + 1) ?c7 ?_))
              case c2 => exact ⟨rfl, rfl⟩
              case c4 => unfold maxLen; omega
              case c5 => omega
              intro g2 cap2 w2 hown2 hgrow2 hat2 hlg2
              have hpl2 : ({ d with pend := d.pend ++ chunks s l k } : Dev).pend.length = P := hplen
              have hb2 : w2.heap[b]? = w1.heap[b]? := by
                have hbw : b < w1.heap.size := World.block_lt_of_cell? w1 _ y2
                rw [hgrow2.block b (by simp; omega) (fun e => ?_)]
                · exact (below_new w1 _).block b hbw
                · obtain ⟨_, _, cur, hcur⟩ := owns_blk hrow1 b e.symm
                  have hx := (HG1.out.block b (Array.getElem?_eq_some_iff.1 HH.out.blk).1 (by simpa using hbn)).trans HH.out.blk
                  rw [hcur] at hx; simp at hx
              have z2 : w2.cell? ⟨b, 2, none⟩ = some (.slice pa P pc) := (World.cell?_of_block (a := ⟨b, 2, none⟩) hb2).trans y2
              have fz2 : w2.frozen? ⟨b, 2, none⟩ = false := by
                have hx := (HG1.out.block b (Array.getElem?_eq_some_iff.1 HH.out.blk).1 (by simpa using hbn)).trans HH.out.blk
                unfold World.frozen?
                rw [show w2.heap[(⟨b, 2, none⟩ : Addr).block]? = _ from hb2.trans hx]
                simp
              have hrow2 : w2.ownsRow 0 72 2 (.slice (some ⟨g2, 0, none⟩) (P + 1) cap2) (P + 1) (secCells ((d.pend ++ chunks s l k) ++ [chunk s l k])) := by
                rw [secCells_app]
                have : secCells [chunk s l k] = [.int .i64 (s + (k : Int)), .string D] := by rw [HD.out]; rfl
                rw [this]
                exact hown2
              have hsz1 := HG1.out.size
              have hg12 : w1.grownBy w2 (Value.slice pa P pc).ownBlock := (World.grownBy_alloc w1 _ _).trans hgrow2
              have PB := HH.out.pended (w1 := w1) (w2 := w2) (w3 := w2.setCell ⟨b, 2, none⟩ (.slice (some ⟨g2, 0, none⟩) (P + 1) cap2)) (chunk s l k) (chunk_ok hfs1 hfs2 HLn2.out hlt) (by rw [hpl2]; exact HM.out) HG1.out g2 cap2 (by rw [hpl2]; exact hrow2) hg12 (hat2.imp id (fun e => by omega)) (by rw [hpl2])
              have V : WrInv w (w2.setCell ⟨b, 2, none⟩ (.slice (some ⟨g2, 0, none⟩) (P + 1) cap2)) b F (fun k => F' k ∨ k = g2) d s l (k + 1) := by
                refine ⟨?_, INV.out.step.trans PB.2⟩
                rw [chunks_succ, ← List.append_assoc]
                exact ⟨_, _, _, _, _, PB.1⟩
              clear PB hrow2 hg12 hown2 hgrow2 hat2 hlg2 hb2 HM HG1 HH INV x2 x3 y2 y3 hrow1 hbx hcv hrun1
              go_wp2_with fail
              go_roundw
              case rel => exact ⟨k + 1, _, by omega, by go_num, V⟩
              case measure => simp [intOf]; omega
            · have hke : k = n := by omega
              subst hke
              have x7 : wr.cell? ⟨b, 7, none⟩ = some (.int .i64 d.nw) := h'.cell 7
              have f7 := h'.frozen 7
              have hok := h'.ok
              obtain ⟨h5, s5⟩ := h'.set (d' := { d with pend := d.pend ++ chunks s l k, nw := wrap64 (d.nw + (k : Int)) }) 7 (.int .i64 (wrap64 (d.nw + (k : Int)))) rfl rfl rfl rfl ⟨hok.s0, hok.s1, hok.dur, hok.rise, hok.pend, hok.arms⟩
              have S5 := INV.out.step.trans s5
              have O := HO.out _ _ { d with pend := d.pend ++ chunks s l k, nw := wrap64 (d.nw + (k : Int)) } rfl ⟨_, _, _, _, _, h5⟩ (HE.out.step S5 HF.out) (S5.ge HF.out HE.out.size) (by rw [hplen]; have := HP.out; omega) hd
              have HO2 : Hid (DoneOk A (wr.setCell ⟨b, 7, none⟩ (.int .i64 (wrap64 (d.nw + (k : Int))))) b F' { d with pend := d.pend ++ chunks s l k, nw := wrap64 (d.nw + (k : Int)) }) := O
              have HS5 : Hid (Step F F' w (wr.setCell ⟨b, 7, none⟩ (.int .i64 (wrap64 (d.nw + (k : Int)))))) := S5
              clear h' h5 s5 S5 O hok hplen INV hfit
              go_wp2_with fail
              refine HO2.out.mono ?_
              rintro e w6 ⟨rfl, F6, h6, s6⟩
              have HR2 : Hid (DevPost w b F (d.write s l).1 w6) := by rw [HR.out]; exact ⟨F6, h6, HS5.out.trans s6⟩
              have HV : Hid (Dev.done { d with pend := d.pend ++ chunks s l k, nw := wrap64 (d.nw + (k : Int)) } = d.write s l) := HR.out.symm
              rw [HV.out]
              clear HO2 HS5 HR h6 s6
              go_wp2_with fail
              go_ret
              exact ⟨rfl, HR2.out⟩
      · have HR : Hid (d.write s l = (d, 1)) := by
          show d.write s l = _
          rw [HW.out, hd, if_neg (by simp), if_pos (.inr (.inl b2))]
        have t2 : ((m : Int) != 0) = true := by simp; omega
        clear HW b1 b2 HNM
        go_enter Tryz.func30, Tryz.ntmps30
        go_wp2_with fail
        go_ret
        rw [HR.out]
        exact ⟨rfl, F, HK.out, Step.refl _ _⟩
  · rw [hd] at c5
    have HR : Hid (d.write s l = (d, 8)) := by show d.write s l = _; rw [HW.out, hd]; rfl
    clear HW HNM
    go_enter Tryz.func30, Tryz.ntmps30
    go_wp2_with fail
    go_ret
    rw [HR.out]
    exact ⟨rfl, F, HK.out, Step.refl _ _⟩

end Go.Proofs.YtlopimdnjookeabGreatDoor.V

namespace Go.Proofs.YtlopimdnjookeabGreatDoor.V
open Go.RowKit Go.Maps

theorem zeroI (w : World) : (zeroValue 3).run Tryz.prog w = .ok (.int .i64 0) w := by kernel_rfl
theorem zinfo : (Tryz.prog.info? 75).map (fun i => (i.zero, i.size)) = some (some (.agg Tryz.zeroCells75), 512) := by kernel_rfl
theorem zeroA (w : World) : (zeroValue 75).run Tryz.prog w = .ok (arr zsec) w := by
  have h := (zero_of_info zinfo).1 w
  rw [zc] at h
  rw [h, arr, zsec, bl_mkb]
theorem wpList_store_eq {P : Program} {ops : Array Oper} {rest : List Oper} {op : Oper} {a : Act} {w w' : World} {Q : Exit → Act → World → Prop} (hgd : op.guard = none) (ty : TypeId) (x y : Operand) (ho : op.op = .store ty x y)
    (p v : Value) (hx : a.eval x = p) (hy : a.eval y = v) (hrun : (Instr.storeAt ty p v).run P w = .ok () w') (h : wpList P ops Q rest (a.put op.dst undef) w') : wpList P ops Q (op :: rest) a w :=
  wpList_plain hgd fun _ hK => by
    unfold Oper.wp execOp
    simp only [ho, hx, hy, Sem.run_bind, hrun, Result.andThen_ok, Sem.run_pure]
    exact hK _ _ h
theorem zstore (w : World) (t : ByteArray) (ht : t.size = 512) : (Instr.storeAt 75 (.pointer (some ⟨w.heap.size, 0, none⟩)) (arr t)).run Tryz.prog (w.alloc (.cells Tryz.zeroCells75 75)) = .ok () (w.alloc (.cells (u8s (bl t)).toArray 75)) :=
  run_storeAt_new w 75 Tryz.zeroCells75 (u8s (bl t)).toArray (by rw [sizeArr, List.size_toArray, u8s_length, bl_len, ht]) (by rw [zc, List.size_toArray, List.size_toArray, u8s_length, u8s_length, zeros_len, bl_len, ht]) (all_oneCell_toArray (u8s_one _))
theorem u8_splice (pre mid post new : List UInt8) (h : mid.length = new.length) : ((u8s (pre ++ mid ++ post)).toArray.toList.take pre.length ++ u8s new ++ (u8s (pre ++ mid ++ post)).toArray.toList.drop (pre.length + new.length)).toArray = (u8s (pre ++ new ++ post)).toArray := by
  congr 1
  rw [List.append_assoc pre mid post, u8s_append, u8s_append, u8s_append, u8s_append, ← h]
  have e1 : List.take pre.length (u8s pre ++ (u8s mid ++ u8s post)) = u8s pre := by
    rw [List.take_append_of_le_length (by rw [u8s_length]; omega), List.take_of_length_le (by rw [u8s_length]; omega)]
  have e2 : List.drop (pre.length + mid.length) (u8s pre ++ (u8s mid ++ u8s post)) = u8s post := by
    rw [← List.append_assoc, List.drop_append, List.drop_of_length_le (by rw [List.length_append, u8s_length, u8s_length]; omega), List.length_append, u8s_length, u8s_length]
    simp
  rw [e1, e2]
theorem find_any {l : List Sec} {i : Int} : (l.any fun x => decide (x.ix = i)) = (l.find? fun x => decide (x.ix = i)).isSome := by
  induction l with
  | nil => rfl
  | cons x r ih =>
    by_cases h : x.ix = i
    · simp [h]
    · simp [h, ih]
/-- A row of bytes of the call's own. -/
def RowB (w : World) (g : Nat) (l : List UInt8) : Prop := w.heap[g]? = some (.cells (u8s l).toArray 5 (0, 0))

theorem copy_str (w : World) (g : Nat) (pre mid post : List UInt8) (t : ByteArray) (L C : Nat) (hr : RowB w g (pre ++ mid ++ post)) (hm : mid.length = 512) (ht : t.size = 512) (hL : 512 ≤ L) :
    ∃ w2, (Builtin.copy_ #[33, 9] 3 #[.slice (some ⟨g, pre.length, none⟩) L C, .string t]).run Tryz.prog w = .ok (goInt t.size) w2 ∧ RowB w2 g (pre ++ bl t ++ post) ∧ w.grownBy w2 (some g) := by
  have hrun := Lib.run_copy_row_string (P := Tryz.prog) w 33 9 3 5 g pre.length L C t _ 5 Tryz.underlying33 size5 hr (by omega) (by rw [List.size_toArray, u8s_length, List.length_append, List.length_append]; omega)
  have e := u8_splice pre mid post (bl t) (by rw [bl_len]; omega)
  rw [bl_len] at e
  rw [byteCells_u8s, show t.data.toList = bl t from rfl, e] at hrun
  refine ⟨_, hrun, setRow_heap _ g _ _ 5 _ hr, ?_⟩
  exact ⟨rfl, rfl, rfl, by simp [World.setRow], fun k _ hn => by
    have : g ≠ k := fun e => hn (by rw [e])
    simp [World.setRow, Array.getElem?_modify, this]⟩
theorem copy_arr (w : World) (g ga : Nat) (pre mid post : List UInt8) (t : ByteArray) (L C : Nat) (hr : RowB w g (pre ++ mid ++ post)) (ha : w.heap[ga]? = some (.cells (u8s (bl t)).toArray 75 (0, 0))) (hm : mid.length = 512) (ht : t.size = 512) (hL : 512 ≤ L) :
    ∃ w2, (Builtin.copy_ #[33, 33] 3 #[.slice (some ⟨g, pre.length, none⟩) L C, .slice (some ⟨ga, 0, none⟩) 512 512]).run Tryz.prog w = .ok (goInt 512) w2 ∧ RowB w2 g (pre ++ bl t ++ post) ∧ w.grownBy w2 (some g) := by
  have hl : (u8s (bl t)).length = 512 := by rw [u8s_length, bl_len, ht]
  have hrun := run_copy_row (P := Tryz.prog) w 33 33 3 5 g pre.length L C ⟨ga, 0, none⟩ 512 512 _ 5 (u8s (bl t)) Tryz.underlying33 size5 hr (by rw [hl]; exact (Nat.min_eq_left hL).symm)
    (fun j v hv => by
      rw [Addr.add_mid, cell_of_row _ _ _ _ _ _ ha, Nat.zero_add]
      simpa using hv)
    (by rw [hl, List.size_toArray, u8s_length, List.length_append, List.length_append]; omega) (u8s_one _)
  have e := u8_splice pre mid post (bl t) (by rw [bl_len]; omega)
  rw [bl_len, ht] at e
  rw [hl, e] at hrun
  refine ⟨_, hrun, setRow_heap _ g _ _ 5 _ hr, ?_⟩
  exact ⟨rfl, rfl, rfl, by simp [World.setRow], fun k _ hn => by
    have : g ≠ k := fun e => hn (by rw [e])
    simp [World.setRow, Array.getElem?_modify, this]⟩

set_option maxRecDepth 100000 in
set_option maxHeartbeats 800000 in
theorem copys_any (b : Nat) (F : Nat → Prop) (d : Dev) (w : World) (h : DevAt w b F d) (g : Nat) (pre post : List UInt8) (s : Int) (L C : Nat) (hr : RowB w g (pre ++ zeros 512 ++ post)) (hL : 512 ≤ L) (h0 : 0 ≤ s) (h1 : s < 9223372036854775808) :
    Calls Tryz.prog 63 #[.pointer (some ⟨b, 0, none⟩), .slice (some ⟨g, pre.length, none⟩) L C, .int .i64 s] w fun e w' => e = .returned (.tuple #[]) ∧ RowB w' g (pre ++ bl (standing d s) ++ post) ∧ w.grownBy w' (some g) := by
  obtain ⟨mb, nb, pv, av, Dn, h⟩ := h
  have c3 : w.cell? ⟨b, 3, none⟩ = some (.map (some nb)) := h.cell 3
  have hmapN := h.mapN
  have hkey := kkey h0 h1
  obtain ⟨n1, n2⟩ := h.new s
  obtain ⟨off, hoff⟩ : ∃ off, off = pre.length := ⟨_, rfl⟩
  have HOF : Hid (off = pre.length) := hoff
  rw [← hoff]
  clear hoff
  cases hli : lastIx d.pend s with
  | some k =>
    have hhas : Maps.has Dn (.int .i64 s) = true := by rw [n1, hli]; rfl
    have hatk := n2 k hli
    have hkl := lastIx_lt hli
    have c2 : w.cell? ⟨b, 2, none⟩ = some pv := h.cell 2
    have HST : Hid (standing d s = d.pend[k].dat) := by show standing d s = _; unfold standing; rw [hli]; simp [hkl]
    obtain ⟨pa, pc, rfl, hpa⟩ := owns_form h.pend
    obtain ⟨gp, rfl⟩ := hpa (by omega)
    have p1 := owns_cell h.pend rfl _ _ (secCells_get d.pend k hkl).2
    have hsz := (secOk_of h.ok hkl).len
    obtain ⟨D, hD⟩ : ∃ D, D = d.pend[k].dat := ⟨_, rfl⟩
    rw [← hD] at HST p1 hsz
    obtain ⟨P, hP⟩ : ∃ P, P = d.pend.length := ⟨_, rfl⟩
    rw [← hP] at c2 hkl
    obtain ⟨w2, hcp, hrow, hgr⟩ := copy_str w g pre (zeros 512) post D L C hr (zeros_len 512) hsz hL
    rw [← HOF.out] at hcp
    have HRR : Hid (RowB w2 g (pre ++ bl D ++ post) ∧ w.grownBy w2 (some g)) := ⟨hrow, hgr⟩
    rw [HST.out]
    clear h n1 n2 hli hD hP hrow hgr HST hr
    go_enter Tryz.func63, Tryz.ntmps63
    go_wp2_with (first
      | (at_lookup; refine wpList_lookup_own_ok_int _ rfl _ _ 44 rfl 3 3 .i64 klaw Tryz.underlying44 Tryz.underlying3 (zeroI _) nb _ Dn rfl hmapN _ _ rfl hkey ?_; intro c hat hwc; (obtain rfl : c = (k : Int) := by rw [hatk] at hat; simpa using hat.symm); rw [hhas]))
    refine bodyPost_ret (results_none rfl _ _ _) rfl ?_
    exact ⟨rfl, HRR.out⟩
  | none =>
    have hhas : Maps.has Dn (.int .i64 s) = false := by rw [n1, hli]; rfl
    have c1 : w.cell? ⟨b, 1, none⟩ = some (.map (some mb)) := h.cell 1
    have hmapD := h.mapD
    obtain ⟨T, hT⟩ : ∃ T, T = lasting d.dur s := ⟨_, rfl⟩
    have hTs : T.size = 512 := by rw [hT]; exact lasting_size h.ok.dur s
    have hTz : Maps.has (durD d.dur) (.int .i64 s) = false → T = zsec := fun hz => by
      rw [durD_has, find_any] at hz
      rw [hT]; unfold lasting
      cases hf : d.dur.find? (fun x => decide (x.ix = s)) with
      | none => rfl
      | some x => rw [hf] at hz; cases hz
    have hV : ∀ v ps, secR v = some ((durD d.dur).atKey (.int .i64 s) (.lit (.string (bl zsec))), ps) → v = arr T := fun v ps hv => by
      obtain ⟨t, ht, rfl, he⟩ := secR_inv hv
      rw [durD_at] at he
      rw [hT]; unfold lasting
      cases hf : d.dur.find? (fun x => decide (x.ix = s)) with
      | none => rw [hf] at he; simp only [Prod.mk.injEq, DataW.lit.injEq, Lit.string.injEq] at he; rw [bl_inj he.1.symm]
      | some x => rw [hf] at he; simp only [Prod.mk.injEq, DataW.lit.injEq, Lit.string.injEq] at he; rw [bl_inj he.1.symm]
    have HST : Hid (standing d s = T) := by show standing d s = _; unfold standing; rw [hli, hT]
    rw [HST.out]
    have hlt := (Array.getElem?_eq_some_iff.1 hr).1
    have hb2 := below_new w (.cells (u8s (bl T)).toArray 75)
    have hr2 : RowB (w.alloc (.cells (u8s (bl T)).toArray 75)) g (pre ++ zeros 512 ++ post) := (hb2.block g hlt).trans hr
    have hst := zstore w T hTs
    have hnew := heap_alloc_new w (.cells (u8s (bl T)).toArray 75)
    obtain ⟨w2, hcp, hrow, hgr⟩ := copy_arr (w.alloc (.cells (u8s (bl T)).toArray 75)) g w.heap.size pre (zeros 512) post T L C hr2 hnew (zeros_len 512) hTs hL
    rw [← HOF.out] at hcp
    have HRR : Hid (RowB w2 g (pre ++ bl T ++ post) ∧ w.grownBy w2 (some g)) := ⟨hrow, (grown_of_below hb2).trans hgr⟩
    have HR0 : Hid (Maps.has (durD d.dur) (.int .i64 s) = false → RowB (w.alloc (.cells (u8s (bl T)).toArray 75)) g (pre ++ bl T ++ post) ∧ w.grownBy (w.alloc (.cells (u8s (bl T)).toArray 75)) (some g)) := fun hz => ⟨by rw [show pre ++ bl T ++ post = pre ++ zeros 512 ++ post by rw [hTz hz, zsec, bl_mkb]]; exact hr2, grown_of_below hb2⟩
    obtain ⟨cs, hcs⟩ : ∃ cs, cs = (u8s (bl T)).toArray := ⟨_, rfl⟩
    rw [← hcs] at hst hcp HR0
    obtain ⟨V, hVd⟩ : ∃ V, V = arr T := ⟨_, rfl⟩
    rw [← hVd] at hst
    have hV2 : Hid (∀ v ps, secR v = some ((durD d.dur).atKey (.int .i64 s) (.lit (.string (bl zsec))), ps) → v = V) := by rw [hVd]; exact hV
    have tok1 : True := trivial
    generalize hhD : Maps.has (durD d.dur) (.int .i64 s) = hb at HR0
    clear hTz hVd h n1 n2 hli hT hr hV hrow hgr HST hb2 hr2 hnew hTs hcs hlt
    go_enter Tryz.func63, Tryz.ntmps63
    cases hb
    · go_wp2_with (first
        | (at_lookup; have _t := tok1; refine wpList_lookup_own_ok_int _ rfl _ _ 44 rfl 3 3 .i64 klaw Tryz.underlying44 Tryz.underlying3 (zeroI _) nb _ Dn rfl hmapN _ _ rfl hkey ?_; intro c hat hwc; clear tok1 hat hwc; rw [hhas])
        | (at_lookup; refine wpList_lookup_own_ok _ rfl _ _ 43 rfl 3 75 klaw Tryz.underlying43 secR (zeroA _) (.lit (.string (bl zsec))) [] (secR_arr zsec_size) mb _ (durD d.dur) rfl hmapD _ _ rfl hkey ?_; intro v ps hv; (obtain rfl : v = V := hV2.out v ps hv); clear hv; rw [hhD])
        | (refine wpList_store_eq rfl 75 _ _ rfl _ _ rfl rfl hst ?_))
      go_end0
      refine ⟨rfl, ?_⟩
      have r := HR0.out (by first | trivial | rfl)
      rw [List.append_assoc] at r
      exact r
    · go_wp2_with (first
        | (at_lookup; have _t := tok1; refine wpList_lookup_own_ok_int _ rfl _ _ 44 rfl 3 3 .i64 klaw Tryz.underlying44 Tryz.underlying3 (zeroI _) nb _ Dn rfl hmapN _ _ rfl hkey ?_; intro c hat hwc; clear tok1 hat hwc; rw [hhas])
        | (at_lookup; refine wpList_lookup_own_ok _ rfl _ _ 43 rfl 3 75 klaw Tryz.underlying43 secR (zeroA _) (.lit (.string (bl zsec))) [] (secR_arr zsec_size) mb _ (durD d.dur) rfl hmapD _ _ rfl hkey ?_; intro v ps hv; (obtain rfl : v = V := hV2.out v ps hv); clear hv; rw [hhD])
        | (refine wpList_store_eq rfl 75 _ _ rfl _ _ rfl rfl hst ?_))
      go_end0
      exact ⟨rfl, HRR.out⟩

end Go.Proofs.YtlopimdnjookeabGreatDoor.V

namespace Go.Proofs.YtlopimdnjookeabGreatDoor.V
open Go.RowKit Go.Maps

theorem made_u8 (n : Nat) : (madeCells #[Value.int .u8 0] n).toList = u8s (zeros n) := by
  rw [u8s, zeros, List.map_replicate]
  simp [madeCells, Nat.mod_one, List.map_const']
theorem rowB_of {w : World} {base g n : Nat} {l : List UInt8} (h : w.ownsRow base 5 1 (.slice (some ⟨g, 0, none⟩) n n) n (u8s l)) : RowB w g l := by
  rcases h.2 with ⟨h', _⟩ | ⟨g', cap', cur, h', hb, hg, hn, hc, hs, ht⟩
  · cases h'
  · cases h'
    unfold RowB
    rw [hg, ← ht, List.take_of_length_le (by simpa using Nat.le_of_eq hs)]
theorem owns_of_rowB {w : World} {base g n : Nat} {l : List UInt8} (h : RowB w g l) (hl : l.length = n) (hb : base ≤ g) (hn : n ≤ maxLen) : w.ownsRow base 5 1 (.slice (some ⟨g, 0, none⟩) n n) n (u8s l) :=
  ⟨by rw [u8s_length]; omega, .inr ⟨g, n, _, rfl, hb, h, Nat.le_refl _, hn, by simp [u8s_length]; omega, by
    rw [List.take_of_length_le (by simp [u8s_length]; omega)]⟩⟩
/-- What Read leaves. -/
structure ReadPost (A : Nat → Addr) (w : World) (b : Nat) (F : Nat → Prop) (r : Dev × List UInt8 × Nat) (e : Ending) (w' : World) (v : Value) : Prop where
  ret : e = .returned (.tuple #[v, errV A r.2.2])
  row : w'.ownsRow w.heap.size 5 1 v r.2.1.length (u8s r.2.1)
  dev : DevAt w' b F r.1
  step : Step F F w w'
/-- What Read's loop holds. -/
structure RdInv (w wr : World) (d : Dev) (s : Int) (m k : Nat) : Prop where
  row : RowB wr w.heap.size (readB d s k ++ zeros ((m - k) * 512))
  bel : Below w.heap.size w wr

set_option maxRecDepth 100000 in
set_option maxHeartbeats 800000 in
theorem read_any (base : Nat) (A : Nat → Addr) (b : Nat) (F : Nat → Prop) (d : Dev) (w : World) (h : DevAt w b F d) (hE : ErrsB base A w) (s n : Int) (hn : n < 9223372036854775808) :
    Calls Tryz.prog 37 #[.pointer (some ⟨b, 0, none⟩), .int .i64 s, .int .i64 n] w fun e w' => ∃ v, ReadPost A w b F (d.read s n) e w' v := by
  have HK : Hid (DevAt w b F d) := h
  have H0 := holds_any b F d s n w h hn
  generalize hf : d.fits s n = fb at H0
  have HFI : Hid (d.fits s n = fb) := hf
  have HH0 : Hid (Calls Tryz.prog 59 #[.pointer (some ⟨b, 0, none⟩), .int .i64 s, .int .i64 n] w fun e w' => e = .returned (.bool fb) ∧ w = w') := H0
  obtain ⟨mb, nb, pv, av, Dn, h⟩ := h
  have c5 : w.cell? ⟨b, 5, none⟩ = some (.bool d.dead) := h.cell 5
  have e7 := hE.dead
  have e0 := hE.arg
  have e2 := hE.many
  clear h hE H0 hf
  have HER : Hid (∀ m c, d.read s n = (d, [], c) → ∃ v, ReadPost A w b F (d.read s n) (.returned (.tuple #[.slice none 0 0, errV A c])) (w.drewN m) v) := fun m c hc => by
    rw [hc]
    exact ⟨_, rfl, World.ownsRow_nil _ _ _ _, HK.out.below (below_drewN (Below.refl _ _) m), Step.of_below (below_drewN (Below.refl _ _) m)⟩
  cases hd : d.dead
  · rw [hd] at c5
    cases fb
    · have HR : Hid (d.read s n = (d, [], 1)) := by show d.read s n = _; unfold Dev.read; rw [hd, HFI.out]; rfl
      go_enter Tryz.func37, Tryz.ntmps37
      go_wp2_with (go_at_call 59; refine HH0.out.mono ?_; rintro e w' ⟨rfl, rfl⟩)
      go_quiet (fail)
      go_wp2_with fail
      go_ret2
      exact HER.out _ 1 HR.out
    · have hfit := HFI.out
      simp only [Dev.fits, decide_eq_true_eq] at hfit
      have hs1 := HK.out.ok.s1
      by_cases hm : 1024 < n
      · have HR : Hid (d.read s n = (d, [], 3)) := by show d.read s n = _; unfold Dev.read; rw [hd, HFI.out]; simp [hm]
        go_enter Tryz.func37, Tryz.ntmps37
        go_wp2_with (go_at_call 59; refine HH0.out.mono ?_; rintro e w' ⟨rfl, rfl⟩)
        go_quiet (fail)
        go_wp2_with fail
        go_ret2
        exact HER.out _ 3 HR.out
      · obtain ⟨m, rfl⟩ : ∃ m : Nat, n = (m : Int) := ⟨n.toNat, by omega⟩
        have HR : Hid (d.read s (m : Int) = ({ d with nr := wrap64 (d.nr + (m : Int)) }, readB d s m, 0)) := by show d.read s _ = _; unfold Dev.read; rw [hd, HFI.out]; simp [hm]
        obtain ⟨i0, hi, hz0, hz1, hz2⟩ := info_parts Tryz.info5
        have i1 : IntKind.i64.wrap ((m : Int) * 512) = (m : Int) * 512 := wrap_i64 _ (by omega) (by omega)
        have hd1 : decide ((1024 : Int) < (m : Int)) = false := decide_eq_false (by omega)
        clear e7 e0 e2 HER
        go_enter Tryz.func37, Tryz.ntmps37
        go_wp2_with (first
          | (go_at_call 59; refine HH0.out.mono ?_; rintro e w' ⟨rfl, rfl⟩)
          | (at_make; refine wpList_make_full _ rfl _ _ 33 rfl 0 5 i0 (.int .u8 0) 1 Tryz.underlying33 hi hz0 hz1 .i64 .i64 _ _ (m * 512) rfl rfl ?c0 ?c0 ?c1 ?c2 (Nat.zero_le _) ?_))
        case c0 => omega
        case c1 => rw [hz2]; omega
        case c2 => unfold maxLen; omega
        intro w1 hrow1 hg1
        rw [made_u8] at hrow1
        have HI : Hid (RdInv w w1 d s m 0) := ⟨by simpa [readB] using rowB_of hrow1, ⟨hg1.os, hg1.tape, hg1.output, hg1.size, fun k hk => hg1.block k hk (by simp)⟩⟩
        clear hrow1 hg1
        go_wp2_with fail
        go_loopw [28] (fun i wr => ∃ k, k ≤ m ∧ i = .int .i64 (k : Int) ∧ RdInv w wr d s m k) (fun i _ => m - (intOf i).toNat)
        case atStart => exact ⟨0, Nat.zero_le _, rfl, HI.out⟩
        case round =>
          obtain ⟨k, hk, rfl, inv⟩ := hrel
          have INV : Hid (RdInv w wr d s m k) := inv
          clear inv HI
          by_cases hlt : k < m
          · have hz : zeros ((m - k) * 512) = zeros 512 ++ zeros ((m - (k + 1)) * 512) := by
              unfold zeros; rw [List.replicate_append_replicate]; congr 1; omega
            have hrow := INV.out.row
            rw [hz, ← List.append_assoc] at hrow
            have C := copys_any b F d wr (HK.out.below INV.out.bel) w.heap.size (readB d s k) (zeros ((m - (k + 1)) * 512)) (s + (k : Int)) (m * 512 - k * 512) (m * 512 - k * 512) hrow (by omega) (by omega) (by omega)
            rw [readB_len HK.out.ok, ← readB_succ] at C
            have HC : Hid (Calls Tryz.prog 63 #[.pointer (some ⟨b, 0, none⟩), .slice (some ⟨w.heap.size, k * 512, none⟩) (m * 512 - k * 512) (m * 512 - k * 512), .int .i64 (s + (k : Int))] wr fun e w' => e = .returned (.tuple #[]) ∧ RowB w' w.heap.size (readB d s (k + 1) ++ zeros ((m - (k + 1)) * 512)) ∧ wr.grownBy w' (some w.heap.size)) := C
            have j1 : IntKind.i64.wrap ((k : Int) * 512) = (k : Int) * 512 := wrap_i64 _ (by omega) (by omega)
            have j2 : IntKind.i64.wrap (s + (k : Int)) = s + (k : Int) := wrap_i64 _ (by omega) (by omega)
            have j3 : (k : Int) * 512 ≤ (m : Int) * 512 := by omega
            have j4 : (0 : Int) ≤ (k : Int) * 512 := by omega
            have j5 : m * 512 ≠ k * 512 := by omega
            clear C hz hrow
            go_wp2_with fail
            refine HC.out.mono ?_
            rintro e w4 ⟨rfl, r4, g4⟩
            have V : RdInv w w4 d s m (k + 1) := ⟨r4, INV.out.bel.trans ⟨g4.os, g4.tape, g4.output, g4.size, fun i hi => g4.block i (Nat.lt_of_lt_of_le hi INV.out.bel.size) (fun e => by have := Option.some.inj e; omega)⟩⟩
            clear HC r4 g4 INV
            go_wp2_with fail
            go_roundw
            case rel => exact ⟨k + 1, by omega, by go_num, V⟩
            case measure => simp [intOf]; omega
          · have hke : k = m := by omega
            subst hke
            have hrow := INV.out.row
            rw [Nat.sub_self, Nat.zero_mul, show zeros 0 = [] from rfl, List.append_nil] at hrow
            have hdev := HK.out.below INV.out.bel
            have hok := hdev.ok
            obtain ⟨mb4, nb4, pv4, av4, Dn4, h4⟩ := hdev
            have x6 : wr.cell? ⟨b, 6, none⟩ = some (.int .i64 d.nr) := h4.cell 6
            have f6 := h4.frozen 6
            obtain ⟨h5, s5⟩ := h4.set (d' := { d with nr := wrap64 (d.nr + (k : Int)) }) 6 (.int .i64 (wrap64 (d.nr + (k : Int)))) rfl rfl rfl rfl ⟨hok.s0, hok.s1, hok.dur, hok.rise, hok.pend, hok.arms⟩
            have hgb : w.heap.size ≠ b := by have := HK.out.lt b HK.out.fb; omega
            have HP : Hid (ReadPost A w b F (d.read s (k : Int)) (.returned (.tuple #[.slice (some ⟨w.heap.size, 0, none⟩) (k * 512) (k * 512), .nilIface])) (wr.setCell ⟨b, 6, none⟩ (.int .i64 (wrap64 (d.nr + (k : Int))))) (.slice (some ⟨w.heap.size, 0, none⟩) (k * 512) (k * 512))) := by
              rw [HR.out]
              refine ⟨rfl, ?_, ⟨_, _, _, _, _, h5⟩, (Step.of_below INV.out.bel).trans s5⟩
              simp only [readB_len HK.out.ok]
              exact owns_of_rowB ((Below.heap_setCell wr ⟨b, 6, none⟩ _ _ hgb).trans hrow) (readB_len HK.out.ok s k) (Nat.le_refl _) (by unfold maxLen; omega)
            clear h4 h5 s5 hrow hok INV
            go_wp2_with fail
            go_ret2
            exact ⟨_, HP.out⟩
  · rw [hd] at c5
    have HR : Hid (d.read s n = (d, [], 8)) := by show d.read s n = _; unfold Dev.read; rw [hd]; rfl
    go_enter Tryz.func37, Tryz.ntmps37
    go_wp2_with fail
    go_quiet (fail)
    go_wp2_with fail
    go_ret2
    exact HER.out _ 8 HR.out

end Go.Proofs.YtlopimdnjookeabGreatDoor.V

namespace Go.Proofs.YtlopimdnjookeabGreatDoor.V
open Go.RowKit Go.Maps

theorem Tryz.info114 : (Tryz.prog.info? 114).map (fun i => (i.zero, i.size, i.bytes)) = some (some (.agg #[.int .i64 0, .int .i64 0, .int .i64 0, .string ⟨#[]⟩]), 4, 40) := by kernel_rfl
theorem secCells_one (l : List Sec) : ∀ u ∈ secCells l, u.oneCell' = true := by
  intro u hu
  simp only [secCells, List.mem_flatMap, List.mem_cons, List.not_mem_nil, or_false] at hu
  obtain ⟨x, _, rfl | rfl⟩ := hu <;> rfl
theorem fateCells_one (l : List Fate) : ∀ u ∈ fateCells l, u.oneCell' = true := by
  intro u hu
  simp only [fateCells, List.mem_flatMap, List.mem_cons, List.not_mem_nil, or_false] at hu
  obtain ⟨x, _, rfl | rfl | rfl | rfl⟩ := hu <;> rfl

set_option maxRecDepth 100000 in
set_option maxHeartbeats 800000 in
theorem clones_any (l : List Sec) (v : Value) (w : World) (hv : w.ownsRow 0 72 2 v l.length (secCells l)) (hb : l.length ≤ 5864062014805) :
    Calls Tryz.prog 34 #[v] w fun e w' => ∃ v', e = .returned v' ∧ w'.ownsRow w.heap.size 72 2 v' l.length (secCells l) ∧ Below w.heap.size w w' := by
  obtain ⟨i0, hi, hz0, hz1, hz2⟩ := info_parts Tryz.info72
  obtain ⟨a, c, rfl, ha⟩ := owns_form hv
  obtain ⟨n, hn⟩ : ∃ n, n = l.length := ⟨_, rfl⟩
  have q22 : ∀ (w : World) (a : Option Addr) (n c n' c' : Nat), (binOp .eql 38 (.slice a n c) (.slice none n' c')).run Tryz.prog w = .ok (.bool a.isNone) w := fun w a n c n' c' => Lib.run_eql_slice_nil w _ _ a n c n' c' Tryz.underlying38
  have HC : Hid (∀ g, a = some ⟨g, 0, none⟩ → ∀ j u, (secCells l)[j]? = some u → w.cell? ⟨g, j, none⟩ = some u) := fun g hg j u hu => by subst hg; exact owns_cell hv rfl j u hu
  have HL : Hid ((secCells l).length = n * 2) := by rw [hn]; exact secCells_len l
  have H1 := secCells_one l
  have HN : Hid (n = l.length) := hn
  have hae : a = none → n = 0 := fun h => by
    rw [hn]
    rcases Nat.eq_zero_or_pos l.length with h0 | h0
    · exact h0
    · obtain ⟨g, hg⟩ := ha h0; rw [h] at hg; cases hg
  have haf : ∀ ad, a = some ad → ∃ g, a = some ⟨g, 0, none⟩ := fun ad h => by
    rcases hv.2 with ⟨h', _⟩ | ⟨g, cap, cur, h', _⟩
    · simp only [Value.slice.injEq] at h'; rw [h'.1] at h; cases h
    · simp only [Value.slice.injEq] at h'; exact ⟨g, h'.1⟩
  have hs0 : Hid (secCells l = [] ∨ 0 < n) := by
    show _ ∨ _
    rcases Nat.eq_zero_or_pos n with h0 | h0
    · left; exact List.length_eq_zero_iff.1 (by rw [HL.out, h0])
    · exact .inr h0
  rw [← hn] at hb ⊢
  generalize secCells l = xs at *
  clear hv ha hn
  go_enter Tryz.func34, Tryz.ntmps34
  cases a with
  | none =>
    have h0 := hae rfl
    subst h0
    obtain rfl : xs = [] := List.length_eq_zero_iff.1 (by simpa using HL.out)
    go_wp2_with fail
    go_ret
    exact ⟨_, rfl, World.ownsRow_nil _ _ _ _, Below.refl _ _⟩
  | some ad =>
    obtain ⟨g, hg⟩ := haf ad rfl
    cases hg
    have hcell := HC.out g rfl
    clear HC haf hae
    go_wp2_with (at_builtin; refine wpList_append_own _ rfl _ _ 38 rfl w.heap.size 72 i0 (.agg #[.int .i64 0, .string ⟨#[]⟩]) 2 24 Tryz.underlying38 hi hz0 hz1 hz2 rfl (by decide) _ _ _ rfl (World.ownsRow_made w #[] 0 (Nat.le_refl _) (Nat.zero_le _) (by simp)) ⟨g, 0, none⟩ n c xs rfl ?qc1 ?qc2 ?qc3 ?qc4 ?qc5 ?qc6 ?_)
    case qc1 => exact HL.out
    case qc2 =>
      intro j u hj
      rw [Addr.add_mid, Nat.zero_add]
      exact Lib.cell?_alloc_some _ (hcell j u hj)
    case qc3 => exact H1
    case qc4 => unfold maxLen; omega
    case qc5 => omega
    case qc6 => simp
    intro v' w1 hown hgrow hnil
    have HR : Hid (w1.ownsRow w.heap.size 72 2 v' n xs ∧ Below w.heap.size w w1) := ⟨by simpa using hown, ((Below.refl _ w).alloc (Nat.le_refl _) _).grown hgrow (by simp) (by intro k hk; simp [Value.ownBlock] at hk; omega)⟩
    clear hown hgrow hnil hcell q22
    go_wp2_with fail
    go_ret
    exact ⟨v', rfl, HR.out⟩

set_option maxRecDepth 100000 in
set_option maxHeartbeats 800000 in
theorem clonef_any (l : List Fate) (v : Value) (w : World) (hv : w.ownsRow 0 114 4 v l.length (fateCells l)) (hb : l.length ≤ 3518437208883) :
    Calls Tryz.prog 77 #[v] w fun e w' => ∃ v', e = .returned v' ∧ w'.ownsRow w.heap.size 114 4 v' l.length (fateCells l) ∧ Below w.heap.size w w' := by
  obtain ⟨i0, hi, hz0, hz1, hz2⟩ := info_parts Tryz.info114
  obtain ⟨a, c, rfl, ha⟩ := owns_form hv
  obtain ⟨n, hn⟩ : ∃ n, n = l.length := ⟨_, rfl⟩
  have q22 : ∀ (w : World) (a : Option Addr) (n c n' c' : Nat), (binOp .eql 34 (.slice a n c) (.slice none n' c')).run Tryz.prog w = .ok (.bool a.isNone) w := fun w a n c n' c' => Lib.run_eql_slice_nil w _ _ a n c n' c' Tryz.underlying34
  have HC : Hid (∀ g, a = some ⟨g, 0, none⟩ → ∀ j u, (fateCells l)[j]? = some u → w.cell? ⟨g, j, none⟩ = some u) := fun g hg j u hu => by subst hg; exact owns_cell hv rfl j u hu
  have HL : Hid ((fateCells l).length = n * 4) := by rw [hn]; exact fateCells_len l
  have H1 := fateCells_one l
  have HN : Hid (n = l.length) := hn
  have hae : a = none → n = 0 := fun h => by
    rw [hn]
    rcases Nat.eq_zero_or_pos l.length with h0 | h0
    · exact h0
    · obtain ⟨g, hg⟩ := ha h0; rw [h] at hg; cases hg
  have haf : ∀ ad, a = some ad → ∃ g, a = some ⟨g, 0, none⟩ := fun ad h => by
    rcases hv.2 with ⟨h', _⟩ | ⟨g, cap, cur, h', _⟩
    · simp only [Value.slice.injEq] at h'; rw [h'.1] at h; cases h
    · simp only [Value.slice.injEq] at h'; exact ⟨g, h'.1⟩
  have hs0 : Hid (fateCells l = [] ∨ 0 < n) := by
    show _ ∨ _
    rcases Nat.eq_zero_or_pos n with h0 | h0
    · left; exact List.length_eq_zero_iff.1 (by rw [HL.out, h0])
    · exact .inr h0
  rw [← hn] at hb ⊢
  generalize fateCells l = xs at *
  clear hv ha hn
  go_enter Tryz.func77, Tryz.ntmps77
  cases a with
  | none =>
    have h0 := hae rfl
    subst h0
    obtain rfl : xs = [] := List.length_eq_zero_iff.1 (by simpa using HL.out)
    go_wp2_with fail
    go_ret
    exact ⟨_, rfl, World.ownsRow_nil _ _ _ _, Below.refl _ _⟩
  | some ad =>
    obtain ⟨g, hg⟩ := haf ad rfl
    cases hg
    have hcell := HC.out g rfl
    clear HC haf hae
    go_wp2_with (at_builtin; refine wpList_append_own _ rfl _ _ 34 rfl w.heap.size 114 i0 (.agg #[.int .i64 0, .int .i64 0, .int .i64 0, .string ⟨#[]⟩]) 4 40 Tryz.underlying34 hi hz0 hz1 hz2 rfl (by decide) _ _ _ rfl (World.ownsRow_made w #[] 0 (Nat.le_refl _) (Nat.zero_le _) (by simp)) ⟨g, 0, none⟩ n c xs rfl ?qc1 ?qc2 ?qc3 ?qc4 ?qc5 ?qc6 ?_)
    case qc1 => exact HL.out
    case qc2 =>
      intro j u hj
      rw [Addr.add_mid, Nat.zero_add]
      exact Lib.cell?_alloc_some _ (hcell j u hj)
    case qc3 => exact H1
    case qc4 => unfold maxLen; omega
    case qc5 => omega
    case qc6 => simp
    intro v' w1 hown hgrow hnil
    have HR : Hid (w1.ownsRow w.heap.size 114 4 v' n xs ∧ Below w.heap.size w w1) := ⟨by simpa using hown, ((Below.refl _ w).alloc (Nat.le_refl _) _).grown hgrow (by simp) (by intro k hk; simp [Value.ownBlock] at hk; omega)⟩
    clear hown hgrow hnil hcell q22
    go_wp2_with fail
    go_ret
    exact ⟨v', rfl, HR.out⟩

set_option maxHeartbeats 400000 in
theorem pending_any (b : Nat) (F : Nat → Prop) (d : Dev) (w : World) (h : DevAt w b F d) (hp : d.pend.length ≤ 5864062014805) :
    Calls Tryz.prog 10 #[.pointer (some ⟨b, 0, none⟩)] w fun e w' => ∃ v', e = .returned v' ∧ w'.ownsRow w.heap.size 72 2 v' d.pend.length (secCells d.pend) ∧ Below w.heap.size w w' := by
  obtain ⟨mb, nb, pv, av, Dn, h⟩ := h
  have c2 : w.cell? ⟨b, 2, none⟩ = some pv := h.cell 2
  have HC : Hid (Calls Tryz.prog 34 #[pv] w fun e w' => ∃ v', e = .returned v' ∧ w'.ownsRow w.heap.size 72 2 v' d.pend.length (secCells d.pend) ∧ Below w.heap.size w w') := clones_any d.pend pv w h.pend hp
  obtain ⟨pa, pc, rfl, -⟩ := owns_form h.pend
  clear h
  go_enter Tryz.func10, Tryz.ntmps10
  go_wp2_with fail
  refine HC.out.mono ?_
  rintro e w1 ⟨v', rfl, h1, h2⟩
  have HR : Hid (w1.ownsRow w.heap.size 72 2 v' d.pend.length (secCells d.pend) ∧ Below w.heap.size w w1) := ⟨h1, h2⟩
  clear HC h1 h2
  go_wp2_with fail
  go_ret
  exact ⟨v', rfl, HR.out⟩



end Go.Proofs.YtlopimdnjookeabGreatDoor.V
