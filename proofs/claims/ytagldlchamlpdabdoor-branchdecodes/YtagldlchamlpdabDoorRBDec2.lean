import Derived.Test.YtagldlchamlpdabDoorRBDec1
import Derived.Test.YtagldlchamlpdabDoorBMade2
import Derived.Deep.RegionLaw
namespace Go.Proofs.YtagldlchamlpdabDoor
open Go.RowKit

/-- A call of told, as one step of a region that draws. -/
theorem step_told {ops : Array Oper} {o : Oper} {a : Act} {K : Act → World → Prop} {Q : Exit → Act → World → Prop} {E : Prop} (w : World) (hgd : o.guard = none) (x : Operand) (v0 : Value)
    (ho : o.op = .call { callee := .value (.func 37), args := #[x], argTypes := #[9] }) (hx : a.eval x = v0)
    (h : Calls Tryd.prog 37 #[v0] w fun e w' => ∃ v, e = .returned v ∧ K (a.put o.dst v) w') :
    if Region.wanted o (yielded ops a.tmps) = true then Oper.wp Tryd.prog o a w K Q else E := by
  have hw : Region.wanted o (yielded ops a.tmps) = true := by simp [Region.wanted, hgd]
  rw [if_pos hw]
  have hrun : (execOp a.eval o).run Tryd.prog w = .ok (.enter 37 #[v0]) w := by
    have he : execOp a.eval o = callFunc 37 #[v0] := by
      obtain ⟨dst, op, ty, pos, after, guard⟩ := o
      simp only [] at ho
      subst ho
      have hy' : execOp a.eval { dst := dst, op := .call { callee := .value (.func 37), args := #[x], argTypes := #[9] }, type := ty, pos := pos, after := after, guard := guard } = callFunc 37 (#[] ++ #[x].map a.eval ++ #[]) := rfl
      rw [hy']
      simp [hx]
    rw [he]
    simp [callFunc, go_sem, Tryd.func37, Tryd.f37]
  unfold Oper.wp
  rw [hrun]
  refine h.mono ?_
  rintro e w' ⟨v, rfl, hk⟩
  exact hk
/-- An append whose run is known, as one step of a region that draws. -/
theorem step_append_run {ops : Array Oper} {o : Oper} {a : Act} {w : World} {K : Act → World → Prop} {Q : Exit → Act → World → Prop} {E : Prop} (t : TypeId) (hgd : o.guard = none) (d x : Operand)
    (ho : o.op = .call { callee := .builtin .append, args := #[d, x], argTypes := #[t, t] }) (hty : o.type = t) (vd vx : Value) (hd : a.eval d = vd) (hx : a.eval x = vx) (v : Value) (w' : World)
    (hrun : (Builtin.append_ #[t, t] t #[vd, vx]).run Tryd.prog w = .ok v w') (h : K (a.put o.dst v) w') : if Region.wanted o (yielded ops a.tmps) = true then Oper.wp Tryd.prog o a w K Q else E := by
  have hw : Region.wanted o (yielded ops a.tmps) = true := by simp [Region.wanted, hgd]
  rw [if_pos hw]
  unfold Oper.wp
  simp [execOp, ho, resolve, invoke, builtin, hd, hx, hty, hrun, Result.andThen]
  exact h

/-- What the document's Decode answers. -/
def RBDecV (c : Int) (s : ByteArray) (base : Nat) (e : Ending) (w : World) : Prop :=
  (0 ≤ c ∧ DecB c.toNat s.data.toList ∧ ∃ u, e = .returned (.tuple #[.agg #[.int .i64 (brF (cellsB s.data.toList c.toNat)), u], .int .i64 0]) ∧ LkO w base u (brL (cellsB s.data.toList c.toNat))) ∨
    (¬ (0 ≤ c ∧ DecB c.toNat s.data.toList) ∧ e = .returned (.tuple #[.agg #[.int .i64 0, .slice none 0 0], .int .i64 2]))

set_option maxRecDepth 20000 in
set_option maxHeartbeats 8000000 in
theorem rbdec_any (c : Int) (s : ByteArray) (w : World) :
    Calls Tryd.prog 13 #[.int .i64 c, .string s] w fun e w' => RBDecV c s w.heap.size e w' ∧ Below w.heap.size w w' := by
  have q0 := below_new w (.cells #[.int .i64 0, .slice none 0 0] 30)
  have x0 := RowAt.new w #[.int .i64 0, .slice none 0 0] 30
  have hs0 : (w.alloc (.cells #[.int .i64 0, .slice none 0 0] 30)).heap.size = w.heap.size + 1 := by simp
  generalize hW0 : w.alloc (.cells #[.int .i64 0, .slice none 0 0] 30) = W0 at *
  have HRD := hide (rread_any c s W0)
  have HX := hide x0
  have HQ := hide q0
  have HS0 := hide hs0
  obtain ⟨Q, hQ⟩ : ∃ Q : Ending → World → Prop, Q = fun e w' => RBDecV c s w.heap.size e w' ∧ Below w.heap.size w w' := ⟨_, rfl⟩
  rw [← hQ]
  have HQQ := hide hQ
  clear hQ q0 x0 hs0
  go_enter Tryd.func13, Tryd.ntmps13
  go_wp2_with fail
  refine HRD.out.mono ?_
  rintro e w1 ⟨hv, hb1⟩
  have HB1 := hide hb1
  clear HRD hW0
  have hx := HX.out.below hb1
  have r0 := hx.c0
  have r1 := hx.c1
  have z0 := hx.free 0
  have z1 := hx.free 1
  have HXX := hide hx
  clear hx hb1
  rcases hv with ⟨hc0, hokr, ra, rcap, rfl, hown⟩ | ⟨hno, rfl⟩
  · obtain ⟨n, hn⟩ : ∃ n, n = c.toNat := ⟨_, rfl⟩
    have HC0 := hide hc0
    have HOKR := hide hokr
    have HNC := hide hn
    rw [← hn] at hokr hown ⊢
    obtain ⟨L, hL⟩ : ∃ L, L = cellsB s.data.toList n := ⟨_, rfl⟩
    have HL := hide hL
    have hLl : n = L.length := by rw [hL, cellsB_len]
    have hLs : ∀ x ∈ L, x.size ≤ 4072 := by rw [hL]; exact cellsB_size hokr
    rw [← hL] at hown
    have hnb : n ≤ 2036 := hokr.1.1
    have hd0 : (((0 : Nat) : Int) != 0) = false := by simp
    have hNO : okBr L = false → ¬ (0 ≤ c ∧ DecB c.toNat s.data.toList) := fun h hh => by
      have := hh.2.2.1
      rw [← HNC.out, ← HL.out, h] at this
      cases this
    have HNO := hide hNO
    have hst := (rowR_of_owns hown).strs
    obtain ⟨a', cap', he, _, hcell⟩ := hst
    simp only [Value.slice.injEq] at he
    obtain ⟨rfl, hjunk, rfl⟩ := he
    clear hjunk
    clear hokr hown hL hn hc0 hNO
    cases L with
    | nil =>
      have hn0 : n = 0 := hLl
      clear hcell hLs hLl
      clear hd0
      subst hn0
      have hd1 : (((0 : Nat) : Int) == 0) = true := by simp
      go_wp2_with fail
      refine bodyPost_ret (results_row_tmp rfl _ _ w.heap.size 30 _ (0, 0) _ rfl (HXX.out.two _ _) Tryd.underlying30 rfl (by kernel_rfl)) rfl ?_
      rw [HQQ.out]
      exact ⟨.inr ⟨(HNO.out rfl), rfl⟩, below_two (Below.next HQ.out HB1.out) (Nat.le_refl _)⟩
    | cons c0 cs =>
      have hn1 : n = cs.length + 1 := hLl
      have hdn : ((n : Int) == 0) = false := by rw [beq_eq_false_iff_ne]; omega
      have hnpos : (0 : Int) < (n : Int) := by omega
      obtain ⟨g, o, rfl, f0⟩ := hcell 0 (by simp)
      simp only [List.getElem_cons_zero, Nat.add_zero] at f0
      have hcs : ∀ j (h : j < cs.length), w1.cell? ⟨g, o + (j + 1), none⟩ = some (.string cs[j]) := fun j h => by
        obtain ⟨g', o', he, f⟩ := hcell (j + 1) (by simpa using h)
        cases he
        simpa using f
      have hc0s : c0.size ≤ 4072 := hLs c0 List.mem_cons_self
      have hcss : ∀ d ∈ cs, d.size ≤ 4072 := fun d hd => hLs d (List.mem_cons_of_mem _ hd)
      have HCS := hide hcs
      have HCSS := hide hcss
      have HN1 := hide hn1
      by_cases h4 : c0.size = 4
      · have h4I : (c0.size : Int) = 4 := by omega
        have hb4 : ((c0.size : Int) != 4) = false := by rw [h4I]; decide
        have HTD := hide (told_any c0 w1 (by omega) hc0s)
        have hdr : c0.data.toList.drop (c0.size - 4) = c0.data.toList := by rw [h4]; rfl
        rw [hdr] at HTD
        have HOB : Hid (∀ (h : cs.all okK = true), okBr (c0 :: cs) = true) := fun h => by simp [okBr, h4, h]
        have HBF : Hid ((beNat c0.data.toList : Int) = brF (c0 :: cs)) := by show _ = _; rfl
        obtain ⟨ff, hff⟩ : ∃ f : Int, f = (beNat c0.data.toList : Int) := ⟨_, rfl⟩
        rw [← hff] at HTD HBF
        have HX1 := hide HXX.out
        clear hcell hLs hLl h4 hcs hcss hn1 hdr hff hc0s
        go_wp2_with fail
        refine HTD.out.mono ?_
        rintro e w2 ⟨rfl, rfl⟩
        clear HTD f0
        have q3 := below_new w1 (.cells #[.int .i64 ff, .slice none 0 0] 30)
        have x3 := RowAt.new w1 #[.int .i64 ff, .slice none 0 0] 30
        obtain ⟨b8, hb8⟩ : ∃ b, b = w1.heap.size := ⟨_, rfl⟩
        have hs3 : (w1.alloc (.cells #[.int .i64 ff, .slice none 0 0] 30)).heap.size = w1.heap.size + 1 := by simp
        have HX0 := hide (HXX.out.below q3)
        have HX3 := hide x3
        have HQ3 := hide (Below.next HB1.out q3)
        have HQ13 := hide q3
        have HS3 := hide hs3
        have hwb : W0.heap.size ≤ w1.heap.size := HB1.out.size
        have HWB := hide hwb
        clear q3 x3 hb8 hs3 hwb r0 r1 z0 z1
        go_wp2
        generalize w1.alloc (.cells #[.int .i64 ff, .slice none 0 0] 30) = W3 at *
        go_loopw [9] (fun i wr => ∃ (k : Nat) (ua : Option Addr) (uc : Nat), k ≤ cs.length ∧ i = .int .i64 ((k + 1 : Nat) : Int) ∧ RowAt wr w.heap.size #[.int .i64 0, .slice none 0 0] 30 ∧ RowAt wr w1.heap.size #[.int .i64 ff, .slice ua k uc] 30 ∧ LkO wr (w1.heap.size + 1) (.slice ua k uc) ((cs.take k).map linkC) ∧ (∀ j (h : j < cs.length), j < k → 5 ≤ cs[j].size) ∧ Below w1.heap.size w1 wr) (fun i _ => n - (intOf i).toNat)
        case atStart => exact ⟨0, none, 0, Nat.zero_le _, rfl, HX0.out, HX3.out, by simpa using LkO.nil W3 (w1.heap.size + 1), fun j _ h => absurd h (Nat.not_lt_zero _), HQ13.out⟩
        case round =>
          obtain ⟨k, ua, uc, hk, rfl, hx0, hx1, hown, hpre, hbw⟩ := hrel
          obtain ⟨i, hi⟩ : ∃ i, i = k + 1 := ⟨_, rfl⟩
          rw [← hi]
          have HI := hide hi
          have HP := hide hpre
          have HY0 := hide hx0
          have HY1 := hide hx1
          have HO := hide hown
          have HBW := hide hbw
          have hii : i ≤ 2036 := by have := HN1.out; omega
          have hkb : k ≤ 2036 := by omega
          clear hpre HX0 HX3 HQ13
          by_cases hlt : k < cs.length
          · have f1 := HCS.out k hlt
            have c1 : wr.cell? ⟨g, o + i, none⟩ = some (.string cs[k]) := by
              rw [hi]
              exact (hbw.cell (p := ⟨g, o + (k + 1), none⟩) (World.block_lt_of_cell? w1 _ f1)).trans f1
            have hcsz := HCSS.out cs[k] (List.getElem_mem _)
            have hltI : (i : Int) < (n : Int) := by have := HN1.out; omega
            have hi0 : (0 : Int) ≤ (i : Int) := by omega
            have HPN : Hid (5 ≤ cs[k].size → ∀ j (h : j < cs.length), j < k + 1 → 5 ≤ cs[j].size) := fun hl j h hj => by
              by_cases he : j = k
              · subst he; exact hl
              · exact HP.out j h (by omega)
            have HNB : Hid (cs[k].size < 5 → okBr (c0 :: cs) = false) := fun hl => by
              have : cs.all okK = false := by
                rw [List.all_eq_false]
                exact ⟨cs[k], List.getElem_mem _, by simp [okK]; omega⟩
              simp [okBr, this]
            have HTK : Hid ((cs.take (k + 1)).map linkC = (cs.take k).map linkC ++ [linkC cs[k]]) := by show _ = _; rw [List.take_succ_eq_append_getElem hlt, List.map_append]; rfl
            have hlen : ((cs.take k).map linkC).length = k := by rw [List.length_map, List.length_take]; omega
            obtain ⟨ck, hck⟩ : ∃ ck, ck = cs[k] := ⟨_, rfl⟩
            rw [← hck] at c1 hcsz HPN HNB HTK
            clear hck f1 hi hbw hown hx0 hx1
            by_cases h5 : ck.size < 5
            · have h5I : (ck.size : Int) < 5 := by omega
              have r0 := HY0.out.c0
              have r1 := HY0.out.c1
              have z0 := HY0.out.free 0
              have z1 := HY0.out.free 1
              have HNN := hide (HNO.out (HNB.out h5))
              clear h5
              go_wp2_with fail
              refine bodyPost_ret (results_row_tmp rfl _ _ w.heap.size 30 _ (0, 0) _ rfl (HY0.out.two _ _) Tryd.underlying30 rfl (by kernel_rfl)) rfl ?_
              rw [HQQ.out]
              exact ⟨.inr ⟨HNN.out, rfl⟩, below_two (Below.next HQ.out (Below.next HB1.out HBW.out)) (Nat.le_refl _)⟩
            · have h5I : ¬ (ck.size : Int) < 5 := by omega
              have h5' : 5 ≤ ck.size := by omega
              have HPN2 := hide (HPN.out h5')
              obtain ⟨e4, he4⟩ : ∃ e, e = ck.size - 4 := ⟨_, rfl⟩
              have hw4 : IntKind.i64.wrap ((ck.size : Int) - 4) = (e4 : Int) := by rw [IntKind.wrap_i64]; omega
              have i1 : (1 : Int) ≤ (e4 : Int) := by omega
              have i2 : (e4 : Int) ≤ (ck.size : Int) := by omega
              have HTD := hide (fun W => told_any ck W (by omega) hcsz)
              have hlk : linkC ck = (ck.extract 1 e4, (beNat (ck.data.toList.drop (ck.size - 4)) : Int)) := by rw [he4]; rfl
              obtain ⟨x2, hx2⟩ : ∃ x : Int, x = (beNat (ck.data.toList.drop (ck.size - 4)) : Int) := ⟨_, rfl⟩
              obtain ⟨kk, hkk⟩ : ∃ kk, kk = ck.extract 1 e4 := ⟨_, rfl⟩
              rw [← hx2, ← hkk] at hlk
              rw [← hx2] at HTD
              have hex : ck.extract 1 e4 = kk := hkk.symm
              rw [hlk] at HTK
              obtain ⟨a3, cp3, w5, hrun, hown1, hb5, _⟩ := push_lks (w1.heap.size + 1) _ _ (kk, x2) 54 wr.drew wr (w1.heap.size + 1) k hlen HO.out.drew (by have := hkb; omega) (by have := HY1.out.lt; show w1.heap.size + 1 ≤ wr.heap.size; omega) (Nat.le_refl _) (below_drewB (Below.refl _ _))
              dsimp only at hrun
              rw [← HTK.out] at hown1
              have y0 := HY0.out.under hb5 (by have := HWB.out; have := HS0.out; omega)
              have y1 := HY1.out.under hb5 (by omega)
              have g1 := y1.c1
              have g2 := y1.free 1
              have t1 := HY1.out.c1
              have t2 := (HY1.out.below (below_new wr (.cells #[.string kk, .int .i64 x2] 54))).c1
              have hwlt : ¬ w.heap.size = w1.heap.size := by have := HWB.out; have := HS0.out; omega
              have HZ0 := hide (y0.other (g := w1.heap.size) (j := 1) hwlt (.slice a3 (k + 1) cp3))
              have HZ1 := hide (y1.set1 (.slice a3 (k + 1) cp3))
              have hne : (Value.slice a3 (k + 1) cp3).ownBlock ≠ some w1.heap.size := fun e => by have := (hown1.blk _ e).1; omega
              have HOW := hide (hown1.put (g := w1.heap.size) (j := 1) hne (.slice a3 (k + 1) cp3))
              have HBF2 := hide ((HBW.out.trans (hb5.mono (by omega))).setCell (p := ⟨w1.heap.size, 1, none⟩) (Nat.le_refl _) (.slice a3 (k + 1) cp3))
              have HRUN := hide hrun
              clear hown1 hb5 y0 y1 hne h5 h5' he4 hlk hx2 hkk hlen HTK HPN HNB hcsz hrun
              go_wp2_with fail
              go_region_law
                (first
                  | (refine step_told _ (by rfl) _ (.string ck) (by rfl) (by rfl) ((HTD.out _).mono ?_); rintro e w6 ⟨rfl, rfl⟩; refine ⟨_, rfl, ?_⟩)
                  | (refine step_append_run 28 rfl (.tmp 54) (.tmp 63) rfl rfl _ _ rfl rfl _ _ HRUN.out ?_))
              all_goals
                clear HRUN g1 g2 t1 t2 c1 HTD
                go_wp2
                go_roundw
                case rel => exact ⟨k + 1, a3, cp3, by omega, by rw [show (k + 1 + 1 : Nat) = i + 1 by have := HI.out; omega]; go_num, HZ0.out, HZ1.out, HOW.out, HPN2.out, HBF2.out⟩
                case measure => simp [intOf]; omega
          · have hkn : k = cs.length := by omega
            have hltI : ¬ (i : Int) < (n : Int) := by have := HN1.out; omega
            have hall : (cs.take k).map linkC = cs.map linkC := by rw [hkn, List.take_length]
            rw [hall] at hown
            obtain ⟨l, hl⟩ : ∃ l, l = cs.map linkC := ⟨_, rfl⟩
            rw [← hl] at hown
            have hbl : brL (c0 :: cs) = l := by rw [hl]; simp [brL]
            have hll : l.length = k := by rw [hl, List.length_map, hkn]
            have HEN := hide (rbenc_any ff _ l wr (by omega) hown.at)
            have hokr := HOKR.out
            rw [← HNC.out] at hokr
            have href := decB_ref hokr c0 cs HL.out.symm
            rw [← HL.out, ← HBF.out, hbl] at href
            have HREF : Hid (DecB n s.data.toList ↔ (chkB ff l true = none ∧ encK ff l = s)) := by
              show _ ↔ _
              rw [href]
              constructor
              · rintro ⟨h1, h2⟩; exact ⟨h1, ba_ext' (by simpa [encK] using h2)⟩
              · rintro ⟨h1, h2⟩; exact ⟨h1, by rw [← h2]; simp [encK]⟩
            have r0 := HY0.out.c0
            have r1 := HY0.out.c1
            have z0 := HY0.out.free 0
            have z1 := HY0.out.free 1
            have t0 := HY1.out.c0
            have t1 := HY1.out.c1
            have HO2 := hide hown
            have HBL := hide hbl
            clear hkn hall hl hbl hll hown hbw hx0 hx1 hokr href hi
            go_wp2_with fail
            refine HEN.out.mono ?_
            rintro e w6 ⟨hv, hb6⟩
            have HB6 := hide hb6
            have HA0 := hide (HY0.out.below hb6)
            have HA1 := hide (HY1.out.below hb6)
            have HO6 := hide (HO2.out.below hb6)
            clear hb6 HEN r0 r1 z0 z1 t0 t1 HO2
            have r0 := HA0.out.c0
            have r1 := HA0.out.c1
            have z0 := HA0.out.free 0
            have z1 := HA0.out.free 1
            have t0 := HA1.out.c0
            have t1 := HA1.out.c1
            have HBE := hide (Below.next HQ.out (Below.next HB1.out (Below.next HBW.out HB6.out)))
            rcases hv with ⟨hck, rfl⟩ | ⟨kk, hck, rfl⟩
            · by_cases hse : encK ff l = s
              · have HYES : Hid (DecB c.toNat s.data.toList) := by rw [← HNC.out]; exact HREF.out.2 ⟨hck, hse⟩
                rw [hse]
                have es : (s.toList != s.toList) = false := by simp
                clear hck hse
                go_wp2_with fail
                refine bodyPost_ret (results_row_tmp rfl _ _ w.heap.size 30 _ (0, 0) _ rfl (HA0.out.two _ _) Tryd.underlying30 rfl (by kernel_rfl)) rfl ?_
                rw [HQQ.out]
                refine ⟨.inl ⟨HC0.out, HYES.out, .slice ua k uc, ?_, ?_⟩, below_two HBE.out (Nat.le_refl _)⟩
                · rw [← HNC.out, ← HL.out, ← HBF.out]; rfl
                · rw [← HNC.out, ← HL.out, HBL.out]
                  exact (HO6.out.put2 (by have := HWB.out; have := HS0.out; omega) _ _).mono (by have := HWB.out; have := HS0.out; omega)
              · have HNN : Hid (¬ (0 ≤ c ∧ DecB c.toNat s.data.toList)) := fun h => hse (HREF.out.1 (by rw [HNC.out]; exact h.2)).2
                have es : ((encK ff l).toList != s.toList) = true := by
                  rw [bne_iff_ne]
                  intro he
                  rw [ByteArray.toList_eq, ByteArray.toList_eq] at he
                  exact hse (ba_ext' he)
                obtain ⟨ee, hee⟩ : ∃ ee, ee = encK ff l := ⟨_, rfl⟩
                rw [← hee] at es ⊢
                have es3 : ¬ ee.toList = s.toList := by rw [bne_iff_ne] at es; exact es
                have es2 : (ee.toList == s.toList) = false := by rw [beq_eq_false_iff_ne]; exact es3
                clear hck hse hee
                go_wp2_with fail
                refine bodyPost_ret (results_row_tmp rfl _ _ w.heap.size 30 _ (0, 0) _ rfl (HA0.out.two _ _) Tryd.underlying30 rfl (by kernel_rfl)) rfl ?_
                rw [HQQ.out]
                exact ⟨.inr ⟨HNN.out, rfl⟩, below_two HBE.out (Nat.le_refl _)⟩
            · have HNN : Hid (¬ (0 ≤ c ∧ DecB c.toNat s.data.toList)) := fun h => by
                have := (HREF.out.1 (by rw [HNC.out]; exact h.2)).1
                rw [hck] at this
                cases this
              obtain ⟨k2, hk2⟩ : ∃ k2, k2 = kk + 1 := ⟨_, rfl⟩
              have hd2 : ((k2 : Int) != 0) = true := by rw [bne_iff_ne]; omega
              rw [← hk2]
              clear hck hk2
              go_wp2_with fail
              refine bodyPost_ret (results_row_tmp rfl _ _ w.heap.size 30 _ (0, 0) _ rfl (HA0.out.two _ _) Tryd.underlying30 rfl (by kernel_rfl)) rfl ?_
              rw [HQQ.out]
              exact ⟨.inr ⟨HNN.out, rfl⟩, below_two HBE.out (Nat.le_refl _)⟩
      · have hb4 : ((c0.size : Int) != 4) = true := by rw [bne_iff_ne]; omega
        have hno : okBr (c0 :: cs) = false := by simp [okBr, h4]
        have HNO2 := hide (HNO.out hno)
        clear hcell hLs hLl hno h4 hcs hcss hn1
        go_wp2_with fail
        refine bodyPost_ret (results_row_tmp rfl _ _ w.heap.size 30 _ (0, 0) _ rfl (HXX.out.two _ _) Tryd.underlying30 rfl (by kernel_rfl)) rfl ?_
        rw [HQQ.out]
        exact ⟨.inr ⟨HNO2.out, rfl⟩, below_two (Below.next HQ.out HB1.out) (Nat.le_refl _)⟩
  · have HNO : Hid (¬ (0 ≤ c ∧ DecB c.toNat s.data.toList)) := fun h => hno ⟨h.1, h.2.1⟩
    clear hno
    go_wp2_with fail
    refine bodyPost_ret (results_row_tmp rfl _ _ w.heap.size 30 _ (0, 0) _ rfl (HXX.out.two _ _) Tryd.underlying30 rfl (by kernel_rfl)) rfl ?_
    rw [HQQ.out]
    exact ⟨.inr ⟨HNO.out, rfl⟩, below_two (Below.next HQ.out HB1.out) (Nat.le_refl _)⟩

end Go.Proofs.YtagldlchamlpdabDoor
