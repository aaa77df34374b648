import Derived.Test.YtnaedmmfiiebaaaGreatDoorG40
namespace Go.Proofs.YtnaedmmfiiebaaaGreatDoor.T
open Go.RowKit

theorem Way.get {d : S.V.Dev} {X : Type} {S : Sys d X} {Pk : SN → Nat → Prop} {w : World} : ∀ {t : List (Stp X)} {x y : X}, Way S Pk w x t y → ∀ (k : Nat) (h : k < t.length), OkS S w t[k] ∧ ¬ t[k].n.us.length = 0 ∧ t[k].at' < t[k].n.us.length
  | [], _, _, _, _, h => by simp at h
  | _ :: _, _, _, ⟨_, h2, h3, _, h5, _, _, _⟩, 0, _ => ⟨h2, h3, h5⟩
  | _ :: _, _, _, ⟨_, _, _, _, _, _, _, h7⟩, k + 1, h => Way.get h7 k (by simpa using h)
set_option maxRecDepth 20000 in
theorem slCut (w : World) (a : Option Addr) (n cap m : Nat) (hm : m ≤ cap) : (Instr.sliceAt 101 (.slice a n cap) none (some (.int .i64 (m : Int))) (some (.int .i64 (m : Int)))).run Tryz.prog w = .ok (.slice a m m) w := by
  rw [run_sliceAt_slice (h := Tryz.underlying101), run_slice_hm (ht := Tryz.underlying101) (h0 := by omega) (h2 := by omega) (h3 := by omega)]
  have hz : (sizeOf (Tryz.prog.elem 101)).run Tryz.prog w = .ok 2 w := by kernel_rfl
  rw [hz]
  simp [Result.andThen, sliced, Addr.add]
theorem W.LkO.mono {w : World} {b b2 : Nat} {v : Value} {l : List W.Lk} (h : W.LkO w b v l) (hb : b2 ≤ b) : W.LkO w b2 v l := by
  refine ⟨h.1, ?_⟩
  rcases h.2 with h' | ⟨g, cap, cur, h', h1, hr⟩
  · exact .inl h'
  · exact .inr ⟨g, cap, cur, h', Nat.le_trans hb h1, hr⟩
/-- What wayAhead answers. -/
def AheadA (A : Nat → Addr) (e : Ending) (w' : World) : Prop :=
  e = .returned (.tuple #[.slice none 0 0, .iface 360 (.pointer (some (A 8)))]) ∨
  e = .returned (.tuple #[.slice none 0 0, .nilIface]) ∨
  ∃ (m : Nat) (a : Option Addr) (c : Nat) (l : List W.Lk) (q : W.Lk) (n : SN) (pv lv cv : Value), e = .returned (.tuple #[.slice a (m + 1) c, .nilIface]) ∧ m = l.length ∧ m ≤ 100000 ∧ W.LkR w' (.slice a (m + 1) c) (l ++ [q]) ∧ SNR w' q.1 n pv lv cv
section
variable {base : Nat} {A : Nat → Addr} {db : Nat} {F : Nat → Prop} {d : S.V.Dev}
set_option maxRecDepth 100000 in
set_option maxHeartbeats 600000 in
theorem wayahead_any {w0 w : World} {tb : Nat} {rv : Value} {Pk : SN → Nat → Prop} (a : Option Addr) (c : Nat) (ss : List (Stp Unit)) (s : Stp Unit) (hv0 : Dv base A db F d w0) (hm : Mv db F w0 w) (hv : Dv base A db F d w) (ht : B.RowAt w tb #[.pointer (some ⟨db, 0, none⟩), rv] 100)
    (ho : W.LkR w (.slice a (ss.length + 1) c) (ss.map Stp.lk ++ [s.lk])) (hway : Way (anyS d) Pk w () ss s.x) (hat : s.at' = 0) (hl : ss.length ≤ 63) :
    Calls Tryz.prog 56 #[.pointer (some ⟨tb, 0, none⟩), .slice a (ss.length + 1) c] w fun e w' => AheadA A e w' ∧ Dv base A db F d w' ∧ Mv db F w0 w' := by
  obtain ⟨M, hM⟩ : ∃ M, M = ss.length + 1 := ⟨_, rfl⟩
  rw [← hM] at ho ⊢
  have HO := hide ho
  have HW := hide hway
  have HV := hide hv
  have HV0 := hide hv0
  have HMV := hide hm
  have HT := hide ht
  have HM := hide hM
  have HL := hide hl
  have HAT := hide hat
  have hMs : (M : Int) ≤ 64 := by omega
  have hM0 : (0 : Int) ≤ (M : Int) := by omega
  clear hv0 hm hv ht ho hway hat hl hM
  go_enter Tryz.func56, Tryz.ntmps56
  go_wp2
  go_loopw [6] (fun iv wr => ∃ j : Nat, iv = .int .i64 ((j : Int) - 1) ∧ j ≤ M ∧ Below w.heap.size w wr) (fun iv _ => (intOf iv + 1).toNat)
  case atStart => exact ⟨M, rfl, Nat.le_refl _, Below.refl _ _⟩
  case round =>
    obtain ⟨j, rfl, hj, hb⟩ := hrel
    cases j with
    | zero =>
      have HB := hide hb
      have hneg : ¬ (0 : Int) ≤ ((0 : Nat) : Int) - 1 := by omega
      clear hb
      go_wp2
      go_ret2
      exact ⟨.inr (.inl rfl), HV.out.below HB.out, HMV.out.trans (Mv.of HB.out)⟩
    | succ k =>
      have e0 : ((k + 1 : Nat) : Int) - 1 = (k : Int) := by omega
      rw [e0]
      have hk0 : (0 : Int) ≤ (k : Int) := by omega
      have hk1 : (k : Int) < (M : Int) := by omega
      have hkl : k < (ss.map Stp.lk ++ [s.lk]).length := by rw [List.length_append, List.length_map]; simp; have := HM.out; omega
      obtain ⟨g, o, rfl, c1, c2⟩ := W.LkR.spot HO.out k hkl
      have f1 : wr.cell? ⟨g, o + k * 2, none⟩ = some (.pointer (some ⟨(ss.map Stp.lk ++ [s.lk])[k].1, 0, none⟩)) := (hb.cell (p := ⟨g, o + k * 2, none⟩) (World.block_lt_of_cell? w _ c1)).trans c1
      have f2 : wr.cell? ⟨g, o + k * 2 + 1, none⟩ = some (.int .i64 (ss.map Stp.lk ++ [s.lk])[k].2) := (hb.cell (p := ⟨g, o + k * 2 + 1, none⟩) (World.block_lt_of_cell? w _ c2)).trans c2
      obtain ⟨lb, hlb⟩ : ∃ x, x = (ss.map Stp.lk ++ [s.lk])[k].1 := ⟨_, rfl⟩
      obtain ⟨lat, hlat⟩ : ∃ x, x = (ss.map Stp.lk ++ [s.lk])[k].2 := ⟨_, rfl⟩
      rw [← hlb] at f1
      rw [← hlat] at f2
      have q0 := below_new wr (.cells #[.pointer (some ⟨lb, 0, none⟩), .int .i64 lat] 159)
      have x0 := B.RowAt.new wr #[.pointer (some ⟨lb, 0, none⟩), .int .i64 lat] 159
      have k0 := x0.c0
      have k1 := x0.c1
      have HB := hide (Below.next hb q0)
      by_cases hpos : 0 < lat
      · have hks : k < ss.length := by
          rcases Nat.lt_or_ge k ss.length with h | h
          · exact h
          · have e : k = ss.length := by have := HM.out; omega
            have e2 : (ss.map Stp.lk ++ [s.lk])[k] = s.lk := by
              subst e
              simp
            rw [e2] at hlat
            have : lat = (s.at' : Int) := hlat
            rw [HAT.out] at this
            omega
        have e2 : (ss.map Stp.lk ++ [s.lk])[k] = ss[k].lk := by rw [List.getElem_append_left (by rw [List.length_map]; exact hks), List.getElem_map]
        rw [e2] at hlb hlat
        obtain ⟨⟨⟨pv, lv, cv, hs⟩, hn⟩, hnl, hlt⟩ := HW.out.get k hks
        replace hn : NAny w ss[k].n := hn
        generalize ss[k] = t at *
        change lb = t.b at hlb
        change lat = (t.at' : Int) at hlat
        subst hlb
        obtain ⟨q, hq⟩ : ∃ q, t.at' = q + 1 := ⟨t.at' - 1, by omega⟩
        have hlat2 : lat = (q : Int) + 1 := by rw [hlat, hq]; omega
        clear hlat
        subst hlat2
        rw [hq] at hlt
        obtain ⟨p, hp⟩ : ∃ p, t.n.us[q]? = some p := ⟨_, List.getElem?_eq_getElem (by omega)⟩
        have hpa : Any w p := hn.2 p (List.mem_of_getElem? hp)
        generalize hWb : wr.alloc (.cells #[.pointer (some ⟨t.b, 0, none⟩), .int .i64 ((q : Int) + 1)] 159) = Wb at *
        have hbd : Below w.heap.size w Wb.drew := B.below_drewB HB.out
        obtain ⟨c', w3, hrun, hst3, hb3⟩ := push_cut g o k M c _ (t.b, (q : Int)) Wb.drew (W.LkR.below HO.out hbd) (by omega) (by omega)
        have hbb : Below w.heap.size w w3.drew := B.below_drewB (Below.next hbd hb3)
        have hlp : ((ss.map Stp.lk ++ [s.lk]).take k ++ [(t.b, (q : Int))]).length = k + 1 := by
          rw [List.length_append, List.length_take]; simp; omega
        have hst4 : StO w3.drew w0.heap.size (.slice (some ⟨Wb.drew.heap.size + 1, 0, none⟩) (k + 1) c') ((ss.map Stp.lk ++ [s.lk]).take k ++ [(t.b, (q : Int))]) := ⟨W.LkO.mono (b := Wb.drew.heap.size) hst3.1 (Nat.le_trans HMV.out.size hbd.size), hst3.2⟩
        have HG := hide (godown_last (anyS d) (fun n q => q = n.lk.length) (fun _ => True) (fun _ _ _ h => h) _ _ p () tb rv w0 w3.drew (hpa.away (Away.of hbb)) (HT.out.below hbb) (HV.out.below hbb) (HMV.out.trans (Mv.of hbb)) HV0.out hst4 trivial (by rw [hlp]; have := HL.out; have := HM.out; omega) (.inl trivial) (fun W b n pv lv cv y _ hs hn hnl => by
          have hk := ((anyS d).fit hn).1.resolve_left hnl
          exact (tlast_any n lv W hs.lks).mono fun e w' ⟨he, hb⟩ => ⟨n.lk.length, he, rfl, by omega, hb⟩))
        obtain ⟨pre, hpre⟩ : ∃ pre, pre = (ss.map Stp.lk ++ [s.lk]).take k ++ [(t.b, (q : Int))] := ⟨_, rfl⟩
        rw [← hpre] at HG hlp
        have hsz : Wb.drew.heap.size = wr.heap.size + 1 := by rw [← hWb]; simp [World.drew]
        rw [show (Wb.drew).alloc (.cells #[.pointer (some ⟨t.b, 0, none⟩), .int .i64 (q : Int)] 159) = (Wb.alloc (.cells #[.pointer (some ⟨t.b, 0, none⟩), .int .i64 (q : Int)] 159)).drew from rfl, hsz] at hrun
        rw [hsz] at HG
        have HRUN := hide hrun
        have HLP := hide hlp
        have HS3 := hide (hs.below (Below.next hbd hb3))
        have p3 := (hs.below (Below.next hbd hb3)).c3
        obtain ⟨ca, cc, hcf, -, -, hcell⟩ := hs.kids
        rw [C.lks_length, Nat.mul_one] at hcf
        subst hcf
        obtain ⟨g2, o2, rfl, cqw⟩ := hcell q p.val (by unfold C.lks; rw [List.getElem?_map, hp]; rfl)
        have cq : w3.cell? ⟨g2, o2 + q, none⟩ = some p.val := ((Below.next hbd hb3).cell (p := ⟨g2, o2 + q, none⟩) (World.block_lt_of_cell? w _ cqw)).trans cqw
        have HNE : Hid ((wr.heap.size < w3.heap.size ∧ wr.heap.size ≠ db) ∧ (t.b < wr.heap.size ∧ t.b ≠ db) ∧ g2 < wr.heap.size ∧ g2 ≠ db) := by
          obtain ⟨d', _, hd⟩ := HV.out.dev
          have hdb := HV.out.dblt
          have s1 := hb.size
          have s2 := (B.undrewB hb3).size
          have s3 : wr.heap.size < Wb.heap.size := by rw [← hWb]; simp
          refine ⟨⟨by omega, by omega⟩, ⟨Nat.lt_of_lt_of_le hs.row.lt s1, fun e => ?_⟩, Nat.lt_of_lt_of_le (World.block_lt_of_cell? w _ cqw) s1, fun e => ?_⟩
          · have h1 := hs.row
            rw [e] at h1
            obtain ⟨mb, nb, pv', av, Dn, hb'⟩ := hd
            unfold B.RowAt at h1
            rw [hb'.blk] at h1
            simp at h1
          · obtain ⟨tt, xx, hpv⟩ := val_form p
            rw [hpv] at cqw
            subst e
            exact (dev_kinds hd cqw).2 tt xx rfl
        obtain ⟨pt, px, hpv⟩ := val_form p
        rw [hpv] at cq HG
        have m0 := (x0.below (B.undrewB hb3)).c0
        have m1 := (x0.below (B.undrewB hb3)).c1
        have hsc := fun W => slCut W (some ⟨g, o, none⟩) M c k (by
          obtain ⟨_, _, e, hle, _⟩ := HO.out
          simp only [Value.slice.injEq] at e
          rw [List.length_append, List.length_map] at hle
          simp at hle
          obtain ⟨_, _, rfl⟩ := e
          have := HM.out
          omega)
        have HCEL : Hid (∀ w4, Kept db (.slice (some ⟨wr.heap.size + 1 + 1, 0, none⟩) (k + 1) c') w3.drew w4 → w4.cell? ⟨wr.heap.size, 0, none⟩ = some (.pointer (some ⟨t.b, 0, none⟩)) ∧ w4.cell? ⟨wr.heap.size, 1, none⟩ = some (.int .i64 ((q : Int) + 1)) ∧ w4.cell? ⟨t.b, 3, none⟩ = some (.slice (some ⟨g2, o2, none⟩) t.n.us.length cc) ∧ w4.cell? ⟨g2, o2 + q, none⟩ = some (.iface pt px)) := fun w4 hk => by
          have hne := HNE.out
          have e1 := hk.2 wr.heap.size (by show wr.heap.size < w3.heap.size; omega) (by omega) (by simp [Value.ownBlock]; omega)
          have e2 := hk.2 t.b (by show t.b < w3.heap.size; omega) (by omega) (by simp [Value.ownBlock]; omega)
          have e3 := hk.2 g2 (by show g2 < w3.heap.size; omega) (by omega) (by simp [Value.ownBlock]; omega)
          exact ⟨cell_same e1 m0, cell_same e1 m1, cell_same e2 p3, cell_same e3 cq⟩
        have hq0 : (0 : Int) ≤ (q : Int) := by omega
        have hq1 : (q : Int) < (t.n.us.length : Int) := by omega
        have hq2 : (t.n.us.length : Int) ≤ 4001 := by have := hs.fine.2.2.2.2; omega
        have hqp : (q : Int) + 1 > 0 := by omega
        have hwq : IntKind.i64.wrap (q : Int) = (q : Int) := by rw [IntKind.wrap_i64]; omega
        clear hcell cqw hpv hst4 hst3 hbb hb3 hrun hpre hpa hn hs hnl hlt hp hlp hbd x0 q0 hb c1 c2 hpos hq e2 hsz
        subst hWb
        go_wp2_with fail
        go_region_held3 (fun w' => w'.cell? ⟨wr.heap.size, 0, none⟩ = some (.pointer (some ⟨t.b, 0, none⟩)) ∧ w'.cell? ⟨wr.heap.size, 1, none⟩ = some (.int .i64 ((q : Int) + 1))) (go_keep)
          (first | (refine step_append_run 101 rfl (.tmp 26) (.tmp 33) rfl rfl _ _ rfl rfl _ _ HRUN.out ?_))
        all_goals
          clear HRUN hsc k0 k1 f1 f2
          go_wp2_with fail
          go_region_held3 (fun w' => w'.cell? ⟨wr.heap.size, 0, none⟩ = some (.pointer (some ⟨t.b, 0, none⟩)) ∧ w'.cell? ⟨wr.heap.size, 1, none⟩ = some (.int .i64 ((q : Int) + 1)) ∧ w'.cell? ⟨t.b, 3, none⟩ = some (.slice (some ⟨g2, o2, none⟩) t.n.us.length cc) ∧ w'.cell? ⟨g2, o2 + q, none⟩ = some (.iface pt px)) (go_keep)
            (first | (go_at_call 89; refine HG.out.mono ?_; rintro e w4 ⟨hdn, hv4, hm4, hkp4⟩; have n0 := HCEL.out w4 hkp4; obtain ⟨n0, n1, n2, n3⟩ := n0; clear hkp4; obtain ⟨a4, n4, c4, v4, he4, hvv⟩ := hdn.form; subst he4; have HD4 := hide hdn; have HV4 := hide hv4; have HM4 := hide hm4; have HVV := hide hvv; clear hdn hv4 hm4 hvv))
          all_goals
            have HRES : Hid (AheadA A (.returned (.tuple #[.slice a4 n4 c4, v4])) w4) := by
              rcases HD4.out with ⟨_, he⟩ | ⟨ss', s', a', c'', he, ho', _, ⟨⟨pv', lv', cv', hs'⟩, _⟩, _, _, hl'⟩
              · exact .inl he
              · exact .inr (.inr ⟨pre.length + ss'.length, a', c'', pre ++ ss'.map Stp.lk, s'.lk, s'.n, pv', lv', cv', he, by rw [List.length_append, List.length_map], by omega, ho'.1.at, hs'⟩)
            clear HD4 HG m0 m1 p3 cq n0 n1 n2 n3
            obtain ⟨vv, hvv⟩ : ∃ vv, vv = v4 := ⟨_, rfl⟩
            rw [← hvv] at HRES HVV ⊢
            rcases HVV.out with h | h
            · subst h
              clear hvv HVV
              go_wp2
              go_ret2
              exact ⟨HRES.out, HV4.out, HM4.out⟩
            · subst h
              clear hvv HVV
              go_wp2
              go_ret2
              exact ⟨HRES.out, HV4.out, HM4.out⟩
      · have hnp : ¬ lat > 0 := hpos
        clear c1 c2 hb x0 q0 hlb hlat hpos
        go_wp2
        go_roundw
        case rel => exact ⟨k, rfl, by omega, HB.out⟩
        case measure => simp [intOf]
end

end Go.Proofs.YtnaedmmfiiebaaaGreatDoor.T

namespace Go.Proofs.YtnaedmmfiiebaaaGreatDoor.T
open Go.RowKit

section
variable {base : Nat} {A : Nat → Addr} {db : Nat} {F : Nat → Prop} {d : S.V.Dev} {W0 : World}
/-- lastOf of what a way answered. -/
theorem lastof_any {Pk : SN → Nat → Prop} {rv : Value} {bs : Nat} {a : Option Addr} {n c : Nat} {v : Value} {w : World} (h : WayA A d Pk rv bs (.returned (.tuple #[.slice a n c, v])) w) :
    Calls Tryz.prog 53 #[.slice a n c, v] w fun e w' => (∃ k x b ev, e = .returned (.tuple #[.agg #[.string k, .string x], .bool b, ev]) ∧ ErrV A ev) ∧ Below w.heap.size w w' := by
  rcases h with ⟨_, he⟩ | ⟨_, he⟩ | ⟨ss, s, a', c', pv, lv, cv, _, he, ho, _, hs, _, _, _, hl⟩
  · cases he
    exact (lastof_none _ (.inr ⟨_, rfl⟩) w).mono fun e w' ⟨he, hb⟩ => ⟨⟨_, _, _, _, he, .inr (.inr rfl)⟩, hb⟩
  · cases he
    exact (lastof_none _ (.inl rfl) w).mono fun e w' ⟨he, hb⟩ => ⟨⟨_, _, _, _, he, .inl rfl⟩, hb⟩
  · cases he
    refine (lastof_some a ss.length c (ss.map Stp.lk) s.lk s.n pv lv cv w (by rw [List.length_map]) (by omega) ho.1.at hs).mono fun e w' ⟨⟨k, x, b, he⟩, hb⟩ => ⟨⟨k, x, b, _, he, .inl rfl⟩, hb⟩
theorem lastof_ahead {a : Option Addr} {n c : Nat} {v : Value} {w : World} (h : AheadA A (.returned (.tuple #[.slice a n c, v])) w) :
    Calls Tryz.prog 53 #[.slice a n c, v] w fun e w' => (∃ k x b ev, e = .returned (.tuple #[.agg #[.string k, .string x], .bool b, ev]) ∧ ErrV A ev) ∧ Below w.heap.size w w' := by
  rcases h with he | he | ⟨m, a', c', l, q, sn, pv, lv, cv, he, hm, hm2, hr, hs⟩
  · cases he
    exact (lastof_none _ (.inr ⟨_, rfl⟩) w).mono fun e w' ⟨he, hb⟩ => ⟨⟨_, _, _, _, he, .inr (.inr rfl)⟩, hb⟩
  · cases he
    exact (lastof_none _ (.inl rfl) w).mono fun e w' ⟨he, hb⟩ => ⟨⟨_, _, _, _, he, .inl rfl⟩, hb⟩
  · cases he
    refine (lastof_some a m c l q sn pv lv cv w hm hm2 hr hs).mono fun e w' ⟨⟨k, x, b, he⟩, hb⟩ => ⟨⟨k, x, b, _, he, .inl rfl⟩, hb⟩
theorem AheadA.form {e : Ending} {w' : World} (h : AheadA A e w') : ∃ a n c v, e = .returned (.tuple #[.slice a n c, v]) ∧ (v = .nilIface ∨ v = .iface 360 (.pointer (some (A 8)))) := by
  rcases h with rfl | rfl | ⟨m, a, c, l, q, sn, pv, lv, cv, rfl, _⟩
  · exact ⟨_, _, _, _, rfl, .inr rfl⟩
  · exact ⟨_, _, _, _, rfl, .inl rfl⟩
  · exact ⟨_, _, _, _, rfl, .inl rfl⟩
theorem Tc.boxed {w w1 : World} {tb : Nat} (h : Tc base A db F d W0 w tb) (hm : Mv db F w w1) (hv : Dv base A db F d w1) (x y : Value) : Tc base A db F d W0 ((w1.setCell ⟨w.heap.size, 0, none⟩ x).setCell ⟨w.heap.size, 1, none⟩ y) tb := by
  have hf : ¬ F w.heap.size := fun hf => by
    obtain ⟨d', _, hd⟩ := h.dv.dev
    have := hd.lt _ hf
    omega
  have hb := h.dv.env.errs.size
  have hs := (S.Sole.set w.heap.size 0 w1 x).trans (S.Sole.set w.heap.size 1 _ y)
  refine h.mv ⟨⟨hs.os.trans hm.step.os, hs.tape.trans hm.step.tape, hs.output.trans hm.step.output, Nat.le_trans hm.size hs.size, fun k hk hn => (hs.block k (Nat.lt_of_lt_of_le hk hm.size) (by omega)).trans (hm.step.block k hk hn), fun _ h => .inl h⟩, ⟨hs.os.trans hm.step.os, hs.tape.trans hm.step.tape, hs.output.trans hm.step.output, Nat.le_trans hm.size hs.size, fun k hk hn => (hs.block k (Nat.lt_of_lt_of_le hk hm.size) (by omega)).trans (hm.one.block k hk hn), fun _ h => .inl h⟩⟩ ((hv.tree hb hf 0 x).tree hb hf 1 y)
theorem wayahead_none (tb : Nat) (w : World) : Calls Tryz.prog 56 #[.pointer (some ⟨tb, 0, none⟩), .slice none 0 0] w fun e w' => e = .returned (.tuple #[.slice none 0 0, .nilIface]) ∧ w = w' := by
  go_enter Tryz.func56, Tryz.ntmps56
  go_wp2
  go_loopw [6] (fun iv wr => iv = .int .i64 (-1) ∧ w = wr) (fun _ _ => 0)
  case atStart => exact ⟨rfl, rfl⟩
  case round =>
    obtain ⟨rfl, rfl⟩ := hrel
    go_wp2
    go_ret2
    exact ⟨rfl, rfl⟩
set_option maxRecDepth 100000 in
set_option maxHeartbeats 4000000 in
theorem below_any {w : World} {tb : Nat} (key : ByteArray) (hc : Tc base A db F d W0 w tb) :
    Calls Tryz.prog 18 #[.pointer (some ⟨tb, 0, none⟩), .string key] w fun e w' => (∃ k x b ev, e = .returned (.tuple #[.agg #[.string k, .string x], .bool b, ev]) ∧ ErrV A ev) ∧ Tc base A db F d W0 w' tb := by
  obtain ⟨rv, ht, hrv⟩ := hc.tr
  have q0 := below_new w (.cells #[.string ⟨#[]⟩, .string ⟨#[]⟩] 52)
  have x0 := B.RowAt.new w #[.string ⟨#[]⟩, .string ⟨#[]⟩] 52
  have HX : Hid (∀ w1, Mv db F (w.alloc (.cells #[.string ⟨#[]⟩, .string ⟨#[]⟩] 52)) w1 → B.RowAt w1 w.heap.size #[.string ⟨#[]⟩, .string ⟨#[]⟩] 52) := fun w1 hm => row_mv hm x0 (by have := hc.dv.dblt; omega)
  have HQ := hide q0
  have HC := hide hc
  have HRV : Hid (rv = .nilIface ∨ ∃ p : C.Ch, rv = p.val ∧ Any (w.alloc (.cells #[.string ⟨#[]⟩, .string ⟨#[]⟩] 52)) p) := by
    rcases hrv with h | ⟨p, h1, h2⟩
    · exact .inl h
    · exact .inr ⟨p, h1, h2.away (Away.of q0)⟩
  have HT := hide (ht.below q0)
  have HDV := hide (hc.dv.below q0)
  clear hc ht hrv x0 q0
  by_cases hk : key = ⟨#[]⟩
  · subst hk
    have HW := hide (waylast_any HDV.out (Mv.refl _ _ _) HDV.out HT.out HRV.out)
    go_enter Tryz.func18, Tryz.ntmps18
    go_wp2_with fail
    refine HW.out.mono ?_
    rintro e w1 ⟨hwa, hv1, hm1⟩
    obtain ⟨a, n, c, v, he, hvv⟩ := hwa.form
    subst he
    have HL := hide (lastof_any hwa)
    have HV1 := hide hv1
    have HM1 := hide hm1
    clear hwa hv1 hm1 HW
    go_wp2_with fail
    refine HL.out.mono ?_
    rintro e w2 ⟨⟨k, x, b, ev, rfl, hev⟩, hb2⟩
    have HM2 := hide (HM1.out.trans (Mv.of hb2))
    have HV2 := hide (HV1.out.below hb2)
    have HX2 := hide (HX.out w2 HM2.out)
    have z0 := HX2.out.c0
    have z1 := HX2.out.c1
    have y0 := HX2.out.free 0
    have y1 := HX2.out.free 1
    have HEV := hide hev
    clear hb2 hev HL HM1 HV1
    go_wp2_with fail
    (try simp only [Exit.inBlock, Exit.then])
    exact bodyPost_ret (results_row_3 rfl _ _ w.heap.size 52 _ (0, 0) _ rfl (HX2.out.two _ _) Tryz.underlying52 rfl (by kernel_rfl)) rfl ⟨⟨_, _, _, _, rfl, HEV.out⟩, HC.out.boxed ((Mv.of HQ.out).trans HM2.out) HV2.out _ _⟩
  · have hkn : key.toList.isEmpty = false := by
      cases h : key.toList with
      | nil => exact absurd (ba_ext' (by rw [← ByteArray.toList_eq, h])) hk
      | cons _ _ => rfl
    have HW := hide (wayto_any key HDV.out (Mv.refl _ _ _) HDV.out HT.out HRV.out)
    clear hk
    go_enter Tryz.func18, Tryz.ntmps18
    go_wp2_with fail
    refine HW.out.mono ?_
    rintro e w1 ⟨hwa, hv1, hm1⟩
    have HV1 := hide hv1
    have HM1 := hide hm1
    have HX1 := hide (HX.out w1 hm1)
    rcases hwa with ⟨_, rfl⟩ | ⟨hrn, rfl⟩ | ⟨ss, s, a, c, pv, lv, cv, _, rfl, ho, hway, hs, h0, hsz, hat, hl⟩
    · have z0 := HX1.out.c0
      have z1 := HX1.out.c1
      have y0 := HX1.out.free 0
      have y1 := HX1.out.free 1
      clear hv1 hm1 HW
      go_wp2_with fail
      (try simp only [Exit.inBlock, Exit.then])
      exact bodyPost_ret (results_row_3 rfl _ _ w.heap.size 52 _ (0, 0) _ rfl (HX1.out.two _ _) Tryz.underlying52 rfl (by kernel_rfl)) rfl ⟨⟨_, _, _, _, rfl, .inr (.inr rfl)⟩, HC.out.boxed ((Mv.of HQ.out).trans HM1.out) HV1.out _ _⟩
    · clear hv1 hm1 HW
      go_wp2_with fail
      refine (pairsat_none w1).mono ?_
      rintro e w1' ⟨rfl, rfl⟩
      go_wp2_with fail
      refine (lfind_any (.slice none 0 0) [] key w1 (by simp) (PrR.nil _)).mono ?_
      rintro e w2 ⟨rfl, hb2⟩
      rw [show foundB [] key = false from rfl, show findN [] key = 0 from rfl]
      have HM2 := hide (HM1.out.trans (Mv.of hb2))
      have HV2 := hide (HV1.out.below hb2)
      clear hb2
      go_wp2_with fail
      refine (wayahead_none tb w2).mono ?_
      rintro e w2' ⟨rfl, rfl⟩
      go_wp2_with fail
      refine (lastof_none .nilIface (.inl rfl) w2).mono ?_
      rintro e w3 ⟨rfl, hb3⟩
      have HM3 := hide (HM2.out.trans (Mv.of hb3))
      have HV3 := hide (HV2.out.below hb3)
      have HX3 := hide (HX.out w3 HM3.out)
      have z0 := HX3.out.c0
      have z1 := HX3.out.c1
      have y0 := HX3.out.free 0
      have y1 := HX3.out.free 1
      clear hb3
      go_wp2_with fail
      (try simp only [Exit.inBlock, Exit.then])
      exact bodyPost_ret (results_row_3 rfl _ _ w.heap.size 52 _ (0, 0) _ rfl (HX3.out.two _ _) Tryz.underlying52 rfl (by kernel_rfl)) rfl ⟨⟨_, _, _, _, rfl, .inl rfl⟩, HC.out.boxed ((Mv.of HQ.out).trans HM3.out) HV3.out _ _⟩
    · have HO := hide ho
      have HWY := hide hway
      have HSZ := hide hsz
      have HL := hide hl
      have HAT := hide hat
      have HPA := hide (pairsat_some a ss.length c (ss.map Stp.lk) s.lk s.n pv lv cv w1 (by rw [List.length_map]) (by omega) ho.1.at hs)
      have HPR := hide hs.prs
      obtain ⟨m, hmm⟩ : ∃ m, m = ss.length := ⟨_, rfl⟩
      have HMM := hide hmm
      rw [← hmm] at HPA HO ⊢
      obtain ⟨xa, xc, hpf⟩ := hs.prs.form
      subst hpf
      clear ho hway hs h0 hsz hat hl hv1 hm1 HW hmm
      go_wp2_with fail
      refine HPA.out.mono ?_
      rintro e w1' ⟨rfl, rfl⟩
      go_wp2_with fail
      refine (lfind_any _ s.n.ps key w1 (by have := szL_len s.n.ps; have := HSZ.out; omega) HPR.out).mono ?_
      rintro e w2 ⟨rfl, hb2⟩
      have HM2 := hide (HM1.out.trans (Mv.of hb2))
      have HV2 := hide (HV1.out.below hb2)
      have HX2 := hide (HX.out w2 HM2.out)
      have HPR2 := hide (HPR.out.below hb2)
      have HO2 := hide (HO.out.below hb2)
      have HWY2 := hide (HWY.out.away (Away.of hb2))
      have HT2 := hide (tree_away (HM2.out.away HDV.out) HT.out)
      have hfl := findN_le s.n.ps key
      clear hb2
      generalize findN s.n.ps key = fq at *
      by_cases hp : 0 < fq
      · obtain ⟨j, rfl⟩ : ∃ j, fq = j + 1 := ⟨fq - 1, by omega⟩
        obtain ⟨_, _, hvf, _, _, hcell⟩ := HPR2.out
        simp only [Value.slice.injEq] at hvf
        obtain ⟨rfl, -, rfl⟩ := hvf
        obtain ⟨g, o, rfl, c1, c2⟩ := hcell j (by omega)
        generalize (s.n.ps[j]'(by omega)).1 = s1 at c1
        generalize (s.n.ps[j]'(by omega)).2 = s2 at c2
        have hj0 : (0 : Int) ≤ (j : Int) := by omega
        have hj1 : (j : Int) < (s.n.ps.length : Int) := by omega
        have hj2 : (s.n.ps.length : Int) ≤ 4072 := by have := szL_len s.n.ps; have := HSZ.out; omega
        have hj3 : (0 : Int) < ((j + 1 : Nat) : Int) := by omega
        have z0 := HX2.out.c0
        have z1 := HX2.out.c1
        have y0 := HX2.out.free 0
        have y1 := HX2.out.free 1
        clear hcell hfl hp
        go_wp2_with fail
        (try simp only [Exit.inBlock, Exit.then])
        exact bodyPost_ret (results_row_3 rfl _ _ w.heap.size 52 _ (0, 0) _ rfl (HX2.out.two _ _) Tryz.underlying52 rfl (by kernel_rfl)) rfl ⟨⟨_, _, _, _, rfl, .inl rfl⟩, HC.out.boxed ((Mv.of HQ.out).trans HM2.out) HV2.out _ _⟩
      · have hz : fq = 0 := by omega
        subst hz
        have hwa := wayahead_any a c ss s HDV.out HM2.out HV2.out HT2.out (by rw [← HMM.out]; exact HO2.out.1.at) HWY2.out HAT.out HL.out
        rw [← HMM.out] at hwa
        have HWA := hide hwa
        clear hwa hfl hp
        go_wp2_with fail
        refine HWA.out.mono ?_
        rintro e w3 ⟨hah, hv3, hm3⟩
        obtain ⟨a3, n3, c3, v3, he, hvv⟩ := hah.form
        subst he
        have HLA := hide (lastof_ahead hah)
        have HV3 := hide hv3
        have HM3 := hide hm3
        clear hah hv3 hm3 HWA hvv
        go_wp2_with fail
        refine HLA.out.mono ?_
        rintro e w4 ⟨⟨k4, x4, b4, ev, rfl, hev⟩, hb4⟩
        have HM4 := hide (HM3.out.trans (Mv.of hb4))
        have HV4 := hide (HV3.out.below hb4)
        have HX4 := hide (HX.out w4 HM4.out)
        have z0 := HX4.out.c0
        have z1 := HX4.out.c1
        have y0 := HX4.out.free 0
        have y1 := HX4.out.free 1
        have HEV := hide hev
        clear hb4 hev HLA
        go_wp2_with fail
        (try simp only [Exit.inBlock, Exit.then])
        exact bodyPost_ret (results_row_3 rfl _ _ w.heap.size 52 _ (0, 0) _ rfl (HX4.out.two _ _) Tryz.underlying52 rfl (by kernel_rfl)) rfl ⟨⟨_, _, _, _, rfl, HEV.out⟩, HC.out.boxed ((Mv.of HQ.out).trans HM4.out) HV4.out _ _⟩
end

end Go.Proofs.YtnaedmmfiiebaaaGreatDoor.T
