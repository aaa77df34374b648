import Derived.Test.YtnaedmmfiiebaaaGreatDoorG22
import Derived.Test.YtnaedmmfiiebaaaGreatDoorG31
namespace Go.Proofs.YtnaedmmfiiebaaaGreatDoor.T
open Go.RowKit

/-- The device's own block alone may have turned. -/
abbrev One (db : Nat) (w w' : World) : Prop := S.V.Step (fun k => k = db) (fun k => k = db) w w'
/-- What lies in a device's own block: no text, and no value of an interface. -/
theorem dev_kinds {w : World} {db : Nat} {F : Nat → Prop} {d : S.V.Dev} (h : S.V.DevAt w db F d) {j : Nat} {v : Value} (hc : w.cell? ⟨db, j, none⟩ = some v) : (∀ s, v ≠ .string s) ∧ ∀ t x, v ≠ .iface t x := by
  obtain ⟨mb, nb, pv, av, Dn, hb⟩ := h
  rw [hb.cell j] at hc
  obtain ⟨pa, pn, pc, hp⟩ : ∃ a n c, pv = .slice a n c := by
    rcases hb.pend.2 with ⟨h', _⟩ | ⟨g, cap, cur, h', _⟩
    · exact ⟨_, _, _, h'⟩
    · exact ⟨_, _, _, h'⟩
  obtain ⟨aa, an, ac, ha⟩ : ∃ a n c, av = .slice a n c := by
    rcases hb.arms with ⟨_, h'⟩ | ⟨g, off, cap, cur, fv, h', _⟩
    · exact ⟨_, _, _, h'⟩
    · exact ⟨_, _, _, h'⟩
  subst hp ha
  have hj : j < 9 := by
    have := (Array.getElem?_eq_some_iff.1 hc).1
    simpa [S.V.devCells] using this
  match j, hj, hc with
  | 0, _, hc | 1, _, hc | 2, _, hc | 3, _, hc | 4, _, hc | 5, _, hc | 6, _, hc | 7, _, hc | 8, _, hc =>
    simp only [S.V.devCells] at hc
    cases hc
    exact ⟨(fun s e => by cases e), (fun t x e => by cases e)⟩
theorem One.cell {db : Nat} {w w' : World} (h : One db w w') {a : Addr} {v : Value} (hc : w.cell? a = some v) (hn : a.block ≠ db) : w'.cell? a = some v := S.V.Step.cell h hc hn
theorem One.str {db : Nat} {w w' : World} {F : Nat → Prop} {d : S.V.Dev} (h : One db w w') (hd : S.V.DevAt w db F d) {g o : Nat} {s : ByteArray} (hc : w.cell? ⟨g, o, none⟩ = some (.string s)) : g ≠ db := fun e => by
  subst e
  exact (dev_kinds hd hc).1 s rfl
theorem One.ifc {db : Nat} {w w' : World} {F : Nat → Prop} {d : S.V.Dev} (h : One db w w') (hd : S.V.DevAt w db F d) {g o : Nat} {t : TypeId} {x : Value} (hc : w.cell? ⟨g, o, none⟩ = some (.iface t x)) : g ≠ db := fun e => by
  subst e
  exact (dev_kinds hd hc).2 t x rfl
theorem prR_one {db : Nat} {w w' : World} {F : Nat → Prop} {d : S.V.Dev} (h : One db w w') (hd : S.V.DevAt w db F d) {v : Value} {l : List Pr} (hr : PrR w v l) : PrR w' v l := by
  obtain ⟨a, cap, rfl, hle, hn, hc⟩ := hr
  refine ⟨a, cap, rfl, hle, hn, fun j hj => ?_⟩
  obtain ⟨g, o, ha, h1, h2⟩ := hc j hj
  have hg := h.str hd h1
  exact ⟨g, o, ha, h.cell (a := ⟨g, o + j * 2, none⟩) h1 hg, h.cell (a := ⟨g, o + j * 2 + 1, none⟩) h2 hg⟩
theorem lkR_one {db : Nat} {w w' : World} {F : Nat → Prop} {d : S.V.Dev} (h : One db w w') (hd : S.V.DevAt w db F d) {v : Value} {l : List B.Lk} (hr : B.LkR w v l) : B.LkR w' v l := by
  obtain ⟨a, cap, rfl, hle, hn, hc⟩ := hr
  refine ⟨a, cap, rfl, hle, hn, fun j hj => ?_⟩
  obtain ⟨g, o, ha, h1, h2⟩ := hc j hj
  have hg := h.str hd h1
  exact ⟨g, o, ha, h.cell (a := ⟨g, o + j * 2, none⟩) h1 hg, h.cell (a := ⟨g, o + j * 2 + 1, none⟩) h2 hg⟩
theorem chR_one {db : Nat} {w w' : World} {F : Nat → Prop} {d : S.V.Dev} (h : One db w w') (hd : S.V.DevAt w db F d) {v : Value} {l : List C.Ch} (hr : C.LkR w v l) : C.LkR w' v l := by
  obtain ⟨a, cap, rfl, hle, hn, hc⟩ := hr
  refine ⟨a, cap, rfl, hle, hn, fun j u hj => ?_⟩
  obtain ⟨g, o, ha, h1⟩ := hc j u hj
  obtain ⟨p, _, rfl⟩ : ∃ p ∈ l, p.val = u := by
    have := List.mem_of_getElem? hj
    simpa [C.lks] using this
  obtain ⟨t, x, hp⟩ := val_form p
  have hg := h.ifc hd (hp ▸ h1)
  exact ⟨g, o, ha, h.cell (a := ⟨g, o + j, none⟩) h1 hg⟩
theorem SNR.one {db : Nat} {w w' : World} {F : Nat → Prop} {d : S.V.Dev} (h : One db w w') (hd : S.V.DevAt w db F d) {b : Nat} {n : SN} {pv lv cv : Value} (hs : SNR w b n pv lv cv) : SNR w' b n pv lv cv := by
  refine ⟨?_, prR_one h hd hs.prs, lkR_one h hd hs.lks, chR_one h hd hs.kids, hs.fine⟩
  refine (h.block b hs.row.lt (fun e => ?_)).trans hs.row
  subst e
  obtain ⟨mb, nb, pv', av, Dn, hb⟩ := hd
  have h1 := hs.row
  unfold B.RowAt at h1
  rw [hb.blk] at h1
  simp at h1
theorem NodeIs.one {PG : Int → Option PD} {db : Nat} {w w' : World} {F : Nat → Prop} {d : S.V.Dev} (h : One db w w') (hd : S.V.DevAt w db F d) : ∀ (ht : Nat) {n : SN} {t : Nd ht}, NodeIs PG w ht n t → NodeIs PG w' ht n t
  | 0, _, _, hn => hn
  | ht + 1, n, t, hn => ⟨hn.1, hn.2.1, hn.2.2.1, hn.2.2.2.1, fun i p c h1 h2 => by
    have := hn.2.2.2.2 i p c h1 h2
    cases p with
    | pg id => exact this
    | nd b =>
      obtain ⟨h0, m, pv, lv, cv, hs, hm⟩ := this
      exact ⟨h0, m, pv, lv, cv, hs.one h hd, NodeIs.one h hd ht hm⟩⟩
theorem KidIs.one {PG : Int → Option PD} {db : Nat} {w w' : World} {F : Nat → Prop} {d : S.V.Dev} {ht : Nat} {p : C.Ch} {t : Nd ht} (hk : KidIs PG w ht p t) (h : One db w w') (hd : S.V.DevAt w db F d) : KidIs PG w' ht p t := by
  cases p with
  | pg id => exact hk
  | nd b =>
    obtain ⟨h0, m, pv, lv, cv, hs, hm⟩ := hk
    exact ⟨h0, m, pv, lv, cv, hs.one h hd, hm.one h hd ht⟩

end Go.Proofs.YtnaedmmfiiebaaaGreatDoor.T

namespace Go.Proofs.YtnaedmmfiiebaaaGreatDoor.T
open Go.RowKit

theorem errs_one {n : Nat} {A : Nat → Addr} {db : Nat} {w w' : World} {F F' : Nat → Prop} {d d' : S.V.Dev} (h : One db w w') (hd : S.V.DevAt w db F d) (hd' : S.V.DevAt w' db F' d') (hE : ErrsG n gAll A w) : ErrsG n gAll A w' := by
  refine ⟨fun i hi => ?_, hE.2⟩
  obtain ⟨h1, c, t, h2⟩ := hE.1 i hi
  refine ⟨h.cell h1 (h.ifc hd h1), ?_⟩
  by_cases he : (A i).block = db
  · obtain ⟨mb, nb, pv, av, Dn, hb⟩ := hd'
    exact ⟨_, _, by rw [he]; exact hb.blk⟩
  · exact ⟨c, t, (h.block _ (Array.getElem?_eq_some_iff.1 h2).1 he).trans h2⟩
theorem eql_nil_err (p : Option Addr) (w : World) : (binOp .eql 32 .nilIface (.iface 360 (.pointer p))).run Tryz.prog w = .ok (.bool false) w := by
  have h2 : ∀ d : Nat, (Op.equalIn (d + 1) 32 .nilIface (.iface 360 (.pointer p))).run Tryz.prog w = .ok false w := fun d => by
    simp [Op.equalIn, run_underlying Tryz.underlying32]
  simp only [binOp]
  simp [Op.equal, Op.maxDepth, h2 9999]
end Go.Proofs.YtnaedmmfiiebaaaGreatDoor.T

namespace Go.Proofs.YtnaedmmfiiebaaaGreatDoor.T
open Go.RowKit

end Go.Proofs.YtnaedmmfiiebaaaGreatDoor.T

namespace Go.Proofs.YtnaedmmfiiebaaaGreatDoor.T
open Go.RowKit

/-- A page of a device is that sheet's. -/
def SheetAt (d : S.V.Dev) (id : Int) (s : S.Sh) : Prop := S.May s ∧ s.txid < 18446744073709551616 ∧ s.id = id ∧ (s.id + 1) * 8 ≤ d.size ∧ S.V.readB d (s.id * 8) 8 = S.page s
/-- What a sheet holds. -/
def HoldsD (s : S.Sh) (p : PD) : Prop :=
  (s.kind = 76 ∧ DecOk s.count.toNat s.body.data.toList ∧ p = .leaf (decL s.count.toNat s.body.data.toList)) ∨
  (s.kind = 66 ∧ B.DecB s.count.toNat s.body.data.toList ∧ p = .br (B.brF (cellsB s.body.data.toList s.count.toNat)) (B.brL (cellsB s.body.data.toList s.count.toNat)))
open Classical in
/-- What the pages of a device hold. -/
noncomputable def PGof (d : S.V.Dev) (id : Int) : Option PD := if h : ∃ p s, SheetAt d id s ∧ HoldsD s p then some (Classical.choose h) else none
theorem pgof_some {d : S.V.Dev} {id : Int} {p : PD} (h : PGof d id = some p) : ∃ s, SheetAt d id s ∧ HoldsD s p := by
  unfold PGof at h
  split at h
  · rename_i hh
    cases h
    exact Classical.choose_spec hh
  · cases h
theorem pgs_get (f : Int) (lk : List B.Lk) (i : Nat) (p : C.Ch) (h : (pgs f lk)[i]? = some p) : ∃ x, (B.kids f lk)[i]? = some x ∧ p = .pg x := by
  cases i with
  | zero => cases h; exact ⟨f, rfl, rfl⟩
  | succ i =>
    have h : (lk.map (fun q => C.Ch.pg q.2))[i]? = some p := h
    rw [List.getElem?_map] at h
    cases hq : lk[i]? with
    | none => rw [hq] at h; cases h
    | some q =>
      rw [hq] at h
      cases h
      exact ⟨q.2, by show (lk.map (·.2))[i]? = some q.2; rw [List.getElem?_map, hq]; rfl, rfl⟩
end Go.Proofs.YtnaedmmfiiebaaaGreatDoor.T

namespace Go.Proofs.YtnaedmmfiiebaaaGreatDoor.T
open Go.RowKit

theorem as_pp (v : Value) (w : World) : (Instr.typeAssert (.iface 146 v) 97 146 true).run Tryz.prog w = .ok (.tuple #[v, .bool true]) w := by kernel_rfl
theorem as_np (v : Value) (w : World) : (Instr.typeAssert (.iface 152 v) 97 146 true).run Tryz.prog w = .ok (.tuple #[.int .i64 0, .bool false]) w := by kernel_rfl
theorem as_nn (v : Value) (w : World) : (Instr.typeAssert (.iface 152 v) 97 152 true).run Tryz.prog w = .ok (.tuple #[v, .bool true]) w := by kernel_rfl
end Go.Proofs.YtnaedmmfiiebaaaGreatDoor.T

namespace Go.Proofs.YtnaedmmfiiebaaaGreatDoor.T
open Go.RowKit

set_option maxRecDepth 20000 in
set_option maxHeartbeats 2000000 in
/-- settle, where the child is not too small. -/
theorem settle_plain (A : Nat → Addr) (tb b bb : Nat) (n nb : SN) (pv lv cv pb lb cb : Value) (i : Nat) (w : World) (h : SNR w b n pv lv cv) (hb : SNR w bb nb pb lb cb) (hi : i < n.us.length) (hlen : n.us.length = n.lk.length + 1) (hroom : n.lk.length ≤ 3999) (hkin : nb.kin) (hns : ¬ nb.sz < nb.min) (hE : ErrC A w) :
    Calls Tryz.prog 82 #[.pointer (some ⟨tb, 0, none⟩), .agg #[.pointer (some ⟨b, 0, none⟩), .int .i64 (i : Int)], .pointer (some ⟨bb, 0, none⟩)] w fun e w' => ∃ b', e = .returned (.tuple #[.pointer (some ⟨b', 0, none⟩), .nilIface]) ∧ WithS w n i bb nb (.returned (.pointer (some ⟨b', 0, none⟩))) w' := by
  have q0 := below_new w (.cells #[.pointer (some ⟨b, 0, none⟩), .int .i64 (i : Int)] 159)
  have x0 := B.RowAt.new w #[.pointer (some ⟨b, 0, none⟩), .int .i64 (i : Int)] 159
  generalize hW0 : w.alloc (.cells #[.pointer (some ⟨b, 0, none⟩), .int .i64 (i : Int)] 159) = W0 at *
  have HTS := hide (toosmall_any bb nb pb lb cb W0 (hb.below q0))
  rw [show decide (nb.sz < nb.min) = false by simp [hns]] at HTS
  have HWN : Hid (∀ W, Below w.heap.size w W → Calls Tryz.prog 124 #[.pointer (some ⟨b, 0, none⟩), .int .i64 (i : Int), .pointer (some ⟨bb, 0, none⟩)] W fun e w' => ∃ b', e = .returned (.pointer (some ⟨b', 0, none⟩)) ∧ WithS w n i bb nb e w') := fun W hW => by
    refine (wnode_any A b bb n nb pv lv cv pb lb cb i W (h.below hW) (hb.below hW) hi hlen hroom hkin (hE.below hW)).mono fun e w' hh => ?_
    rcases hh with ⟨g1, b', p', l', c', rfl, g2, g3⟩ | ⟨g1, a, k, c, ba, bc, pa, la, ca, pc, lc, cc, g2, g3, g4, b', p', l', c', rfl, g5, g6⟩
    · exact ⟨b', rfl, .inl ⟨g1, b', p', l', c', rfl, g2, Below.next hW g3⟩⟩
    · exact ⟨b', rfl, .inr ⟨g1, a, k, c, ba, bc, pa, la, ca, pc, lc, cc, g2, g3, g4, b', p', l', c', rfl, g5, Below.next hW g6⟩⟩
  have HQ := hide q0
  have HX := hide x0
  clear h hb hi hlen hroom hkin hns hE q0 x0
  go_enter Tryz.func82, Tryz.ntmps82
  go_wp2_with fail
  refine HTS.out.mono ?_
  rintro e w1 ⟨rfl, hb1⟩
  have HB1 := hide (Below.next HQ.out hb1)
  have k0 := (HX.out.below hb1).c0
  have k1 := (HX.out.below hb1).c1
  clear hb1 HTS
  go_wp2_with fail
  refine (HWN.out _ HB1.out).mono ?_
  rintro e w2 ⟨b', rfl, hws⟩
  have HR := hide hws
  clear hws k0 k1
  go_wp2
  go_ret2
  exact ⟨b', rfl, HR.out⟩

end Go.Proofs.YtnaedmmfiiebaaaGreatDoor.T
