import Derived.Test.YtnaedmmfiiebaaaGreatDoorG38
import Derived.Test.YtnaedmmfiiebaaaGreatDoorG12
import Derived.Test.YtnaedmmfiiebaaaGreatDoorG18
import Derived.Test.YtnaedmmfiiebaaaGreatDoorG00
import Derived.Shelf.Strconv.Clone
namespace Go.Proofs.YtnaedmmfiiebaaaGreatDoor.T
open Go.RowKit

/-! A store into a tree's own row leaves all nodes as they are. -/
theorem tree_cell {w : World} {tb : Nat} {q : Option Addr} {rv : Value} (ht : B.RowAt w tb #[.pointer q, rv] 100) {o : Nat} {v : Value} (hc : w.cell? ⟨tb, o, none⟩ = some v) : o = 0 ∧ v = .pointer q ∨ o = 1 ∧ v = rv := by
  unfold B.RowAt at ht
  rw [cell_of_row w tb o _ _ _ ht] at hc
  have ho : o < 2 := by have := (Array.getElem?_eq_some_iff.1 hc).1; simpa using this
  match o, ho, hc with
  | 0, _, hc => cases hc; exact .inl ⟨rfl, rfl⟩
  | 1, _, hc => cases hc; exact .inr ⟨rfl, rfl⟩
theorem SNR.tree {w : World} {b : Nat} {n : SN} {pv lv cv : Value} (h : SNR w b n pv lv cv) (hu : n.us.length = 0 ∨ 2 ≤ n.us.length) {tb : Nat} {q : Option Addr} {rv : Value} (ht : B.RowAt w tb #[.pointer q, rv] 100) (hrv : rv = .nilIface ∨ ∃ t x, rv = .iface t x) (u : Value) : SNR (w.setCell ⟨tb, 1, none⟩ u) b n pv lv cv := by
  have hs := S.Sole.set tb 1 w u
  have hstr : ∀ {g o : Nat} {s : ByteArray}, w.cell? ⟨g, o, none⟩ = some (.string s) → (w.setCell ⟨tb, 1, none⟩ u).heap[g]? = w.heap[g]? := fun {g o s} hc => hs.block g (World.block_lt_of_cell? w _ hc) fun e => by
    subst e
    rcases tree_cell ht hc with ⟨_, e⟩ | ⟨_, e⟩
    · cases e
    · rcases hrv with rfl | ⟨t, x, rfl⟩ <;> cases e
  refine ⟨?_, ?_, ?_, ?_, h.fine⟩
  · refine (hs.block b h.row.lt (fun e => ?_)).trans h.row
    subst e
    have h1 := h.row
    unfold B.RowAt at h1 ht
    rw [ht] at h1
    simp at h1
  · obtain ⟨a, cap, hv, hle, hn, hc⟩ := h.prs
    refine ⟨a, cap, hv, hle, hn, fun j hj => ?_⟩
    obtain ⟨g, o, ha, h1, h2⟩ := hc j hj
    have hg := hstr h1
    exact ⟨g, o, ha, cell_same hg h1, cell_same hg h2⟩
  · obtain ⟨a, cap, hv, hle, hn, hc⟩ := h.lks
    refine ⟨a, cap, hv, hle, hn, fun j hj => ?_⟩
    obtain ⟨g, o, ha, h1, h2⟩ := hc j hj
    have hg := hstr h1
    exact ⟨g, o, ha, cell_same hg h1, cell_same hg h2⟩
  · obtain ⟨a, cap, hv, hle, hn, hc⟩ := h.kids
    refine ⟨a, cap, hv, hle, hn, fun j v hj => ?_⟩
    have hjl : j < n.us.length := by
      have := (List.getElem?_eq_some_iff.1 hj).1
      rw [C.lks_length] at this; omega
    have h2 : 2 ≤ n.us.length := hu.resolve_left (by omega)
    obtain ⟨g, o, ha, h1⟩ := hc j v hj
    have hg : g ≠ tb := fun e => by
      subst e
      obtain ⟨g0, o0, ha0, c0⟩ := hc 0 _ (C.lks_get n.us 0 (by omega))
      obtain ⟨g1, o1, ha1, c1⟩ := hc 1 _ (C.lks_get n.us 1 (by omega))
      rw [ha] at ha0 ha1
      cases ha0
      cases ha1
      obtain ⟨t, x, e0⟩ := val_form (n.us[0]'(by omega))
      rw [e0] at c0
      have k0 := tree_cell ht c0
      have k1 := tree_cell ht c1
      rcases k0 with ⟨_, e⟩ | ⟨k0, _⟩
      · cases e
      · rcases k1 with ⟨k1, _⟩ | ⟨k1, _⟩ <;> omega
    exact ⟨g, o, ha, cell_same (hs.block g (World.block_lt_of_cell? w _ h1) hg) h1⟩
theorem Fit.kids {n : SN} (h : Fit n) : n.us.length = 0 ∨ 2 ≤ n.us.length := by
  rcases h.1 with h0 | h0
  · exact .inl h0
  · rcases h.2.2 with h1 | h1
    · exact .inl h1
    · right; omega
theorem AnyK.tree {w : World} {tb : Nat} {q : Option Addr} {rv : Value} (ht : B.RowAt w tb #[.pointer q, rv] 100) (hrv : rv = .nilIface ∨ ∃ t x, rv = .iface t x) (u : Value) : ∀ {k : Nat} {p : C.Ch}, AnyK w k p → AnyK (w.setCell ⟨tb, 1, none⟩ u) k p
  | 0, .pg _, _ => trivial
  | _ + 1, .pg _, _ => trivial
  | _ + 1, .nd _, ⟨n, pv, lv, cv, h1, h2, h3⟩ => ⟨n, pv, lv, cv, h1.tree h2.kids ht hrv u, h2, fun p hp => AnyK.tree ht hrv u (h3 p hp)⟩
theorem Any.tree {w : World} {tb : Nat} {q : Option Addr} {rv : Value} (ht : B.RowAt w tb #[.pointer q, rv] 100) (hrv : rv = .nilIface ∨ ∃ t x, rv = .iface t x) (u : Value) {p : C.Ch} (h : Any w p) : Any (w.setCell ⟨tb, 1, none⟩ u) p := by
  obtain ⟨k, h⟩ := h
  exact ⟨k, h.tree ht hrv u⟩
theorem Dv.tree {base : Nat} {A : Nat → Addr} {db : Nat} {F : Nat → Prop} {d : S.V.Dev} {w : World} (hv : Dv base A db F d w) {tb : Nat} (hb : base ≤ tb) (hf : ¬ F tb) (o : Nat) (u : Value) : Dv base A db F d (w.setCell ⟨tb, o, none⟩ u) := by
  have hs := S.Sole.set tb o w u
  obtain ⟨d1, n1, hd1⟩ := hv.dev
  have hst : S.V.Step (fun k => k = tb) (fun k => k = tb) w (w.setCell ⟨tb, o, none⟩ u) := ⟨hs.os, hs.tape, hs.output, hs.size, hs.block, fun _ h => .inl h⟩
  have hbl : Below base w (w.setCell ⟨tb, o, none⟩ u) := ⟨hs.os, hs.tape, hs.output, hs.size, fun k hk => hs.block k (Nat.lt_of_lt_of_le hk hv.env.errs.size) (by omega)⟩
  refine ⟨⟨d1, n1, hd1.keep hst (fun k hk e => hf (e ▸ hk))⟩, hv.env.keep hbl, ⟨fun i hi => ?_, hv.errs.2⟩, hv.up, hv.alive, hv.lo⟩
  obtain ⟨h1, c, t, h2⟩ := hv.errs.1 i hi
  have hg := hv.lo i hi
  exact ⟨(hbl.cell (p := ⟨gAll i, 0, none⟩) hg.1).trans h1, c, t, (hs.block _ (Array.getElem?_eq_some_iff.1 h2).1 (by omega)).trans h2⟩

/-- A tree of any kind. -/
def TrA (w : World) (db tb : Nat) : Prop := ∃ rv, B.RowAt w tb #[.pointer (some ⟨db, 0, none⟩), rv] 100 ∧ (rv = .nilIface ∨ ∃ p : C.Ch, rv = p.val ∧ Any w p)
theorem root_any {w w2 : World} {b : Nat} {n : SN} {pv lv cv u : Value} (hs : SNR w b n pv lv cv) (hf : FlA w n ()) (hr : RootS w b n (.returned u) w2) : u = .nilIface ∨ ∃ p : C.Ch, u = p.val ∧ Any w2 p := by
  have aw := Away.of hr.1
  rcases hr.2 with ⟨hbig, a, k, c, ba, bc, br, pa, la, ca, pc, lc, cc, pr, lr, cr, hcut, ha, hc, he, hsr⟩ | ⟨hbig, h0, h1, p, hp0, he⟩ | ⟨hbig, h0, h1, he⟩ | ⟨hbig, h1, he⟩
  · cases he
    obtain ⟨f1, f2, f3, f4⟩ := cutS_fit hcut ⟨hs.fine.1, hs.fine.2.2.1⟩ hf.1 hbig hf.2.1
    have hk := hcut.key hs.fine.1 hs.fine.2.2.1
    refine .inr ⟨_, rfl, Any.nd hsr ⟨.inr rfl, ?_, .inr (by simp)⟩ fun p hp => ?_⟩
    · rw [SN.sz_br (by simp)]
      have : k.size ≤ 255 := hk.2
      show B.szB [(k, 0)] ≤ 4072
      rw [B.szB_cons, szB_nil]; unfold B.szK; show 7 + k.size + 6 ≤ 4072; omega
    · simp only [List.mem_cons, List.not_mem_nil, or_false] at hp
      rcases hp with rfl | rfl
      · exact Any.nd ha f1 (fun q hq => (hf.2.2 q (f3 q hq)).away aw)
      · exact Any.nd hc f2 (fun q hq => (hf.2.2 q (f4 q hq)).away aw)
  · cases he
    exact .inr ⟨p, rfl, (hf.2.2 p (List.mem_of_getElem? hp0)).away aw⟩
  · cases he; exact .inl rfl
  · cases he
    refine .inr ⟨_, rfl, Any.nd (hs.away aw) ⟨hf.1, by omega, ?_⟩ fun q hq => (hf.2.2 q hq).away aw⟩
    rcases h1 with ⟨h, _⟩ | ⟨_, h⟩
    · exact .inl h
    · right; omega

end Go.Proofs.YtnaedmmfiiebaaaGreatDoor.T

namespace Go.Proofs
open Go.Shelf
def Tryz.lays316_ren : Go.Shelf.Ren := ⟨fun | 316 => 86 | n => n, fun | 5 => 5 | 9 => 9 | 3 => 3 | 4 => 4 | 37 => 145 | 0 => 0 | 127 => 207 | n => n, fun | n => n⟩
theorem Tryz.lays316 : Go.Proofs.LaysM.n316 Tryz.prog Tryz.lays316_ren := {
  mixed := by kernel_rfl
  f316 := Tryz.func86.trans (congrArg some (by kernel_rfl))
  t0 := Tryz.underlying0
  a0 := Tryz.isAgg0
  z0 := Tryz.sizeOf0
  v0 := Tryz.zeroValue0
  t3 := Tryz.underlying3
  a3 := Tryz.isAgg3
  z3 := Tryz.sizeOf3
  v3 := Tryz.zeroValue3
  t4 := Tryz.underlying4
  a4 := Tryz.isAgg4
  z4 := Tryz.sizeOf4
  v4 := Tryz.zeroValue4
  t5 := Tryz.underlying5
  a5 := Tryz.isAgg5
  z5 := Tryz.sizeOf5
  v5 := Tryz.zeroValue5
  t9 := Tryz.underlying9
  a9 := Tryz.isAgg9
  z9 := Tryz.sizeOf9
  v9 := Tryz.zeroValue9
  t37 := Tryz.underlying145
  a37 := Tryz.isAgg145
  z37 := Tryz.sizeOf145
  v37 := Tryz.zeroValue145
  t127 := Tryz.underlying207
  a127 := Tryz.isAgg207
  z127 := Tryz.sizeOf207
  v127 := Tryz.zeroValue207
  i0 := by kernel_rfl
  i3 := by kernel_rfl
  i4 := by kernel_rfl
  i5 := by kernel_rfl
  i9 := by kernel_rfl
  i37 := by kernel_rfl
  i127 := by kernel_rfl }
namespace YtnaedmmfiiebaaaGreatDoor.T
open Go.RowKit
theorem slclone_any (s : ByteArray) (w : World) (h : s.size ≤ 281474976710656) : Calls Tryz.prog 86 #[.string s] w fun e w' => e = .returned (.string s) ∧ Below w.heap.size w w' := Any.stringslite_Clone Tryz.lays316 s w h
theorem sclone_any (s : ByteArray) (w : World) (h : s.size ≤ 281474976710656) : Calls Tryz.prog 50 #[.string s] w fun e w' => e = .returned (.string s) ∧ Below w.heap.size w w' := by
  go_enter Tryz.func50, Tryz.ntmps50
  go_wp2_with fail
  refine (slclone_any s w h).mono ?_
  rintro e w1 ⟨rfl, hb⟩
  go_wp2_with fail
  go_ret
  exact ⟨rfl, hb⟩
end YtnaedmmfiiebaaaGreatDoor.T
end Go.Proofs

namespace Go.Proofs.YtnaedmmfiiebaaaGreatDoor.T
open Go.RowKit

/-- The trees of which nothing is read. -/
def noS (d : S.V.Dev) : Sys d Unit where
  K := fun _ _ _ => False
  N := fun _ _ _ => False
  E := False
  sub := fun _ _ _ => False
  rk := fun _ => 0
  ka := fun _ h => h
  na := fun _ h => h
  kid := fun h _ => h.elim
  fit := fun h => h.elim
  page := fun h => h.elim
  node := fun h => h.elim
  rks := .inr fun _ _ _ h => h.elim
/-- A tree of any kind, and what it stands on. -/
structure Tc (base : Nat) (A : Nat → Addr) (db : Nat) (F : Nat → Prop) (d : S.V.Dev) (W0 w : World) (tb : Nat) : Prop where
  dv : Dv base A db F d w
  tr : TrA w db tb
  st : S.V.Step F F W0 w
  lo : base ≤ tb ∧ W0.heap.size ≤ tb ∧ ¬ F tb
theorem TrA.away {w w' : World} {db tb : Nat} (h : TrA w db tb) (ha : Away w w') : TrA w' db tb := by
  obtain ⟨rv, h1, h2⟩ := h
  refine ⟨rv, tree_away ha h1, ?_⟩
  rcases h2 with h2 | ⟨p, h2, h3⟩
  · exact .inl h2
  · exact .inr ⟨p, h2, h3.away ha⟩
section
variable {base : Nat} {A : Nat → Addr} {db : Nat} {F : Nat → Prop} {d : S.V.Dev} {W0 : World}
theorem Tc.mv {w w' : World} {tb : Nat} (h : Tc base A db F d W0 w tb) (hm : Mv db F w w') (hv : Dv base A db F d w') : Tc base A db F d W0 w' tb := ⟨hv, h.tr.away (hm.away h.dv), h.st.trans hm.step, h.lo⟩
theorem Tc.below {w w' : World} {tb : Nat} (h : Tc base A db F d W0 w tb) (hb : Below w.heap.size w w') : Tc base A db F d W0 w' tb := h.mv (Mv.of hb) (h.dv.below hb)
/-- No refusal, or one of two. -/
def ErrV (A : Nat → Addr) (v : Value) : Prop := v = .nilIface ∨ v = .iface 360 (.pointer (some (A 0))) ∨ v = .iface 360 (.pointer (some (A 8)))
theorem ErrV.form {A : Nat → Addr} {v : Value} (h : ErrV A v) : v = .nilIface ∨ ∃ q, v = .iface 360 (.pointer (some q)) := by
  rcases h with h | h | h
  · exact .inl h
  · exact .inr ⟨_, h⟩
  · exact .inr ⟨_, h⟩
/-- What a change of the root leaves. -/
theorem Tc.root {w W W2 : World} {tb b : Nat} {n : SN} {pn ln cn u rv : Value} (h : Tc base A db F d W0 w tb) (hm : Mv db F w W2) (hv2 : Dv base A db F d W2) (ht2 : B.RowAt W2 tb #[.pointer (some ⟨db, 0, none⟩), rv] 100) (hrv : rv = .nilIface ∨ ∃ t x, rv = .iface t x) (hs : SNR W b n pn ln cn) (hf : FlA W n ()) (hr : RootS W b n (.returned u) W2) : Tc base A db F d W0 (W2.setCell ⟨tb, 1, none⟩ u) tb := by
  refine ⟨hv2.tree h.lo.1 h.lo.2.2 1 u, ⟨u, ?_, ?_⟩, ?_, h.lo⟩
  · exact B.RowAt.one ht2 u
  · rcases root_any hs hf hr with e | ⟨p, e, hp⟩
    · exact .inl e
    · exact .inr ⟨p, e, hp.tree ht2 hrv u⟩
  · have h1 := h.st.trans hm.step
    have hs := S.Sole.set tb 1 W2 u
    exact ⟨hs.os.trans h1.os, hs.tape.trans h1.tape, hs.output.trans h1.output, Nat.le_trans h1.size hs.size, fun k hk hn => (hs.block k (Nat.lt_of_lt_of_le hk h1.size) (by have := h.lo; omega)).trans (h1.block k hk hn), fun _ h => .inl h⟩
theorem rv_form {rv : Value} {w : World} (h : rv = .nilIface ∨ ∃ p : C.Ch, rv = p.val ∧ Any w p) : rv = .nilIface ∨ ∃ t x, rv = .iface t x := by
  rcases h with h | ⟨p, h, _⟩
  · exact .inl h
  · exact .inr (h ▸ val_form p)
theorem leaf_fl {ps : List Pr} (h : szL ps ≤ 5627) (W : World) : FlA W ⟨ps, 0, [], []⟩ () := by
  refine ⟨.inl rfl, ?_, fun p hp => by simp at hp⟩
  rw [SN.sz_leaf (by rfl)]
  unfold SN.maxs
  rw [if_pos (by rfl)]
  exact h
/-- change of an empty tree. -/
theorem change_none {w w1 : World} {tb : Nat} {pv : Value} {ps : List Pr} (h : Tc base A db F d W0 w tb) (hm : Mv db F w w1) (hv : Dv base A db F d w1) (ht : B.RowAt w1 tb #[.pointer (some ⟨db, 0, none⟩), .nilIface] 100) (hp : PrR w1 pv ps) (hpm : ∀ p ∈ ps, mayP p = true) (hsz : szL ps ≤ 5627) :
    Calls Tryz.prog 47 #[.pointer (some ⟨tb, 0, none⟩), .slice none 0 0, pv] w1 fun e w' => e = .returned .nilIface ∧ Tc base A db F d W0 w' tb := by
  have hl := szL_len ps
  have hc := change_sys (noS d) (fun _ _ => True) FlA (fun _ _ _ h => h.1) tb .nilIface none 0 [] [] () () pv ps w w1 (.inl ⟨rfl, rfl⟩) (by simp) (StO.nil _ _) rfl hp ⟨hpm, by omega⟩ (leaf_fl hsz) ht hv h.dv hm (fun W s z bb nb pb lb cb _ _ hok => (hok.2 : False).elim)
  refine hc.mono fun e w' hh => ?_
  rcases hh with ⟨hE, _⟩ | ⟨W, W2, b, n, pn, ln, cn, u, he, hs, hf, hr, hv2, hm2, ht2, rfl⟩
  · exact (hE : False).elim
  · exact ⟨he, h.root hm2 hv2 ht2 (.inl rfl) hs hf hr⟩
theorem change_any {w w1 : World} {tb : Nat} {Pk : SN → Nat → Prop} {a : Option Addr} {c : Nat} {ss : List (Stp Unit)} {s : Stp Unit} {rv pv : Value} {ps : List Pr} (h : Tc base A db F d W0 w tb) (hm : Mv db F w w1) (hv : Dv base A db F d w1) (ht : B.RowAt w1 tb #[.pointer (some ⟨db, 0, none⟩), rv] 100) (hrv : rv = .nilIface ∨ ∃ t x, rv = .iface t x) (hss : ss.length ≤ 64) (ho : StO w1 w.heap.size (.slice a (ss.length + 1) c) (ss.map Stp.lk ++ [s.lk])) (hway : Way (anyS d) Pk w1 () ss s.x) (hp : PrR w1 pv ps) (hpm : ∀ p ∈ ps, mayP p = true) (hsz : szL ps ≤ 5627) :
    Calls Tryz.prog 47 #[.pointer (some ⟨tb, 0, none⟩), .slice a (ss.length + 1) c, pv] w1 fun e w' => (∃ ev, e = .returned ev ∧ ErrV A ev) ∧ Tc base A db F d W0 w' tb := by
  have hl := szL_len ps
  have hL : (ss.map Stp.lk ++ [s.lk]).length = ss.length + 1 := by simp
  have hc := change_sys (anyS d) Pk FlA (fun _ _ _ h => h.1) tb rv a c (ss.map Stp.lk ++ [s.lk]) ss () s.x pv ps w w1 (.inr ⟨_, rfl⟩) hss (by rw [hL]; exact ho) hway hp ⟨hpm, by omega⟩ (leaf_fl hsz) ht hv h.dv hm (fun W s z bb nb pb lb cb h1 h2 h3 h4 h5 h6 h7 h8 h9 => settle_any Pk tb rv W s z bb nb pb lb cb h1 h2 h3 h4 h5 h6 h7 h8 h9)
  rw [hL] at hc
  refine hc.mono fun e w' hh => ?_
  rcases hh with ⟨_, he, hv2, hm2, _⟩ | ⟨W, W2, b, n, pn, ln, cn, u, he, hs, hf, hr, hv2, hm2, ht2, rfl⟩
  · exact ⟨⟨_, he, .inr (.inr rfl)⟩, h.mv hm2 hv2⟩
  · exact ⟨⟨_, he, .inl rfl⟩, h.root hm2 hv2 ht2 hrv hs hf hr⟩
end
theorem chk_one (p : Pr) : chk [p] true = if mayP p = true then none else some 0 := by
  unfold chk
  by_cases h : mayP p = true
  · rw [if_pos h]
    have hp := may_parts' h
    rw [if_neg (by simp [h]), if_neg (by
      intro hr
      apply hr
      intro i hi
      simp at hi), if_neg (by
      have := szL_max (l := [p]) (by simpa using h)
      simp at this
      omega), if_neg (by simp)]
  · rw [if_neg h, if_pos (by simp [h])]
theorem pfault_any (A : Nat → Addr) (key value : ByteArray) (w : World) (hk : key.size ≤ 140737488355328) (hv : value.size ≤ 140737488355328) (hE : ErrC A w) :
    Calls Tryz.prog 45 #[.string key, .string value] w fun e w' => e = .returned (if mayP (key, value) = true then .nilIface else .iface 360 (.pointer (some (A 0)))) ∧ Below w.heap.size w w' := by
  have q0 := below_new w (.cells #[.string key, .string value] 52)
  have HC := hide (lcheck_any A _ [(key, value)] true _ (by intro p hp; simp at hp; subst hp; exact ⟨hk, hv⟩) (by simp) (prR_lit w (key, value) 52) (hE.below q0))
  rw [chk_one] at HC
  have HQ := hide q0
  obtain ⟨v, hve, hvf⟩ : ∃ v, v = errV A (if mayP (key, value) = true then none else some 0) ∧ (v = .nilIface ∨ ∃ q, v = .iface 360 (.pointer (some q))) := by
    refine ⟨_, rfl, ?_⟩
    split
    · exact .inl rfl
    · exact .inr ⟨_, rfl⟩
  rw [← hve] at HC
  have HV : Hid (v = if mayP (key, value) = true then .nilIface else .iface 360 (.pointer (some (A 0)))) := by
    show v = _
    rw [hve]
    split <;> rfl
  rw [← HV.out]
  clear hve q0 hE hk hv
  go_enter Tryz.func45, Tryz.ntmps45
  go_wp2_with fail
  refine HC.out.mono ?_
  rintro e w1 ⟨rfl, hb⟩
  have HB := hide (Below.next HQ.out hb)
  clear hb HC
  rcases hvf with rfl | ⟨q, rfl⟩
  · go_wp2
    go_ret
    exact ⟨rfl, HB.out⟩
  · go_wp2
    go_ret
    exact ⟨rfl, HB.out⟩
theorem setL_sz (l : List Pr) (key value : ByteArray) : szL (setL l key value) ≤ szL l + szP (key, value) := by
  unfold setL
  have h1 : szL l = szL (l.take (findN l key)) + szL (l.drop (findN l key)) := by rw [← szL_append, List.take_append_drop]
  have h2 : szL (l.drop (behindN l key)) ≤ szL (l.drop (findN l key)) := by
    unfold behindN
    split
    · have : szL (l.drop (findN l key)) = szL ((l.drop (findN l key)).take 1) + szL ((l.drop (findN l key)).drop 1) := by rw [← szL_append, List.take_append_drop]
      rw [List.drop_drop] at this
      omega
    · exact Nat.le_refl _
  rw [szL_append]
  have h3 : szL ((key, value) :: l.drop (behindN l key)) = szP (key, value) + szL (l.drop (behindN l key)) := by simp [szL]
  omega
theorem setL_may {l : List Pr} {key value : ByteArray} (h : ∀ p ∈ l, mayP p = true) (hm : mayP (key, value) = true) : ∀ p ∈ setL l key value, mayP p = true := fun p hp => by
  unfold setL at hp
  rcases List.mem_append.1 hp with hp | hp
  · exact h p (List.mem_of_mem_take hp)
  · rcases List.mem_cons.1 hp with rfl | hp
    · exact hm
    · exact h p (List.mem_of_mem_drop hp)

end Go.Proofs.YtnaedmmfiiebaaaGreatDoor.T

namespace Go.Proofs.YtnaedmmfiiebaaaGreatDoor.T
open Go.RowKit

theorem dropL_sz (l : List Pr) (key : ByteArray) : szL (dropL l key) ≤ szL l := by
  unfold dropL
  have h1 : szL l = szL (l.take (findN l key)) + szL (l.drop (findN l key)) := by rw [← szL_append, List.take_append_drop]
  have h2 : szL (l.drop (behindN l key)) ≤ szL (l.drop (findN l key)) := by
    unfold behindN
    split
    · have : szL (l.drop (findN l key)) = szL ((l.drop (findN l key)).take 1) + szL ((l.drop (findN l key)).drop 1) := by rw [← szL_append, List.take_append_drop]
      rw [List.drop_drop] at this
      omega
    · exact Nat.le_refl _
  rw [szL_append]
  omega
theorem dropL_may {l : List Pr} {key : ByteArray} (h : ∀ p ∈ l, mayP p = true) : ∀ p ∈ dropL l key, mayP p = true := fun p hp => by
  unfold dropL at hp
  rcases List.mem_append.1 hp with hp | hp
  · exact h p (List.mem_of_mem_take hp)
  · exact h p (List.mem_of_mem_drop hp)
/-- wayTo of a tree of any kind, with the pairs to which it goes. -/
def WayA (A : Nat → Addr) (d : S.V.Dev) (Pk : SN → Nat → Prop) (rv : Value) (bs : Nat) (e : Ending) (w' : World) : Prop :=
  ((∃ t x, rv = .iface t x) ∧ e = .returned (.tuple #[.slice none 0 0, .iface 360 (.pointer (some (A 8)))])) ∨
  (rv = .nilIface ∧ e = .returned (.tuple #[.slice none 0 0, .nilIface])) ∨
  ∃ (ss : List (Stp Unit)) (s : Stp Unit) (a : Option Addr) (c : Nat) (pv lv cv : Value), (∃ t x, rv = .iface t x) ∧ e = .returned (.tuple #[.slice a (ss.length + 1) c, .nilIface]) ∧ StO w' bs (.slice a (ss.length + 1) c) (ss.map Stp.lk ++ [s.lk]) ∧ Way (anyS d) Pk w' () ss s.x ∧ SNR w' s.b s.n pv lv cv ∧ s.n.us.length = 0 ∧ szL s.n.ps ≤ 4072 ∧ s.at' = 0 ∧ ss.length ≤ 63
theorem WayA.of {A : Nat → Addr} {d : S.V.Dev} {Pk : SN → Nat → Prop} {rv : Value} {bs : Nat} {e : Ending} {w' : World} (hr : ∃ t x, rv = .iface t x) (h : DownS (anyS d) Pk A [] () bs e w') : WayA A d Pk rv bs e w' := by
  rcases h with ⟨_, he⟩ | ⟨ss, s, a, c, he, ho, hw, ⟨⟨pv, lv, cv, hs⟩, hn⟩, h0, hat, hl⟩
  · exact .inl ⟨hr, he⟩
  · simp only [List.length_nil, Nat.zero_add, List.nil_append] at he ho hl
    have hf := hn.1.2.1
    rw [SN.sz_leaf h0] at hf
    exact .inr (.inr ⟨ss, s, a, c, pv, lv, cv, hr, he, ho, hw, hs, h0, hf, hat, hl⟩)
section
variable {base : Nat} {A : Nat → Addr} {db : Nat} {F : Nat → Prop} {d : S.V.Dev} {W0 : World}
theorem wayto_any {w w1 : World} {tb : Nat} {rv : Value} (key : ByteArray) (hv0 : Dv base A db F d w) (hm : Mv db F w w1) (hv : Dv base A db F d w1) (ht : B.RowAt w1 tb #[.pointer (some ⟨db, 0, none⟩), rv] 100) (hrv : rv = .nilIface ∨ ∃ p : C.Ch, rv = p.val ∧ Any w1 p) :
    Calls Tryz.prog 46 #[.pointer (some ⟨tb, 0, none⟩), .string key] w1 fun e w' => WayA A d (fun n q => B.PickAt n.lk key q) rv w.heap.size e w' ∧ Dv base A db F d w' ∧ Mv db F w w' := by
  rcases hrv with rfl | ⟨p, rfl, hp⟩
  · refine (wayto_none tb _ key w1 ht).mono fun e w' ⟨he, hb⟩ => ⟨.inr (.inl ⟨rfl, he⟩), hv.below hb, hm.trans (Mv.of hb)⟩
  · refine (wayto_some (anyS d) p () tb key w w1 hp ht hv hm hv0 (.inl trivial)).mono fun e w' ⟨h1, h2, h3⟩ => ⟨WayA.of (val_form p) h1, h2, h3⟩

set_option maxRecDepth 100000 in
set_option maxHeartbeats 4000000 in
theorem put_any {w : World} {tb : Nat} (key value : ByteArray) (hc : Tc base A db F d W0 w tb) (hkl : key.size ≤ 140737488355328) (hvl : value.size ≤ 140737488355328) :
    Calls Tryz.prog 15 #[.pointer (some ⟨tb, 0, none⟩), .string key, .string value] w fun e w' => (∃ ev, e = .returned ev ∧ ErrV A ev ∧ (mayP (key, value) = true → B.RowAt w tb #[.pointer (some ⟨db, 0, none⟩), .nilIface] 100 → ev = .nilIface)) ∧ Tc base A db F d W0 w' tb := by
  have HPF := hide (pfault_any A key value w hkl hvl hc.dv.errC)
  obtain ⟨rv, ht, hrv⟩ := hc.tr
  have HRN : Hid (B.RowAt w tb #[.pointer (some ⟨db, 0, none⟩), .nilIface] 100 → rv = .nilIface) := fun h => by
    unfold B.RowAt at ht h
    rw [ht] at h
    simpa using h
  have HC := hide hc
  have HT := hide ht
  have HRV := hide hrv
  clear hc ht hrv
  by_cases hm : mayP (key, value) = true
  · rw [if_pos hm] at HPF
    have hmp := may_parts' hm
    have HM := hide hm
    clear hkl hvl hm
    go_enter Tryz.func15, Tryz.ntmps15
    go_wp2_with fail
    refine HPF.out.mono ?_
    rintro e w1 ⟨rfl, hb1⟩
    have HB1 := hide hb1
    have HWT := hide (wayto_any key HC.out.dv (Mv.of hb1) (HC.out.dv.below hb1) (HT.out.below hb1) (by
      rcases HRV.out with h | ⟨p, h, hp⟩
      · exact .inl h
      · exact .inr ⟨p, h, hp.away (Away.of hb1)⟩))
    clear hb1 HPF
    go_wp2_with fail
    refine HWT.out.mono ?_
    rintro e w2 ⟨hwa, hv2, hm2⟩
    have HV2 := hide hv2
    have HM2 := hide hm2
    have HTC2 := hide (HC.out.mv hm2 hv2)
    have HT2 := hide (tree_away (hm2.away HC.out.dv) HT.out)
    rcases hwa with ⟨⟨rt, rx, hrr⟩, rfl⟩ | ⟨hrn, rfl⟩ | ⟨ss, s, a, c, pv, lv, cv, ⟨rt, rx, hrr⟩, rfl, ho, hway, hs, h0, hsz, hat, hl⟩
    · have HNN : Hid (¬ rv = .nilIface) := fun h => by rw [hrr] at h; cases h
      clear hrr hv2 hm2 HWT
      go_wp2
      go_ret
      exact ⟨⟨_, rfl, .inr (.inr rfl), fun _ h => absurd (HRN.out h) HNN.out⟩, HTC2.out⟩
    · subst hrn
      clear hv2 hm2 HWT
      go_wp2_with fail
      refine (pairsat_none w2).mono ?_
      rintro e w2' ⟨rfl, rfl⟩
      go_wp2_with fail
      refine (sclone_any key w2 (by omega)).mono ?_
      rintro e w3 ⟨rfl, hb3⟩
      have HB3 := hide hb3
      clear hb3
      go_wp2_with fail
      refine (sclone_any value w3 (by omega)).mono ?_
      rintro e w4 ⟨rfl, hb4⟩
      have HB4 := hide (Below.next HB3.out hb4)
      clear hb4
      go_wp2_with fail
      refine (lset_any (.slice none 0 0) [] key value w4 (by simp) (PrR.nil _)).mono ?_
      rintro e w5 ⟨u, rfl, hu, hb5⟩
      have HB5 := hide (Below.next HB4.out hb5)
      have HCH := hide (change_none HC.out (HM2.out.trans (Mv.of HB5.out)) (HV2.out.below HB5.out) (HT2.out.below HB5.out) hu.at (setL_may (by intro p hp; simp at hp) HM.out) (by
        have := setL_sz [] key value
        have : szP (key, value) ≤ 960 := by have g1 : key.size ≤ 255 := hmp.2.1; have g2 : value.size ≤ 700 := hmp.2.2; unfold szP; dsimp only; omega
        have e : szL [] = 0 := rfl
        omega))
      obtain ⟨ua, uc, huf⟩ := hu.form
      subst huf
      clear hu hb5
      go_wp2_with fail
      refine HCH.out.mono ?_
      rintro e w6 ⟨rfl, htc⟩
      have HTC := hide htc
      clear htc HCH
      go_wp2
      go_ret
      exact ⟨⟨_, rfl, .inl rfl, fun _ _ => rfl⟩, HTC.out⟩
    · have HNN : Hid (rv = .nilIface ∨ ∃ t x, rv = .iface t x) := rv_form HRV.out
      have HO := hide ho
      have HW := hide hway
      have HS := hide hs
      have HSZ := hide hsz
      have HL := hide hl
      have HNR : Hid (¬ rv = .nilIface) := fun h => by rw [hrr] at h; cases h
      have HPA := hide (pairsat_some a ss.length c (ss.map Stp.lk) s.lk s.n pv lv cv w2 (by rw [List.length_map]) (by omega) ho.1.at hs)
      have HPR := hide hs.prs
      have HPM := hide hs.fine.1
      obtain ⟨m, hmm⟩ : ∃ m, m = ss.length := ⟨_, rfl⟩
      have HMM := hide hmm
      rw [← hmm] at HPA HO HL ⊢
      obtain ⟨xa, xc, hpf⟩ := hs.prs.form
      subst hpf
      clear ho hway hs h0 hsz hat hl hv2 hm2 HWT hmm hrr
      go_wp2_with fail
      refine HPA.out.mono ?_
      rintro e w2' ⟨rfl, rfl⟩
      go_wp2_with fail
      refine (sclone_any key w2 (by omega)).mono ?_
      rintro e w3 ⟨rfl, hb3⟩
      have HB3 := hide hb3
      clear hb3
      go_wp2_with fail
      refine (sclone_any value w3 (by omega)).mono ?_
      rintro e w4 ⟨rfl, hb4⟩
      have HB4 := hide (Below.next HB3.out hb4)
      clear hb4
      go_wp2_with fail
      refine (lset_any _ s.n.ps key value w4 (by have := szL_len s.n.ps; have := HSZ.out; omega) (HPR.out.below HB4.out)).mono ?_
      rintro e w5 ⟨u, rfl, hu, hb5⟩
      have HB5 := hide (Below.next HB4.out hb5)
      have hch := change_any (s := s) HC.out (HM2.out.trans (Mv.of HB5.out)) (HV2.out.below HB5.out) (HT2.out.below HB5.out) HNN.out (by have := HL.out; have := HMM.out; omega) (by rw [← HMM.out]; exact HO.out.below HB5.out) (HW.out.away (Away.of HB5.out)) hu.at (setL_may HPM.out HM.out) (by
        have := setL_sz s.n.ps key value
        have := HSZ.out
        have : szP (key, value) ≤ 960 := by have g1 : key.size ≤ 255 := hmp.2.1; have g2 : value.size ≤ 700 := hmp.2.2; unfold szP; dsimp only; omega
        omega)
      rw [← HMM.out] at hch
      have HCH := hide hch
      obtain ⟨ua, uc, huf⟩ := hu.form
      subst huf
      clear hu hb5 hch
      go_wp2_with fail
      refine HCH.out.mono ?_
      rintro e w6 ⟨⟨ev, rfl, hev⟩, htc⟩
      have HTC := hide htc
      have HEV := hide hev
      have hef := hev.form
      clear htc HCH hev
      rcases hef with rfl | ⟨q, rfl⟩
      · go_wp2
        go_ret
        exact ⟨⟨_, rfl, HEV.out, fun _ h => absurd (HRN.out h) HNR.out⟩, HTC.out⟩
      · go_wp2
        go_ret
        exact ⟨⟨_, rfl, HEV.out, fun _ h => absurd (HRN.out h) HNR.out⟩, HTC.out⟩
  · rw [if_neg hm] at HPF
    have HM := hide hm
    clear hkl hvl hm
    go_enter Tryz.func15, Tryz.ntmps15
    go_wp2_with fail
    refine HPF.out.mono ?_
    rintro e w1 ⟨rfl, hb1⟩
    have HTC := hide (HC.out.below hb1)
    clear hb1 HPF
    go_wp2
    go_ret
    exact ⟨⟨_, rfl, .inr (.inl rfl), fun h _ => absurd h HM.out⟩, HTC.out⟩
end

end Go.Proofs.YtnaedmmfiiebaaaGreatDoor.T
