import Derived.Test.YtpeobpmooledaaaDoorErrs
import Derived.Test.YtpeobpmooledaaaDoorGA
import Derived.Test.YtpeobpmooledaaaDoorGE
import Derived.Test.YtpeobpmooledaaaDoorGM
namespace Go.Proofs.YtpeobpmooledaaaDoor
open Go.RowKit

set_option maxHeartbeats 400000 in
theorem num_nil (w : World) : Calls Tryd.prog 7 #[.nilIface] w fun e w' => e = .returned (.int .i64 0) ∧ w = w' := by
  go_enter Tryd.func7, Tryd.ntmps7
  go_wp2
  go_ret
  exact ⟨rfl, rfl⟩

set_option maxHeartbeats 400000 in
theorem num_arg (A : Nat → Addr) (w : World) (h : ErrsG 4 gAll A w) : Calls Tryd.prog 7 #[.iface 101 (.pointer (some (A 0)))] w fun e w' => e = .returned (.int .i64 1) ∧ w = w' := by
  have c0 : w.cell? ⟨1, 0, none⟩ = some (.iface 101 (.pointer (some (A 0)))) := (h.1 0 (by decide)).1
  have e0 := eq_same A 0
  clear h
  go_enter Tryd.func7, Tryd.ntmps7
  go_wp2
  go_ret
  exact ⟨rfl, rfl⟩

set_option maxHeartbeats 400000 in
theorem num_text (A : Nat → Addr) (w : World) (h : ErrsG 4 gAll A w) : Calls Tryd.prog 7 #[.iface 101 (.pointer (some (A 1)))] w fun e w' => e = .returned (.int .i64 2) ∧ w = w' := by
  have c0 : w.cell? ⟨1, 0, none⟩ = some (.iface 101 (.pointer (some (A 0)))) := (h.1 0 (by decide)).1
  have c1 : w.cell? ⟨0, 0, none⟩ = some (.iface 101 (.pointer (some (A 1)))) := (h.1 1 (by decide)).1
  have e0 := eq_other A 1 0 w h (by decide) (by decide) (by decide)
  have e1 := eq_same A 1
  clear h
  go_enter Tryd.func7, Tryd.ntmps7
  go_wp2
  go_ret
  exact ⟨rfl, rfl⟩

set_option maxHeartbeats 400000 in
theorem num_many (A : Nat → Addr) (w : World) (h : ErrsG 4 gAll A w) : Calls Tryd.prog 7 #[.iface 101 (.pointer (some (A 2)))] w fun e w' => e = .returned (.int .i64 3) ∧ w = w' := by
  have c0 : w.cell? ⟨1, 0, none⟩ = some (.iface 101 (.pointer (some (A 0)))) := (h.1 0 (by decide)).1
  have c1 : w.cell? ⟨0, 0, none⟩ = some (.iface 101 (.pointer (some (A 1)))) := (h.1 1 (by decide)).1
  have c2 : w.cell? ⟨2, 0, none⟩ = some (.iface 101 (.pointer (some (A 2)))) := (h.1 2 (by decide)).1
  have e0 := eq_other A 2 0 w h (by decide) (by decide) (by decide)
  have e1 := eq_other A 2 1 w h (by decide) (by decide) (by decide)
  have e2 := eq_same A 2
  clear h
  go_enter Tryd.func7, Tryd.ntmps7
  go_wp2
  go_ret
  exact ⟨rfl, rfl⟩

set_option maxHeartbeats 400000 in
theorem num_short (A : Nat → Addr) (w : World) (h : ErrsG 4 gAll A w) : Calls Tryd.prog 7 #[.iface 101 (.pointer (some (A 3)))] w fun e w' => e = .returned (.int .i64 4) ∧ w = w' := by
  have c0 : w.cell? ⟨1, 0, none⟩ = some (.iface 101 (.pointer (some (A 0)))) := (h.1 0 (by decide)).1
  have c1 : w.cell? ⟨0, 0, none⟩ = some (.iface 101 (.pointer (some (A 1)))) := (h.1 1 (by decide)).1
  have c2 : w.cell? ⟨2, 0, none⟩ = some (.iface 101 (.pointer (some (A 2)))) := (h.1 2 (by decide)).1
  have c3 : w.cell? ⟨3, 0, none⟩ = some (.iface 101 (.pointer (some (A 3)))) := (h.1 3 (by decide)).1
  have e0 := eq_other A 3 0 w h (by decide) (by decide) (by decide)
  have e1 := eq_other A 3 1 w h (by decide) (by decide) (by decide)
  have e2 := eq_other A 3 2 w h (by decide) (by decide) (by decide)
  have e3 := eq_same A 3
  clear h
  go_enter Tryd.func7, Tryd.ntmps7
  go_wp2
  go_ret
  exact ⟨rfl, rfl⟩

end Go.Proofs.YtpeobpmooledaaaDoor

namespace Go.Proofs.YtpeobpmooledaaaDoor
open Go.RowKit
attribute [local go_sem ↓] Go.wp_at_zero Go.wp_at_succ

/-! The archive with other contents. -/
def incI (x : Int) : Int := wrap64 (x + 1)
def incP (p : Pc) : Pc := ⟨incI p.id, p.tx, p.dat⟩
def upI (l : List Int) (k : Nat) : List Int := (l.take k).map incI ++ l.drop k
def upP (l : List Pc) (k : Nat) : List Pc := (l.take k).map incP ++ l.drop k
def incA (a : Ar) : Ar := { a with ids := a.ids.map incI, pcs := a.pcs.map incP }
theorem upI_len (l : List Int) (k : Nat) : (upI l k).length = l.length := by simp [upI]; omega
theorem upP_len (l : List Pc) (k : Nat) : (upP l k).length = l.length := by simp [upP]; omega
theorem upI_end (l : List Int) : upI l l.length = l.map incI := by simp [upI]
theorem upP_end (l : List Pc) : upP l l.length = l.map incP := by simp [upP]
theorem upI_get (l : List Int) (k : Nat) (h : k < l.length) : (upI l k)[k]'(by rw [upI_len]; exact h) = l[k] := by
  have h1 : ((l.take k).map incI).length = k := by simp; omega
  have h2 : (upI l k)[k]? = some l[k] := by
    unfold upI
    rw [List.getElem?_append_right (by omega), h1, Nat.sub_self, List.getElem?_drop, Nat.add_zero, List.getElem?_eq_getElem h]
  rw [List.getElem?_eq_getElem (by rw [upI_len]; exact h)] at h2
  exact Option.some.inj h2
theorem upP_get (l : List Pc) (k : Nat) (h : k < l.length) : (upP l k)[k]'(by rw [upP_len]; exact h) = l[k] := by
  have h1 : ((l.take k).map incP).length = k := by simp; omega
  have h2 : (upP l k)[k]? = some l[k] := by
    unfold upP
    rw [List.getElem?_append_right (by omega), h1, Nat.sub_self, List.getElem?_drop, Nat.add_zero, List.getElem?_eq_getElem h]
  rw [List.getElem?_eq_getElem (by rw [upP_len]; exact h)] at h2
  exact Option.some.inj h2
theorem up_set {α : Type} (f : α → α) (l r : List α) (k : Nat) (h : k < l.length) : (((l.take k).map f ++ l.drop k) ++ r).set k (f l[k]) = ((l.take (k + 1)).map f ++ l.drop (k + 1)) ++ r := by
  have h1 : ((l.take k).map f).length = k := by simp; omega
  have hd : l.drop k = l[k] :: l.drop (k + 1) := List.drop_eq_getElem_cons h
  rw [List.append_assoc, List.set_append_right _ _ (by omega), h1, Nat.sub_self, hd, List.take_succ_eq_append_getElem h, List.map_append]
  simp only [List.cons_append, List.set_cons_zero, List.append_assoc, List.map_cons, List.map_nil, List.nil_append]
theorem ints_set (l : List Int) (k : Nat) (x : Int) : (ints l).set k (.int .i64 x) = ints (l.set k x) := by simp [ints, List.map_set]
theorem pcs_set : ∀ (l : List Pc) (k : Nat) (h : k < l.length) (x : Int), (pcs l).set (k * 3) (.int .i64 x) = pcs (l.set k ⟨x, l[k].tx, l[k].dat⟩)
  | [], _, h, _ => by simp at h
  | p :: r, 0, _, x => by simp [pcs_cons, pcC]
  | p :: r, k + 1, h, x => by
    have h' : k < r.length := by simpa using h
    have e : (k + 1) * 3 = k * 3 + 3 := by omega
    rw [pcs_cons, List.set_cons_succ, pcs_cons, e]
    rw [List.set_append_right _ _ (by simp [pcC])]
    have : k * 3 + 3 - (pcC p).length = k * 3 := by simp [pcC]
    rw [this, pcs_set r k h' x]
    simp
theorem incI_rng (x : Int) : -9223372036854775808 ≤ incI x ∧ incI x ≤ 9223372036854775807 := by
  unfold incI wrap64; omega
theorem incA_fit {a : Ar} (h : ArFit a) : ArFit (incA a) :=
  ⟨h.pg, h.rt, h.tx, h.si, h.sum, fun x hx => by
    obtain ⟨y, _, rfl⟩ := List.mem_map.1 hx
    exact incI_rng y, fun p hp => by
    obtain ⟨q, hq, rfl⟩ := List.mem_map.1 hp
    exact ⟨incI_rng q.id, (h.pcs q hq).2⟩, by simpa [incA] using h.ni, by simpa [incA] using h.np⟩
/-- The copy while it is turned: the first k numbers, the first j parcels are turned. -/
structure Md (w : World) (base : Nat) (a : Ar) (gi ci gp cp G k j : Nat) : Prop where
  row : RowAt w G (arC a (.slice (some ⟨gi, 0, none⟩) a.ids.length ci) (.slice (some ⟨gp, 0, none⟩) a.pcs.length cp)) 29
  own1 : w.ownsRow base 3 1 (.slice (some ⟨gi, 0, none⟩) (a.ids.length + 64) ci) (a.ids.length + 64) (ints (upI a.ids k ++ List.replicate 64 (-7)))
  own2 : w.ownsRow base 38 3 (.slice (some ⟨gp, 0, none⟩) (a.pcs.length + 64) cp) (a.pcs.length + 64) (pcs (upP a.pcs j ++ List.replicate 64 mkP))
  n1 : gi ≠ G
  n2 : gp ≠ G
theorem Md.of {w : World} {base : Nat} {a : Ar} {gi ci gp cp G : Nat} (h : Arch w base a gi ci gp cp) (hr : RowAt w G (arC a (.slice (some ⟨gi, 0, none⟩) a.ids.length ci) (.slice (some ⟨gp, 0, none⟩) a.pcs.length cp)) 29) : Md w base a gi ci gp cp G 0 0 := by
  have e1 := h.own1
  have e2 := h.own2
  unfold IO at e1
  unfold PcO at e2
  rw [List.length_append, List.length_replicate] at e1 e2
  refine ⟨hr, by simpa [upI] using e1, by simpa [upP] using e2, fun e => ?_, fun e => ?_⟩
  · obtain ⟨_, _, cs, h1⟩ := own_kind h.own1 gi rfl
    unfold RowAt at hr
    rw [← e, h1] at hr
    cases hr
  · obtain ⟨_, _, cs, h1⟩ := own_kind h.own2 gp rfl
    unfold RowAt at hr
    rw [← e, h1] at hr
    cases hr
theorem Md.apart {w : World} {base : Nat} {a : Ar} {gi ci gp cp G k j : Nat} (h : Md w base a gi ci gp cp G k j) : gi ≠ gp := fun e => by
  obtain ⟨_, _, cs, h1⟩ := own_kind h.own1 gi rfl
  obtain ⟨_, _, cs2, h2⟩ := own_kind h.own2 gp rfl
  rw [e, h2] at h1
  cases h1
theorem Md.base {w : World} {base : Nat} {a : Ar} {gi ci gp cp G k j : Nat} (h : Md w base a gi ci gp cp G k j) : base ≤ gi ∧ base ≤ gp := ⟨(own_kind h.own1 gi rfl).1, (own_kind h.own2 gp rfl).1⟩
theorem Md.drewN {w : World} {base : Nat} {a : Ar} {gi ci gp cp G k j : Nat} (h : Md w base a gi ci gp cp G k j) (q : Nat) : Md (w.drewN q) base a gi ci gp cp G k j := ⟨h.row, h.own1, h.own2, h.n1, h.n2⟩
theorem Md.get1 {w : World} {base : Nat} {a : Ar} {gi ci gp cp G k j : Nat} (h : Md w base a gi ci gp cp G k j) (hk : k < a.ids.length) : w.cell? ⟨gi, k, none⟩ = some (.int .i64 a.ids[k]) := by
  rw [h.own1.cellAt k (by omega), ints_append, List.getElem?_append_left (by rw [ints_length, upI_len]; exact hk), ints_get _ k (by rw [upI_len]; exact hk), upI_get _ k hk]
theorem Md.get2 {w : World} {base : Nat} {a : Ar} {gi ci gp cp G k j : Nat} (h : Md w base a gi ci gp cp G k j) (hj : j < a.pcs.length) : w.cell? ⟨gp, j * 3, none⟩ = some (.int .i64 a.pcs[j].id) := by
  have hl : j < (upP a.pcs j ++ List.replicate 64 mkP).length := by rw [List.length_append, upP_len]; omega
  have h0 := pcs_get (upP a.pcs j ++ List.replicate 64 mkP) j hl 0 (by omega)
  rw [Nat.add_zero] at h0
  rw [h.own2.cellAt (j * 3) (by omega), h0, List.getElem_append_left (by rw [upP_len]; exact hj), upP_get _ j hj]
  rfl
theorem Md.set1 {w : World} {base : Nat} {a : Ar} {gi ci gp cp G k j : Nat} (h : Md w base a gi ci gp cp G k j) (hk : k < a.ids.length) : Md (w.setCell ⟨gi, k, none⟩ (.int .i64 (incI a.ids[k]))) base a gi ci gp cp G (k + 1) j := by
  refine ⟨h.row.other h.n1.symm _, ?_, own_kept h.own2 (fun q hq => Below.heap_setCell _ _ _ _ (fun e => h.apart (by have e' : q = gi := e; have : gp = q := (by simpa [Value.ownBlock] using hq); omega))), h.n1, h.n2⟩
  have hs := (h.own1.stored k (.int .i64 (incI a.ids[k]))).1
  rw [ints_set] at hs
  unfold upI at hs ⊢
  rw [up_set incI a.ids _ k hk] at hs
  exact hs
theorem Md.set2 {w : World} {base : Nat} {a : Ar} {gi ci gp cp G k j : Nat} (h : Md w base a gi ci gp cp G k j) (hj : j < a.pcs.length) : Md (w.setCell ⟨gp, j * 3, none⟩ (.int .i64 (incI a.pcs[j].id))) base a gi ci gp cp G k (j + 1) := by
  refine ⟨h.row.other h.n2.symm _, own_kept h.own1 (fun q hq => Below.heap_setCell _ _ _ _ (fun e => h.apart (by have e' : q = gp := e; have : gi = q := (by simpa [Value.ownBlock] using hq); omega))), ?_, h.n1, h.n2⟩
  have hl : j < (upP a.pcs j ++ List.replicate 64 mkP).length := by rw [List.length_append, upP_len]; omega
  have hs := (h.own2.stored (j * 3) (.int .i64 (incI a.pcs[j].id))).1
  rw [pcs_set _ j hl] at hs
  have hg : (upP a.pcs j ++ List.replicate 64 mkP)[j] = a.pcs[j] := by rw [List.getElem_append_left (by rw [upP_len]; exact hj), upP_get _ j hj]
  rw [hg] at hs
  have hu := up_set incP a.pcs (List.replicate 64 mkP) j hj
  unfold upP at hs ⊢
  rw [← hu]
  exact hs
/-- At the end it reads as the turned archive. -/
theorem Md.rd {w : World} {base : Nat} {a : Ar} {gi ci gp cp G : Nat} (h : Md w base a gi ci gp cp G a.ids.length a.pcs.length) : ArR w (incA a) (.slice (some ⟨gi, 0, none⟩) a.ids.length ci) (.slice (some ⟨gp, 0, none⟩) a.pcs.length cp) := by
  constructor
  · have h0 := h.own1
    rw [upI_end] at h0
    have h1 := (rowR_of_owns h0).take (m := a.ids.length) (by omega)
    rw [ints_append, List.take_left' (by rw [ints_length, List.length_map])] at h1
    exact h1
  · have h0 := h.own2
    rw [upP_end] at h0
    have e : a.pcs.length + 64 = (a.pcs.map incP ++ List.replicate 64 mkP).length := by simp
    have h2 : w.ownsRow base 38 3 (.slice (some ⟨gp, 0, none⟩) (a.pcs.length + 64) cp) (a.pcs.length + 64) (pcs (a.pcs.map incP ++ List.replicate 64 mkP)) := h0
    have h1 := (PcR.of_owns h2).take (m := a.pcs.length) (by omega)
    rwa [List.take_left' (by rw [List.length_map])] at h1
theorem chk_num (A : Nat → Addr) (a : Ar) (w : World) (he : ErrsG 13 gAll A w) : Calls Tryd.prog 7 #[chkE A a] w fun e w' => e = .returned (.int .i64 (rchkN a)) ∧ w = w' := by
  unfold chkE rchkN
  split
  · exact num_nil w
  · exact num_text A w ⟨fun i hi => he.1 i (by omega), fun i j hi hj => he.2 i j (by omega) (by omega)⟩
end Go.Proofs.YtpeobpmooledaaaDoor
