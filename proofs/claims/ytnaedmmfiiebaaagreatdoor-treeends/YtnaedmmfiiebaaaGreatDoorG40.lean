import Derived.Test.YtnaedmmfiiebaaaGreatDoorG38
import Derived.Test.YtnaedmmfiiebaaaGreatDoorG39
import Derived.Test.YtnaedmmfiiebaaaGreatDoorG12
import Derived.Test.YtnaedmmfiiebaaaGreatDoorG18
import Derived.Test.YtnaedmmfiiebaaaGreatDoorG00
import Derived.Shelf.Strconv.Clone
namespace Go.Proofs.YtnaedmmfiiebaaaGreatDoor.T
open Go.RowKit

theorem eql_ch_nil (t : TypeId) (v : Value) (w : World) : (binOp .eql 97 (.iface t v) .nilIface).run Tryz.prog w = .ok (.bool false) w := by
  have h2 : ∀ d : Nat, (Op.equalIn (d + 1) 97 (.iface t v) .nilIface).run Tryz.prog w = .ok false w := fun d => by
    simp [Op.equalIn, run_underlying Tryz.underlying97]
  simp only [binOp]
  simp [Op.equal, Op.maxDepth, h2 9999]
theorem eql_nil_nil (w : World) : (binOp .eql 97 .nilIface .nilIface).run Tryz.prog w = .ok (.bool true) w := by
  have h2 : ∀ d : Nat, (Op.equalIn (d + 1) 97 .nilIface .nilIface).run Tryz.prog w = .ok true w := fun d => by
    simp [Op.equalIn, run_underlying Tryz.underlying97]
  simp only [binOp]
  simp [Op.equal, Op.maxDepth, h2 9999]
set_option maxRecDepth 100000 in
theorem way_none (pk : Value) (hpk : ∃ f a c, pk = .func f a c) (tb : Nat) (dv : Value) (w : World) (ht : B.RowAt w tb #[dv, .nilIface] 100) :
    Calls Tryz.prog 54 #[.pointer (some ⟨tb, 0, none⟩), pk] w fun e w' => e = .returned (.tuple #[.slice none 0 0, .nilIface]) ∧ w = w' := by
  obtain ⟨f, a, c, rfl⟩ := hpk
  have c1 := ht.c1
  have hn := fun W => eql_nil_nil W
  clear ht
  go_enter Tryz.func54, Tryz.ntmps54
  go_wp2
  go_ret2
  exact ⟨rfl, rfl⟩
theorem DownS.form {d : S.V.Dev} {X : Type} {S : Sys d X} {Pk : SN → Nat → Prop} {A : Nat → Addr} {pre : List W.Lk} {x : X} {bs : Nat} {e : Ending} {w' : World} (h : DownS S Pk A pre x bs e w') : ∃ a n c v, e = .returned (.tuple #[.slice a n c, v]) ∧ (v = .nilIface ∨ v = .iface 360 (.pointer (some (A 8)))) := by
  rcases h with ⟨_, rfl⟩ | ⟨ss, s, a, c, rfl, _⟩
  · exact ⟨_, _, _, _, rfl, .inr rfl⟩
  · exact ⟨_, _, _, _, rfl, .inl rfl⟩

set_option maxRecDepth 100000 in
set_option maxHeartbeats 2000000 in
theorem way_key {base : Nat} {A : Nat → Addr} {db : Nat} {F : Nat → Prop} {d : S.V.Dev} {X : Type} (S : Sys d X) (Pk : SN → Nat → Prop) (Q : World → Prop) (hQ : ∀ W W', Away W W' → Q W → Q W') (p : C.Ch) (x : X) (tb : Nat) (kb : Nat) (w0 w : World)
    (hk : S.K w p x) (ht : B.RowAt w tb #[.pointer (some ⟨db, 0, none⟩), p.val] 100) (hv : Dv base A db F d w) (hm : Mv db F w0 w) (hv0 : Dv base A db F d w0) (hq : Q w) (hlim : S.E ∨ S.rk x + 1 ≤ 64)
    (hpick : ∀ W b n pv lv cv y, Q W → SNR W b n pv lv cv → S.N W n y → ¬ n.us.length = 0 → Calls Tryz.prog 80 #[.agg #[.int .i64 n.f, lv], .pointer (some ⟨kb, 0, none⟩)] W fun e w' => ∃ q : Nat, e = .returned (.int .i64 (q : Int)) ∧ Pk n q ∧ q < n.us.length ∧ Below W.heap.size W w') :
    Calls Tryz.prog 54 #[.pointer (some ⟨tb, 0, none⟩), .func (.func 80) #[] #[.pointer (some ⟨kb, 0, none⟩)]] w fun e w' => DownS S Pk A [] x w0.heap.size e w' ∧ Dv base A db F d w' ∧ Mv db F w0 w' := by
  have HG := hide (godown_key S Pk Q hQ [] (.slice none 0 0) p x tb p.val kb w0 w hk ht hv hm hv0 (StO.nil _ _) hq (by simp) (by simpa using hlim) hpick)
  have c1 := ht.c1
  obtain ⟨pt, px, hpv⟩ := val_form p
  rw [hpv] at HG c1
  have hn := fun W => eql_ch_nil pt px W
  clear hk ht hv hm hv0 hq hlim hpick hQ hpv
  go_enter Tryz.func54, Tryz.ntmps54
  go_wp2_with fail
  refine HG.out.mono ?_
  rintro e w1 ⟨hdn, hv1, hm1, -⟩
  obtain ⟨a, n, c, v, he, hvv⟩ := hdn.form
  subst he
  have HR : Hid (DownS S Pk A [] x w0.heap.size (.returned (.tuple #[.slice a n c, v])) w1 ∧ Dv base A db F d w1 ∧ Mv db F w0 w1) := ⟨hdn, hv1, hm1⟩
  clear hdn hv1 hm1 HG c1
  rcases hvv with rfl | rfl
  · go_wp2
    go_ret2
    exact HR.out
  · go_wp2
    go_ret2
    exact HR.out

set_option maxRecDepth 100000 in
set_option maxHeartbeats 2000000 in
theorem way_first {base : Nat} {A : Nat → Addr} {db : Nat} {F : Nat → Prop} {d : S.V.Dev} {X : Type} (S : Sys d X) (Pk : SN → Nat → Prop) (Q : World → Prop) (hQ : ∀ W W', Away W W' → Q W → Q W') (p : C.Ch) (x : X) (tb : Nat) (w0 w : World)
    (hk : S.K w p x) (ht : B.RowAt w tb #[.pointer (some ⟨db, 0, none⟩), p.val] 100) (hv : Dv base A db F d w) (hm : Mv db F w0 w) (hv0 : Dv base A db F d w0) (hq : Q w) (hlim : S.E ∨ S.rk x + 1 ≤ 64)
    (hpick : ∀ W b n pv lv cv y, Q W → SNR W b n pv lv cv → S.N W n y → ¬ n.us.length = 0 → Calls Tryz.prog 57 #[.agg #[.int .i64 n.f, lv]] W fun e w' => ∃ q : Nat, e = .returned (.int .i64 (q : Int)) ∧ Pk n q ∧ q < n.us.length ∧ Below W.heap.size W w') :
    Calls Tryz.prog 54 #[.pointer (some ⟨tb, 0, none⟩), .func (.func 57) #[] #[]] w fun e w' => DownS S Pk A [] x w0.heap.size e w' ∧ Dv base A db F d w' ∧ Mv db F w0 w' := by
  have HG := hide (godown_first S Pk Q hQ [] (.slice none 0 0) p x tb p.val w0 w hk ht hv hm hv0 (StO.nil _ _) hq (by simp) (by simpa using hlim) hpick)
  have c1 := ht.c1
  obtain ⟨pt, px, hpv⟩ := val_form p
  rw [hpv] at HG c1
  have hn := fun W => eql_ch_nil pt px W
  clear hk ht hv hm hv0 hq hlim hpick hQ hpv
  go_enter Tryz.func54, Tryz.ntmps54
  go_wp2_with fail
  refine HG.out.mono ?_
  rintro e w1 ⟨hdn, hv1, hm1, -⟩
  obtain ⟨a, n, c, v, he, hvv⟩ := hdn.form
  subst he
  have HR : Hid (DownS S Pk A [] x w0.heap.size (.returned (.tuple #[.slice a n c, v])) w1 ∧ Dv base A db F d w1 ∧ Mv db F w0 w1) := ⟨hdn, hv1, hm1⟩
  clear hdn hv1 hm1 HG c1
  rcases hvv with rfl | rfl
  · go_wp2
    go_ret2
    exact HR.out
  · go_wp2
    go_ret2
    exact HR.out

set_option maxRecDepth 100000 in
set_option maxHeartbeats 2000000 in
theorem way_last {base : Nat} {A : Nat → Addr} {db : Nat} {F : Nat → Prop} {d : S.V.Dev} {X : Type} (S : Sys d X) (Pk : SN → Nat → Prop) (Q : World → Prop) (hQ : ∀ W W', Away W W' → Q W → Q W') (p : C.Ch) (x : X) (tb : Nat) (w0 w : World)
    (hk : S.K w p x) (ht : B.RowAt w tb #[.pointer (some ⟨db, 0, none⟩), p.val] 100) (hv : Dv base A db F d w) (hm : Mv db F w0 w) (hv0 : Dv base A db F d w0) (hq : Q w) (hlim : S.E ∨ S.rk x + 1 ≤ 64)
    (hpick : ∀ W b n pv lv cv y, Q W → SNR W b n pv lv cv → S.N W n y → ¬ n.us.length = 0 → Calls Tryz.prog 55 #[.agg #[.int .i64 n.f, lv]] W fun e w' => ∃ q : Nat, e = .returned (.int .i64 (q : Int)) ∧ Pk n q ∧ q < n.us.length ∧ Below W.heap.size W w') :
    Calls Tryz.prog 54 #[.pointer (some ⟨tb, 0, none⟩), .func (.func 55) #[] #[]] w fun e w' => DownS S Pk A [] x w0.heap.size e w' ∧ Dv base A db F d w' ∧ Mv db F w0 w' := by
  have HG := hide (godown_last S Pk Q hQ [] (.slice none 0 0) p x tb p.val w0 w hk ht hv hm hv0 (StO.nil _ _) hq (by simp) (by simpa using hlim) hpick)
  have c1 := ht.c1
  obtain ⟨pt, px, hpv⟩ := val_form p
  rw [hpv] at HG c1
  have hn := fun W => eql_ch_nil pt px W
  clear hk ht hv hm hv0 hq hlim hpick hQ hpv
  go_enter Tryz.func54, Tryz.ntmps54
  go_wp2_with fail
  refine HG.out.mono ?_
  rintro e w1 ⟨hdn, hv1, hm1, -⟩
  obtain ⟨a, n, c, v, he, hvv⟩ := hdn.form
  subst he
  have HR : Hid (DownS S Pk A [] x w0.heap.size (.returned (.tuple #[.slice a n c, v])) w1 ∧ Dv base A db F d w1 ∧ Mv db F w0 w1) := ⟨hdn, hv1, hm1⟩
  clear hdn hv1 hm1 HG c1
  rcases hvv with rfl | rfl
  · go_wp2
    go_ret2
    exact HR.out
  · go_wp2
    go_ret2
    exact HR.out

/-! The ways to pick. -/
set_option maxHeartbeats 1000000 in
theorem waytof_any (b : Nat) (n : SN) (pv lv cv : Value) (kb : Nat) (key : ByteArray) (w : World) (hs : SNR w b n pv lv cv) (hk : w.cell? ⟨kb, 0, none⟩ = some (.string key)) (hlen : n.us.length = n.lk.length + 1) :
    Calls Tryz.prog 80 #[.agg #[.int .i64 n.f, lv], .pointer (some ⟨kb, 0, none⟩)] w fun e w' => ∃ q : Nat, e = .returned (.int .i64 (q : Int)) ∧ B.PickAt n.lk key q ∧ q < n.us.length ∧ Below w.heap.size w w' := by
  have q0 := below_new w (.cells #[.int .i64 n.f, lv] 150)
  have x0 := B.RowAt.new w #[.int .i64 n.f, lv] 150
  have k0 := x0.c0
  have k1 := x0.c1
  have hk1 : (w.alloc (.cells #[.int .i64 n.f, lv] 150)).cell? ⟨kb, 0, none⟩ = some (.string key) := (q0.cell (p := ⟨kb, 0, none⟩) (World.block_lt_of_cell? w _ hk)).trans hk
  have HP := hide (B.bpick_any n.f lv n.lk key (w.alloc (.cells #[.int .i64 n.f, lv] 150)) (by have := hs.fine.2.2.2.1; omega) (hs.lks.below q0))
  have HQ := hide q0
  have HL := hide hlen
  obtain ⟨la, lc, hlf⟩ := hs.lks.form
  subst hlf
  clear hs hk hlen q0 x0
  go_enter Tryz.func80, Tryz.ntmps80
  go_wp2_with fail
  refine HP.out.mono ?_
  rintro e w1 ⟨⟨q, rfl, hq⟩, hb⟩
  have HB := hide (Below.next HQ.out hb)
  have HPK := hide hq
  clear hq hb HP k0 k1 hk1
  go_wp2
  go_ret
  exact ⟨q, rfl, HPK.out, by have := HPK.out.1; have := HL.out; omega, HB.out⟩
theorem tfirst_any (n : SN) (lv : Value) (w : World) :
    Calls Tryz.prog 57 #[.agg #[.int .i64 n.f, lv]] w fun e w' => e = .returned (.int .i64 0) ∧ Below w.heap.size w w' := by
  have q0 := below_new w (.cells #[.int .i64 n.f, lv] 150)
  have HQ := hide q0
  clear q0
  go_enter Tryz.func57, Tryz.ntmps57
  go_wp2
  go_ret
  exact ⟨rfl, HQ.out⟩
theorem tlast_any (n : SN) (lv : Value) (w : World) (hl : B.LkR w lv n.lk) :
    Calls Tryz.prog 55 #[.agg #[.int .i64 n.f, lv]] w fun e w' => e = .returned (.int .i64 (n.lk.length : Int)) ∧ Below w.heap.size w w' := by
  have q0 := below_new w (.cells #[.int .i64 n.f, lv] 150)
  have x0 := B.RowAt.new w #[.int .i64 n.f, lv] 150
  have k1 := x0.c1
  obtain ⟨la, lc, hlf⟩ := hl.form
  subst hlf
  have HQ := hide q0
  clear q0 x0 hl
  go_enter Tryz.func55, Tryz.ntmps55
  go_wp2
  go_ret
  exact ⟨rfl, HQ.out⟩
/-- wayTo of a tree that is not empty. -/
theorem wayto_some {base : Nat} {A : Nat → Addr} {db : Nat} {F : Nat → Prop} {d : S.V.Dev} {X : Type} (S : Sys d X) (p : C.Ch) (x : X) (tb : Nat) (key : ByteArray) (w0 w : World)
    (hk : S.K w p x) (ht : B.RowAt w tb #[.pointer (some ⟨db, 0, none⟩), p.val] 100) (hv : Dv base A db F d w) (hm : Mv db F w0 w) (hv0 : Dv base A db F d w0) (hlim : S.E ∨ S.rk x + 1 ≤ 64) :
    Calls Tryz.prog 46 #[.pointer (some ⟨tb, 0, none⟩), .string key] w fun e w' => DownS S (fun n q => B.PickAt n.lk key q) A [] x w0.heap.size e w' ∧ Dv base A db F d w' ∧ Mv db F w0 w' := by
  have q0 := below_new w (.cells #[.string key] 9)
  have k0 : (w.alloc (.cells #[.string key] 9)).cell? ⟨w.heap.size, 0, none⟩ = some (.string key) := (B.RowAt.new w #[.string key] 9).cell 0 (by simp)
  have HW := hide (way_key S (fun n q => B.PickAt n.lk key q) (fun W => W.cell? ⟨w.heap.size, 0, none⟩ = some (.string key)) (fun W W' ha h => cell_same (ha.str h) h) p x tb w.heap.size w0 (w.alloc (.cells #[.string key] 9)) (S.ka (Away.of q0) hk) (ht.below q0) (hv.below q0) (hm.trans (Mv.of q0)) hv0 k0 hlim (fun W b n pv lv cv y hc hs hn hnl => waytof_any b n pv lv cv w.heap.size key W hs hc ((S.fit hn).1.resolve_left hnl)))
  have hmf : ∀ (fn : Fn) (first cap : Array Value) (w : World), (Instr.makeFunc fn first cap).run Tryz.prog w = .ok (.func fn first cap) w := fun _ _ _ _ => rfl
  clear hk ht hv hm hv0 hlim q0 k0
  go_enter Tryz.func46, Tryz.ntmps46
  go_wp2_with fail
  refine HW.out.mono ?_
  rintro e w1 ⟨hdn, hv1, hm1⟩
  obtain ⟨a, n, c, v, he, hvv⟩ := hdn.form
  subst he
  have HR : Hid (DownS S (fun n q => B.PickAt n.lk key q) A [] x w0.heap.size (.returned (.tuple #[.slice a n c, v])) w1 ∧ Dv base A db F d w1 ∧ Mv db F w0 w1) := ⟨hdn, hv1, hm1⟩
  clear hdn hv1 hm1 HW
  rcases hvv with rfl | rfl
  · go_wp2
    go_ret2
    exact HR.out
  · go_wp2
    go_ret2
    exact HR.out
theorem wayto_none (tb : Nat) (dv : Value) (key : ByteArray) (w : World) (ht : B.RowAt w tb #[dv, .nilIface] 100) :
    Calls Tryz.prog 46 #[.pointer (some ⟨tb, 0, none⟩), .string key] w fun e w' => e = .returned (.tuple #[.slice none 0 0, .nilIface]) ∧ Below w.heap.size w w' := by
  have q0 := below_new w (.cells #[.string key] 9)
  have HW := hide (way_none (.func (.func 80) #[] #[.pointer (some ⟨w.heap.size, 0, none⟩)]) ⟨_, _, _, rfl⟩ tb dv _ (ht.below q0))
  have hmf : ∀ (fn : Fn) (first cap : Array Value) (w : World), (Instr.makeFunc fn first cap).run Tryz.prog w = .ok (.func fn first cap) w := fun _ _ _ _ => rfl
  have HQ := hide q0
  clear ht q0
  go_enter Tryz.func46, Tryz.ntmps46
  go_wp2_with fail
  refine HW.out.mono ?_
  rintro e w1 ⟨rfl, rfl⟩
  go_wp2
  go_ret2
  exact ⟨rfl, HQ.out⟩
/-! The pairs of a way's leaf. -/
theorem pairsat_none (w : World) : Calls Tryz.prog 49 #[.slice none 0 0] w fun e w' => e = .returned (.slice none 0 0) ∧ w = w' := by
  go_enter Tryz.func49, Tryz.ntmps49
  go_wp2
  go_ret
  exact ⟨rfl, rfl⟩
set_option maxRecDepth 100000 in
theorem pairsat_some (a : Option Addr) (m c : Nat) (l : List W.Lk) (q : W.Lk) (n : SN) (pv lv cv : Value) (w : World) (hm : m = l.length) (hm2 : m ≤ 100000) (hr : W.LkR w (.slice a (m + 1) c) (l ++ [q])) (hs : SNR w q.1 n pv lv cv) :
    Calls Tryz.prog 49 #[.slice a (m + 1) c] w fun e w' => e = .returned pv ∧ w = w' := by
  obtain ⟨g, o, rfl, c1, -⟩ := W.LkR.spot hr m (by rw [List.length_append]; simp; omega)
  have e : (l ++ [q])[m]'(by rw [List.length_append]; simp; omega) = q := by
    subst hm; simp
  rw [e] at c1
  have p0 := hs.c0
  obtain ⟨pa, pc, hpf⟩ := hs.prs.form
  subst hpf
  have h0 : (0 : Int) ≤ (m : Int) := by omega
  have h1 : ((m : Int) + 1) - 1 = (m : Int) := by omega
  have h2 : (m : Int) < (m : Int) + 1 := by omega
  have h3 : (((m + 1 : Nat) : Int) == 0) = false := by simp; omega
  have h4 : (m : Int) ≤ 100000 := by omega
  clear hr hs e hm hm2
  go_enter Tryz.func49, Tryz.ntmps49
  go_wp2
  go_ret
  exact ⟨rfl, rfl⟩

end Go.Proofs.YtnaedmmfiiebaaaGreatDoor.T

namespace Go.Proofs.YtnaedmmfiiebaaaGreatDoor.T
open Go.RowKit

/-! A store into a tree's own row leaves all nodes as they are. -/
theorem tree_cell {w : World} {tb : Nat} {q : Option Addr} {rv : Value} (ht : B.RowAt w tb #[.pointer q, rv] 100) {o : Nat} {v : Value} (hc : w.cell? ⟨tb, o, none⟩ = some v) : o = 0 ∧ v = .pointer q ∨ o = 1 ∧ v = rv := by
  unfold B.RowAt at ht
  rw [cell_of_row w tb o _ _ _ ht] at hc
  have ho : o < 2 := by have := (Array.getElem?_eq_some_iff.1 hc).1; simpa using this
  match o, ho, hc with
  | 0, _, hc => cases hc; exact .inl ⟨rfl, rfl⟩
  | 1, _, hc => cases hc; exact .inr ⟨rfl, rfl⟩
theorem SNR.tree {w : World} {b : Nat} {n : SN} {pv lv cv : Value} (h : SNR w b n pv lv cv) (hu : n.us.length = 0 ∨ 2 ≤ n.us.length) {tb : Nat} {q : Option Addr} {rv : Value} (ht : B.RowAt w tb #[.pointer q, rv] 100) (hrv : rv = .nilIface ∨ ∃ t x, rv = .iface t x) (u : Value) : SNR (w.setCell ⟨tb, 1, none⟩ u) b n pv lv cv := by
  have hs := S.Sole.set tb 1 w u
  have hstr : ∀ {g o : Nat} {s : ByteArray}, w.cell? ⟨g, o, none⟩ = some (.string s) → (w.setCell ⟨tb, 1, none⟩ u).heap[g]? = w.heap[g]? := fun {g o s} hc => hs.block g (World.block_lt_of_cell? w _ hc) fun e => by
    subst e
    rcases tree_cell ht hc with ⟨_, e⟩ | ⟨_, e⟩
    · cases e
    · rcases hrv with rfl | ⟨t, x, rfl⟩ <;> cases e
  refine ⟨?_, ?_, ?_, ?_, h.fine⟩
  · refine (hs.block b h.row.lt (fun e => ?_)).trans h.row
    subst e
    have h1 := h.row
    unfold B.RowAt at h1 ht
    rw [ht] at h1
    simp at h1
  · obtain ⟨a, cap, hv, hle, hn, hc⟩ := h.prs
    refine ⟨a, cap, hv, hle, hn, fun j hj => ?_⟩
    obtain ⟨g, o, ha, h1, h2⟩ := hc j hj
    have hg := hstr h1
    exact ⟨g, o, ha, cell_same hg h1, cell_same hg h2⟩
  · obtain ⟨a, cap, hv, hle, hn, hc⟩ := h.lks
    refine ⟨a, cap, hv, hle, hn, fun j hj => ?_⟩
    obtain ⟨g, o, ha, h1, h2⟩ := hc j hj
    have hg := hstr h1
    exact ⟨g, o, ha, cell_same hg h1, cell_same hg h2⟩
  · obtain ⟨a, cap, hv, hle, hn, hc⟩ := h.kids
    refine ⟨a, cap, hv, hle, hn, fun j v hj => ?_⟩
    have hjl : j < n.us.length := by
      have := (List.getElem?_eq_some_iff.1 hj).1
      rw [C.lks_length] at this; omega
    have h2 : 2 ≤ n.us.length := hu.resolve_left (by omega)
    obtain ⟨g, o, ha, h1⟩ := hc j v hj
    have hg : g ≠ tb := fun e => by
      subst e
      obtain ⟨g0, o0, ha0, c0⟩ := hc 0 _ (C.lks_get n.us 0 (by omega))
      obtain ⟨g1, o1, ha1, c1⟩ := hc 1 _ (C.lks_get n.us 1 (by omega))
      rw [ha] at ha0 ha1
      cases ha0
      cases ha1
      obtain ⟨t, x, e0⟩ := val_form (n.us[0]'(by omega))
      rw [e0] at c0
      have k0 := tree_cell ht c0
      have k1 := tree_cell ht c1
      rcases k0 with ⟨_, e⟩ | ⟨k0, _⟩
      · cases e
      · rcases k1 with ⟨k1, _⟩ | ⟨k1, _⟩ <;> omega
    exact ⟨g, o, ha, cell_same (hs.block g (World.block_lt_of_cell? w _ h1) hg) h1⟩
theorem Fit.kids {n : SN} (h : Fit n) : n.us.length = 0 ∨ 2 ≤ n.us.length := by
  rcases h.1 with h0 | h0
  · exact .inl h0
  · rcases h.2.2 with h1 | h1
    · exact .inl h1
    · right; omega
theorem AnyK.tree {w : World} {tb : Nat} {q : Option Addr} {rv : Value} (ht : B.RowAt w tb #[.pointer q, rv] 100) (hrv : rv = .nilIface ∨ ∃ t x, rv = .iface t x) (u : Value) : ∀ {k : Nat} {p : C.Ch}, AnyK w k p → AnyK (w.setCell ⟨tb, 1, none⟩ u) k p
  | 0, .pg _, _ => trivial
  | _ + 1, .pg _, _ => trivial
  | _ + 1, .nd _, ⟨n, pv, lv, cv, h1, h2, h3⟩ => ⟨n, pv, lv, cv, h1.tree h2.kids ht hrv u, h2, fun p hp => AnyK.tree ht hrv u (h3 p hp)⟩
theorem Any.tree {w : World} {tb : Nat} {q : Option Addr} {rv : Value} (ht : B.RowAt w tb #[.pointer q, rv] 100) (hrv : rv = .nilIface ∨ ∃ t x, rv = .iface t x) (u : Value) {p : C.Ch} (h : Any w p) : Any (w.setCell ⟨tb, 1, none⟩ u) p := by
  obtain ⟨k, h⟩ := h
  exact ⟨k, h.tree ht hrv u⟩
theorem Dv.tree {base : Nat} {A : Nat → Addr} {db : Nat} {F : Nat → Prop} {d : S.V.Dev} {w : World} (hv : Dv base A db F d w) {tb : Nat} (hb : base ≤ tb) (hf : ¬ F tb) (o : Nat) (u : Value) : Dv base A db F d (w.setCell ⟨tb, o, none⟩ u) := by
  have hs := S.Sole.set tb o w u
  obtain ⟨d1, n1, hd1⟩ := hv.dev
  have hst : S.V.Step (fun k => k = tb) (fun k => k = tb) w (w.setCell ⟨tb, o, none⟩ u) := ⟨hs.os, hs.tape, hs.output, hs.size, hs.block, fun _ h => .inl h⟩
  have hbl : Below base w (w.setCell ⟨tb, o, none⟩ u) := ⟨hs.os, hs.tape, hs.output, hs.size, fun k hk => hs.block k (Nat.lt_of_lt_of_le hk hv.env.errs.size) (by omega)⟩
  refine ⟨⟨d1, n1, hd1.keep hst (fun k hk e => hf (e ▸ hk))⟩, hv.env.keep hbl, ⟨fun i hi => ?_, hv.errs.2⟩, hv.up, hv.alive, hv.lo⟩
  obtain ⟨h1, c, t, h2⟩ := hv.errs.1 i hi
  have hg := hv.lo i hi
  exact ⟨(hbl.cell (p := ⟨gAll i, 0, none⟩) hg.1).trans h1, c, t, (hs.block _ (Array.getElem?_eq_some_iff.1 h2).1 (by omega)).trans h2⟩

/-- A tree of any kind. -/
def TrA (w : World) (db tb : Nat) : Prop := ∃ rv, B.RowAt w tb #[.pointer (some ⟨db, 0, none⟩), rv] 100 ∧ (rv = .nilIface ∨ ∃ p : C.Ch, rv = p.val ∧ Any w p)
theorem root_any {w w2 : World} {b : Nat} {n : SN} {pv lv cv u : Value} (hs : SNR w b n pv lv cv) (hf : FlA w n ()) (hr : RootS w b n (.returned u) w2) : u = .nilIface ∨ ∃ p : C.Ch, u = p.val ∧ Any w2 p := by
  have aw := Away.of hr.1
  rcases hr.2 with ⟨hbig, a, k, c, ba, bc, br, pa, la, ca, pc, lc, cc, pr, lr, cr, hcut, ha, hc, he, hsr⟩ | ⟨hbig, h0, h1, p, hp0, he⟩ | ⟨hbig, h0, h1, he⟩ | ⟨hbig, h1, he⟩
  · cases he
    obtain ⟨f1, f2, f3, f4⟩ := cutS_fit hcut ⟨hs.fine.1, hs.fine.2.2.1⟩ hf.1 hbig hf.2.1
    have hk := hcut.key hs.fine.1 hs.fine.2.2.1
    refine .inr ⟨_, rfl, Any.nd hsr ⟨.inr rfl, ?_, .inr (by simp)⟩ fun p hp => ?_⟩
    · rw [SN.sz_br (by simp)]
      have : k.size ≤ 255 := hk.2
      show B.szB [(k, 0)] ≤ 4072
      rw [B.szB_cons, szB_nil]; unfold B.szK; show 7 + k.size + 6 ≤ 4072; omega
    · simp only [List.mem_cons, List.not_mem_nil, or_false] at hp
      rcases hp with rfl | rfl
      · exact Any.nd ha f1 (fun q hq => (hf.2.2 q (f3 q hq)).away aw)
      · exact Any.nd hc f2 (fun q hq => (hf.2.2 q (f4 q hq)).away aw)
  · cases he
    exact .inr ⟨p, rfl, (hf.2.2 p (List.mem_of_getElem? hp0)).away aw⟩
  · cases he; exact .inl rfl
  · cases he
    refine .inr ⟨_, rfl, Any.nd (hs.away aw) ⟨hf.1, by omega, ?_⟩ fun q hq => (hf.2.2 q hq).away aw⟩
    rcases h1 with ⟨h, _⟩ | ⟨_, h⟩
    · exact .inl h
    · right; omega

end Go.Proofs.YtnaedmmfiiebaaaGreatDoor.T

namespace Go.Proofs
open Go.Shelf
def Tryz.lays316_ren : Go.Shelf.Ren := ⟨fun | 316 => 86 | n => n, fun | 5 => 5 | 9 => 9 | 3 => 3 | 4 => 4 | 37 => 145 | 0 => 0 | 127 => 207 | n => n, fun | n => n⟩
theorem Tryz.lays316 : Go.Proofs.LaysM.n316 Tryz.prog Tryz.lays316_ren := {
  mixed := by kernel_rfl
  f316 := Tryz.func86.trans (congrArg some (by kernel_rfl))
  t0 := Tryz.underlying0
  a0 := Tryz.isAgg0
  z0 := Tryz.sizeOf0
  v0 := Tryz.zeroValue0
  t3 := Tryz.underlying3
  a3 := Tryz.isAgg3
  z3 := Tryz.sizeOf3
  v3 := Tryz.zeroValue3
  t4 := Tryz.underlying4
  a4 := Tryz.isAgg4
  z4 := Tryz.sizeOf4
  v4 := Tryz.zeroValue4
  t5 := Tryz.underlying5
  a5 := Tryz.isAgg5
  z5 := Tryz.sizeOf5
  v5 := Tryz.zeroValue5
  t9 := Tryz.underlying9
  a9 := Tryz.isAgg9
  z9 := Tryz.sizeOf9
  v9 := Tryz.zeroValue9
  t37 := Tryz.underlying145
  a37 := Tryz.isAgg145
  z37 := Tryz.sizeOf145
  v37 := Tryz.zeroValue145
  t127 := Tryz.underlying207
  a127 := Tryz.isAgg207
  z127 := Tryz.sizeOf207
  v127 := Tryz.zeroValue207
  i0 := by kernel_rfl
  i3 := by kernel_rfl
  i4 := by kernel_rfl
  i5 := by kernel_rfl
  i9 := by kernel_rfl
  i37 := by kernel_rfl
  i127 := by kernel_rfl }
namespace YtnaedmmfiiebaaaGreatDoor.T
open Go.RowKit
theorem slclone_any (s : ByteArray) (w : World) (h : s.size ≤ 281474976710656) : Calls Tryz.prog 86 #[.string s] w fun e w' => e = .returned (.string s) ∧ Below w.heap.size w w' := Any.stringslite_Clone Tryz.lays316 s w h
theorem sclone_any (s : ByteArray) (w : World) (h : s.size ≤ 281474976710656) : Calls Tryz.prog 50 #[.string s] w fun e w' => e = .returned (.string s) ∧ Below w.heap.size w w' := by
  go_enter Tryz.func50, Tryz.ntmps50
  go_wp2_with fail
  refine (slclone_any s w h).mono ?_
  rintro e w1 ⟨rfl, hb⟩
  go_wp2_with fail
  go_ret
  exact ⟨rfl, hb⟩
end YtnaedmmfiiebaaaGreatDoor.T
end Go.Proofs

namespace Go.Proofs.YtnaedmmfiiebaaaGreatDoor.T
open Go.RowKit

/-- The trees of which nothing is read. -/
def noS (d : S.V.Dev) : Sys d Unit where
  K := fun _ _ _ => False
  N := fun _ _ _ => False
  E := False
  sub := fun _ _ _ => False
  rk := fun _ => 0
  ka := fun _ h => h
  na := fun _ h => h
  kid := fun h _ => h.elim
  fit := fun h => h.elim
  page := fun h => h.elim
  node := fun h => h.elim
  rks := .inr fun _ _ _ h => h.elim
/-- A tree of any kind, and what it stands on. -/
structure Tc (base : Nat) (A : Nat → Addr) (db : Nat) (F : Nat → Prop) (d : S.V.Dev) (W0 w : World) (tb : Nat) : Prop where
  dv : Dv base A db F d w
  tr : TrA w db tb
  st : S.V.Step F F W0 w
  lo : base ≤ tb ∧ W0.heap.size ≤ tb ∧ ¬ F tb
theorem TrA.away {w w' : World} {db tb : Nat} (h : TrA w db tb) (ha : Away w w') : TrA w' db tb := by
  obtain ⟨rv, h1, h2⟩ := h
  refine ⟨rv, tree_away ha h1, ?_⟩
  rcases h2 with h2 | ⟨p, h2, h3⟩
  · exact .inl h2
  · exact .inr ⟨p, h2, h3.away ha⟩
section
variable {base : Nat} {A : Nat → Addr} {db : Nat} {F : Nat → Prop} {d : S.V.Dev} {W0 : World}
theorem Tc.mv {w w' : World} {tb : Nat} (h : Tc base A db F d W0 w tb) (hm : Mv db F w w') (hv : Dv base A db F d w') : Tc base A db F d W0 w' tb := ⟨hv, h.tr.away (hm.away h.dv), h.st.trans hm.step, h.lo⟩
theorem Tc.below {w w' : World} {tb : Nat} (h : Tc base A db F d W0 w tb) (hb : Below w.heap.size w w') : Tc base A db F d W0 w' tb := h.mv (Mv.of hb) (h.dv.below hb)
/-- No refusal, or one of two. -/
def ErrV (A : Nat → Addr) (v : Value) : Prop := v = .nilIface ∨ v = .iface 360 (.pointer (some (A 0))) ∨ v = .iface 360 (.pointer (some (A 8)))
theorem ErrV.form {A : Nat → Addr} {v : Value} (h : ErrV A v) : v = .nilIface ∨ ∃ q, v = .iface 360 (.pointer (some q)) := by
  rcases h with h | h | h
  · exact .inl h
  · exact .inr ⟨_, h⟩
  · exact .inr ⟨_, h⟩
/-- What a change of the root leaves. -/
theorem Tc.root {w W W2 : World} {tb b : Nat} {n : SN} {pn ln cn u rv : Value} (h : Tc base A db F d W0 w tb) (hm : Mv db F w W2) (hv2 : Dv base A db F d W2) (ht2 : B.RowAt W2 tb #[.pointer (some ⟨db, 0, none⟩), rv] 100) (hrv : rv = .nilIface ∨ ∃ t x, rv = .iface t x) (hs : SNR W b n pn ln cn) (hf : FlA W n ()) (hr : RootS W b n (.returned u) W2) : Tc base A db F d W0 (W2.setCell ⟨tb, 1, none⟩ u) tb := by
  refine ⟨hv2.tree h.lo.1 h.lo.2.2 1 u, ⟨u, ?_, ?_⟩, ?_, h.lo⟩
  · exact B.RowAt.one ht2 u
  · rcases root_any hs hf hr with e | ⟨p, e, hp⟩
    · exact .inl e
    · exact .inr ⟨p, e, hp.tree ht2 hrv u⟩
  · have h1 := h.st.trans hm.step
    have hs := S.Sole.set tb 1 W2 u
    exact ⟨hs.os.trans h1.os, hs.tape.trans h1.tape, hs.output.trans h1.output, Nat.le_trans h1.size hs.size, fun k hk hn => (hs.block k (Nat.lt_of_lt_of_le hk h1.size) (by have := h.lo; omega)).trans (h1.block k hk hn), fun _ h => .inl h⟩
theorem rv_form {rv : Value} {w : World} (h : rv = .nilIface ∨ ∃ p : C.Ch, rv = p.val ∧ Any w p) : rv = .nilIface ∨ ∃ t x, rv = .iface t x := by
  rcases h with h | ⟨p, h, _⟩
  · exact .inl h
  · exact .inr (h ▸ val_form p)
theorem leaf_fl {ps : List Pr} (h : szL ps ≤ 5627) (W : World) : FlA W ⟨ps, 0, [], []⟩ () := by
  refine ⟨.inl rfl, ?_, fun p hp => by simp at hp⟩
  rw [SN.sz_leaf (by rfl)]
  unfold SN.maxs
  rw [if_pos (by rfl)]
  exact h
/-- change of an empty tree. -/
theorem change_none {w w1 : World} {tb : Nat} {pv : Value} {ps : List Pr} (h : Tc base A db F d W0 w tb) (hm : Mv db F w w1) (hv : Dv base A db F d w1) (ht : B.RowAt w1 tb #[.pointer (some ⟨db, 0, none⟩), .nilIface] 100) (hp : PrR w1 pv ps) (hpm : ∀ p ∈ ps, mayP p = true) (hsz : szL ps ≤ 5627) :
    Calls Tryz.prog 47 #[.pointer (some ⟨tb, 0, none⟩), .slice none 0 0, pv] w1 fun e w' => e = .returned .nilIface ∧ Tc base A db F d W0 w' tb := by
  have hl := szL_len ps
  have hc := change_sys (noS d) (fun _ _ => True) FlA (fun _ _ _ h => h.1) tb .nilIface none 0 [] [] () () pv ps w w1 (.inl ⟨rfl, rfl⟩) (by simp) (StO.nil _ _) rfl hp ⟨hpm, by omega⟩ (leaf_fl hsz) ht hv h.dv hm (fun W s z bb nb pb lb cb _ _ hok => (hok.2 : False).elim)
  refine hc.mono fun e w' hh => ?_
  rcases hh with ⟨hE, _⟩ | ⟨W, W2, b, n, pn, ln, cn, u, he, hs, hf, hr, hv2, hm2, ht2, rfl⟩
  · exact (hE : False).elim
  · exact ⟨he, h.root hm2 hv2 ht2 (.inl rfl) hs hf hr⟩
theorem change_any {w w1 : World} {tb : Nat} {Pk : SN → Nat → Prop} {a : Option Addr} {c : Nat} {ss : List (Stp Unit)} {s : Stp Unit} {rv pv : Value} {ps : List Pr} (h : Tc base A db F d W0 w tb) (hm : Mv db F w w1) (hv : Dv base A db F d w1) (ht : B.RowAt w1 tb #[.pointer (some ⟨db, 0, none⟩), rv] 100) (hrv : rv = .nilIface ∨ ∃ t x, rv = .iface t x) (hss : ss.length ≤ 64) (ho : StO w1 w.heap.size (.slice a (ss.length + 1) c) (ss.map Stp.lk ++ [s.lk])) (hway : Way (anyS d) Pk w1 () ss s.x) (hp : PrR w1 pv ps) (hpm : ∀ p ∈ ps, mayP p = true) (hsz : szL ps ≤ 5627) :
    Calls Tryz.prog 47 #[.pointer (some ⟨tb, 0, none⟩), .slice a (ss.length + 1) c, pv] w1 fun e w' => (∃ ev, e = .returned ev ∧ ErrV A ev) ∧ Tc base A db F d W0 w' tb := by
  have hl := szL_len ps
  have hL : (ss.map Stp.lk ++ [s.lk]).length = ss.length + 1 := by simp
  have hc := change_sys (anyS d) Pk FlA (fun _ _ _ h => h.1) tb rv a c (ss.map Stp.lk ++ [s.lk]) ss () s.x pv ps w w1 (.inr ⟨_, rfl⟩) hss (by rw [hL]; exact ho) hway hp ⟨hpm, by omega⟩ (leaf_fl hsz) ht hv h.dv hm (fun W s z bb nb pb lb cb h1 h2 h3 h4 h5 h6 h7 h8 h9 => settle_any Pk tb rv W s z bb nb pb lb cb h1 h2 h3 h4 h5 h6 h7 h8 h9)
  rw [hL] at hc
  refine hc.mono fun e w' hh => ?_
  rcases hh with ⟨_, he, hv2, hm2, _⟩ | ⟨W, W2, b, n, pn, ln, cn, u, he, hs, hf, hr, hv2, hm2, ht2, rfl⟩
  · exact ⟨⟨_, he, .inr (.inr rfl)⟩, h.mv hm2 hv2⟩
  · exact ⟨⟨_, he, .inl rfl⟩, h.root hm2 hv2 ht2 hrv hs hf hr⟩
end
theorem chk_one (p : Pr) : chk [p] true = if mayP p = true then none else some 0 := by
  unfold chk
  by_cases h : mayP p = true
  · rw [if_pos h]
    have hp := may_parts' h
    rw [if_neg (by simp [h]), if_neg (by
      intro hr
      apply hr
      intro i hi
      simp at hi), if_neg (by
      have := szL_max (l := [p]) (by simpa using h)
      simp at this
      omega), if_neg (by simp)]
  · rw [if_neg h, if_pos (by simp [h])]
theorem pfault_any (A : Nat → Addr) (key value : ByteArray) (w : World) (hk : key.size ≤ 140737488355328) (hv : value.size ≤ 140737488355328) (hE : ErrC A w) :
    Calls Tryz.prog 45 #[.string key, .string value] w fun e w' => e = .returned (if mayP (key, value) = true then .nilIface else .iface 360 (.pointer (some (A 0)))) ∧ Below w.heap.size w w' := by
  have q0 := below_new w (.cells #[.string key, .string value] 52)
  have HC := hide (lcheck_any A _ [(key, value)] true _ (by intro p hp; simp at hp; subst hp; exact ⟨hk, hv⟩) (by simp) (prR_lit w (key, value) 52) (hE.below q0))
  rw [chk_one] at HC
  have HQ := hide q0
  obtain ⟨v, hve, hvf⟩ : ∃ v, v = errV A (if mayP (key, value) = true then none else some 0) ∧ (v = .nilIface ∨ ∃ q, v = .iface 360 (.pointer (some q))) := by
    refine ⟨_, rfl, ?_⟩
    split
    · exact .inl rfl
    · exact .inr ⟨_, rfl⟩
  rw [← hve] at HC
  have HV : Hid (v = if mayP (key, value) = true then .nilIface else .iface 360 (.pointer (some (A 0)))) := by
    show v = _
    rw [hve]
    split <;> rfl
  rw [← HV.out]
  clear hve q0 hE hk hv
  go_enter Tryz.func45, Tryz.ntmps45
  go_wp2_with fail
  refine HC.out.mono ?_
  rintro e w1 ⟨rfl, hb⟩
  have HB := hide (Below.next HQ.out hb)
  clear hb HC
  rcases hvf with rfl | ⟨q, rfl⟩
  · go_wp2
    go_ret
    exact ⟨rfl, HB.out⟩
  · go_wp2
    go_ret
    exact ⟨rfl, HB.out⟩
theorem setL_sz (l : List Pr) (key value : ByteArray) : szL (setL l key value) ≤ szL l + szP (key, value) := by
  unfold setL
  have h1 : szL l = szL (l.take (findN l key)) + szL (l.drop (findN l key)) := by rw [← szL_append, List.take_append_drop]
  have h2 : szL (l.drop (behindN l key)) ≤ szL (l.drop (findN l key)) := by
    unfold behindN
    split
    · have : szL (l.drop (findN l key)) = szL ((l.drop (findN l key)).take 1) + szL ((l.drop (findN l key)).drop 1) := by rw [← szL_append, List.take_append_drop]
      rw [List.drop_drop] at this
      omega
    · exact Nat.le_refl _
  rw [szL_append]
  have h3 : szL ((key, value) :: l.drop (behindN l key)) = szP (key, value) + szL (l.drop (behindN l key)) := by simp [szL]
  omega
theorem setL_may {l : List Pr} {key value : ByteArray} (h : ∀ p ∈ l, mayP p = true) (hm : mayP (key, value) = true) : ∀ p ∈ setL l key value, mayP p = true := fun p hp => by
  unfold setL at hp
  rcases List.mem_append.1 hp with hp | hp
  · exact h p (List.mem_of_mem_take hp)
  · rcases List.mem_cons.1 hp with rfl | hp
    · exact hm
    · exact h p (List.mem_of_mem_drop hp)

end Go.Proofs.YtnaedmmfiiebaaaGreatDoor.T
