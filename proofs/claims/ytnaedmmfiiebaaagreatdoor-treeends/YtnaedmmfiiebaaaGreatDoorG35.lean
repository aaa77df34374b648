import Derived.Test.YtnaedmmfiiebaaaGreatDoorG34
namespace Go.Proofs.YtnaedmmfiiebaaaGreatDoor.T
open Go.RowKit

/-- A block in which no node, no tree and no part of one lies. -/
def Odd (w : World) (k : Nat) : Prop :=
  (∀ j v, w.cell? ⟨k, j, none⟩ = some v → (∀ s, v ≠ .string s) ∧ ∀ t x, v ≠ .iface t x) ∧ (∀ cs fr, w.heap[k]? ≠ some (.cells cs 155 fr)) ∧ ∀ cs fr, w.heap[k]? ≠ some (.cells cs 100 fr)
/-- Nothing of a node turns. -/
structure Away (w w' : World) : Prop where
  size : w.heap.size ≤ w'.heap.size
  block : ∀ k, k < w.heap.size → w'.heap[k]? = w.heap[k]? ∨ Odd w k
theorem Away.of {w w' : World} (h : Below w.heap.size w w') : Away w w' := ⟨h.size, fun k hk => .inl (h.block k hk)⟩
theorem Mv.away {base : Nat} {A : Nat → Addr} {db : Nat} {F : Nat → Prop} {d : S.V.Dev} {w w' : World} (h : Mv db F w w') (hv : Dv base A db F d w) : Away w w' := ⟨h.size, fun k hk => by
  by_cases e : k = db
  · subst e
    obtain ⟨d', _, hd⟩ := hv.dev
    refine .inr ⟨fun j v hc => dev_kinds hd hc, ?_, ?_⟩
    · intro cs fr h1
      obtain ⟨mb, nb, pv', av, Dn, hb⟩ := hd
      rw [hb.blk] at h1
      simp at h1
    · intro cs fr h1
      obtain ⟨mb, nb, pv', av, Dn, hb⟩ := hd
      rw [hb.blk] at h1
      simp at h1
  · exact .inl (h.one.block k hk e)⟩
theorem Away.str {w w' : World} (h : Away w w') {g o : Nat} {s : ByteArray} (hc : w.cell? ⟨g, o, none⟩ = some (.string s)) : w'.heap[g]? = w.heap[g]? :=
  (h.block g (World.block_lt_of_cell? w _ hc)).elim id fun e => absurd rfl ((e.1 o _ hc).1 s)
theorem Away.ifc {w w' : World} (h : Away w w') {g o : Nat} {t : TypeId} {x : Value} (hc : w.cell? ⟨g, o, none⟩ = some (.iface t x)) : w'.heap[g]? = w.heap[g]? :=
  (h.block g (World.block_lt_of_cell? w _ hc)).elim id fun e => absurd rfl ((e.1 o _ hc).2 t x)
theorem cell_same {w w' : World} {g o : Nat} {v : Value} (h : w'.heap[g]? = w.heap[g]?) (hc : w.cell? ⟨g, o, none⟩ = some v) : w'.cell? ⟨g, o, none⟩ = some v :=
  (World.cell?_of_block (a := ⟨g, o, none⟩) h).trans hc
theorem prR_away {w w' : World} (h : Away w w') {v : Value} {l : List Pr} (hr : PrR w v l) : PrR w' v l := by
  obtain ⟨a, cap, rfl, hle, hn, hc⟩ := hr
  refine ⟨a, cap, rfl, hle, hn, fun j hj => ?_⟩
  obtain ⟨g, o, ha, h1, h2⟩ := hc j hj
  have hg := h.str h1
  exact ⟨g, o, ha, cell_same hg h1, cell_same hg h2⟩
theorem lkR_away {w w' : World} (h : Away w w') {v : Value} {l : List B.Lk} (hr : B.LkR w v l) : B.LkR w' v l := by
  obtain ⟨a, cap, rfl, hle, hn, hc⟩ := hr
  refine ⟨a, cap, rfl, hle, hn, fun j hj => ?_⟩
  obtain ⟨g, o, ha, h1, h2⟩ := hc j hj
  have hg := h.str h1
  exact ⟨g, o, ha, cell_same hg h1, cell_same hg h2⟩
theorem chR_away {w w' : World} (h : Away w w') {v : Value} {l : List C.Ch} (hr : C.LkR w v l) : C.LkR w' v l := by
  obtain ⟨a, cap, rfl, hle, hn, hc⟩ := hr
  refine ⟨a, cap, rfl, hle, hn, fun j u hj => ?_⟩
  obtain ⟨g, o, ha, h1⟩ := hc j u hj
  obtain ⟨p, _, rfl⟩ : ∃ p ∈ l, p.val = u := by
    have := List.mem_of_getElem? hj
    simpa [C.lks] using this
  obtain ⟨t, x, hp⟩ := val_form p
  have hg := h.ifc (hp ▸ h1)
  exact ⟨g, o, ha, cell_same hg h1⟩
theorem SNR.away {w w' : World} (h : Away w w') {b : Nat} {n : SN} {pv lv cv : Value} (hs : SNR w b n pv lv cv) : SNR w' b n pv lv cv := by
  refine ⟨?_, prR_away h hs.prs, lkR_away h hs.lks, chR_away h hs.kids, hs.fine⟩
  rcases h.block b hs.row.lt with e | e
  · exact e.trans hs.row
  · exact absurd hs.row (e.2.1 _ _)
theorem tree_away {w w' : World} (h : Away w w') {b : Nat} {cs : Array Value} (hs : B.RowAt w b cs 100) : B.RowAt w' b cs 100 := by
  rcases h.block b hs.lt with e | e
  · exact e.trans hs
  · exact absurd hs (e.2.2 _ _)

theorem Dv.dblt {base : Nat} {A : Nat → Addr} {db : Nat} {F : Nat → Prop} {d : S.V.Dev} {w : World} (h : Dv base A db F d w) : db < w.heap.size := by
  obtain ⟨d', _, mb, nb, pv', av, Dn, hb⟩ := h.dev
  exact (Array.getElem?_eq_some_iff.1 hb.blk).1
theorem Dv.grown {base : Nat} {A : Nat → Addr} {db : Nat} {F : Nat → Prop} {d : S.V.Dev} {w0 w1 w2 : World} (hv1 : Dv base A db F d w1) (hbg : Below w0.heap.size w1 w2) (hm : Mv db F w0 w1) (hv0 : Dv base A db F d w0) : Dv base A db F d w2 ∧ Mv db F w0 w2 := by
  obtain ⟨d1, n1, hd1⟩ := hv1.dev
  obtain ⟨d0, n0, hd0⟩ := hv0.dev
  have hF0 : ∀ k, F k → k < w0.heap.size := hd0.lt
  have hs : S.V.Step (fun k => w0.heap.size ≤ k) (fun k => w0.heap.size ≤ k) w1 w2 := ⟨hbg.os, hbg.tape, hbg.output, hbg.size, fun k hk hn => hbg.block k (by omega), fun _ h => .inl h⟩
  have hd2 : S.V.DevAt w2 db F d1 := hd1.keep hs (fun k hk e => by have := hF0 k hk; omega)
  have hm2 : Mv db F w0 w2 := ⟨⟨hbg.os.trans hm.step.os, hbg.tape.trans hm.step.tape, hbg.output.trans hm.step.output, Nat.le_trans hm.size hbg.size, fun k hk hn => (hbg.block k hk).trans (hm.step.block k hk hn), fun _ h => .inl h⟩, ⟨hbg.os.trans hm.step.os, hbg.tape.trans hm.step.tape, hbg.output.trans hm.step.output, Nat.le_trans hm.size hbg.size, fun k hk hn => (hbg.block k hk).trans (hm.one.block k hk hn), fun _ h => .inl h⟩⟩
  exact ⟨⟨⟨d1, n1, hd2⟩, hv1.env.keep (hbg.mono hv0.env.errs.size), errs_one hm2.one hd0 hd2 hv0.errs, hv1.up, hv1.alive, hv1.lo⟩, hm2⟩

/-- What lies in a list of steps. -/
def Plain (u : Value) : Prop := (∃ p, u = .pointer p) ∨ ∃ k x, u = .int k x
theorem Plain.no {u : Value} (h : Plain u) : (∀ s, u ≠ .string s) ∧ ∀ t x, u ≠ .iface t x := by
  rcases h with ⟨p, rfl⟩ | ⟨k, x, rfl⟩
  · exact ⟨(fun s e => by cases e), (fun t x e => by cases e)⟩
  · exact ⟨(fun s e => by cases e), (fun t x e => by cases e)⟩
theorem lks_plain (l : List W.Lk) : ∀ u ∈ W.lks l, Plain u := by
  intro u hu
  simp only [W.lks, List.mem_flatMap] at hu
  obtain ⟨p, _, h⟩ := hu
  simp at h
  rcases h with rfl | rfl
  · exact .inl ⟨_, rfl⟩
  · exact .inr ⟨_, _, rfl⟩
/-- A list of steps of the call's own. -/
def StO (w : World) (base : Nat) (v : Value) (l : List W.Lk) : Prop :=
  W.LkO w base v l ∧ ∀ g, v.ownBlock = some g → ∃ cur, w.heap[g]? = some (.cells cur 159 (0, 0)) ∧ ∀ u ∈ cur.toList, Plain u
theorem StO.nil (w : World) (base : Nat) : StO w base (.slice none 0 0) [] := ⟨W.LkO.nil w base, fun g h => by simp [Value.ownBlock] at h⟩
theorem StO.odd {w : World} {base : Nat} {v : Value} {l : List W.Lk} (h : StO w base v l) {g : Nat} (hg : v.ownBlock = some g) : Odd w g := by
  obtain ⟨cur, h1, h2⟩ := h.2 g hg
  refine ⟨fun j u hc => ?_, fun cs fr e => ?_, fun cs fr e => ?_⟩
  · rw [cell_of_row w g j cur _ _ h1] at hc
    exact (h2 u (by have := Array.getElem?_eq_some_iff.1 hc; obtain ⟨h3, h4⟩ := this; rw [← h4]; exact Array.getElem_mem_toList h3)).no
  · rw [h1] at e; simp at e
  · rw [h1] at e; simp at e
theorem StO.below {w w' : World} {base : Nat} {v : Value} {l : List W.Lk} (h : StO w base v l) (hb : Below w.heap.size w w') : StO w' base v l := by
  refine ⟨h.1.below hb, fun g hg => ?_⟩
  obtain ⟨cur, h1, h2⟩ := h.2 g hg
  exact ⟨cur, (hb.block g (Array.getElem?_eq_some_iff.1 h1).1).trans h1, h2⟩
theorem StO.mv {db : Nat} {F : Nat → Prop} {w w' : World} {base : Nat} {v : Value} {l : List W.Lk} (h : StO w base v l) (hm : Mv db F w w') (hdb : db < base) : StO w' base v l := by
  refine ⟨⟨h.1.1, ?_⟩, fun g hg => ?_⟩
  · rcases h.1.2 with h' | ⟨g, cap, cur, h', h1, h2, hr⟩
    · exact .inl h'
    · exact .inr ⟨g, cap, cur, h', h1, (hm.one.block g (Array.getElem?_eq_some_iff.1 h2).1 (by omega)).trans h2, hr⟩
  · obtain ⟨cur, h1, h2⟩ := h.2 g hg
    have := (h.1.blk g hg).1
    exact ⟨cur, (hm.one.block g (Array.getElem?_eq_some_iff.1 h1).1 (by omega)).trans h1, h2⟩
theorem zero_plain (n : Nat) : ∀ u ∈ (Builtin.zeroCells (Value.agg #[.pointer none, .int .i64 0]).cells n).toList, Plain u := by
  intro u hu
  simp only [Builtin.zeroCells, Value.cells] at hu
  simp at hu
  obtain ⟨i, _, rfl⟩ := hu
  rcases Nat.mod_two_eq_zero_or_one i with h | h
  · rw [h]; exact .inl ⟨none, rfl⟩
  · rw [h]; exact .inr ⟨.i64, 0, rfl⟩
/-- way = append(way, step). -/
theorem StO.push (base : Nat) (v : Value) (l : List W.Lk) (p : W.Lk) (w : World) (h : StO w base v l) (hn : l.length ≤ 100000) (hbase : base ≤ w.heap.size) :
    ∃ a' c' w', (Builtin.append_ #[101, 101] 101 #[v, .slice (some ⟨w.heap.size, 0, none⟩) 1 1]).run Tryz.prog (w.alloc (.cells #[.pointer (some ⟨p.1, 0, none⟩), .int .i64 p.2] 159)) = .ok (.slice a' (l.length + 1) c') w' ∧ StO w' base (.slice a' (l.length + 1) c') (l ++ [p]) ∧ (w.alloc (.cells #[.pointer (some ⟨p.1, 0, none⟩), .int .i64 p.2] 159)).grownBy w' v.ownBlock ∧ Away w w' ∧ (∀ g, (Value.slice a' (l.length + 1) c').ownBlock = some g → v.ownBlock = some g ∨ w.heap.size ≤ g) := by
  obtain ⟨i0, hi, hz, hsz, hby⟩ := info_parts W.infoK
  have ho : W.LkO (w.alloc (.cells #[.pointer (some ⟨p.1, 0, none⟩), .int .i64 p.2] 159)) base v l := World.ownsRow.alloc h.1 _
  obtain ⟨a', c', w', hr, hown, hg⟩ := W.append_lks base v _ l [p] _ ho (W.lkR_lit w p 159) (by simp; omega) (by simp; omega)
  have aw : Away w w' := ⟨by have := hg.size; simp at this; omega, fun k hk => by
    by_cases e : some k = v.ownBlock
    · exact .inr (h.odd e.symm)
    · left
      rw [hg.block k (by simp; omega) e]
      exact heap_alloc_old w _ hk⟩
  have hbx := boxed_new w #[.pointer (some ⟨p.1, 0, none⟩), .int .i64 p.2] 159
  have hnews : ∀ j u, ([.pointer (some ⟨p.1, 0, none⟩), .int .i64 p.2] : List Value)[j]? = some u → (w.alloc (.cells #[.pointer (some ⟨p.1, 0, none⟩), .int .i64 p.2] 159)).cell? ((⟨w.heap.size, 0, none⟩ : Addr).add j) = some u := fun j u hj => by
    rw [add_plain', Nat.zero_add]
    match j, hj with
    | 0, hj => cases hj; exact hbx.2 0 (by simp)
    | 1, hj => cases hj; exact hbx.2 1 (by simp)
  have hnp : ∀ u ∈ ([.pointer (some ⟨p.1, 0, none⟩), .int .i64 p.2] : List Value), Plain u := lks_plain [p]
  suffices hh : (∀ g, (Value.slice a' (l.length + 1) c').ownBlock = some g → v.ownBlock = some g ∨ w.heap.size ≤ g) ∧ ∀ g, (Value.slice a' (l.length + 1) c').ownBlock = some g → ∃ cur, w'.heap[g]? = some (.cells cur 159 (0, 0)) ∧ ∀ u ∈ cur.toList, Plain u from ⟨a', c', w', hr, ⟨hown, hh.2⟩, hg, aw, hh.1⟩
  rcases h.1.2 with ⟨rfl, h0⟩ | ⟨g0, cap, cur, rfl, hb0, hg0, hnc, hcm, hcs, htk⟩
  · have hq := run_append_nil (P := Tryz.prog) (w.alloc (.cells #[.pointer (some ⟨p.1, 0, none⟩), .int .i64 p.2] 159)) 101 101 159 i0 _ Tryz.underlying101 hi hz ⟨w.heap.size, 0, none⟩ 1 1 _ (by rw [hsz]; rfl) hnews (by omega) (by omega) (by rw [hby]; omega)
    rw [hq] at hr
    simp only [Result.ok.injEq, Value.slice.injEq] at hr
    obtain ⟨⟨rfl, -, -⟩, rfl⟩ := hr
    refine ⟨fun g hgb => ?_, fun g hgb => ?_⟩
    · simp only [Value.ownBlock, Option.some.injEq] at hgb
      right; subst hgb; simp
    simp only [Value.ownBlock, Option.some.injEq] at hgb
    subst hgb
    refine ⟨_, heap_alloc_new (World.drew _) _, fun u hu => ?_⟩
    simp only [Array.toList_append, List.mem_append] at hu
    rcases hu with hu | hu
    · exact hnp u (by simpa using hu)
    · exact zero_plain _ u hu
  · have hg1 : (w.alloc (.cells #[.pointer (some ⟨p.1, 0, none⟩), .int .i64 p.2] 159)).heap[g0]? = some (.cells cur 159 (0, 0)) := (heap_alloc_old w _ (Array.getElem?_eq_some_iff.1 hg0).1).trans hg0
    have hcp : ∀ u ∈ cur.toList, Plain u := by
      obtain ⟨cur', h1, h2⟩ := h.2 g0 rfl
      rw [hg0] at h1
      simp only [Option.some.injEq, Obj.cells.injEq, and_true] at h1
      subst h1
      exact h2
    by_cases hroom : l.length + 1 ≤ cap
    · have hq := run_append_room (P := Tryz.prog) (w.alloc (.cells #[.pointer (some ⟨p.1, 0, none⟩), .int .i64 p.2] 159)) 101 101 159 i0 Tryz.underlying101 hi g0 l.length cap cur hg1 ⟨w.heap.size, 0, none⟩ 1 1 _ (by rw [hsz]; rfl) hnews (by intro u hu; rcases hnp u hu with ⟨q, rfl⟩ | ⟨q, x, rfl⟩ <;> rfl) hroom (by rw [hsz, hcs]; simp; omega)
      rw [hq] at hr
      simp only [Result.ok.injEq, Value.slice.injEq] at hr
      obtain ⟨⟨rfl, -, -⟩, rfl⟩ := hr
      refine ⟨fun g hgb => ?_, fun g hgb => ?_⟩
      · simp only [Value.ownBlock, Option.some.injEq] at hgb
        left; subst hgb; rfl
      simp only [Value.ownBlock, Option.some.injEq] at hgb
      subst hgb
      refine ⟨_, setRow_heap _ g0 cur _ _ _ hg1, fun u hu => ?_⟩
      simp only [List.mem_append] at hu
      rcases hu with (hu | hu) | hu
      · exact hcp u (List.mem_of_mem_take hu)
      · exact hnp u hu
      · exact hcp u (List.mem_of_mem_drop hu)
    · have hlo : (W.lks l).length = l.length * i0.size := by rw [hsz]; exact W.lks_length l
      have holds : ∀ j u, (W.lks l)[j]? = some u → (w.alloc (.cells #[.pointer (some ⟨p.1, 0, none⟩), .int .i64 p.2] 159)).cell? ((⟨g0, 0, none⟩ : Addr).add j) = some u := World.ownsRow.cells ho (g := g0) rfl
      have hq := run_append_grow (P := Tryz.prog) (w.alloc (.cells #[.pointer (some ⟨p.1, 0, none⟩), .int .i64 p.2] 159)) 101 101 159 i0 _ Tryz.underlying101 hi hz ⟨g0, 0, none⟩ l.length cap (W.lks l) hlo holds ⟨w.heap.size, 0, none⟩ 1 1 _ (by rw [hsz]; rfl) hnews (by omega) (by omega) (growslice_fits (by omega) (by rw [hby]; omega))
      rw [hq] at hr
      simp only [Result.ok.injEq, Value.slice.injEq] at hr
      obtain ⟨⟨rfl, -, -⟩, rfl⟩ := hr
      refine ⟨fun g hgb => ?_, fun g hgb => ?_⟩
      · simp only [Value.ownBlock, Option.some.injEq] at hgb
        right; subst hgb; simp
      simp only [Value.ownBlock, Option.some.injEq] at hgb
      subst hgb
      refine ⟨_, heap_alloc_new (World.drew _) _, fun u hu => ?_⟩
      simp only [Array.toList_append, List.mem_append] at hu
      rcases hu with (hu | hu) | hu
      · exact lks_plain l u (by simpa using hu)
      · exact hnp u (by simpa using hu)
      · exact zero_plain _ u hu

end Go.Proofs.YtnaedmmfiiebaaaGreatDoor.T

namespace Go.Proofs.YtnaedmmfiiebaaaGreatDoor.T
open Go.RowKit

/-- What every node of a tree is, be the tree sound or not. -/
def Fit (n : SN) : Prop := n.kin ∧ n.sz ≤ 4072 ∧ (n.us.length = 0 ∨ 1 ≤ n.lk.length)
/-- What a tree's children and nodes are taken for: K of a child, N of a node, each with what it stands for; E: a read may fail. -/
structure Sys (d : S.V.Dev) (X : Type) where
  K : World → C.Ch → X → Prop
  N : World → SN → X → Prop
  E : Prop
  sub : X → Nat → X → Prop
  rk : X → Nat
  ka : ∀ {w w' : World} {p : C.Ch} {x : X}, Away w w' → K w p x → K w' p x
  na : ∀ {w w' : World} {n : SN} {x : X}, Away w w' → N w n x → N w' n x
  kid : ∀ {w : World} {n : SN} {x : X} {i : Nat} {p : C.Ch}, N w n x → n.us[i]? = some p → ∃ y, sub x i y ∧ K w p y
  fit : ∀ {w : World} {n : SN} {x : X}, N w n x → Fit n
  page : ∀ {w : World} {id : Int} {x : X}, K w (.pg id) x → (PGof d id = none ∧ E) ∨ ∃ p, PGof d id = some p ∧ ∀ w', N w' p.sn x
  node : ∀ {w : World} {b : Nat} {x : X}, K w (.nd b) x → ∃ n pv lv cv, SNR w b n pv lv cv ∧ N w n x
  rks : E ∨ ∀ x i y, sub x i y → rk y + 1 ≤ rk x
/-- The refusal of a page that is no node. -/
def badE (A : Nat → Addr) : Ending := .returned (.tuple #[.pointer none, .iface 360 (.pointer (some (A 8)))])
/-- What a read of a child answers. -/
def ReadS {d : S.V.Dev} {X : Type} (S : Sys d X) (A : Nat → Addr) (x : X) (e : Ending) (w' : World) : Prop :=
  (S.E ∧ e = badE A) ∨ ∃ b n pv lv cv, e = .returned (.tuple #[.pointer (some ⟨b, 0, none⟩), .nilIface]) ∧ SNR w' b n pv lv cv ∧ S.N w' n x

set_option maxRecDepth 100000 in
set_option maxHeartbeats 2000000 in
theorem readc_sys {base : Nat} {A : Nat → Addr} {db : Nat} {F : Nat → Prop} {d : S.V.Dev} {X : Type} (S : Sys d X) (p : C.Ch) (x : X) (tb : Nat) (rv : Value) (w : World) (hk : S.K w p x) (ht : B.RowAt w tb #[.pointer (some ⟨db, 0, none⟩), rv] 100) (hv : Dv base A db F d w) :
    Calls Tryz.prog 104 #[.pointer (some ⟨tb, 0, none⟩), p.val] w fun e w' => ReadS S A x e w' ∧ Dv base A db F d w' ∧ Mv db F w w' := by
  cases p with
  | pg id =>
    have HL := hide (nload_gen base A db F d id w hv)
    have HK := hide (S.page hk)
    have c0 := ht.c0
    have a1 := fun W => as_pp (.int .i64 id) W
    clear hk ht hv
    show Calls Tryz.prog 104 #[.pointer (some ⟨tb, 0, none⟩), .iface 146 (.int .i64 id)] w fun e w' => ReadS S A x e w' ∧ Dv base A db F d w' ∧ Mv db F w w'
    go_enter Tryz.func104, Tryz.ntmps104
    go_wp2_with fail
    refine HL.out.mono ?_
    rintro e w1 ⟨hr, h1, h2⟩
    have hrs : ReadS S A x e w1 := by
      rcases hr with ⟨g1, g2⟩ | ⟨q, b, pv, lv, cv, g1, g2, g3⟩
      · rcases HK.out with ⟨_, k2⟩ | ⟨q, k1, _⟩
        · exact .inl ⟨k2, g2⟩
        · rw [g1] at k1; cases k1
      · rcases HK.out with ⟨k1, _⟩ | ⟨q', k1, k2⟩
        · rw [g1] at k1; cases k1
        · rw [g1] at k1; cases k1
          exact .inr ⟨b, q.sn, pv, lv, cv, g2, g3, k2 w1⟩
    obtain ⟨pp, vv, he, -, hvv⟩ := hr.form
    subst he
    have HR : Hid (ReadS S A x (.returned (.tuple #[.pointer pp, vv])) w1 ∧ Dv base A db F d w1 ∧ Mv db F w w1) := ⟨hrs, h1, h2⟩
    clear hr hrs h1 h2 HL c0 HK
    rcases hvv with rfl | rfl
    · go_wp2
      go_ret2
      exact HR.out
    · go_wp2
      go_ret2
      exact HR.out
  | nd b =>
    obtain ⟨n, pv, lv, cv, hs, hn⟩ := S.node hk
    have HR : Hid (ReadS S A x (.returned (.tuple #[.pointer (some ⟨b, 0, none⟩), .nilIface])) w ∧ Dv base A db F d w ∧ Mv db F w w) := ⟨.inr ⟨b, n, pv, lv, cv, rfl, hs, hn⟩, hv, Mv.refl _ _ _⟩
    clear hs hn ht hv hk
    have a1 := fun W => as_np (.pointer (some ⟨b, 0, none⟩)) W
    have a2 := fun W => as_nn (.pointer (some ⟨b, 0, none⟩)) W
    show Calls Tryz.prog 104 #[.pointer (some ⟨tb, 0, none⟩), .iface 152 (.pointer (some ⟨b, 0, none⟩))] w fun e w' => ReadS S A x e w' ∧ Dv base A db F d w' ∧ Mv db F w w'
    go_enter Tryz.func104, Tryz.ntmps104
    go_wp2
    go_ret2
    exact HR.out
theorem ReadS.form {d : S.V.Dev} {X : Type} {S : Sys d X} {A : Nat → Addr} {x : X} {e : Ending} {w' : World} (h : ReadS S A x e w') : ∃ p v, e = .returned (.tuple #[.pointer p, v]) ∧ (v = .nilIface ∨ v = .iface 360 (.pointer (some (A 8)))) := by
  rcases h with ⟨_, rfl⟩ | ⟨b, n, pv, lv, cv, rfl, _⟩
  · exact ⟨_, _, rfl, .inr rfl⟩
  · exact ⟨_, _, rfl, .inl rfl⟩
set_option maxRecDepth 100000 in
set_option maxHeartbeats 2000000 in
theorem readat_sys {base : Nat} {A : Nat → Addr} {db : Nat} {F : Nat → Prop} {d : S.V.Dev} {X : Type} (S : Sys d X) (p : C.Ch) (x : X) (tb : Nat) (rv : Value) (dp : Nat) (w : World) (hk : S.K w p x) (ht : B.RowAt w tb #[.pointer (some ⟨db, 0, none⟩), rv] 100) (hv : Dv base A db F d w) (hlim : S.E ∨ dp ≤ 64) :
    Calls Tryz.prog 91 #[.pointer (some ⟨tb, 0, none⟩), p.val, .int .i64 (dp : Int)] w fun e w' => (ReadS S A x e w' ∧ (64 < dp → e = badE A)) ∧ Dv base A db F d w' ∧ Mv db F w w' := by
  obtain ⟨pt, px, hpv⟩ := val_form p
  by_cases hdp : 64 < dp
  · have hE : S.E := hlim.resolve_right (by omega)
    have hle : (64 : Int) < (dp : Int) := by omega
    have g8 : w.cell? ⟨8, 0, none⟩ = some (.iface 360 (.pointer (some (A 8)))) := hv.g 8 (by decide)
    have HR : Hid ((ReadS S A x (badE A) w ∧ (64 < dp → badE A = badE A)) ∧ Dv base A db F d w ∧ Mv db F w w) := ⟨⟨.inl ⟨hE, rfl⟩, fun _ => rfl⟩, hv, Mv.refl _ _ _⟩
    have HEE := hide hE
    rw [hpv]
    clear hk ht hv hE hlim hpv
    go_enter Tryz.func91, Tryz.ntmps91
    go_wp2_with fail
    go_quiet (fail)
    go_wp2
    go_ret2
    exact ⟨⟨.inl ⟨(HEE.out), rfl⟩, fun _ => rfl⟩, HR.out.2.1.below (below_drewN' (Below.refl _ _) _), HR.out.2.2.trans (Mv.of (below_drewN' (Below.refl _ _) _))⟩
  · have HL := hide (readc_sys S p x tb rv w hk ht hv)
    rw [hpv] at HL ⊢
    have hle : ¬ (64 : Int) < (dp : Int) := by omega
    clear hk ht hv hpv hlim
    go_enter Tryz.func91, Tryz.ntmps91
    go_wp2_with fail
    refine HL.out.mono ?_
    rintro e w1 ⟨hr, h1, h2⟩
    obtain ⟨pp, vv, he, hvv⟩ := hr.form
    subst he
    have HR : Hid ((ReadS S A x (.returned (.tuple #[.pointer pp, vv])) w1 ∧ (64 < dp → .returned (.tuple #[.pointer pp, vv]) = badE A)) ∧ Dv base A db F d w1 ∧ Mv db F w w1) := ⟨⟨hr, fun h => absurd h hdp⟩, h1, h2⟩
    clear hr h1 h2 HL
    rcases hvv with rfl | rfl
    · go_wp2
      go_ret2
      exact HR.out
    · go_wp2
      go_ret2
      exact HR.out

end Go.Proofs.YtnaedmmfiiebaaaGreatDoor.T
