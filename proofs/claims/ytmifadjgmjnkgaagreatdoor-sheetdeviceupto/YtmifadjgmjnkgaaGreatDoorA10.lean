import Derived.Test.YtmifadjgmjnkgaaGreatDoorErrs
import Derived.Test.YtmifadjgmjnkgaaGreatDoorA1
import Derived.Test.YtmifadjgmjnkgaaGreatDoorA8
import Derived.Test.YtmifadjgmjnkgaaGreatDoorRStore
import Derived.Test.YtmifadjgmjnkgaaGreatDoorPg
namespace Go.Proofs.YtmifadjgmjnkgaaGreatDoor
open Go.RowKit

set_option maxHeartbeats 400000 in
theorem num_nil (w : World) : Calls Tryz.prog 7 #[.nilIface] w fun e w' => e = .returned (.int .i64 0) ∧ w = w' := by
  go_enter Tryz.func7, Tryz.ntmps7
  go_wp2
  go_ret
  exact ⟨rfl, rfl⟩

set_option maxHeartbeats 400000 in
theorem num_arg (A : Nat → Addr) (w : World) (h : ErrsAt A w) : Calls Tryz.prog 7 #[.iface 158 (.pointer (some (A 0)))] w fun e w' => e = .returned (.int .i64 1) ∧ w = w' := by
  have c0 : w.cell? ⟨0, 0, none⟩ = some (.iface 158 (.pointer (some (A 0)))) := (h.1 0 (by decide)).1
  have e0 := eq_same A 0
  clear h
  go_enter Tryz.func7, Tryz.ntmps7
  go_wp2
  go_ret
  exact ⟨rfl, rfl⟩

end Go.Proofs.YtmifadjgmjnkgaaGreatDoor

namespace Go.Proofs.YtmifadjgmjnkgaaGreatDoor
open Go.RowKit

set_option maxHeartbeats 400000 in
theorem num_text (A : Nat → Addr) (w : World) (h : ErrsAt A w) : Calls Tryz.prog 7 #[.iface 158 (.pointer (some (A 1)))] w fun e w' => e = .returned (.int .i64 2) ∧ w = w' := by
  have c0 : w.cell? ⟨0, 0, none⟩ = some (.iface 158 (.pointer (some (A 0)))) := (h.1 0 (by decide)).1
  have c1 : w.cell? ⟨1, 0, none⟩ = some (.iface 158 (.pointer (some (A 1)))) := (h.1 1 (by decide)).1
  have e0 := eq_other A 1 0 w h (by decide) (by decide) (by decide)
  have e1 := eq_same A 1
  clear h
  go_enter Tryz.func7, Tryz.ntmps7
  go_wp2
  go_ret
  exact ⟨rfl, rfl⟩

end Go.Proofs.YtmifadjgmjnkgaaGreatDoor

namespace Go.Proofs.YtmifadjgmjnkgaaGreatDoor
open Go.RowKit

set_option maxHeartbeats 800000 in
theorem num_dead (A : Nat → Addr) (w : World) (h : ErrsAt A w) : Calls Tryz.prog 7 #[.iface 158 (.pointer (some (A 7)))] w fun e w' => e = .returned (.int .i64 8) ∧ w = w' := by
  have c0 : w.cell? ⟨gAll 0, 0, none⟩ = some (.iface 158 (.pointer (some (A 0)))) := (h.1 0 (by decide)).1
  have c1 : w.cell? ⟨gAll 1, 0, none⟩ = some (.iface 158 (.pointer (some (A 1)))) := (h.1 1 (by decide)).1
  have c2 : w.cell? ⟨gAll 2, 0, none⟩ = some (.iface 158 (.pointer (some (A 2)))) := (h.1 2 (by decide)).1
  have c3 : w.cell? ⟨gAll 3, 0, none⟩ = some (.iface 158 (.pointer (some (A 3)))) := (h.1 3 (by decide)).1
  have c4 : w.cell? ⟨gAll 4, 0, none⟩ = some (.iface 158 (.pointer (some (A 4)))) := (h.1 4 (by decide)).1
  have c5 : w.cell? ⟨gAll 5, 0, none⟩ = some (.iface 158 (.pointer (some (A 5)))) := (h.1 5 (by decide)).1
  have c6 : w.cell? ⟨gAll 6, 0, none⟩ = some (.iface 158 (.pointer (some (A 6)))) := (h.1 6 (by decide)).1
  have c7 : w.cell? ⟨gAll 7, 0, none⟩ = some (.iface 158 (.pointer (some (A 7)))) := (h.1 7 (by decide)).1
  have e0 := eq_other A 7 0 w h (by decide) (by decide) (by decide)
  have e1 := eq_other A 7 1 w h (by decide) (by decide) (by decide)
  have e2 := eq_other A 7 2 w h (by decide) (by decide) (by decide)
  have e3 := eq_other A 7 3 w h (by decide) (by decide) (by decide)
  have e4 := eq_other A 7 4 w h (by decide) (by decide) (by decide)
  have e5 := eq_other A 7 5 w h (by decide) (by decide) (by decide)
  have e6 := eq_other A 7 6 w h (by decide) (by decide) (by decide)
  have e7 := eq_same A 7
  clear h
  simp only [gAll] at c0 c1 c2 c3 c4 c5 c6 c7
  go_enter Tryz.func7, Tryz.ntmps7
  go_wp2
  go_ret
  exact ⟨rfl, rfl⟩
theorem snum_any (A : Nat → Addr) (w : World) (h : ErrsAt A w) (n : Nat) (hn : n = 0 ∨ n = 1 ∨ n = 2 ∨ n = 8) : Calls Tryz.prog 7 #[V.errV A n] w fun e w' => e = .returned (.int .i64 (n : Int)) ∧ w = w' := by
  rcases hn with rfl | rfl | rfl | rfl
  · exact num_nil w
  · exact num_arg A w h
  · exact num_text A w h
  · exact num_dead A w h

end Go.Proofs.YtmifadjgmjnkgaaGreatDoor

namespace Go.Proofs.YtmifadjgmjnkgaaGreatDoor
open Go.RowKit

/-- A step of SheetDevice's script. -/
structure SStp where
  kind : Int
  n : Int
  s : Sh
  data : ByteArray
  fates : List V.Fate
theorem short_store (d : V.Dev) (s : Sh) : storeD (V.shortD d) s = (V.shortD (storeD d s).1, (storeD d s).2) := by
  unfold storeD
  rw [show (V.shortD d).size = d.size from rfl]
  split
  · exact V.short_write d _ _
  · rfl
theorem short_load (d : V.Dev) (id : Int) : loadR (V.shortD d) id = (V.shortD (loadR d id).1, (loadR d id).2) := by
  unfold loadR
  rw [show (V.shortD d).size = d.size from rfl, V.short_read]
  split
  · split <;> rfl
  · rfl
/-- The program's device and the document's, apart, behind the world W in which a round's law began. -/
structure SDuo (W wr : World) (b : Nat) (F : Nat → Prop) (a : V.Dev) (c : Nat) (G : Nat → Prop) (d : V.Dev) (T : Nat) : Prop where
  dev : V.DevAt wr b F a
  ref : V.RAll wr c G d T
  bel : Below W.heap.size W wr
  farF : ∀ k, F k → W.heap.size ≤ k
  farG : ∀ k, G k → W.heap.size ≤ k
  no : ∀ k, F k → ¬ G k
theorem SDuo.up {W wr w' : World} {b c : Nat} {F G : Nat → Prop} {a d : V.Dev} {T : Nat} (h : SDuo W wr b F a c G d T) (hb : Below wr.heap.size wr w') : SDuo W w' b F a c G d T :=
  ⟨h.dev.below hb, h.ref.below hb, Below.next h.bel hb, h.farF, h.farG, h.no⟩
theorem SDuo.one {W wr w' : World} {b c : Nat} {F F' G : Nat → Prop} {a a' d : V.Dev} {T : Nat} (h : SDuo W wr b F a c G d T) (hd : V.DevAt w' b F' a') (hs : V.Step F F' wr w') : SDuo W w' b F' a' c G d T :=
  ⟨hd, h.ref.keep hs (fun k hk hf => h.no k hf hk), h.bel.trans (hs.below h.farF h.bel.size), V.Step.ge hs h.farF h.bel.size, h.farG, fun k hk hg => (hs.sub k hk).elim (fun h1 => h.no k h1 hg) (fun h1 => by have := RAll_lt h.ref k hg; omega)⟩
theorem SDuo.two {W wr w' : World} {b c : Nat} {F G G' : Nat → Prop} {a d d' : V.Dev} {T T' : Nat} (h : SDuo W wr b F a c G d T) (hd : V.RAll w' c G' d' T') (hs : V.Step G G' wr w') : SDuo W w' b F a c G' d' T' :=
  ⟨h.dev.keep hs h.no, hd, h.bel.trans (hs.below h.farG h.bel.size), h.farF, V.Step.ge hs h.farG h.bel.size, fun k hk hg => (hs.sub k hg).elim (fun h1 => h.no k hk h1) (fun h1 => by have := h.dev.lt k hk; omega)⟩
/-- A step's own box. -/
structure Nine (w : World) (p : Nat) (x : SStp) (fv : Value) : Prop where
  s0 : w.cell? ⟨p, 0, none⟩ = some (.int .i64 x.kind)
  s1 : w.cell? ⟨p, 1, none⟩ = some (.int .i64 x.n)
  s2 : w.cell? ⟨p, 2, none⟩ = some (.int .i64 x.s.kind)
  s3 : w.cell? ⟨p, 3, none⟩ = some (.int .i64 x.s.id)
  s4 : w.cell? ⟨p, 4, none⟩ = some (.int .u64 (x.s.txid : Int))
  s5 : w.cell? ⟨p, 5, none⟩ = some (.int .i64 x.s.count)
  s6 : w.cell? ⟨p, 6, none⟩ = some (.string x.s.body)
  s7 : w.cell? ⟨p, 7, none⟩ = some (.string x.data)
  s8 : w.cell? ⟨p, 8, none⟩ = some fv
theorem Nine.step {w w' : World} {p : Nat} {x : SStp} {fv : Value} {G G' : Nat → Prop} (h : Nine w p x fv) (hs : V.Step G G' w w') (hp : ¬ G p) : Nine w' p x fv :=
  ⟨hs.cell h.s0 hp, hs.cell h.s1 hp, hs.cell h.s2 hp, hs.cell h.s3 hp, hs.cell h.s4 hp, hs.cell h.s5 hp, hs.cell h.s6 hp, hs.cell h.s7 hp, hs.cell h.s8 hp⟩
theorem Nine.below {w w' : World} {p : Nat} {x : SStp} {fv : Value} (h : Nine w p x fv) (hb : Below w.heap.size w w') : Nine w' p x fv :=
  ⟨V.cell_below hb h.s0, V.cell_below hb h.s1, V.cell_below hb h.s2, V.cell_below hb h.s3, V.cell_below hb h.s4, V.cell_below hb h.s5, V.cell_below hb h.s6, V.cell_below hb h.s7, V.cell_below hb h.s8⟩
/-- The fates of all steps. -/
def stotF (l : List SStp) : Nat := (l.map fun s => s.fates.length).sum
theorem stotF_drop (l : List SStp) (k : Nat) (h : k < l.length) : stotF (l.drop k) = l[k].fates.length + stotF (l.drop (k + 1)) := by
  unfold stotF
  rw [List.drop_eq_getElem_cons h, List.map_cons, List.sum_cons]
/-- What a step of an argument holds to. -/
structure SStepB (x : SStp) : Prop where
  n : -9223372036854775808 ≤ x.n ∧ x.n < 9223372036854775808
  txid : x.s.txid < 18446744073709551616
  body : x.s.body.size ≤ 1048576
  data : x.data.size ≤ 1048576
  few : x.fates.length ≤ 1048576
  junk : ∀ f ∈ x.fates, f.junk.size ≤ 1048576
def FatesFew (l : List V.Fate) : Prop := l.length ≤ 1048576 ∧ ∀ f ∈ l, f.junk.size ≤ 1048576
/-- What a round holds of the document's device. -/
structure SFine (steps : List SStp) (k : Nat) (d : V.Dev) (T : Nat) : Prop where
  pend : d.pend.length ≤ k * 2048
  more : d.arms.length ≤ k
  sum : T + V.armSum d.arms + stotF (steps.drop k) ≤ 1048576
  arms : ∀ a ∈ d.arms, FatesFew a.fates
theorem SFine.next {steps : List SStp} {k : Nat} {d d' : V.Dev} {T T' : Nat} (h : SFine steps k d T) (hk : k < steps.length) (hp : d'.pend.length ≤ d.pend.length + 2048) (ha : d'.arms.length ≤ d.arms.length + 1) (hT : T' + V.armSum d'.arms ≤ T + V.armSum d.arms + steps[k].fates.length) (hA : ∀ a ∈ d'.arms, FatesFew a.fates) : SFine steps (k + 1) d' T' := by
  have h1 := stotF_drop steps k hk
  have h2 := h.sum
  have h3 := h.pend
  have h4 := h.more
  exact ⟨by omega, by omega, by omega, hA⟩
theorem SFine.room {steps : List SStp} {k : Nat} {d : V.Dev} {T : Nat} (h : SFine steps k d T) (hk : k ≤ 1048577) : d.pend.length + 2048 ≤ 5864062014805 ∧ T ≤ 1048576 ∧ (d.arms.length + 1) * 32 ≤ 140737488355328 := by
  have h2 := h.sum
  have h3 := h.pend
  have h4 := h.more
  exact ⟨by omega, by omega, by omega⟩
theorem store_pend (d : V.Dev) (s : Sh) : (storeD d s).1.pend.length ≤ d.pend.length + 2048 := by
  unfold storeD
  split
  · rename_i h
    have := V.write_pend d (s.id * 8) (page s)
    rw [page_len s h.1] at this
    omega
  · simp only []; omega
theorem store_armsN (d : V.Dev) (s : Sh) : (storeD d s).1.arms.length ≤ d.arms.length := by
  unfold storeD; split
  · exact V.write_armsN _ _ _
  · exact Nat.le_refl _
theorem store_armsIn {d : V.Dev} {P : List V.Fate → Prop} (h : ∀ a ∈ d.arms, P a.fates) (s : Sh) : ∀ a ∈ (storeD d s).1.arms, P a.fates := by
  unfold storeD; split
  · exact V.write_armsIn h _ _
  · exact h
theorem store_code (d : V.Dev) (s : Sh) : (storeD d s).2 = 0 ∨ (storeD d s).2 = 1 ∨ (storeD d s).2 = 2 ∨ (storeD d s).2 = 8 := by
  unfold storeD V.Dev.write V.Dev.done
  repeat' split
  all_goals simp
theorem load_same (d : V.Dev) (id : Int) : (loadR d id).1.pend = d.pend ∧ (loadR d id).1.arms = d.arms := by
  unfold loadR
  repeat' split
  all_goals first | exact ⟨V.read_pend _ _ _, V.read_arms _ _ _⟩ | exact ⟨rfl, rfl⟩
theorem load_code (d : V.Dev) (id : Int) : (loadR d id).2.2 = 0 ∨ (loadR d id).2.2 = 1 ∨ (loadR d id).2.2 = 2 ∨ (loadR d id).2.2 = 8 := by
  unfold loadR
  split
  · rename_i h
    have hc := read_code (d := d) (s := id * 8) (n := 8) (by omega) (by omega) (by omega) (by omega)
    split
    · split <;> simp
    · rw [show ((d.read (id * 8) 8).1, zSh, (d.read (id * 8) 8).2.2).2.2 = (d.read (id * 8) 8).2.2 from rfl, hc]
      cases d.dead <;> simp
  · simp
theorem sfatesOut {W w : World} {F : Nat → Prop} {v : Value} {l : List V.Fate} (h : V.FatesIn W v l) (hb : Below W.heap.size W w) (hF : ∀ k, F k → W.heap.size ≤ k) : V.FatesOut w F v l := fun w' _ hs => by
  obtain ⟨a, cap, g, off, hv, hl, ha, hc⟩ := h
  refine ⟨a, cap, g, off, hv, hl, ha, fun j u hu => ?_⟩
  have h1 := hc j u hu
  have hlt := World.block_lt_of_cell? W _ h1
  simp only [] at hlt
  exact (World.cell?_of_block (hs g (by have := hb.size; omega) (fun hf => by have := hF g hf; omega))).trans ((World.cell?_of_block (hb.block g hlt)).trans h1)

end Go.Proofs.YtmifadjgmjnkgaaGreatDoor

namespace Go.Proofs.YtmifadjgmjnkgaaGreatDoor
open Go.RowKit

/-- Within a round: both devices and the step's box. -/
structure SMid (W w : World) (b : Nat) (F : Nat → Prop) (a : V.Dev) (c : Nat) (G : Nat → Prop) (d : V.Dev) (T : Nat) (p : Nat) (x : SStp) (fv : Value) : Prop where
  duo : SDuo W w b F a c G d T
  nine : Nine w p x fv
  lo : p < w.heap.size
  nf : ¬ F p
  ng : ¬ G p
theorem SMid.up {W w w' : World} {b c p : Nat} {F G : Nat → Prop} {a d : V.Dev} {T : Nat} {x : SStp} {fv : Value} (h : SMid W w b F a c G d T p x fv) (hb : Below w.heap.size w w') : SMid W w' b F a c G d T p x fv :=
  ⟨h.duo.up hb, h.nine.below hb, Nat.lt_of_lt_of_le h.lo hb.size, h.nf, h.ng⟩
theorem SMid.one {W w w' : World} {b c p : Nat} {F F' G : Nat → Prop} {a a' d : V.Dev} {T : Nat} {x : SStp} {fv : Value} (h : SMid W w b F a c G d T p x fv) (hd : V.DevAt w' b F' a') (hs : V.Step F F' w w') : SMid W w' b F' a' c G d T p x fv :=
  ⟨h.duo.one hd hs, h.nine.step hs h.nf, Nat.lt_of_lt_of_le h.lo hs.size, fun hf => (hs.sub p hf).elim h.nf (fun h1 => by have := h.lo; omega), h.ng⟩
theorem SMid.two {W w w' : World} {b c p : Nat} {F G G' : Nat → Prop} {a d d' : V.Dev} {T T' : Nat} {x : SStp} {fv : Value} (h : SMid W w b F a c G d T p x fv) (hd : V.RAll w' c G' d' T') (hs : V.Step G G' w w') : SMid W w' b F a c G' d' T' p x fv :=
  ⟨h.duo.two hd hs, h.nine.step hs h.ng, Nat.lt_of_lt_of_le h.lo hs.size, h.nf, fun hg => (hs.sub p hg).elim h.ng (fun h1 => by have := h.lo; omega)⟩

theorem SMid.store {A : Nat → Addr} {W w : World} {b c p : Nat} {F G : Nat → Prop} {d : V.Dev} {T : Nat} {x : SStp} {fv : Value} (M : SMid W w b F (V.shortD d) c G d T p x fv) (hE : Env W.heap.size A W) (s : Sh) (hs : s.body.size ≤ 1048576) (hx : s.txid < 18446744073709551616) (hp : d.pend.length + 2048 ≤ 5864062014805) (w' : World) (hb : Below w.heap.size w w') :
    Calls Tryz.prog 6 #[.pointer (some ⟨b, 0, none⟩), .agg s.cells.toArray] w' fun e w'' => e = .returned (V.errV A (storeD d s).2) ∧ ∃ F', SMid W w'' b F' (V.shortD (storeD d s).1) c G d T p x fv := by
  have M' := M.up hb
  refine (storeG_any W.heap.size A b F (V.shortD d) s w' (by omega) hx M'.duo.dev (hE.keep M'.duo.bel) M'.duo.farF (by show d.pend.length + 8 ≤ _; omega)).mono ?_
  rintro e w'' ⟨rfl, F', h1, h2⟩
  rw [short_store] at h1 ⊢
  exact ⟨rfl, F', M'.one h1 h2⟩
theorem SMid.rstore {W w : World} {b c p : Nat} {F G : Nat → Prop} {a d : V.Dev} {T : Nat} {x : SStp} {fv : Value} (M : SMid W w b F a c G d T p x fv) (s : Sh) (hs : s.body.size ≤ 1048576) (hx : s.txid < 18446744073709551616) (hp : d.pend.length + 2048 ≤ 5864062014805) (hT : T ≤ 1048576) (hA : ∀ a ∈ d.arms, FatesFew a.fates) (w' : World) (hb : Below w.heap.size w w') :
    Calls Tryz.prog 8 #[.pointer (some ⟨c, 0, none⟩), .agg s.cells.toArray] w' fun e w'' => e = .returned (.int .i64 ((storeD d s).2 : Int)) ∧ ∃ G' T', SMid W w'' b F a c G' (storeD d s).1 T' p x fv ∧ T' + V.armSum (storeD d s).1.arms ≤ T + V.armSum d.arms := by
  have M' := M.up hb
  refine (rstore_any c G d T s w' (by omega) hx M'.duo.ref (by omega) hT hA).mono ?_
  rintro e w'' ⟨rfl, G', T', h1, h2, h3⟩
  exact ⟨rfl, G', T', M'.two h1 h2, h3⟩
theorem SMid.load {A : Nat → Addr} {W w : World} {b c p : Nat} {F G : Nat → Prop} {d : V.Dev} {T : Nat} {x : SStp} {fv : Value} (M : SMid W w b F (V.shortD d) c G d T p x fv) (hE : Env W.heap.size A W) (id : Int) (w' : World) (hb : Below w.heap.size w w') :
    Calls Tryz.prog 9 #[.pointer (some ⟨b, 0, none⟩), .int .i64 id] w' fun e w'' => e = .returned (.tuple #[.agg (loadR d id).2.1.cells.toArray, V.errV A (loadR d id).2.2]) ∧ ∃ F', SMid W w'' b F' (V.shortD (loadR d id).1) c G d T p x fv := by
  have M' := M.up hb
  refine (loadG_any W.heap.size A b F (V.shortD d) id w' M'.duo.dev (hE.keep M'.duo.bel) M'.duo.farF).mono ?_
  rintro e w'' ⟨rfl, h1, h2⟩
  rw [short_load] at h1 ⊢
  exact ⟨rfl, F, M'.one h1 h2⟩
theorem SMid.rload {W w : World} {b c p : Nat} {F G : Nat → Prop} {a d : V.Dev} {T : Nat} {x : SStp} {fv : Value} (M : SMid W w b F a c G d T p x fv) (id : Int) (hp : d.pend.length + 2048 ≤ 5864062014805) (w' : World) (hb : Below w.heap.size w w') :
    Calls Tryz.prog 10 #[.pointer (some ⟨c, 0, none⟩), .int .i64 id] w' fun e w'' => e = .returned (.tuple #[.agg (loadR d id).2.1.cells.toArray, .int .i64 ((loadR d id).2.2 : Int)]) ∧ SMid W w'' b F a c G (loadR d id).1 T p x fv ∧ V.Step G G w' w'' := by
  have M' := M.up hb
  refine (rload_any c G d T id w' M'.duo.ref (by omega)).mono ?_
  rintro e w'' ⟨rfl, h1, h2⟩
  exact ⟨rfl, M'.two h1 h2, h2⟩
theorem SMid.write {A : Nat → Addr} {W w : World} {b c p : Nat} {F G : Nat → Prop} {d : V.Dev} {T : Nat} {x : SStp} {fv : Value} (M : SMid W w b F (V.shortD d) c G d T p x fv) (hE : Env W.heap.size A W) (n : Int) (v : Value) (D : ByteArray) (m : Nat) (hp : d.pend.length + 2048 ≤ 5864062014805) (hD : D.size ≤ 1048576) (w' : World) (hb : Below w.heap.size w w') (hm : w.heap.size ≤ m) (hr : w'.ownsRow m 5 1 v D.size (u8s D.data.toList)) :
    Calls Tryz.prog 11 #[.pointer (some ⟨b, 0, none⟩), .int .i64 n, v] w' fun e w'' => e = .returned (V.errV A (d.write n (V.bl D)).2) ∧ ∃ F', SMid W w'' b F' (V.shortD (d.write n (V.bl D)).1) c G d T p x fv := by
  have M' := M.up hb
  have hl : (V.bl D).length = D.size := V.bl_len D
  refine (V.write_any W.heap.size A b F (V.shortD d) w' M'.duo.dev (hE.keep M'.duo.bel).errs M'.duo.farF n v (V.bl D) (V.bytesAt_own (base := m) (by rw [hl]; exact hr) (by omega) (fun g hg hf => by have := (V.owns_blk hr g hg).1; have := M.duo.dev.lt g hf; omega)) (by rw [hl]; show d.pend.length + _ ≤ _; omega) (V.opdone_any _ A b _)).mono ?_
  rintro e w'' ⟨rfl, F', h1, h2⟩
  rw [V.short_write] at h1 ⊢
  exact ⟨rfl, F', M'.one h1 h2⟩
theorem SMid.rwrite {W w : World} {b c p : Nat} {F G : Nat → Prop} {a d : V.Dev} {T : Nat} {x : SStp} {fv : Value} (M : SMid W w b F a c G d T p x fv) (n : Int) (hn : -9223372036854775808 ≤ n ∧ n < 9223372036854775808) (v : Value) (D : ByteArray) (m : Nat) (hp : d.pend.length + 2048 ≤ 5864062014805) (hD : D.size ≤ 1048576) (hT : T ≤ 1048576) (hA : ∀ a ∈ d.arms, FatesFew a.fates) (w' : World) (hb : Below w.heap.size w w') (hm : w.heap.size ≤ m) (hr : w'.ownsRow m 5 1 v D.size (u8s D.data.toList)) :
    Calls Tryz.prog 13 #[.pointer (some ⟨c, 0, none⟩), .int .i64 n, v] w' fun e w'' => e = .returned (.int .i64 ((d.write n (V.bl D)).2 : Int)) ∧ ∃ G' T', SMid W w'' b F a c G' (d.write n (V.bl D)).1 T' p x fv ∧ T' + V.armSum (d.write n (V.bl D)).1.arms ≤ T + V.armSum d.arms := by
  have M' := M.up hb
  have hl : (V.bl D).length = D.size := V.bl_len D
  refine (V.rwrite_any c G d T w' M'.duo.ref n hn v (V.bl D) (V.bytesAt_own (base := m) (by rw [hl]; exact hr) (by omega) (fun g hg hf => by have := (V.owns_blk hr g hg).1; have := RAll_lt M.duo.ref g hf; omega)) (by rw [hl]; omega) hT hA).mono ?_
  rintro e w'' ⟨rfl, G', T', h1, h2, h3⟩
  exact ⟨rfl, G', T', M'.two h1 h2, h3⟩
theorem SMid.sync {A : Nat → Addr} {W w : World} {b c p : Nat} {F G : Nat → Prop} {d : V.Dev} {T : Nat} {x : SStp} {fv : Value} (M : SMid W w b F (V.shortD d) c G d T p x fv) (hE : Env W.heap.size A W) (hp : d.pend.length + 2048 ≤ 5864062014805) (w' : World) (hb : Below w.heap.size w w') :
    Calls Tryz.prog 14 #[.pointer (some ⟨b, 0, none⟩)] w' fun e w'' => e = .returned (V.errV A d.sync.2) ∧ ∃ F', SMid W w'' b F' (V.shortD d.sync.1) c G d T p x fv := by
  have M' := M.up hb
  refine (V.sync_any W.heap.size A b F (V.shortD d) w' M'.duo.dev (hE.keep M'.duo.bel).errs M'.duo.farF (by show d.pend.length ≤ _; omega) (V.opdone_any _ A b _)).mono ?_
  rintro e w'' ⟨rfl, F', h1, h2⟩
  rw [V.short_sync] at h1 ⊢
  exact ⟨rfl, F', M'.one h1 h2⟩
theorem SMid.rsync {W w : World} {b c p : Nat} {F G : Nat → Prop} {a d : V.Dev} {T : Nat} {x : SStp} {fv : Value} (M : SMid W w b F a c G d T p x fv) (hp : d.pend.length + 2048 ≤ 5864062014805) (hT : T ≤ 1048576) (hA : ∀ a ∈ d.arms, FatesFew a.fates) (w' : World) (hb : Below w.heap.size w w') :
    Calls Tryz.prog 15 #[.pointer (some ⟨c, 0, none⟩)] w' fun e w'' => e = .returned (.int .i64 (d.sync.2 : Int)) ∧ ∃ G' T', SMid W w'' b F a c G' d.sync.1 T' p x fv ∧ T' + V.armSum d.sync.1.arms ≤ T + V.armSum d.arms := by
  have M' := M.up hb
  refine (V.rsync_any c G d T w' M'.duo.ref (by omega) hT hA).mono ?_
  rintro e w'' ⟨rfl, G', T', h1, h2, h3⟩
  exact ⟨rfl, G', T', M'.two h1 h2, h3⟩
theorem SMid.crash {W w : World} {b c p : Nat} {F G : Nat → Prop} {d : V.Dev} {T : Nat} {x : SStp} {fv : Value} (M : SMid W w b F (V.shortD d) c G d T p x fv) (l : List V.Fate) (v : Value) (hl : V.FatesIn W v l) (hp : d.pend.length + 2048 ≤ 5864062014805) (w' : World) (hb : Below w.heap.size w w') :
    Calls Tryz.prog 16 #[.pointer (some ⟨b, 0, none⟩), v] w' fun e w'' => e = .returned (.tuple #[]) ∧ ∃ F', SMid W w'' b F' (V.shortD (d.crash l)) c G d T p x fv := by
  have M' := M.up hb
  refine (V.crashI_any b F (V.shortD d) w' M'.duo.dev l v (hl.keep M'.duo.bel) (by show d.pend.length ≤ _; omega)).mono ?_
  rintro e w'' ⟨rfl, F', h1, h2⟩
  rw [V.short_crash] at h1
  exact ⟨rfl, F', M'.one h1 h2⟩
theorem SMid.rcrash {W w : World} {b c p : Nat} {F G : Nat → Prop} {a d : V.Dev} {T : Nat} {x : SStp} {fv : Value} (M : SMid W w b F a c G d T p x fv) (l : List V.Fate) (v : Value) (hl : V.FatesIn W v l) (hf : FatesFew l) (hp : d.pend.length + 2048 ≤ 5864062014805) (hT : T ≤ 1048576) (w' : World) (hb : Below w.heap.size w w') :
    Calls Tryz.prog 17 #[.pointer (some ⟨c, 0, none⟩), v] w' fun e w'' => e = .returned (.tuple #[]) ∧ ∃ G' T', SMid W w'' b F a c G' (d.crash l) T' p x fv ∧ T' + V.armSum (d.crash l).arms ≤ T + V.armSum d.arms + l.length := by
  have M' := M.up hb
  refine (V.rcrash_any c G d T w' M'.duo.ref l v (by omega) hf.1 hT hf.2 (sfatesOut hl M'.duo.bel M'.duo.farG)).mono ?_
  rintro e w'' ⟨rfl, G', T', h1, h2, h3⟩
  exact ⟨rfl, G', T', M'.two h1 h2, by rw [V.crash_arms]; omega⟩
theorem SMid.revive {W w : World} {b c p : Nat} {F G : Nat → Prop} {d : V.Dev} {T : Nat} {x : SStp} {fv : Value} (M : SMid W w b F (V.shortD d) c G d T p x fv) (w' : World) (hb : Below w.heap.size w w') :
    Calls Tryz.prog 18 #[.pointer (some ⟨b, 0, none⟩)] w' fun e w'' => e = .returned (.tuple #[]) ∧ SMid W w'' b F (V.shortD d.revive) c G d T p x fv := by
  have M' := M.up hb
  refine (V.revive_any b F (V.shortD d) w' M'.duo.dev).mono ?_
  rintro e w'' ⟨rfl, h1, h2⟩
  exact ⟨rfl, M'.one h1 h2⟩
theorem SMid.rrevive {W w : World} {b c p : Nat} {F G : Nat → Prop} {a d : V.Dev} {T : Nat} {x : SStp} {fv : Value} (M : SMid W w b F a c G d T p x fv) (w' : World) (hb : Below w.heap.size w w') :
    Calls Tryz.prog 19 #[.pointer (some ⟨c, 0, none⟩)] w' fun e w'' => e = .returned (.tuple #[]) ∧ SMid W w'' b F a c G d.revive T p x fv := by
  have M' := M.up hb
  refine (V.rrevAll_any c G d T w' M'.duo.ref).mono ?_
  rintro e w'' ⟨rfl, h1, h2⟩
  exact ⟨rfl, M'.two h1 h2⟩
theorem SMid.arm {W w : World} {b c p : Nat} {F G : Nat → Prop} {d : V.Dev} {T : Nat} {x : SStp} {fv : Value} (M : SMid W w b F (V.shortD d) c G d T p x fv) (n : Int) (hn : n < 9223372036854775808) (l : List V.Fate) (v : Value) (hl : V.FatesIn W v l) (hf : FatesFew l) (hq : (d.arms.length + 1) * 32 ≤ 140737488355328) (w' : World) (hb : Below w.heap.size w w') :
    Calls Tryz.prog 20 #[.pointer (some ⟨b, 0, none⟩), .int .i64 n, v] w' fun e w'' => e = .returned (.tuple #[]) ∧ ∃ F', SMid W w'' b F' (V.shortD (d.armF n l)) c G d T p x fv := by
  have M' := M.up hb
  refine (V.armI_any b F (V.shortD d) w' M'.duo.dev n l v (hl.keep M'.duo.bel) (by have := hf.1; omega) hn (by show ((d.arms.map _).length + 1) * 32 ≤ _; rw [List.length_map]; exact hq)).mono ?_
  rintro e w'' ⟨rfl, F', h1, h2⟩
  rw [V.short_arm] at h1
  exact ⟨rfl, F', M'.one h1 h2⟩
theorem SMid.rarm {W w : World} {b c p : Nat} {F G : Nat → Prop} {a d : V.Dev} {T : Nat} {x : SStp} {fv : Value} (M : SMid W w b F a c G d T p x fv) (n : Int) (hn : -9223372036854775808 ≤ n ∧ n < 9223372036854775808) (l : List V.Fate) (v : Value) (hl : V.FatesIn W v l) (hf : FatesFew l) (hq : (d.arms.length + 1) * 32 ≤ 140737488355328) (w' : World) (hb : Below w.heap.size w w') :
    Calls Tryz.prog 21 #[.pointer (some ⟨c, 0, none⟩), .int .i64 n, v] w' fun e w'' => e = .returned (.tuple #[]) ∧ ∃ G', SMid W w'' b F a c G' (d.armF n l) T p x fv := by
  have M' := M.up hb
  refine (V.rarm_any c G d T w' M'.duo.ref n hn l v (hl.keep M'.duo.bel) hf.1 hq).mono ?_
  rintro e w'' ⟨rfl, G', h1, h2⟩
  exact ⟨rfl, G', M'.two h1 h2⟩

end Go.Proofs.YtmifadjgmjnkgaaGreatDoor

namespace Go.Proofs.YtmifadjgmjnkgaaGreatDoor
open Go.RowKit

theorem sh_under : Tryz.prog.underlying 31 = some (.struct (Tryz.prog.fieldsOf 31)) := by kernel_rfl
theorem sh_held : Tryz.prog.stoodInHeld 31 = false := by kernel_rfl
theorem sh_guard : Tryz.prog.eqGuardType Tryz.prog.depth 31 = false := by kernel_rfl
set_option maxRecDepth 100000 in
set_option maxHeartbeats 1000000 in
theorem sh_eq (w : World) (k i t c k' i' t' c' : Int) (b b' : ByteArray) :
    (binOp .eql 31 (.agg #[.int .i64 k, .int .i64 i, .int .u64 t, .int .i64 c, .string b]) (.agg #[.int .i64 k', .int .i64 i', .int .u64 t', .int .i64 c', .string b'])).run Tryz.prog w = .ok (.bool (k == k' && (i == i' && (t == t' && (c == c' && b.toList == b'.toList))))) w := by
  rw [run_eql_struct, run_equalIn_agg w 9999 31 _ _ sh_under sh_held]
  simp [go_sem]
  by_cases h1 : k = k'
  · by_cases h2 : i = i'
    · by_cases h3 : t = t'
      · by_cases h4 : c = c'
        · by_cases h5 : b.toList = b'.toList
          · simp [h1, h2, h3, h4, h5]
          · simp [h1, h2, h3, h4, h5]
        · simp [h1, h2, h3, h4]
      · simp [h1, h2, h3]
    · simp [h1, h2]
  · simp [h1]
theorem sh_self (w : World) (k i t c : Int) (b : ByteArray) :
    (binOp .eql 31 (.agg #[.int .i64 k, .int .i64 i, .int .u64 t, .int .i64 c, .string b]) (.agg #[.int .i64 k, .int .i64 i, .int .u64 t, .int .i64 c, .string b])).run Tryz.prog w = .ok (.bool true) w := by
  rw [sh_eq]; simp
theorem sh_neq (w : World) (x y : Array Value) (bb : Bool) (h : (binOp .eql 31 (.agg x) (.agg y)).run Tryz.prog w = .ok (.bool bb) w) : (binOp .neq 31 (.agg x) (.agg y)).run Tryz.prog w = .ok (.bool (!bb)) w := by
  rw [run_eql_struct] at h
  rw [run_neq_struct]
  revert h
  generalize (Op.equalIn 10000 31 (.agg x) (.agg y)).run Tryz.prog w = r
  cases r with
  | ok v w' => intro h; simp [Result.andThen] at h ⊢; obtain ⟨rfl, rfl⟩ := h; simp
  | halt v w' => intro h; simp [Result.andThen] at h
theorem sh_nself (w : World) (k i t c : Int) (b : ByteArray) :
    (binOp .neq 31 (.agg #[.int .i64 k, .int .i64 i, .int .u64 t, .int .i64 c, .string b]) (.agg #[.int .i64 k, .int .i64 i, .int .u64 t, .int .i64 c, .string b])).run Tryz.prog w = .ok (.bool false) w := sh_neq w _ _ true (sh_self w k i t c b)

end Go.Proofs.YtmifadjgmjnkgaaGreatDoor
