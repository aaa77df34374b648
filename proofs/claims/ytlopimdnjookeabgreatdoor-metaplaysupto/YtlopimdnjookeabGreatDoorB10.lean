import Derived.Test.YtlopimdnjookeabGreatDoorA8
import Derived.Test.YtlopimdnjookeabGreatDoorB7
import Derived.Test.YtlopimdnjookeabGreatDoorNumC
import Derived.Test.YtlopimdnjookeabGreatDoorVRLO
import Derived.Test.YtlopimdnjookeabGreatDoorB9
namespace Go.Proofs.YtlopimdnjookeabGreatDoor
open Go.RowKit

set_option maxHeartbeats 800000 in
theorem more_dead (A : Nat → Addr) (w : World) (h : ErrsAt A w) : Calls Tryz.prog 44 #[.iface 153 (.pointer (some (A 7)))] w fun e w' => e = .returned (.int .i64 8) ∧ w = w' := by
  have c7 : w.cell? ⟨8, 0, none⟩ = some (.iface 153 (.pointer (some (A 7)))) := (h.1 7 (by decide)).1
  have e1 := eq_same A 7
  clear h
  go_enter Tryz.func44, Tryz.ntmps44
  go_wp2
  go_ret
  exact ⟨rfl, rfl⟩
set_option maxHeartbeats 1600000 in
theorem num_dead (A : Nat → Addr) (w : World) (h : ErrsAt A w) : Calls Tryz.prog 17 #[.iface 153 (.pointer (some (A 7)))] w fun e w' => e = .returned (.int .i64 8) ∧ w = w' := by
  have HM := hide (more_dead A w h)
  have c0 : w.cell? ⟨1, 0, none⟩ = some (.iface 153 (.pointer (some (A 0)))) := (h.1 0 (by decide)).1
  have c1 : w.cell? ⟨2, 0, none⟩ = some (.iface 153 (.pointer (some (A 1)))) := (h.1 1 (by decide)).1
  have c2 : w.cell? ⟨3, 0, none⟩ = some (.iface 153 (.pointer (some (A 2)))) := (h.1 2 (by decide)).1
  have c3 : w.cell? ⟨4, 0, none⟩ = some (.iface 153 (.pointer (some (A 3)))) := (h.1 3 (by decide)).1
  have c4 : w.cell? ⟨5, 0, none⟩ = some (.iface 153 (.pointer (some (A 4)))) := (h.1 4 (by decide)).1
  have c5 : w.cell? ⟨6, 0, none⟩ = some (.iface 153 (.pointer (some (A 5)))) := (h.1 5 (by decide)).1
  have c6 : w.cell? ⟨7, 0, none⟩ = some (.iface 153 (.pointer (some (A 6)))) := (h.1 6 (by decide)).1
  have e0 := eq_other A 7 0 w h (by decide) (by decide) (by decide)
  have e1 := eq_other A 7 1 w h (by decide) (by decide) (by decide)
  have e2 := eq_other A 7 2 w h (by decide) (by decide) (by decide)
  have e3 := eq_other A 7 3 w h (by decide) (by decide) (by decide)
  have e4 := eq_other A 7 4 w h (by decide) (by decide) (by decide)
  have e5 := eq_other A 7 5 w h (by decide) (by decide) (by decide)
  have e6 := eq_other A 7 6 w h (by decide) (by decide) (by decide)
  clear h
  go_enter Tryz.func17, Tryz.ntmps17
  go_wp2_with fail
  refine HM.out.mono ?_
  rintro e w' ⟨rfl, rfl⟩
  go_wp2
  go_ret
  exact ⟨rfl, rfl⟩

theorem mnum_any (A : Nat → Addr) (w : World) (h : ErrsAt A w) (n : Nat) (hn : n = 0 ∨ n = 1 ∨ n = 8 ∨ n = 9) : Calls Tryz.prog 17 #[V.errV A n] w fun e w' => e = .returned (.int .i64 (n : Int)) ∧ w = w' := by
  rcases hn with rfl | rfl | rfl | rfl
  · exact num_nil w
  · exact num_arg A w h
  · exact num_dead A w h
  · exact num_corrupt A w h
set_option maxHeartbeats 400000 in
theorem copy_zero (a : Option Addr) (cap : Nat) (w : World) : Calls Tryz.prog 31 #[.slice a 0 cap] w fun e w' => e = .returned (.slice none 0 0) ∧ w = w' := by
  go_enter Tryz.func31, Tryz.ntmps31
  go_wp2
  go_loop [3, 4] (fun v i => i = .int .i64 0 ∧ v = .slice none 0 0) (fun _ _ => 0)
  case atStart => exact ⟨rfl, rfl⟩
  case round =>
    obtain ⟨rfl, rfl⟩ := hrel
    go_wp2
    go_ret
    exact ⟨rfl, rfl⟩
/-- A slice of bytes of an argument. -/
def PIn (w : World) (v : Value) (l : List UInt8) : Prop := ∃ a cap g off, v = .slice a l.length cap ∧ l.length ≤ cap ∧ l.length ≤ 1048576 ∧ (0 < l.length → a = some ⟨g, off, none⟩) ∧ ∀ j (h : j < l.length), w.cell? ⟨g, off + j, none⟩ = some (.int .u8 (l[j].toNat : Int))
theorem PIn.keep {w w' : World} {v : Value} {l : List UInt8} (h : PIn w v l) (hb : Below w.heap.size w w') : PIn w' v l := by
  obtain ⟨a, cap, g, off, h1, h2, h3, h4, h5⟩ := h
  exact ⟨a, cap, g, off, h1, h2, h3, h4, fun j hj => V.cell_below hb (h5 j hj)⟩
theorem copyP_any (v : Value) (l : List UInt8) (w : World) (h : PIn w v l) : Calls Tryz.prog 31 #[v] w fun e w' => ∃ v', e = .returned v' ∧ w'.ownsRow w.heap.size 5 1 v' l.length (u8s l) ∧ Below w.heap.size w w' := by
  obtain ⟨a, cap, g, off, rfl, h2, h3, h4, h5⟩ := h
  by_cases h0 : 0 < l.length
  · obtain rfl := h4 h0
    have hlt := World.block_lt_of_cell? w _ (h5 0 h0)
    exact copyO_any g off cap l w (by omega) hlt h5
  · obtain rfl : l = [] := List.length_eq_zero_iff.1 (by omega)
    refine (copy_zero a cap w).mono ?_
    rintro e w' ⟨rfl, rfl⟩
    exact ⟨_, rfl, World.ownsRow_nil _ _ _ _, Below.refl _ _⟩
theorem PIn.out {W w : World} {F : Nat → Prop} {v : Value} {l : List UInt8} (h : PIn W v l) (hb : Below W.heap.size W w) (hF : ∀ k, F k → W.heap.size ≤ k) : V.BytesO w F v l := by
  obtain ⟨a, cap, g, off, h1, h2, h3, h4, h5⟩ := h
  refine ⟨a, cap, g, off, h1, h2, by omega, fun h0 => ⟨h4 h0, fun hf => ?_⟩, fun j hj => V.cell_below hb (h5 j hj)⟩
  have hlt := World.block_lt_of_cell? W _ (h5 0 h0)
  simp only [] at hlt
  have := hF g hf
  omega
/-- A step of MetaPlays' script. -/
structure SStp where
  kind : Int
  n : Int
  m : Mt
  data : List UInt8
  fates : List V.Fate
theorem short_store (d : V.Dev) (m : Mt) : storeMD (V.shortD d) m = (V.shortD (storeMD d m).1, (storeMD d m).2) := by
  unfold storeMD
  rw [show (V.shortD d).size = d.size from rfl]
  split
  · exact V.short_write d _ _
  · rfl
theorem short_wipe (d : V.Dev) (n : Int) : wipeMD (V.shortD d) n = (V.shortD (wipeMD d n).1, (wipeMD d n).2) := by
  unfold wipeMD
  rw [show (V.shortD d).size = d.size from rfl]
  split
  · exact V.short_write d _ _
  · rfl
theorem short_load (d : V.Dev) : loadMR (V.shortD d) = (V.shortD (loadMR d).1, (loadMR d).2) := by
  unfold loadMR
  rw [show (V.shortD d).size = d.size from rfl, show (V.shortD d).dead = d.dead from rfl]
  split
  · split <;> rfl
  · rfl
/-- The program's device and the document's, apart, behind the world W in which a round's law began. -/
structure SDuo (W wr : World) (b : Nat) (F : Nat → Prop) (a : V.Dev) (c : Nat) (G : Nat → Prop) (d : V.Dev) (T : Nat) : Prop where
  dev : V.DevAt wr b F a
  ref : V.RAll wr c G d T
  bel : Below W.heap.size W wr
  farF : ∀ k, F k → W.heap.size ≤ k
  farG : ∀ k, G k → W.heap.size ≤ k
  no : ∀ k, F k → ¬ G k
theorem SDuo.up {W wr w' : World} {b c : Nat} {F G : Nat → Prop} {a d : V.Dev} {T : Nat} (h : SDuo W wr b F a c G d T) (hb : Below wr.heap.size wr w') : SDuo W w' b F a c G d T :=
  ⟨h.dev.below hb, h.ref.below hb, Below.next h.bel hb, h.farF, h.farG, h.no⟩
theorem SDuo.one {W wr w' : World} {b c : Nat} {F F' G : Nat → Prop} {a a' d : V.Dev} {T : Nat} (h : SDuo W wr b F a c G d T) (hd : V.DevAt w' b F' a') (hs : V.Step F F' wr w') : SDuo W w' b F' a' c G d T :=
  ⟨hd, h.ref.keep hs (fun k hk hf => h.no k hf hk), h.bel.trans (hs.below h.farF h.bel.size), V.Step.ge hs h.farF h.bel.size, h.farG, fun k hk hg => (hs.sub k hk).elim (fun h1 => h.no k h1 hg) (fun h1 => by have := RAll_lt h.ref k hg; omega)⟩
theorem SDuo.two {W wr w' : World} {b c : Nat} {F G G' : Nat → Prop} {a d d' : V.Dev} {T T' : Nat} (h : SDuo W wr b F a c G d T) (hd : V.RAll w' c G' d' T') (hs : V.Step G G' wr w') : SDuo W w' b F a c G' d' T' :=
  ⟨h.dev.keep hs h.no, hd, h.bel.trans (hs.below h.farG h.bel.size), h.farF, V.Step.ge hs h.farG h.bel.size, fun k hk hg => (hs.sub k hg).elim (fun h1 => h.no k hk h1) (fun h1 => by have := h.dev.lt k hk; omega)⟩
/-- A step's own box. -/
structure Seven (w : World) (p : Nat) (x : SStp) (pv fv : Value) : Prop where
  s0 : w.cell? ⟨p, 0, none⟩ = some (.int .i64 x.kind)
  s1 : w.cell? ⟨p, 1, none⟩ = some (.int .i64 x.n)
  s2 : w.cell? ⟨p, 2, none⟩ = some (.int .i64 x.m.pages)
  s3 : w.cell? ⟨p, 3, none⟩ = some (.int .i64 x.m.root)
  s4 : w.cell? ⟨p, 4, none⟩ = some (.int .u64 (x.m.txid : Int))
  s5 : w.cell? ⟨p, 5, none⟩ = some pv
  s6 : w.cell? ⟨p, 6, none⟩ = some fv
theorem Seven.step {w w' : World} {p : Nat} {x : SStp} {pv fv : Value} {G G' : Nat → Prop} (h : Seven w p x pv fv) (hs : V.Step G G' w w') (hp : ¬ G p) : Seven w' p x pv fv :=
  ⟨hs.cell h.s0 hp, hs.cell h.s1 hp, hs.cell h.s2 hp, hs.cell h.s3 hp, hs.cell h.s4 hp, hs.cell h.s5 hp, hs.cell h.s6 hp⟩
theorem Seven.below {w w' : World} {p : Nat} {x : SStp} {pv fv : Value} (h : Seven w p x pv fv) (hb : Below w.heap.size w w') : Seven w' p x pv fv :=
  ⟨V.cell_below hb h.s0, V.cell_below hb h.s1, V.cell_below hb h.s2, V.cell_below hb h.s3, V.cell_below hb h.s4, V.cell_below hb h.s5, V.cell_below hb h.s6⟩
/-- The fates of all steps. -/
def stotF (l : List SStp) : Nat := (l.map fun s => s.fates.length).sum
theorem stotF_drop (l : List SStp) (k : Nat) (h : k < l.length) : stotF (l.drop k) = l[k].fates.length + stotF (l.drop (k + 1)) := by
  unfold stotF
  rw [List.drop_eq_getElem_cons h, List.map_cons, List.sum_cons]
/-- What a step of an argument holds to. -/
structure SStepB (x : SStp) : Prop where
  n : -9223372036854775808 ≤ x.n ∧ x.n < 9223372036854775808
  txid : x.m.txid < 18446744073709551616
  data : x.data.length ≤ 1048576
  few : x.fates.length ≤ 1048576
  junk : ∀ f ∈ x.fates, f.junk.size ≤ 1048576
def FatesFew (l : List V.Fate) : Prop := l.length ≤ 1048576 ∧ ∀ f ∈ l, f.junk.size ≤ 1048576
/-- What a round holds of the document's device. -/
structure SFine (steps : List SStp) (k : Nat) (d : V.Dev) (T : Nat) : Prop where
  pend : d.pend.length ≤ k * 2048
  more : d.arms.length ≤ k
  sum : T + V.armSum d.arms + stotF (steps.drop k) ≤ 1048576
  arms : ∀ a ∈ d.arms, FatesFew a.fates
theorem SFine.next {steps : List SStp} {k : Nat} {d d' : V.Dev} {T T' : Nat} (h : SFine steps k d T) (hk : k < steps.length) (hp : d'.pend.length ≤ d.pend.length + 2048) (ha : d'.arms.length ≤ d.arms.length + 1) (hT : T' + V.armSum d'.arms ≤ T + V.armSum d.arms + steps[k].fates.length) (hA : ∀ a ∈ d'.arms, FatesFew a.fates) : SFine steps (k + 1) d' T' := by
  have h1 := stotF_drop steps k hk
  have h2 := h.sum
  have h3 := h.pend
  have h4 := h.more
  exact ⟨by omega, by omega, by omega, hA⟩
theorem SFine.room {steps : List SStp} {k : Nat} {d : V.Dev} {T : Nat} (h : SFine steps k d T) (hk : k ≤ 1048577) : d.pend.length + 2048 ≤ 5864062014805 ∧ T ≤ 1048576 ∧ (d.arms.length + 1) * 32 ≤ 140737488355328 := by
  have h2 := h.sum
  have h3 := h.pend
  have h4 := h.more
  exact ⟨by omega, by omega, by omega⟩
theorem store_pend (d : V.Dev) (m : Mt) : (storeMD d m).1.pend.length ≤ d.pend.length + 2048 := by
  unfold storeMD
  split
  · refine Nat.le_trans (V.write_pend d _ _) ?_
    simp only [mpage_len]
    omega
  · simp only []; omega
theorem store_armsN (d : V.Dev) (m : Mt) : (storeMD d m).1.arms.length ≤ d.arms.length := by
  unfold storeMD; split
  · exact V.write_armsN _ _ _
  · exact Nat.le_refl _
theorem store_armsIn {d : V.Dev} {P : List V.Fate → Prop} (h : ∀ a ∈ d.arms, P a.fates) (m : Mt) : ∀ a ∈ (storeMD d m).1.arms, P a.fates := by
  unfold storeMD; split
  · exact V.write_armsIn h _ _
  · exact h
theorem store_code (d : V.Dev) (m : Mt) : (storeMD d m).2 = 0 ∨ (storeMD d m).2 = 1 ∨ (storeMD d m).2 = 8 ∨ (storeMD d m).2 = 9 := by
  unfold storeMD V.Dev.write V.Dev.done
  repeat' split
  all_goals simp
theorem wipe_pend (d : V.Dev) (n : Int) : (wipeMD d n).1.pend.length ≤ d.pend.length + 2048 := by
  unfold wipeMD
  split
  · refine Nat.le_trans (V.write_pend d _ _) ?_
    simp only [List.length_replicate]
    omega
  · simp only []; omega
theorem wipe_armsN (d : V.Dev) (n : Int) : (wipeMD d n).1.arms.length ≤ d.arms.length := by
  unfold wipeMD; split
  · exact V.write_armsN _ _ _
  · exact Nat.le_refl _
theorem wipe_armsIn {d : V.Dev} {P : List V.Fate → Prop} (h : ∀ a ∈ d.arms, P a.fates) (n : Int) : ∀ a ∈ (wipeMD d n).1.arms, P a.fates := by
  unfold wipeMD; split
  · exact V.write_armsIn h _ _
  · exact h
theorem wipe_code (d : V.Dev) (n : Int) : (wipeMD d n).2 = 0 ∨ (wipeMD d n).2 = 1 ∨ (wipeMD d n).2 = 8 ∨ (wipeMD d n).2 = 9 := by
  unfold wipeMD V.Dev.write V.Dev.done
  repeat' split
  all_goals simp
theorem write_code (d : V.Dev) (n : Int) (l : List UInt8) : (d.write n l).2 = 0 ∨ (d.write n l).2 = 1 ∨ (d.write n l).2 = 8 ∨ (d.write n l).2 = 9 := by
  unfold V.Dev.write V.Dev.done
  repeat' split
  all_goals simp
theorem sync_code (d : V.Dev) : d.sync.2 = 0 ∨ d.sync.2 = 1 ∨ d.sync.2 = 8 ∨ d.sync.2 = 9 := by
  unfold V.Dev.sync V.Dev.done
  repeat' split
  all_goals simp
theorem load_same (d : V.Dev) : (loadMR d).1.pend = d.pend ∧ (loadMR d).1.arms = d.arms := by
  unfold loadMR
  repeat' split
  all_goals exact ⟨rfl, rfl⟩
theorem load_code (d : V.Dev) : (loadMR d).2.2 = 0 ∨ (loadMR d).2.2 = 1 ∨ (loadMR d).2.2 = 8 ∨ (loadMR d).2.2 = 9 := by
  unfold loadMR choM
  repeat' split
  all_goals simp
theorem sfatesOut {W w : World} {F : Nat → Prop} {v : Value} {l : List V.Fate} (h : V.FatesIn W v l) (hb : Below W.heap.size W w) (hF : ∀ k, F k → W.heap.size ≤ k) : V.FatesOut w F v l := fun w' _ hs => by
  obtain ⟨a, cap, g, off, hv, hl, ha, hc⟩ := h
  refine ⟨a, cap, g, off, hv, hl, ha, fun j u hu => ?_⟩
  have h1 := hc j u hu
  have hlt := World.block_lt_of_cell? W _ h1
  simp only [] at hlt
  exact (World.cell?_of_block (hs g (by have := hb.size; omega) (fun hf => by have := hF g hf; omega))).trans ((World.cell?_of_block (hb.block g hlt)).trans h1)

end Go.Proofs.YtlopimdnjookeabGreatDoor

namespace Go.Proofs.YtlopimdnjookeabGreatDoor
open Go.RowKit

/-- Within a round: both devices and the step's box. -/
structure SMid (W w : World) (b : Nat) (F : Nat → Prop) (a : V.Dev) (c : Nat) (G : Nat → Prop) (d : V.Dev) (T : Nat) (p : Nat) (x : SStp) (pv fv : Value) : Prop where
  duo : SDuo W w b F a c G d T
  nine : Seven w p x pv fv
  lo : p < w.heap.size
  nf : ¬ F p
  ng : ¬ G p
theorem SMid.up {W w w' : World} {b c p : Nat} {F G : Nat → Prop} {a d : V.Dev} {T : Nat} {x : SStp} {pv fv : Value} (h : SMid W w b F a c G d T p x pv fv) (hb : Below w.heap.size w w') : SMid W w' b F a c G d T p x pv fv :=
  ⟨h.duo.up hb, h.nine.below hb, Nat.lt_of_lt_of_le h.lo hb.size, h.nf, h.ng⟩
theorem SMid.one {W w w' : World} {b c p : Nat} {F F' G : Nat → Prop} {a a' d : V.Dev} {T : Nat} {x : SStp} {pv fv : Value} (h : SMid W w b F a c G d T p x pv fv) (hd : V.DevAt w' b F' a') (hs : V.Step F F' w w') : SMid W w' b F' a' c G d T p x pv fv :=
  ⟨h.duo.one hd hs, h.nine.step hs h.nf, Nat.lt_of_lt_of_le h.lo hs.size, fun hf => (hs.sub p hf).elim h.nf (fun h1 => by have := h.lo; omega), h.ng⟩
theorem SMid.two {W w w' : World} {b c p : Nat} {F G G' : Nat → Prop} {a d d' : V.Dev} {T T' : Nat} {x : SStp} {pv fv : Value} (h : SMid W w b F a c G d T p x pv fv) (hd : V.RAll w' c G' d' T') (hs : V.Step G G' w w') : SMid W w' b F a c G' d' T' p x pv fv :=
  ⟨h.duo.two hd hs, h.nine.step hs h.ng, Nat.lt_of_lt_of_le h.lo hs.size, h.nf, fun hg => (hs.sub p hg).elim h.ng (fun h1 => by have := h.lo; omega)⟩

theorem SMid.store {A : Nat → Addr} {W w : World} {b c p : Nat} {F G : Nat → Prop} {d : V.Dev} {T : Nat} {x : SStp} {pv fv : Value} (M : SMid W w b F (V.shortD d) c G d T p x pv fv) (hE : EnvT W.heap.size A (A 8) W) (s : Mt) (hx : s.txid < 18446744073709551616) (hp : d.pend.length + 2048 ≤ 5864062014805) (w' : World) (hb : Below w.heap.size w w') :
    Calls Tryz.prog 18 #[.pointer (some ⟨b, 0, none⟩), .agg s.cells.toArray] w' fun e w'' => e = .returned (V.errV A (storeMD d s).2) ∧ ∃ F', SMid W w'' b F' (V.shortD (storeMD d s).1) c G d T p x pv fv := by
  have M' := M.up hb
  refine (storeMG_any W.heap.size A (A 8) b F (V.shortD d) s w' hx M'.duo.dev (hE.keep M'.duo.bel) M'.duo.farF (by show d.pend.length + 1 ≤ _; omega)).mono ?_
  rintro e w'' ⟨rfl, F', h1, h2⟩
  rw [short_store] at h1 ⊢
  exact ⟨rfl, F', M'.one h1 h2⟩
theorem SMid.rstore {W w : World} {b c p : Nat} {F G : Nat → Prop} {a d : V.Dev} {T : Nat} {x : SStp} {pv fv : Value} (M : SMid W w b F a c G d T p x pv fv) (s : Mt) (hx : s.txid < 18446744073709551616) (hp : d.pend.length + 2048 ≤ 5864062014805) (hT : T ≤ 1048576) (hA : ∀ a ∈ d.arms, FatesFew a.fates) (w' : World) (hb : Below w.heap.size w w') :
    Calls Tryz.prog 19 #[.pointer (some ⟨c, 0, none⟩), .agg s.cells.toArray] w' fun e w'' => e = .returned (.int .i64 ((storeMD d s).2 : Int)) ∧ ∃ G' T', SMid W w'' b F a c G' (storeMD d s).1 T' p x pv fv ∧ T' + V.armSum (storeMD d s).1.arms ≤ T + V.armSum d.arms := by
  have M' := M.up hb
  refine (rmstore_any c G d T s w' hx M'.duo.ref (by omega) hT hA).mono ?_
  rintro e w'' ⟨rfl, G', T', h1, h2, h3⟩
  exact ⟨rfl, G', T', M'.two h1 h2, h3⟩
theorem SMid.wipe {A : Nat → Addr} {W w : World} {b c p : Nat} {F G : Nat → Prop} {d : V.Dev} {T : Nat} {x : SStp} {pv fv : Value} (M : SMid W w b F (V.shortD d) c G d T p x pv fv) (hE : EnvT W.heap.size A (A 8) W) (n : Int) (hp : d.pend.length + 2048 ≤ 5864062014805) (w' : World) (hb : Below w.heap.size w w') :
    Calls Tryz.prog 20 #[.pointer (some ⟨b, 0, none⟩), .int .i64 n] w' fun e w'' => e = .returned (V.errV A (wipeMD d n).2) ∧ ∃ F', SMid W w'' b F' (V.shortD (wipeMD d n).1) c G d T p x pv fv := by
  have M' := M.up hb
  refine (wipeMG_any W.heap.size A (A 8) b F (V.shortD d) n w' M'.duo.dev (hE.keep M'.duo.bel) M'.duo.farF (by show d.pend.length + 1 ≤ _; omega)).mono ?_
  rintro e w'' ⟨rfl, F', h1, h2⟩
  rw [short_wipe] at h1 ⊢
  exact ⟨rfl, F', M'.one h1 h2⟩
theorem SMid.rwipe {W w : World} {b c p : Nat} {F G : Nat → Prop} {a d : V.Dev} {T : Nat} {x : SStp} {pv fv : Value} (M : SMid W w b F a c G d T p x pv fv) (n : Int) (hp : d.pend.length + 2048 ≤ 5864062014805) (hT : T ≤ 1048576) (hA : ∀ a ∈ d.arms, FatesFew a.fates) (w' : World) (hb : Below w.heap.size w w') :
    Calls Tryz.prog 21 #[.pointer (some ⟨c, 0, none⟩), .int .i64 n] w' fun e w'' => e = .returned (.int .i64 ((wipeMD d n).2 : Int)) ∧ ∃ G' T', SMid W w'' b F a c G' (wipeMD d n).1 T' p x pv fv ∧ T' + V.armSum (wipeMD d n).1.arms ≤ T + V.armSum d.arms := by
  have M' := M.up hb
  refine (rmwipe_any c G d T n w' M'.duo.ref (by omega) hT hA).mono ?_
  rintro e w'' ⟨rfl, G', T', h1, h2, h3⟩
  exact ⟨rfl, G', T', M'.two h1 h2, h3⟩
theorem SMid.load {A : Nat → Addr} {W w : World} {b c p : Nat} {F G : Nat → Prop} {d : V.Dev} {T : Nat} {x : SStp} {pv fv : Value} (M : SMid W w b F (V.shortD d) c G d T p x pv fv) (hE : EnvT W.heap.size A (A 8) W) (w' : World) (hb : Below w.heap.size w w') :
    Calls Tryz.prog 15 #[.pointer (some ⟨b, 0, none⟩)] w' fun e w'' => e = .returned (.tuple #[.agg (loadMR d).2.1.cells.toArray, V.errV A (loadMR d).2.2]) ∧ ∃ F', SMid W w'' b F' (V.shortD (loadMR d).1) c G d T p x pv fv := by
  have M' := M.up hb
  refine (loadMG_any W.heap.size A b F (V.shortD d) w' M'.duo.dev (hE.keep M'.duo.bel) M'.duo.farF).mono ?_
  rintro e w'' ⟨rfl, h1, h2⟩
  rw [short_load] at h1 ⊢
  exact ⟨rfl, F, M'.one h1 h2⟩
theorem SMid.rload {W w : World} {b c p : Nat} {F G : Nat → Prop} {a d : V.Dev} {T : Nat} {x : SStp} {pv fv : Value} (M : SMid W w b F a c G d T p x pv fv) (hp : d.pend.length + 2048 ≤ 5864062014805) (w' : World) (hb : Below w.heap.size w w') :
    Calls Tryz.prog 16 #[.pointer (some ⟨c, 0, none⟩)] w' fun e w'' => e = .returned (.tuple #[.agg (loadMR d).2.1.cells.toArray, .int .i64 ((loadMR d).2.2 : Int)]) ∧ SMid W w'' b F a c G (loadMR d).1 T p x pv fv ∧ V.Step G G w' w'' := by
  have M' := M.up hb
  refine (rmload_any c G d T w' M'.duo.ref (by omega)).mono ?_
  rintro e w'' ⟨rfl, h1, h2⟩
  exact ⟨rfl, M'.two h1 h2, h2⟩
theorem SMid.write {A : Nat → Addr} {W w : World} {b c p : Nat} {F G : Nat → Prop} {d : V.Dev} {T : Nat} {x : SStp} {pv fv : Value} (M : SMid W w b F (V.shortD d) c G d T p x pv fv) (hE : EnvT W.heap.size A (A 8) W) (n : Int) (v : Value) (D : List UInt8) (m : Nat) (hp : d.pend.length + 2048 ≤ 5864062014805) (hD : D.length ≤ 1048576) (w' : World) (hb : Below w.heap.size w w') (hm : w.heap.size ≤ m) (hr : w'.ownsRow m 5 1 v D.length (u8s D)) :
    Calls Tryz.prog 30 #[.pointer (some ⟨b, 0, none⟩), .int .i64 n, v] w' fun e w'' => e = .returned (V.errV A (d.write n D).2) ∧ ∃ F', SMid W w'' b F' (V.shortD (d.write n D).1) c G d T p x pv fv := by
  have M' := M.up hb
  refine (V.write_any W.heap.size A b F (V.shortD d) w' M'.duo.dev (hE.keep M'.duo.bel).errs M'.duo.farF n v D (V.bytesAt_own (base := m) (by exact hr) (by omega) (fun g hg hf => by have := (V.owns_blk hr g hg).1; have := M.duo.dev.lt g hf; omega)) (by show d.pend.length + _ ≤ _; omega) (V.opdone_any _ A b _)).mono ?_
  rintro e w'' ⟨rfl, F', h1, h2⟩
  rw [V.short_write] at h1 ⊢
  exact ⟨rfl, F', M'.one h1 h2⟩
theorem SMid.rwrite {W w : World} {b c p : Nat} {F G : Nat → Prop} {a d : V.Dev} {T : Nat} {x : SStp} {pv fv : Value} (M : SMid W w b F a c G d T p x pv fv) (n : Int) (hn : -9223372036854775808 ≤ n ∧ n < 9223372036854775808) (v : Value) (D : List UInt8) (hD : D.length ≤ 1048576) (hv : PIn W v D) (hp : d.pend.length + 2048 ≤ 5864062014805) (hT : T ≤ 1048576) (hA : ∀ a ∈ d.arms, FatesFew a.fates) (w' : World) (hb : Below w.heap.size w w') :
    Calls Tryz.prog 32 #[.pointer (some ⟨c, 0, none⟩), .int .i64 n, v] w' fun e w'' => e = .returned (.int .i64 ((d.write n D).2 : Int)) ∧ ∃ G' T', SMid W w'' b F a c G' (d.write n D).1 T' p x pv fv ∧ T' + V.armSum (d.write n D).1.arms ≤ T + V.armSum d.arms := by
  have M' := M.up hb
  refine (V.rwriteO_any c G d T w' M'.duo.ref n hn v D (hv.out M'.duo.bel M'.duo.farG) (by omega) hT hA).mono ?_
  rintro e w'' ⟨rfl, G', T', h1, h2, h3⟩
  exact ⟨rfl, G', T', M'.two h1 h2, h3⟩
theorem SMid.sync {A : Nat → Addr} {W w : World} {b c p : Nat} {F G : Nat → Prop} {d : V.Dev} {T : Nat} {x : SStp} {pv fv : Value} (M : SMid W w b F (V.shortD d) c G d T p x pv fv) (hE : EnvT W.heap.size A (A 8) W) (hp : d.pend.length + 2048 ≤ 5864062014805) (w' : World) (hb : Below w.heap.size w w') :
    Calls Tryz.prog 22 #[.pointer (some ⟨b, 0, none⟩)] w' fun e w'' => e = .returned (V.errV A d.sync.2) ∧ ∃ F', SMid W w'' b F' (V.shortD d.sync.1) c G d T p x pv fv := by
  have M' := M.up hb
  refine (V.sync_any W.heap.size A b F (V.shortD d) w' M'.duo.dev (hE.keep M'.duo.bel).errs M'.duo.farF (by show d.pend.length ≤ _; omega) (V.opdone_any _ A b _)).mono ?_
  rintro e w'' ⟨rfl, F', h1, h2⟩
  rw [V.short_sync] at h1 ⊢
  exact ⟨rfl, F', M'.one h1 h2⟩
theorem SMid.rsync {W w : World} {b c p : Nat} {F G : Nat → Prop} {a d : V.Dev} {T : Nat} {x : SStp} {pv fv : Value} (M : SMid W w b F a c G d T p x pv fv) (hp : d.pend.length + 2048 ≤ 5864062014805) (hT : T ≤ 1048576) (hA : ∀ a ∈ d.arms, FatesFew a.fates) (w' : World) (hb : Below w.heap.size w w') :
    Calls Tryz.prog 23 #[.pointer (some ⟨c, 0, none⟩)] w' fun e w'' => e = .returned (.int .i64 (d.sync.2 : Int)) ∧ ∃ G' T', SMid W w'' b F a c G' d.sync.1 T' p x pv fv ∧ T' + V.armSum d.sync.1.arms ≤ T + V.armSum d.arms := by
  have M' := M.up hb
  refine (V.rsync_any c G d T w' M'.duo.ref (by omega) hT hA).mono ?_
  rintro e w'' ⟨rfl, G', T', h1, h2, h3⟩
  exact ⟨rfl, G', T', M'.two h1 h2, h3⟩
theorem SMid.crash {W w : World} {b c p : Nat} {F G : Nat → Prop} {d : V.Dev} {T : Nat} {x : SStp} {pv fv : Value} (M : SMid W w b F (V.shortD d) c G d T p x pv fv) (l : List V.Fate) (v : Value) (hl : V.FatesIn W v l) (hp : d.pend.length + 2048 ≤ 5864062014805) (w' : World) (hb : Below w.heap.size w w') :
    Calls Tryz.prog 24 #[.pointer (some ⟨b, 0, none⟩), v] w' fun e w'' => e = .returned (.tuple #[]) ∧ ∃ F', SMid W w'' b F' (V.shortD (d.crash l)) c G d T p x pv fv := by
  have M' := M.up hb
  refine (V.crashI_any b F (V.shortD d) w' M'.duo.dev l v (hl.keep M'.duo.bel) (by show d.pend.length ≤ _; omega)).mono ?_
  rintro e w'' ⟨rfl, F', h1, h2⟩
  rw [V.short_crash] at h1
  exact ⟨rfl, F', M'.one h1 h2⟩
theorem SMid.rcrash {W w : World} {b c p : Nat} {F G : Nat → Prop} {a d : V.Dev} {T : Nat} {x : SStp} {pv fv : Value} (M : SMid W w b F a c G d T p x pv fv) (l : List V.Fate) (v : Value) (hl : V.FatesIn W v l) (hf : FatesFew l) (hp : d.pend.length + 2048 ≤ 5864062014805) (hT : T ≤ 1048576) (w' : World) (hb : Below w.heap.size w w') :
    Calls Tryz.prog 25 #[.pointer (some ⟨c, 0, none⟩), v] w' fun e w'' => e = .returned (.tuple #[]) ∧ ∃ G' T', SMid W w'' b F a c G' (d.crash l) T' p x pv fv ∧ T' + V.armSum (d.crash l).arms ≤ T + V.armSum d.arms + l.length := by
  have M' := M.up hb
  refine (V.rcrash_any c G d T w' M'.duo.ref l v (by omega) hf.1 hT hf.2 (sfatesOut hl M'.duo.bel M'.duo.farG)).mono ?_
  rintro e w'' ⟨rfl, G', T', h1, h2, h3⟩
  exact ⟨rfl, G', T', M'.two h1 h2, by rw [V.crash_arms]; omega⟩
theorem SMid.revive {W w : World} {b c p : Nat} {F G : Nat → Prop} {d : V.Dev} {T : Nat} {x : SStp} {pv fv : Value} (M : SMid W w b F (V.shortD d) c G d T p x pv fv) (w' : World) (hb : Below w.heap.size w w') :
    Calls Tryz.prog 26 #[.pointer (some ⟨b, 0, none⟩)] w' fun e w'' => e = .returned (.tuple #[]) ∧ SMid W w'' b F (V.shortD d.revive) c G d T p x pv fv := by
  have M' := M.up hb
  refine (V.revive_any b F (V.shortD d) w' M'.duo.dev).mono ?_
  rintro e w'' ⟨rfl, h1, h2⟩
  exact ⟨rfl, M'.one h1 h2⟩
theorem SMid.rrevive {W w : World} {b c p : Nat} {F G : Nat → Prop} {a d : V.Dev} {T : Nat} {x : SStp} {pv fv : Value} (M : SMid W w b F a c G d T p x pv fv) (w' : World) (hb : Below w.heap.size w w') :
    Calls Tryz.prog 27 #[.pointer (some ⟨c, 0, none⟩)] w' fun e w'' => e = .returned (.tuple #[]) ∧ SMid W w'' b F a c G d.revive T p x pv fv := by
  have M' := M.up hb
  refine (V.rrevAll_any c G d T w' M'.duo.ref).mono ?_
  rintro e w'' ⟨rfl, h1, h2⟩
  exact ⟨rfl, M'.two h1 h2⟩
theorem SMid.arm {W w : World} {b c p : Nat} {F G : Nat → Prop} {d : V.Dev} {T : Nat} {x : SStp} {pv fv : Value} (M : SMid W w b F (V.shortD d) c G d T p x pv fv) (n : Int) (hn : n < 9223372036854775808) (l : List V.Fate) (v : Value) (hl : V.FatesIn W v l) (hf : FatesFew l) (hq : (d.arms.length + 1) * 32 ≤ 140737488355328) (w' : World) (hb : Below w.heap.size w w') :
    Calls Tryz.prog 28 #[.pointer (some ⟨b, 0, none⟩), .int .i64 n, v] w' fun e w'' => e = .returned (.tuple #[]) ∧ ∃ F', SMid W w'' b F' (V.shortD (d.armF n l)) c G d T p x pv fv := by
  have M' := M.up hb
  refine (V.armI_any b F (V.shortD d) w' M'.duo.dev n l v (hl.keep M'.duo.bel) (by have := hf.1; omega) hn (by show ((d.arms.map _).length + 1) * 32 ≤ _; rw [List.length_map]; exact hq)).mono ?_
  rintro e w'' ⟨rfl, F', h1, h2⟩
  rw [V.short_arm] at h1
  exact ⟨rfl, F', M'.one h1 h2⟩
theorem SMid.rarm {W w : World} {b c p : Nat} {F G : Nat → Prop} {a d : V.Dev} {T : Nat} {x : SStp} {pv fv : Value} (M : SMid W w b F a c G d T p x pv fv) (n : Int) (hn : -9223372036854775808 ≤ n ∧ n < 9223372036854775808) (l : List V.Fate) (v : Value) (hl : V.FatesIn W v l) (hf : FatesFew l) (hq : (d.arms.length + 1) * 32 ≤ 140737488355328) (w' : World) (hb : Below w.heap.size w w') :
    Calls Tryz.prog 29 #[.pointer (some ⟨c, 0, none⟩), .int .i64 n, v] w' fun e w'' => e = .returned (.tuple #[]) ∧ ∃ G', SMid W w'' b F a c G' (d.armF n l) T p x pv fv := by
  have M' := M.up hb
  refine (V.rarm_any c G d T w' M'.duo.ref n hn l v (hl.keep M'.duo.bel) hf.1 hq).mono ?_
  rintro e w'' ⟨rfl, G', h1, h2⟩
  exact ⟨rfl, G', M'.two h1 h2⟩

end Go.Proofs.YtlopimdnjookeabGreatDoor
