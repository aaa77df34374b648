import Derived.Test.YtnaedmmfiiebaaaGreatDoorG30
import Derived.Test.YtnaedmmfiiebaaaGreatDoorG25
import Derived.Test.YtnaedmmfiiebaaaGreatDoorG29
import Derived.Test.YtnaedmmfiiebaaaGreatDoorG22
namespace Go.Proofs.YtnaedmmfiiebaaaGreatDoor.S
open Go.RowKit

set_option maxRecDepth 100000 in
set_option maxHeartbeats 1000000 in
theorem read_short (a : Addr) (a0 : Option Addr) (n cap : Nat) (l : List UInt8) (id : Int) (w : World) (hl : l.length = n) (hn : n ≠ 4096) (hE : w.cell? ⟨1, 0, none⟩ = some (.iface 360 (.pointer (some a)))) :
    Calls Tryz.prog 152 #[.slice a0 n cap, .int .i64 id] w fun e w' => e = .returned (.tuple (readV a l id)) ∧ Below w.heap.size w w' := by
  have HOK : Hid (¬ okRead l id) := fun h => hn (hl.symm.trans h.1)
  have hd0 : ((n : Int) != 4096) = true := by rw [bne_iff_ne]; omega
  have HBF : Hid (Below w.heap.size w (w.alloc (.cells #[.int .i64 0, .int .i64 0, .int .u64 0, .int .i64 0, .string ⟨#[]⟩] 87))) := below_new w _
  have HROW : Hid ((w.alloc (.cells #[.int .i64 0, .int .i64 0, .int .u64 0, .int .i64 0, .string ⟨#[]⟩] 87)).heap[w.heap.size]? = some (.cells #[.int .i64 0, .int .i64 0, .int .u64 0, .int .i64 0, .string ⟨#[]⟩] 87 (0, 0))) := heap_alloc_new w _
  have hlt : 1 < w.heap.size := World.block_lt_of_cell? w _ hE
  have cE : (w.alloc (.cells #[.int .i64 0, .int .i64 0, .int .u64 0, .int .i64 0, .string ⟨#[]⟩] 87)).cell? ⟨1, 0, none⟩ = some (.iface 360 (.pointer (some a))) := (HBF.out.cell (p := ⟨1, 0, none⟩) hlt).trans hE
  have hne : ¬ w.heap.size = 1 := by omega
  clear hl hn hE
  go_enter Tryz.func152, Tryz.ntmps152
  go_wp2_with fail
  generalize hW : (w.alloc (.cells #[.int .i64 0, .int .i64 0, .int .u64 0, .int .i64 0, .string ⟨#[]⟩] 87)) = W0 at *
  have hr := HROW.out
  have z0 : W0.cell? ⟨w.heap.size, 0, none⟩ = some (.int .i64 0) := by rw [cell_of_row _ _ _ _ _ _ hr]; rfl
  have z1 : W0.cell? ⟨w.heap.size, 1, none⟩ = some (.int .i64 0) := by rw [cell_of_row _ _ _ _ _ _ hr]; rfl
  have z2 : W0.cell? ⟨w.heap.size, 2, none⟩ = some (.int .u64 0) := by rw [cell_of_row _ _ _ _ _ _ hr]; rfl
  have z3 : W0.cell? ⟨w.heap.size, 3, none⟩ = some (.int .i64 0) := by rw [cell_of_row _ _ _ _ _ _ hr]; rfl
  have z4 : W0.cell? ⟨w.heap.size, 4, none⟩ = some (.string ⟨#[]⟩) := by rw [cell_of_row _ _ _ _ _ _ hr]; rfl
  have y0 : W0.frozen? ⟨w.heap.size, 0, none⟩ = false := frozen_of_row _ _ _ _ _ hr
  have y1 : W0.frozen? ⟨w.heap.size, 1, none⟩ = false := frozen_of_row _ _ _ _ _ hr
  have y2 : W0.frozen? ⟨w.heap.size, 2, none⟩ = false := frozen_of_row _ _ _ _ _ hr
  have y3 : W0.frozen? ⟨w.heap.size, 3, none⟩ = false := frozen_of_row _ _ _ _ _ hr
  have y4 : W0.frozen? ⟨w.heap.size, 4, none⟩ = false := frozen_of_row _ _ _ _ _ hr
  clear hW hr
  go_region_held3 (fun w' => w'.cell? ⟨1, 0, none⟩ = some (.iface 360 (.pointer (some a)))) (go_keep) (fail)
  go_wp2_with fail
  (try simp only [Exit.inBlock, Exit.then])
  refine bodyPost_ret (results_row_tmp rfl _ _ w.heap.size 87 #[.int .i64 0, .int .i64 0, .int .u64 0, .int .i64 0, .string ⟨#[]⟩] (0, 0) _ rfl (set_five_drew HROW.out) Tryz.underlying87 rfl (by kernel_rfl)) rfl ⟨?_, (below_five HBF.out (Nat.le_refl _)).drew⟩
  rw [readV_no HOK.out]; rfl

/-- The slice value v, that begins its block, reads as the bytes l. -/
def RdB (w : World) (v : Value) (l : List UInt8) : Prop :=
  (v = .slice none 0 0 ∧ l = []) ∨ ∃ g cap, v = .slice (some ⟨g, 0, none⟩) l.length cap ∧ l.length ≤ cap ∧ cap ≤ 9223372036854775807 ∧ g < w.heap.size ∧ (∀ j (h : j < l.length), w.cell? ⟨g, j, none⟩ = some (.int .u8 (l[j].toNat : Int)))
theorem RdB.below {w w' : World} {v : Value} {l : List UInt8} (h : RdB w v l) (hb : Below w.heap.size w w') : RdB w' v l := by
  rcases h with h | ⟨g, cap, hv, h1, h2, h3, h4⟩
  · exact .inl h
  · exact .inr ⟨g, cap, hv, h1, h2, Nat.lt_of_lt_of_le h3 hb.size, fun j hj => (hb.cell (p := ⟨g, j, none⟩) h3).trans (h4 j hj)⟩

theorem read_any (a : Addr) (v : Value) (l : List UInt8) (id : Int) (w : World) (hr : RdB w v l) (hL : Lay w) (hT : Tab w) (hE : w.cell? ⟨1, 0, none⟩ = some (.iface 360 (.pointer (some a)))) :
    Calls Tryz.prog 152 #[v, .int .i64 id] w fun e w' => e = .returned (.tuple (readV a l id)) ∧ Below w.heap.size w w' := by
  rcases hr with ⟨rfl, rfl⟩ | ⟨g, cap, rfl, h1, h2, h3, h4⟩
  · exact read_short a none 0 0 [] id w rfl (by decide) hE
  · by_cases hl : l.length = 4096
    · rw [hl] at h1 ⊢
      exact read_len a g cap l id w hl h1 h2 hL hT hE h4
    · exact read_short a _ l.length cap l id w rfl hl hE

end Go.Proofs.YtnaedmmfiiebaaaGreatDoor.S

namespace Go.Proofs.YtnaedmmfiiebaaaGreatDoor.S
open Go.RowKit

theorem nums_bare0 (k c i t sum : Nat) (body : List UInt8) : nums (bare k c i t sum body) 0 = beNat (beBytes k 1) := rfl
theorem nums_bare1 (k c i t sum : Nat) (body : List UInt8) : nums (bare k c i t sum body) 1 = beNat (beBytes c 2) := rfl
theorem nums_bare2 (k c i t sum : Nat) (body : List UInt8) : nums (bare k c i t sum body) 2 = beNat (beBytes i 4) := rfl
theorem nums_bare3 (k c i t sum : Nat) (body : List UInt8) : nums (bare k c i t sum body) 3 = beNat (beBytes t 8) := rfl
theorem drop_bare (k c i t sum : Nat) (body : List UInt8) : (bare k c i t sum body).drop 24 = body := rfl

theorem parse_page (s : Sh) (hm : May s) (hx : s.txid < 18446744073709551616) : parse (page s) = s := by
  obtain ⟨k, i, t, c, b⟩ := s
  obtain ⟨hk, ⟨hc1, hc2⟩, ⟨hi1, hi2⟩, hb⟩ := hm
  simp only at hk hc1 hc2 hi1 hi2 hb hx
  obtain ⟨k, rfl⟩ := Int.eq_ofNat_of_zero_le (show 0 ≤ k by omega)
  obtain ⟨c, rfl⟩ := Int.eq_ofNat_of_zero_le hc1
  obtain ⟨i, rfl⟩ := Int.eq_ofNat_of_zero_le (show 0 ≤ i by omega)
  have h : page ⟨(k : Int), (i : Int), t, (c : Int), b⟩ = bare k c i t (crcV (pageB ⟨(k : Int), (i : Int), t, (c : Int), b⟩ 0)) b.data.toList := rfl
  rw [h]
  generalize crcV (pageB ⟨(k : Int), (i : Int), t, (c : Int), b⟩ 0) = sum
  unfold parse
  rw [nums_bare0, nums_bare1, nums_bare2, nums_bare3, drop_bare, back_num 1 k (by decide) (by show k < 2 ^ 8; omega), back_num 2 c (by decide) (by show c < 2 ^ 16; omega), back_num 4 i (by decide) (by show i < 2 ^ 32; omega), back_num 8 t (by decide) (by show t < 2 ^ 64; omega)]

theorem okRead_page (s : Sh) (hm : May s) (hx : s.txid < 18446744073709551616) (id : Int) : okRead (page s) id ↔ id = s.id := by
  unfold okRead
  rw [parse_page s hm hx]
  exact ⟨fun h => h.2.1.symm, fun h => ⟨page_len s hm, h.symm, hm, rfl⟩⟩

end Go.Proofs.YtnaedmmfiiebaaaGreatDoor.S

namespace Go.Proofs.YtnaedmmfiiebaaaGreatDoor.S
open Go.RowKit

/-- What a call over a device finds: the refusals, the tables, all below base. -/
structure Env (base : Nat) (A : Nat → Addr) (w : World) : Prop where
  errs : V.ErrsB base A w
  text : w.cell? ⟨1, 0, none⟩ = some (.iface 360 (.pointer (some (A 1))))
  lo : 1 < base ∧ 14 < base ∧ 15 < base
  lay : Lay w
  tab : Tab w
theorem Env.keep {base : Nat} {A : Nat → Addr} {w w' : World} (h : Env base A w) (hb : Below base w w') : Env base A w' := by
  obtain ⟨he, ht, ⟨l1, l2, l3⟩, ⟨h0, c0, c1, c2, c3, c4, c5, c6, c7, c8, c9⟩, hT⟩ := h
  exact ⟨he.keep hb, (hb.cell l1).trans ht, ⟨l1, l2, l3⟩, ⟨Nat.lt_of_lt_of_le h0 hb.size, (hb.cell l2).trans c0, (hb.cell l2).trans c1, (hb.cell l2).trans c2, (hb.cell l2).trans c3, (hb.cell l2).trans c4, (hb.cell l2).trans c5, (hb.cell l2).trans c6, (hb.cell l2).trans c7, (hb.cell l2).trans c8, (hb.cell l2).trans c9⟩,
    ⟨fun j hj => (hb.cell (p := ⟨15, j, none⟩) l3).trans (hT.1 j hj), Nat.lt_of_lt_of_le hT.2 hb.size⟩⟩
theorem Env.up {base : Nat} {A : Nat → Addr} {w w' : World} (h : Env base A w) (hb : Below w.heap.size w w') : Env base A w' := h.keep (hb.mono h.errs.size)
theorem Env.step {base : Nat} {A : Nat → Addr} {w w' : World} {F F' : Nat → Prop} (h : Env base A w) (hs : V.Step F F' w w') (hF : ∀ k, F k → base ≤ k) : Env base A w' := h.keep (hs.below hF h.errs.size)

set_option maxHeartbeats 400000 in
theorem first_any (i : Int) (w : World) (h1 : 0 ≤ i) (h2 : i ≤ 1048576) : Calls Tryz.prog 98 #[.int .i64 i] w fun e w' => e = .returned (.int .i64 (i * 8)) ∧ w = w' := by
  go_enter Tryz.func98, Tryz.ntmps98
  go_wp2
  go_ret
  exact ⟨rfl, rfl⟩

set_option maxHeartbeats 400000 in
theorem sholds_any (b : Nat) (F : Nat → Prop) (d : V.Dev) (i : Int) (w : World) (h : V.DevAt w b F d) (h1 : 0 ≤ i) (h2 : i < 1048576) :
    Calls Tryz.prog 96 #[.pointer (some ⟨b, 0, none⟩), .int .i64 i] w fun e w' => e = .returned (.bool (decide ((i + 1) * 8 ≤ d.size))) ∧ w = w' := by
  have S := V.size_any b F d w h
  have HS : Hid (Calls Tryz.prog 133 #[.pointer (some ⟨b, 0, none⟩)] w fun e w' => e = .returned (.int .i64 d.size) ∧ w = w') := S
  have FS := first_any (i + 1) w (by omega) (by omega)
  have HF : Hid (Calls Tryz.prog 98 #[.int .i64 (i + 1)] w fun e w' => e = .returned (.int .i64 ((i + 1) * 8)) ∧ w = w') := FS
  clear S FS h
  generalize d.size = sz at *
  go_enter Tryz.func96, Tryz.ntmps96
  go_wp2_with fail
  refine Calls.mono HS.out ?_
  rintro e w' ⟨rfl, rfl⟩
  go_wp2_with fail
  refine Calls.mono HF.out ?_
  rintro e w' ⟨rfl, rfl⟩
  go_wp2_with fail
  go_ret
  exact ⟨rfl, rfl⟩

end Go.Proofs.YtnaedmmfiiebaaaGreatDoor.S

namespace Go.Proofs.YtnaedmmfiiebaaaGreatDoor.S
open Go.RowKit

theorem rdb_of_owns {w : World} {base n : Nat} {v : Value} {l : List UInt8} (h : w.ownsRow base 5 1 v n (u8s l)) : RdB w v l := by
  rcases rd_of_owns h with h | ⟨g, cap, hv, h1, h2, h3, h4⟩
  · exact .inl h
  · exact .inr ⟨g, cap, hv, h1, Nat.le_trans h2 (by decide), h3, h4⟩
theorem five_step {w : World} {b : Nat} {u0 u1 u2 u3 u4 : Value} : V.Step (fun k => k = b) (fun k => k = b) w (((((w.setCell ⟨b, 0, none⟩ u0).setCell ⟨b, 1, none⟩ u1).setCell ⟨b, 2, none⟩ u2).setCell ⟨b, 3, none⟩ u3).setCell ⟨b, 4, none⟩ u4) := by
  have hs : Sole b w (((((w.setCell ⟨b, 0, none⟩ u0).setCell ⟨b, 1, none⟩ u1).setCell ⟨b, 2, none⟩ u2).setCell ⟨b, 3, none⟩ u3).setCell ⟨b, 4, none⟩ u4) :=
    ((((Sole.set b 0 w u0).trans (Sole.set b 1 _ u1)).trans (Sole.set b 2 _ u2)).trans (Sole.set b 3 _ u3)).trans (Sole.set b 4 _ u4)
  exact ⟨hs.os, hs.tape, hs.output, hs.size, hs.block, fun k h => .inl h⟩
/-- The device behind a Load. -/
def loadedD (d : V.Dev) : V.Dev := { d with nr := wrap64 (d.nr + 8) }
end Go.Proofs.YtnaedmmfiiebaaaGreatDoor.S

namespace Go.Proofs.YtnaedmmfiiebaaaGreatDoor.T
open Go.RowKit

/-- The device's own block alone may have turned. -/
abbrev One (db : Nat) (w w' : World) : Prop := S.V.Step (fun k => k = db) (fun k => k = db) w w'
/-- What lies in a device's own block: no text, and no value of an interface. -/
theorem dev_kinds {w : World} {db : Nat} {F : Nat → Prop} {d : S.V.Dev} (h : S.V.DevAt w db F d) {j : Nat} {v : Value} (hc : w.cell? ⟨db, j, none⟩ = some v) : (∀ s, v ≠ .string s) ∧ ∀ t x, v ≠ .iface t x := by
  obtain ⟨mb, nb, pv, av, Dn, hb⟩ := h
  rw [hb.cell j] at hc
  obtain ⟨pa, pn, pc, hp⟩ : ∃ a n c, pv = .slice a n c := by
    rcases hb.pend.2 with ⟨h', _⟩ | ⟨g, cap, cur, h', _⟩
    · exact ⟨_, _, _, h'⟩
    · exact ⟨_, _, _, h'⟩
  obtain ⟨aa, an, ac, ha⟩ : ∃ a n c, av = .slice a n c := by
    rcases hb.arms with ⟨_, h'⟩ | ⟨g, off, cap, cur, fv, h', _⟩
    · exact ⟨_, _, _, h'⟩
    · exact ⟨_, _, _, h'⟩
  subst hp ha
  have hj : j < 9 := by
    have := (Array.getElem?_eq_some_iff.1 hc).1
    simpa [S.V.devCells] using this
  match j, hj, hc with
  | 0, _, hc | 1, _, hc | 2, _, hc | 3, _, hc | 4, _, hc | 5, _, hc | 6, _, hc | 7, _, hc | 8, _, hc =>
    simp only [S.V.devCells] at hc
    cases hc
    exact ⟨(fun s e => by cases e), (fun t x e => by cases e)⟩
theorem One.cell {db : Nat} {w w' : World} (h : One db w w') {a : Addr} {v : Value} (hc : w.cell? a = some v) (hn : a.block ≠ db) : w'.cell? a = some v := S.V.Step.cell h hc hn
theorem One.str {db : Nat} {w w' : World} {F : Nat → Prop} {d : S.V.Dev} (h : One db w w') (hd : S.V.DevAt w db F d) {g o : Nat} {s : ByteArray} (hc : w.cell? ⟨g, o, none⟩ = some (.string s)) : g ≠ db := fun e => by
  subst e
  exact (dev_kinds hd hc).1 s rfl
theorem One.ifc {db : Nat} {w w' : World} {F : Nat → Prop} {d : S.V.Dev} (h : One db w w') (hd : S.V.DevAt w db F d) {g o : Nat} {t : TypeId} {x : Value} (hc : w.cell? ⟨g, o, none⟩ = some (.iface t x)) : g ≠ db := fun e => by
  subst e
  exact (dev_kinds hd hc).2 t x rfl
theorem prR_one {db : Nat} {w w' : World} {F : Nat → Prop} {d : S.V.Dev} (h : One db w w') (hd : S.V.DevAt w db F d) {v : Value} {l : List Pr} (hr : PrR w v l) : PrR w' v l := by
  obtain ⟨a, cap, rfl, hle, hn, hc⟩ := hr
  refine ⟨a, cap, rfl, hle, hn, fun j hj => ?_⟩
  obtain ⟨g, o, ha, h1, h2⟩ := hc j hj
  have hg := h.str hd h1
  exact ⟨g, o, ha, h.cell (a := ⟨g, o + j * 2, none⟩) h1 hg, h.cell (a := ⟨g, o + j * 2 + 1, none⟩) h2 hg⟩
theorem lkR_one {db : Nat} {w w' : World} {F : Nat → Prop} {d : S.V.Dev} (h : One db w w') (hd : S.V.DevAt w db F d) {v : Value} {l : List B.Lk} (hr : B.LkR w v l) : B.LkR w' v l := by
  obtain ⟨a, cap, rfl, hle, hn, hc⟩ := hr
  refine ⟨a, cap, rfl, hle, hn, fun j hj => ?_⟩
  obtain ⟨g, o, ha, h1, h2⟩ := hc j hj
  have hg := h.str hd h1
  exact ⟨g, o, ha, h.cell (a := ⟨g, o + j * 2, none⟩) h1 hg, h.cell (a := ⟨g, o + j * 2 + 1, none⟩) h2 hg⟩
theorem chR_one {db : Nat} {w w' : World} {F : Nat → Prop} {d : S.V.Dev} (h : One db w w') (hd : S.V.DevAt w db F d) {v : Value} {l : List C.Ch} (hr : C.LkR w v l) : C.LkR w' v l := by
  obtain ⟨a, cap, rfl, hle, hn, hc⟩ := hr
  refine ⟨a, cap, rfl, hle, hn, fun j u hj => ?_⟩
  obtain ⟨g, o, ha, h1⟩ := hc j u hj
  obtain ⟨p, _, rfl⟩ : ∃ p ∈ l, p.val = u := by
    have := List.mem_of_getElem? hj
    simpa [C.lks] using this
  obtain ⟨t, x, hp⟩ := val_form p
  have hg := h.ifc hd (hp ▸ h1)
  exact ⟨g, o, ha, h.cell (a := ⟨g, o + j, none⟩) h1 hg⟩
theorem SNR.one {db : Nat} {w w' : World} {F : Nat → Prop} {d : S.V.Dev} (h : One db w w') (hd : S.V.DevAt w db F d) {b : Nat} {n : SN} {pv lv cv : Value} (hs : SNR w b n pv lv cv) : SNR w' b n pv lv cv := by
  refine ⟨?_, prR_one h hd hs.prs, lkR_one h hd hs.lks, chR_one h hd hs.kids, hs.fine⟩
  refine (h.block b hs.row.lt (fun e => ?_)).trans hs.row
  subst e
  obtain ⟨mb, nb, pv', av, Dn, hb⟩ := hd
  have h1 := hs.row
  unfold B.RowAt at h1
  rw [hb.blk] at h1
  simp at h1
theorem NodeIs.one {PG : Int → Option PD} {db : Nat} {w w' : World} {F : Nat → Prop} {d : S.V.Dev} (h : One db w w') (hd : S.V.DevAt w db F d) : ∀ (ht : Nat) {n : SN} {t : Nd ht}, NodeIs PG w ht n t → NodeIs PG w' ht n t
  | 0, _, _, hn => hn
  | ht + 1, n, t, hn => ⟨hn.1, hn.2.1, hn.2.2.1, hn.2.2.2.1, fun i p c h1 h2 => by
    have := hn.2.2.2.2 i p c h1 h2
    cases p with
    | pg id => exact this
    | nd b =>
      obtain ⟨h0, m, pv, lv, cv, hs, hm⟩ := this
      exact ⟨h0, m, pv, lv, cv, hs.one h hd, NodeIs.one h hd ht hm⟩⟩
theorem KidIs.one {PG : Int → Option PD} {db : Nat} {w w' : World} {F : Nat → Prop} {d : S.V.Dev} {ht : Nat} {p : C.Ch} {t : Nd ht} (hk : KidIs PG w ht p t) (h : One db w w') (hd : S.V.DevAt w db F d) : KidIs PG w' ht p t := by
  cases p with
  | pg id => exact hk
  | nd b =>
    obtain ⟨h0, m, pv, lv, cv, hs, hm⟩ := hk
    exact ⟨h0, m, pv, lv, cv, hs.one h hd, hm.one h hd ht⟩

end Go.Proofs.YtnaedmmfiiebaaaGreatDoor.T

namespace Go.Proofs.YtnaedmmfiiebaaaGreatDoor.T
open Go.RowKit

theorem errs_one {n : Nat} {A : Nat → Addr} {db : Nat} {w w' : World} {F F' : Nat → Prop} {d d' : S.V.Dev} (h : One db w w') (hd : S.V.DevAt w db F d) (hd' : S.V.DevAt w' db F' d') (hE : ErrsG n gAll A w) : ErrsG n gAll A w' := by
  refine ⟨fun i hi => ?_, hE.2⟩
  obtain ⟨h1, c, t, h2⟩ := hE.1 i hi
  refine ⟨h.cell h1 (h.ifc hd h1), ?_⟩
  by_cases he : (A i).block = db
  · obtain ⟨mb, nb, pv, av, Dn, hb⟩ := hd'
    exact ⟨_, _, by rw [he]; exact hb.blk⟩
  · exact ⟨c, t, (h.block _ (Array.getElem?_eq_some_iff.1 h2).1 he).trans h2⟩
theorem eql_nil_err (p : Option Addr) (w : World) : (binOp .eql 32 .nilIface (.iface 360 (.pointer p))).run Tryz.prog w = .ok (.bool false) w := by
  have h2 : ∀ d : Nat, (Op.equalIn (d + 1) 32 .nilIface (.iface 360 (.pointer p))).run Tryz.prog w = .ok false w := fun d => by
    simp [Op.equalIn, run_underlying Tryz.underlying32]
  simp only [binOp]
  simp [Op.equal, Op.maxDepth, h2 9999]
end Go.Proofs.YtnaedmmfiiebaaaGreatDoor.T

namespace Go.Proofs.YtnaedmmfiiebaaaGreatDoor.T
open Go.RowKit

end Go.Proofs.YtnaedmmfiiebaaaGreatDoor.T

namespace Go.Proofs.YtnaedmmfiiebaaaGreatDoor.T
open Go.RowKit

/-- A page of a device is that sheet's. -/
def SheetAt (d : S.V.Dev) (id : Int) (s : S.Sh) : Prop := S.May s ∧ s.txid < 18446744073709551616 ∧ s.id = id ∧ (s.id + 1) * 8 ≤ d.size ∧ S.V.readB d (s.id * 8) 8 = S.page s
/-- What a sheet holds. -/
def HoldsD (s : S.Sh) (p : PD) : Prop :=
  (s.kind = 76 ∧ DecOk s.count.toNat s.body.data.toList ∧ p = .leaf (decL s.count.toNat s.body.data.toList)) ∨
  (s.kind = 66 ∧ B.DecB s.count.toNat s.body.data.toList ∧ p = .br (B.brF (cellsB s.body.data.toList s.count.toNat)) (B.brL (cellsB s.body.data.toList s.count.toNat)))
open Classical in
/-- What the pages of a device hold. -/
noncomputable def PGof (d : S.V.Dev) (id : Int) : Option PD := if h : ∃ p s, SheetAt d id s ∧ HoldsD s p then some (Classical.choose h) else none
theorem pgof_some {d : S.V.Dev} {id : Int} {p : PD} (h : PGof d id = some p) : ∃ s, SheetAt d id s ∧ HoldsD s p := by
  unfold PGof at h
  split at h
  · rename_i hh
    cases h
    exact Classical.choose_spec hh
  · cases h
theorem pgs_get (f : Int) (lk : List B.Lk) (i : Nat) (p : C.Ch) (h : (pgs f lk)[i]? = some p) : ∃ x, (B.kids f lk)[i]? = some x ∧ p = .pg x := by
  cases i with
  | zero => cases h; exact ⟨f, rfl, rfl⟩
  | succ i =>
    have h : (lk.map (fun q => C.Ch.pg q.2))[i]? = some p := h
    rw [List.getElem?_map] at h
    cases hq : lk[i]? with
    | none => rw [hq] at h; cases h
    | some q =>
      rw [hq] at h
      cases h
      exact ⟨q.2, by show (lk.map (·.2))[i]? = some q.2; rw [List.getElem?_map, hq]; rfl, rfl⟩
end Go.Proofs.YtnaedmmfiiebaaaGreatDoor.T

namespace Go.Proofs.YtnaedmmfiiebaaaGreatDoor.T
open Go.RowKit

theorem as_pp (v : Value) (w : World) : (Instr.typeAssert (.iface 146 v) 97 146 true).run Tryz.prog w = .ok (.tuple #[v, .bool true]) w := by kernel_rfl
theorem as_np (v : Value) (w : World) : (Instr.typeAssert (.iface 152 v) 97 146 true).run Tryz.prog w = .ok (.tuple #[.int .i64 0, .bool false]) w := by kernel_rfl
theorem as_nn (v : Value) (w : World) : (Instr.typeAssert (.iface 152 v) 97 152 true).run Tryz.prog w = .ok (.tuple #[v, .bool true]) w := by kernel_rfl
end Go.Proofs.YtnaedmmfiiebaaaGreatDoor.T

namespace Go.Proofs.YtnaedmmfiiebaaaGreatDoor.T
open Go.RowKit

set_option maxRecDepth 20000 in
set_option maxHeartbeats 2000000 in
/-- settle, where the child is not too small. -/
theorem settle_plain (A : Nat → Addr) (tb b bb : Nat) (n nb : SN) (pv lv cv pb lb cb : Value) (i : Nat) (w : World) (h : SNR w b n pv lv cv) (hb : SNR w bb nb pb lb cb) (hi : i < n.us.length) (hlen : n.us.length = n.lk.length + 1) (hroom : n.lk.length ≤ 3999) (hkin : nb.kin) (hns : ¬ nb.sz < nb.min) (hE : ErrC A w) :
    Calls Tryz.prog 82 #[.pointer (some ⟨tb, 0, none⟩), .agg #[.pointer (some ⟨b, 0, none⟩), .int .i64 (i : Int)], .pointer (some ⟨bb, 0, none⟩)] w fun e w' => ∃ b', e = .returned (.tuple #[.pointer (some ⟨b', 0, none⟩), .nilIface]) ∧ WithS w n i bb nb (.returned (.pointer (some ⟨b', 0, none⟩))) w' := by
  have q0 := below_new w (.cells #[.pointer (some ⟨b, 0, none⟩), .int .i64 (i : Int)] 159)
  have x0 := B.RowAt.new w #[.pointer (some ⟨b, 0, none⟩), .int .i64 (i : Int)] 159
  generalize hW0 : w.alloc (.cells #[.pointer (some ⟨b, 0, none⟩), .int .i64 (i : Int)] 159) = W0 at *
  have HTS := hide (toosmall_any bb nb pb lb cb W0 (hb.below q0))
  rw [show decide (nb.sz < nb.min) = false by simp [hns]] at HTS
  have HWN : Hid (∀ W, Below w.heap.size w W → Calls Tryz.prog 124 #[.pointer (some ⟨b, 0, none⟩), .int .i64 (i : Int), .pointer (some ⟨bb, 0, none⟩)] W fun e w' => ∃ b', e = .returned (.pointer (some ⟨b', 0, none⟩)) ∧ WithS w n i bb nb e w') := fun W hW => by
    refine (wnode_any A b bb n nb pv lv cv pb lb cb i W (h.below hW) (hb.below hW) hi hlen hroom hkin (hE.below hW)).mono fun e w' hh => ?_
    rcases hh with ⟨g1, b', p', l', c', rfl, g2, g3⟩ | ⟨g1, a, k, c, ba, bc, pa, la, ca, pc, lc, cc, g2, g3, g4, b', p', l', c', rfl, g5, g6⟩
    · exact ⟨b', rfl, .inl ⟨g1, b', p', l', c', rfl, g2, Below.next hW g3⟩⟩
    · exact ⟨b', rfl, .inr ⟨g1, a, k, c, ba, bc, pa, la, ca, pc, lc, cc, g2, g3, g4, b', p', l', c', rfl, g5, Below.next hW g6⟩⟩
  have HQ := hide q0
  have HX := hide x0
  clear h hb hi hlen hroom hkin hns hE q0 x0
  go_enter Tryz.func82, Tryz.ntmps82
  go_wp2_with fail
  refine HTS.out.mono ?_
  rintro e w1 ⟨rfl, hb1⟩
  have HB1 := hide (Below.next HQ.out hb1)
  have k0 := (HX.out.below hb1).c0
  have k1 := (HX.out.below hb1).c1
  clear hb1 HTS
  go_wp2_with fail
  refine (HWN.out _ HB1.out).mono ?_
  rintro e w2 ⟨b', rfl, hws⟩
  have HR := hide hws
  clear hws k0 k1
  go_wp2
  go_ret2
  exact ⟨b', rfl, HR.out⟩

end Go.Proofs.YtnaedmmfiiebaaaGreatDoor.T
