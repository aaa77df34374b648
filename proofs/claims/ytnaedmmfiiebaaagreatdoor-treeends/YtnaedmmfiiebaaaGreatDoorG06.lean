import Derived.Test.YtnaedmmfiiebaaaGreatDoorG00
import Derived.Test.YtnaedmmfiiebaaaGreatDoorG03
import Derived.Test.YtnaedmmfiiebaaaGreatDoorG05
import Derived.Shelf.Spec.SlicesInsertGrow
import Derived.Laws.CopyRow
import Derived.Laws.CopyOwn
namespace Go.Proofs.YtnaedmmfiiebaaaGreatDoor.T
open Go.RowKit

/-- A node in memory, as it lies: its pairs, its keys (with what stands in their children's places), the values of its children. -/
structure SN where
  ps : List Pr
  f : Int
  lk : List B.Lk
  us : List C.Ch
structure SNR (w : World) (b : Nat) (n : SN) (pv lv cv : Value) : Prop where
  row : B.RowAt w b #[pv, .int .i64 n.f, lv, cv] 155
  prs : PrR w pv n.ps
  lks : B.LkR w lv n.lk
  kids : C.LkR w cv n.us
  fine : (∀ p ∈ n.ps, mayP p = true) ∧ n.ps.length ≤ 4000 ∧ (∀ p ∈ n.lk, mayKey p.1) ∧ n.lk.length ≤ 4000 ∧ n.us.length ≤ 4001
theorem SNR.below {w w' : World} {b : Nat} {n : SN} {pv lv cv : Value} (h : SNR w b n pv lv cv) (hb : Below w.heap.size w w') : SNR w' b n pv lv cv :=
  ⟨h.row.below hb, h.prs.below hb, h.lks.below hb, h.kids.below hb, h.fine⟩
theorem SNR.c0 {w : World} {b : Nat} {n : SN} {pv lv cv : Value} (h : SNR w b n pv lv cv) : w.cell? ⟨b, 0, none⟩ = some pv := h.row.cell 0 (by simp)
theorem SNR.c1 {w : World} {b : Nat} {n : SN} {pv lv cv : Value} (h : SNR w b n pv lv cv) : w.cell? ⟨b, 1, none⟩ = some (.int .i64 n.f) := h.row.cell 1 (by simp)
theorem SNR.c2 {w : World} {b : Nat} {n : SN} {pv lv cv : Value} (h : SNR w b n pv lv cv) : w.cell? ⟨b, 2, none⟩ = some lv := h.row.cell 2 (by simp)
theorem SNR.c3 {w : World} {b : Nat} {n : SN} {pv lv cv : Value} (h : SNR w b n pv lv cv) : w.cell? ⟨b, 3, none⟩ = some cv := h.row.cell 3 (by simp)
theorem isleaf_any (b : Nat) (n : SN) (pv lv cv : Value) (w : World) (h : SNR w b n pv lv cv) :
    Calls Tryz.prog 92 #[.pointer (some ⟨b, 0, none⟩)] w fun e w' => e = .returned (.bool (decide (n.us.length = 0))) ∧ w = w' := by
  obtain ⟨a, c, hcv⟩ := h.kids.form
  subst hcv
  have p3 := h.c3
  obtain ⟨m, hm⟩ : ∃ m, m = n.us.length := ⟨_, rfl⟩
  rw [← hm] at p3 ⊢
  clear h hm
  by_cases h0 : m = 0
  · subst h0
    go_enter Tryz.func92, Tryz.ntmps92
    go_wp2
    go_ret
    exact ⟨rfl, rfl⟩
  · have hd : decide (m = 0) = false := by simp [h0]
    rw [hd]
    have h1 : ((m : Int) == 0) = false := by simp; omega
    clear hd
    go_enter Tryz.func92, Tryz.ntmps92
    go_wp2
    go_ret
    exact ⟨rfl, rfl⟩
/-- The size of a node, as it lies. -/
def SN.sz (n : SN) : Nat := if n.us.length = 0 then szL n.ps else B.szB n.lk
theorem szB_le {l : List B.Lk} (h : ∀ p ∈ l, mayKey p.1) : B.szB l ≤ 262 * l.length + 6 := by
  induction l with
  | nil => simp [B.szB]
  | cons p l ih =>
    have a := ih fun q hq => h q (List.mem_cons_of_mem _ hq)
    have b := (h p List.mem_cons_self).2
    rw [B.szB_cons, List.length_cons]; unfold B.szK; omega
theorem SNR.okL {w : World} {b : Nat} {n : SN} {pv lv cv : Value} (h : SNR w b n pv lv cv) : OkL n.ps := fun p hp => by
  have := may_parts' (h.fine.1 p hp); omega
theorem SNR.okK {w : World} {b : Nat} {n : SN} {pv lv cv : Value} (h : SNR w b n pv lv cv) : B.OkK n.lk := fun p hp => by
  have := (h.fine.2.2.1 p hp).2; omega
theorem SNR.lsize {w : World} {b : Nat} {n : SN} {pv lv cv : Value} (h : SNR w b n pv lv cv) : Calls Tryz.prog 161 #[pv] w fun e w' => e = .returned (.int .i64 (szL n.ps : Int)) ∧ Below w.heap.size w w' := by
  refine (lsize_any pv n.ps w h.okL (by have := h.fine.2.1; omega) h.prs).mono fun e w' ⟨h1, h2⟩ => ⟨?_, h2⟩
  rw [h1, wsz_small (by have := szL_max h.fine.1; have := h.fine.2.1; omega)]
theorem SNR.bsize {w : World} {b : Nat} {n : SN} {pv lv cv : Value} (h : SNR w b n pv lv cv) : Calls Tryz.prog 156 #[.agg #[.int .i64 n.f, lv]] w fun e w' => e = .returned (.int .i64 (B.szB n.lk : Int)) ∧ Below w.heap.size w w' := by
  refine (B.bsize_any n.f lv n.lk w h.okK (by have := h.fine.2.2.2.1; omega) h.lks).mono fun e w' ⟨h1, h2⟩ => ⟨?_, h2⟩
  rw [h1, B.wsz_small (by have := szB_le h.fine.2.2.1; have := h.fine.2.2.2.1; omega)]
theorem toobig_leaf (b : Nat) (n : SN) (pv lv cv : Value) (w : World) (h : SNR w b n pv lv cv) (h0 : n.us.length = 0) :
    Calls Tryz.prog 128 #[.pointer (some ⟨b, 0, none⟩)] w fun e w' => e = .returned (.bool (decide (4072 < szL n.ps))) ∧ Below w.heap.size w w' := by
  have HL := hide (isleaf_any b n pv lv cv w h)
  rw [show decide (n.us.length = 0) = true by simp [h0]] at HL
  have HS := hide h.lsize
  have p0 := h.c0
  have p1 := h.c1
  have p2 := h.c2
  obtain ⟨x, hx⟩ : ∃ x, x = szL n.ps := ⟨_, rfl⟩
  rw [← hx] at HS ⊢
  clear h h0 hx
  by_cases hb : 4072 < x
  · rw [show decide (4072 < x) = true by simp [hb]]
    have hbI : (4072 : Int) < (x : Int) := by omega
    go_enter Tryz.func128, Tryz.ntmps128
    go_wp2_with fail
    refine HL.out.mono ?_
    rintro e w1 ⟨rfl, rfl⟩
    go_wp2_with fail
    refine HS.out.mono ?_
    rintro e w2 ⟨rfl, hb2⟩
    have HB := hide hb2
    clear hb2 p0 p1 p2
    go_wp2
    go_ret
    exact ⟨rfl, HB.out⟩
  · rw [show decide (4072 < x) = false by simp [hb]]
    have hbI : ¬ (4072 : Int) < (x : Int) := by omega
    have hdI : decide ((4072 : Int) < (x : Int)) = false := decide_eq_false hbI
    go_enter Tryz.func128, Tryz.ntmps128
    go_wp2_with fail
    refine HL.out.mono ?_
    rintro e w1 ⟨rfl, rfl⟩
    go_wp2_with fail
    refine HS.out.mono ?_
    rintro e w2 ⟨rfl, hb2⟩
    have HB := hide hb2
    clear hb2 p0 p1 p2
    go_wp2
    go_ret
    exact ⟨by first | rfl | (show Ending.returned (Value.bool _) = _; rw [hdI]), HB.out⟩
theorem toobig_br (b : Nat) (n : SN) (pv lv cv : Value) (w : World) (h : SNR w b n pv lv cv) (h0 : ¬ n.us.length = 0) :
    Calls Tryz.prog 128 #[.pointer (some ⟨b, 0, none⟩)] w fun e w' => e = .returned (.bool (decide (4072 < B.szB n.lk))) ∧ Below w.heap.size w w' := by
  have HL := hide (isleaf_any b n pv lv cv w h)
  rw [show decide (n.us.length = 0) = false by simp [h0]] at HL
  have HS := hide h.bsize
  have p0 := h.c0
  have p1 := h.c1
  have p2 := h.c2
  obtain ⟨x, hx⟩ : ∃ x, x = B.szB n.lk := ⟨_, rfl⟩
  rw [← hx] at HS ⊢
  clear h h0 hx
  by_cases hb : 4072 < x
  · rw [show decide (4072 < x) = true by simp [hb]]
    have hbI : (4072 : Int) < (x : Int) := by omega
    go_enter Tryz.func128, Tryz.ntmps128
    go_wp2_with fail
    refine HL.out.mono ?_
    rintro e w1 ⟨rfl, rfl⟩
    go_wp2_with fail
    refine HS.out.mono ?_
    rintro e w2 ⟨rfl, hb2⟩
    have HB := hide hb2
    clear hb2 p0 p1 p2
    go_wp2
    go_ret
    exact ⟨rfl, HB.out⟩
  · rw [show decide (4072 < x) = false by simp [hb]]
    have hbI : ¬ (4072 : Int) < (x : Int) := by omega
    have hdI : decide ((4072 : Int) < (x : Int)) = false := decide_eq_false hbI
    go_enter Tryz.func128, Tryz.ntmps128
    go_wp2_with fail
    refine HL.out.mono ?_
    rintro e w1 ⟨rfl, rfl⟩
    go_wp2_with fail
    refine HS.out.mono ?_
    rintro e w2 ⟨rfl, hb2⟩
    have HB := hide hb2
    clear hb2 p0 p1 p2
    go_wp2
    go_ret
    exact ⟨by first | rfl | (show Ending.returned (Value.bool _) = _; rw [hdI]), HB.out⟩
theorem toosmall_leaf (b : Nat) (n : SN) (pv lv cv : Value) (w : World) (h : SNR w b n pv lv cv) (h0 : n.us.length = 0) :
    Calls Tryz.prog 123 #[.pointer (some ⟨b, 0, none⟩)] w fun e w' => e = .returned (.bool (decide (szL n.ps < 1556))) ∧ Below w.heap.size w w' := by
  have HL := hide (isleaf_any b n pv lv cv w h)
  rw [show decide (n.us.length = 0) = true by simp [h0]] at HL
  have HS := hide h.lsize
  have p0 := h.c0
  have p1 := h.c1
  have p2 := h.c2
  obtain ⟨x, hx⟩ : ∃ x, x = szL n.ps := ⟨_, rfl⟩
  rw [← hx] at HS ⊢
  clear h h0 hx
  by_cases hb : x < 1556
  · rw [show decide (x < 1556) = true by simp [hb]]
    have hbI : (x : Int) < 1556 := by omega
    go_enter Tryz.func123, Tryz.ntmps123
    go_wp2_with fail
    refine HL.out.mono ?_
    rintro e w1 ⟨rfl, rfl⟩
    go_wp2_with fail
    refine HS.out.mono ?_
    rintro e w2 ⟨rfl, hb2⟩
    have HB := hide hb2
    clear hb2 p0 p1 p2
    go_wp2
    go_ret
    exact ⟨rfl, HB.out⟩
  · rw [show decide (x < 1556) = false by simp [hb]]
    have hbI : ¬ (x : Int) < 1556 := by omega
    have hdI : decide ((x : Int) < 1556) = false := decide_eq_false hbI
    go_enter Tryz.func123, Tryz.ntmps123
    go_wp2_with fail
    refine HL.out.mono ?_
    rintro e w1 ⟨rfl, rfl⟩
    go_wp2_with fail
    refine HS.out.mono ?_
    rintro e w2 ⟨rfl, hb2⟩
    have HB := hide hb2
    clear hb2 p0 p1 p2
    go_wp2
    go_ret
    exact ⟨by first | rfl | (show Ending.returned (Value.bool _) = _; rw [hdI]), HB.out⟩
theorem toosmall_br (b : Nat) (n : SN) (pv lv cv : Value) (w : World) (h : SNR w b n pv lv cv) (h0 : ¬ n.us.length = 0) :
    Calls Tryz.prog 123 #[.pointer (some ⟨b, 0, none⟩)] w fun e w' => e = .returned (.bool (decide (B.szB n.lk < 1777))) ∧ Below w.heap.size w w' := by
  have HL := hide (isleaf_any b n pv lv cv w h)
  rw [show decide (n.us.length = 0) = false by simp [h0]] at HL
  have HS := hide h.bsize
  have p0 := h.c0
  have p1 := h.c1
  have p2 := h.c2
  obtain ⟨x, hx⟩ : ∃ x, x = B.szB n.lk := ⟨_, rfl⟩
  rw [← hx] at HS ⊢
  clear h h0 hx
  by_cases hb : x < 1777
  · rw [show decide (x < 1777) = true by simp [hb]]
    have hbI : (x : Int) < 1777 := by omega
    go_enter Tryz.func123, Tryz.ntmps123
    go_wp2_with fail
    refine HL.out.mono ?_
    rintro e w1 ⟨rfl, rfl⟩
    go_wp2_with fail
    refine HS.out.mono ?_
    rintro e w2 ⟨rfl, hb2⟩
    have HB := hide hb2
    clear hb2 p0 p1 p2
    go_wp2
    go_ret
    exact ⟨rfl, HB.out⟩
  · rw [show decide (x < 1777) = false by simp [hb]]
    have hbI : ¬ (x : Int) < 1777 := by omega
    have hdI : decide ((x : Int) < 1777) = false := decide_eq_false hbI
    go_enter Tryz.func123, Tryz.ntmps123
    go_wp2_with fail
    refine HL.out.mono ?_
    rintro e w1 ⟨rfl, rfl⟩
    go_wp2_with fail
    refine HS.out.mono ?_
    rintro e w2 ⟨rfl, hb2⟩
    have HB := hide hb2
    clear hb2 p0 p1 p2
    go_wp2
    go_ret
    exact ⟨by first | rfl | (show Ending.returned (Value.bool _) = _; rw [hdI]), HB.out⟩
theorem toobig_any (b : Nat) (n : SN) (pv lv cv : Value) (w : World) (h : SNR w b n pv lv cv) :
    Calls Tryz.prog 128 #[.pointer (some ⟨b, 0, none⟩)] w fun e w' => e = .returned (.bool (decide (4072 < n.sz))) ∧ Below w.heap.size w w' := by
  unfold SN.sz
  by_cases h0 : n.us.length = 0
  · rw [if_pos h0]; exact toobig_leaf b n pv lv cv w h h0
  · rw [if_neg h0]; exact toobig_br b n pv lv cv w h h0
def SN.min (n : SN) : Nat := if n.us.length = 0 then 1556 else 1777
theorem toosmall_any (b : Nat) (n : SN) (pv lv cv : Value) (w : World) (h : SNR w b n pv lv cv) :
    Calls Tryz.prog 123 #[.pointer (some ⟨b, 0, none⟩)] w fun e w' => e = .returned (.bool (decide (n.sz < n.min))) ∧ Below w.heap.size w w' := by
  unfold SN.sz SN.min
  by_cases h0 : n.us.length = 0
  · rw [if_pos h0, if_pos h0]; exact toosmall_leaf b n pv lv cv w h h0
  · rw [if_neg h0, if_neg h0]; exact toosmall_br b n pv lv cv w h h0

/-- A new node. -/
def New (w : World) (n : SN) (e : Ending) (w' : World) : Prop := ∃ b pv lv cv, e = .returned (.pointer (some ⟨b, 0, none⟩)) ∧ SNR w' b n pv lv cv ∧ Below w.heap.size w w'
theorem has_row {w : World} {base : Nat} {v : Value} {l : List C.Ch} (h : C.LkO w base v l) (hl : 0 < l.length) : ∃ g c, v = .slice (some ⟨g, 0, none⟩) l.length c ∧ base ≤ g ∧ g < w.heap.size := by
  rcases h.2 with ⟨_, h0⟩ | ⟨g, c, cur, hv, hb, hg, _⟩
  · omega
  · exact ⟨g, c, hv, hb, (Array.getElem?_eq_some_iff.1 hg).1⟩
set_option maxHeartbeats 1000000 in
theorem wchild_any (b : Nat) (n : SN) (pv lv cv : Value) (i : Nat) (p : C.Ch) (w : World) (h : SNR w b n pv lv cv) (hi : i < n.us.length) :
    Calls Tryz.prog 125 #[.pointer (some ⟨b, 0, none⟩), .int .i64 (i : Int), p.val] w fun e w' => New w ⟨[], n.f, n.lk, n.us.set i p⟩ e w' := by
  have hf := h.fine
  have HC := hide (C.kclone_any cv n.us w (by omega) h.kids)
  have p3 := h.c3
  have hbw : b < w.heap.size := h.row.lt
  have HH := hide h
  obtain ⟨pp, hpp⟩ : ∃ x, x = p.val := ⟨_, rfl⟩
  have hone : pp.oneCell' = true := by rw [hpp]; exact C.val_one p
  have HP := hide hpp
  rw [← hpp]
  clear h hpp
  obtain ⟨t, x, hx⟩ : ∃ t x, pp = .iface t x := by
    rw [HP.out]
    cases p
    · exact ⟨_, _, rfl⟩
    · exact ⟨_, _, rfl⟩
  subst hx
  obtain ⟨m, hm⟩ : ∃ m, m = n.us.length := ⟨_, rfl⟩
  have HM := hide hm
  rw [← hm] at hi hf
  clear hm
  go_enter Tryz.func125, Tryz.ntmps125
  go_wp2_with fail
  refine HC.out.mono ?_
  rintro e w1 ⟨u, rfl, ho, hb1⟩
  obtain ⟨g, c, hu, hg1, hg2⟩ := has_row ho (by rw [← HM.out]; omega)
  subst hu
  have ho2 : w1.ownsRow w.heap.size 97 1 (.slice (some ⟨g, 0, none⟩) n.us.length c) n.us.length (C.lks n.us) := ho
  obtain ⟨o1, z1⟩ : ∃ y, w1.cell? ⟨g, i, none⟩ = some y := ⟨_, (World.ownsRow.cellAt ho2 i (by rw [← HM.out]; omega)).trans (C.lks_get n.us i (by rw [← HM.out]; exact hi))⟩
  have z2 : w1.frozen? ⟨g, i, none⟩ = false := World.ownsRow.frozenAt ho2 _
  have hst := (World.ownsRow.stored ho2 i (.iface t x)).1
  have hset : (C.lks n.us).set i (.iface t x) = C.lks (n.us.set i p) := by
    unfold C.lks
    rw [HP.out, List.map_set]
  rw [hset] at hst
  have hbs := hb1.setCell (p := ⟨g, i, none⟩) hg1 (.iface t x)
  have hne : ¬ b = g := by omega
  have q1 : w1.cell? ⟨b, 1, none⟩ = some (.int .i64 n.f) := (HH.out.below hb1).c1
  have q2 : w1.cell? ⟨b, 2, none⟩ = some lv := (HH.out.below hb1).c2
  have hH2 := HH.out.below hbs
  have q := below_new (w1.setCell ⟨g, i, none⟩ (.iface t x)) (.cells #[.slice none 0 0, .int .i64 n.f, lv, .slice (some ⟨g, 0, none⟩) n.us.length c] 155)
  have xr := B.RowAt.new (w1.setCell ⟨g, i, none⟩ (.iface t x)) #[.slice none 0 0, .int .i64 n.f, lv, .slice (some ⟨g, 0, none⟩) n.us.length c] 155
  have HRES : Hid (SNR ((w1.setCell ⟨g, i, none⟩ (.iface t x)).alloc (.cells #[.slice none 0 0, .int .i64 n.f, lv, .slice (some ⟨g, 0, none⟩) n.us.length c] 155)) (w1.setCell ⟨g, i, none⟩ (.iface t x)).heap.size ⟨[], n.f, n.lk, n.us.set i p⟩ (.slice none 0 0) lv (.slice (some ⟨g, 0, none⟩) n.us.length c)) := by
    refine ⟨xr, PrR.nil _, hH2.lks.below q, ?_, ?_⟩
    · have : C.LkO (w1.setCell ⟨g, i, none⟩ (.iface t x)) w.heap.size (.slice (some ⟨g, 0, none⟩) n.us.length c) (n.us.set i p) := by
        unfold C.LkO
        rw [List.length_set]
        exact hst
      exact (this.below q).at
    · have hf := HH.out.fine
      exact ⟨(fun p hp => by simp at hp), by simp, hf.2.2.1, hf.2.2.2.1, by rw [List.length_set]; exact hf.2.2.2.2⟩
  have HBB := hide (hbs.alloc (B := w.heap.size) (by have := hbs.size; exact this) (.cells #[.slice none 0 0, .int .i64 n.f, lv, .slice (some ⟨g, 0, none⟩) n.us.length c] 155))
  obtain ⟨la, lc, hlf⟩ := hH2.lks.form
  rw [← HM.out] at HRES HBB ⊢
  have hszz : (w1.setCell ⟨g, i, none⟩ (.iface t x)).heap.size = w1.heap.size := by simp
  rw [hszz] at HRES
  have hiI : (i : Int) < (m : Int) := by omega
  have hi0 : (0 : Int) ≤ (i : Int) := by omega
  clear HC p3 ho ho2 hst hset hbs hH2 q xr hlf hszz
  go_wp2
  go_ret
  exact ⟨_, _, _, _, rfl, HRES.out, HBB.out⟩

end Go.Proofs.YtnaedmmfiiebaaaGreatDoor.T

namespace Go.Proofs.YtnaedmmfiiebaaaGreatDoor.B
open Go.RowKit Go.Lib

theorem lks_take (l : List Lk) (i : Nat) : lks (l.take i) = (lks l).take (i * 2) := by
  induction l generalizing i with
  | nil => simp [lks]
  | cons p l ih =>
    cases i with
    | zero => simp [lks]
    | succ i => rw [List.take_succ_cons, lks_cons, lks_cons, ih, show (i + 1) * 2 = i * 2 + 1 + 1 by omega, List.take_succ_cons, List.take_succ_cons]
theorem lks_drop (l : List Lk) (i : Nat) : lks (l.drop i) = (lks l).drop (i * 2) := by
  induction l generalizing i with
  | nil => simp [lks]
  | cons p l ih =>
    cases i with
    | zero => simp
    | succ i => rw [List.drop_succ_cons, lks_cons, ih, show (i + 1) * 2 = i * 2 + 1 + 1 by omega, List.drop_succ_cons, List.drop_succ_cons]

/-- copy, of elements of two cells, into a row. -/
theorem run_copy_row2 {P : Program} (w : World) (dT sT ty elem : TypeId) (g o dLen dCap : Nat) (a : Addr) (sLen sCap : Nat) (cur : Array Value) (t : TypeId) (cs : List Value)
    (hu : P.underlying dT = some (.slice elem)) (hs : (P.info? elem).map (·.size) = some 2)
    (hg : w.heap[g]? = some (.cells cur t (0, 0))) (hn : cs.length = Nat.min sLen dLen * 2)
    (hsrc : ∀ j v, cs[j]? = some v → w.cell? (a.add j) = some v) (hfit : o + cs.length ≤ cur.size) (h1 : ∀ v ∈ cs, v.oneCell' = true) :
    (Builtin.copy_ #[dT, sT] ty #[.slice (some ⟨g, o, none⟩) dLen dCap, .slice (some a) sLen sCap]).run P w =
      .ok (goInt (Nat.min sLen dLen)) (w.setRow g (cur.toList.take o ++ cs ++ cur.toList.drop (o + cs.length)).toArray) := by
  have hl := run_loadCells_list (P := P) w a cs hsrc
  have hst := run_storeCells_at P g o t cs 0 cur w hg (by simpa using hfit) h1
  cases hq : P.info? elem with
  | none => simp [hq] at hs
  | some i =>
    have hi : i.size = 2 := by simpa [hq] using hs
    simp [Builtin.copy_, run_underlying hu, Builtin.lenOf, Builtin.firstCells, sizeOf, typeInfo, hq, hi, ← hn, hl, hst]

/-- clear, of elements of two cells. -/
theorem run_clear_row2 {P : Program} (w : World) (t e ty : TypeId) (x y : Value) (ht : P.underlying t = some (.slice e)) (hv : ∀ w, (zeroValue e).run P w = .ok (.agg #[x, y]) w) (hx : x.oneCell' = true) (hy : y.oneCell' = true) (g o c : Nat) (cur : Array Value) (tt : TypeId)
    (hg : w.heap[g]? = some (.cells cur tt (0, 0))) (hfit : o + 2 ≤ cur.size) :
    (Builtin.clear_ #[t] ty #[.slice (some ⟨g, o, none⟩) 1 c]).run P w = .ok (.tuple #[]) (w.setRow g (cur.toList.take o ++ [x, y] ++ cur.toList.drop (o + 2)).toArray) := by
  have hzc : (Builtin.zeroCells (Value.agg #[x, y]).cells 1).toList = [x, y] := by
    have : (Value.agg #[x, y]).cells = #[x, y] := rfl
    rw [this]
    simp [Builtin.zeroCells, Array.range]
  have hst := run_storeCells_at P g o tt [x, y] 0 cur w hg (by simpa using hfit) (by intro v hv'; simp at hv'; rcases hv' with rfl | rfl <;> assumption)
  simp [Builtin.clear_, run_underlying ht, hv, hzc, hst]

end Go.Proofs.YtnaedmmfiiebaaaGreatDoor.B
