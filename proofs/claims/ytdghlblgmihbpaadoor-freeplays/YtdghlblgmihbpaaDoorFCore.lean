import Derived.Test.YtdghlblgmihbpaaDoorFErr
namespace Go.Proofs.YtdghlblgmihbpaaDoor
open Go.RowKit

set_option maxHeartbeats 1000000 in
theorem size_any (b g P : Nat) (T : Nat → Bool) (w : World) (h : MapR w b g P T) : Calls Tryd.prog 11 #[.pointer (some ⟨b, 0, none⟩)] w fun e w' => e = .returned (.int .i64 P) ∧ w = w' := by
  have c0 := h.c0
  clear h
  go_enter Tryd.func11, Tryd.ntmps11
  go_wp2
  go_ret
  exact ⟨rfl, rfl⟩
def treeB (P : Nat) (id : Int) : Bool := decide (2 ≤ id) && decide (id < P)
set_option maxHeartbeats 1000000 in
theorem tree_any (b g P : Nat) (T : Nat → Bool) (id : Int) (w : World) (h : MapR w b g P T) : Calls Tryd.prog 34 #[.pointer (some ⟨b, 0, none⟩), .int .i64 id] w fun e w' => e = .returned (.bool (treeB P id)) ∧ w = w' := by
  have c0 := h.c0
  clear h
  by_cases h2 : 2 ≤ id
  · by_cases h3 : id < P
    · go_enter Tryd.func34, Tryd.ntmps34
      go_wp2
      go_ret
      exact ⟨by simp [treeB, h2, h3], rfl⟩
    · go_enter Tryd.func34, Tryd.ntmps34
      go_wp2
      go_ret
      exact ⟨by simp [treeB, h3], rfl⟩
  · go_enter Tryd.func34, Tryd.ntmps34
    go_wp2
    go_ret
    exact ⟨by simp [treeB]; omega, rfl⟩

set_option maxRecDepth 100000 in
set_option maxHeartbeats 1000000 in
theorem set_any (b g P : Nat) (T : Nat → Bool) (id : Nat) (w : World) (h : MapR w b g P T) (hid : id < 64 * nW P) :
    Calls Tryd.prog 35 #[.pointer (some ⟨b, 0, none⟩), .int .i64 id] w fun e w' => e = .returned (.tuple #[]) ∧ MapR w' b g P (upd T id true) ∧ Only (fun k => k = g) w w' := by
  have hn := nW_le h.hi
  have HB := hide (bitof_any id (by omega) w)
  have H := hide h
  clear h
  go_enter Tryd.func35, Tryd.ntmps35
  go_wp2_with fail
  refine HB.out.mono ?_
  rintro e w1 ⟨rfl, hb⟩
  have h1 := H.out.below hb
  have c1 := h1.c1
  have hq : id / 64 < nW P := by omega
  have cw := h1.cw (id / 64) hq
  have cf := h1.wds.frozenAt (id / 64)
  have hor : bits .or .u64 ((word T (id / 64) : Nat) : Int) ((2 ^ (id % 64) : Nat) : Int) = ((word (upd T id true) (id / 64) : Nat) : Int) := by
    rw [bits_or_u64_nat _ _ (word_lt _ _) (two_pow_lt id), word_set]
  have hst : Hid (MapR (w1.setCell ⟨g, id / 64, none⟩ (.int .u64 (word (upd T id true) (id / 64) : Int))) b g P (upd T id true) ∧ Only (fun k => k = g) w (w1.setCell ⟨g, id / 64, none⟩ (.int .u64 (word (upd T id true) (id / 64) : Int)))) :=
    ⟨h1.stored id true, (Only.of_below hb).trans (Only.set (F := fun k => k = g) rfl _ _ _)⟩
  generalize word (upd T id true) (id / 64) = x' at *
  generalize word T (id / 64) = x at *
  generalize 2 ^ (id % 64) = p at *
  generalize id / 64 = q at *
  generalize nW P = n at *
  clear h1 hb H HB
  go_wp2
  go_end0
  exact ⟨rfl, hst.out⟩

set_option maxRecDepth 100000 in
set_option maxHeartbeats 1000000 in
theorem unset_any (b g P : Nat) (T : Nat → Bool) (id : Nat) (w : World) (h : MapR w b g P T) (hid : id < 64 * nW P) :
    Calls Tryd.prog 38 #[.pointer (some ⟨b, 0, none⟩), .int .i64 id] w fun e w' => e = .returned (.tuple #[]) ∧ MapR w' b g P (upd T id false) ∧ Only (fun k => k = g) w w' := by
  have hn := nW_le h.hi
  have HB := hide (bitof_any id (by omega) w)
  have H := hide h
  clear h
  go_enter Tryd.func38, Tryd.ntmps38
  go_wp2_with fail
  refine HB.out.mono ?_
  rintro e w1 ⟨rfl, hb⟩
  have h1 := H.out.below hb
  have c1 := h1.c1
  have hq : id / 64 < nW P := by omega
  have cw := h1.cw (id / 64) hq
  have cf := h1.wds.frozenAt (id / 64)
  have hor := bits_andNot_u64 T id
  have hst : Hid (MapR (w1.setCell ⟨g, id / 64, none⟩ (.int .u64 (word (upd T id false) (id / 64) : Int))) b g P (upd T id false) ∧ Only (fun k => k = g) w (w1.setCell ⟨g, id / 64, none⟩ (.int .u64 (word (upd T id false) (id / 64) : Int)))) :=
    ⟨h1.stored id false, (Only.of_below hb).trans (Only.set (F := fun k => k = g) rfl _ _ _)⟩
  generalize word (upd T id false) (id / 64) = x' at *
  generalize word T (id / 64) = x at *
  generalize 2 ^ (id % 64) = p at *
  generalize id / 64 = q at *
  generalize nW P = n at *
  clear h1 hb H HB
  go_wp2
  go_end0
  exact ⟨rfl, hst.out⟩


/-- The pages of a list are taken besides. -/
def updL (T : Nat → Bool) (l : List Nat) : Nat → Bool := fun j => T j || l.contains j
theorem updL_nil (T : Nat → Bool) : updL T [] = T := by funext j; simp [updL]
theorem updL_snoc (T : Nat → Bool) (l : List Nat) (id : Nat) : upd (updL T l) id true = updL T (l ++ [id]) := by
  funext j
  unfold upd updL
  by_cases h : j = id
  · simp [h]
  · simp [h]
/-- All from a to b are taken besides. -/
def updR (T : Nat → Bool) (a b : Nat) : Nat → Bool := fun j => T j || (decide (a ≤ j) && decide (j < b))
theorem updR_nil (T : Nat → Bool) (a : Nat) : updR T a a = T := by
  funext j
  have : ¬ (a ≤ j ∧ j < a) := by omega
  simp [updR]; intro h1; omega
theorem updR_succ (T : Nat → Bool) (a b : Nat) (h : a ≤ b) : upd (updR T a b) b true = updR T a (b + 1) := by
  funext j
  unfold upd updR
  by_cases hj : j = b
  · subst hj; simp [h]
  · by_cases h2 : j < b
    · simp [hj, h2, show j < b + 1 by omega]
    · simp [hj, h2, show ¬ j < b + 1 by omega]

set_option maxRecDepth 100000 in
set_option maxHeartbeats 1000000 in
theorem setall_any (b g P : Nat) (T : Nat → Bool) (lo hi : Nat) (w : World) (h : MapR w b g P T) (hle : lo ≤ hi) (hid : hi ≤ 64 * nW P) :
    Calls Tryd.prog 42 #[.pointer (some ⟨b, 0, none⟩), .int .i64 lo, .int .i64 hi] w fun e w' => e = .returned (.tuple #[]) ∧ MapR w' b g P (updR T lo hi) ∧ Only (fun k => k = g) w w' := by
  have hn := nW_le h.hi
  have H := hide h
  clear h
  go_enter Tryd.func42, Tryd.ntmps42
  go_wp2_with fail
  go_loopw [6] (fun i wr => ∃ k : Nat, lo ≤ k ∧ k ≤ hi ∧ i = .int .i64 k ∧ MapR wr b g P (updR T lo k) ∧ Only (fun k => k = g) w wr) (fun i _ => hi - (intOf i).toNat)
  case atStart => exact ⟨lo, Nat.le_refl _, hle, rfl, by rw [updR_nil]; exact H.out, Only.refl _ _⟩
  case round =>
    obtain ⟨k, hk1, hk2, rfl, hm, ho⟩ := hrel
    by_cases hlt : k < hi
    · have HS := hide (set_any b g P _ k wr hm (by omega))
      have HO := hide ho
      have hkb : k < 2000000 := by omega
      clear hm ho hid hle
      generalize nW P = nn at *
      go_wp2_with fail
      refine HS.out.mono ?_
      rintro e w1 ⟨rfl, h1, o1⟩
      rw [updR_succ _ _ _ hk1] at h1
      have H1 := hide h1
      have O1 := hide (HO.out.trans o1)
      clear h1 o1 HS HO
      go_wp2
      go_roundw
      case rel => exact ⟨k + 1, by omega, by omega, by go_num, H1.out, O1.out⟩
      case measure => simp [intOf]; omega
    · have he : k = hi := by omega
      have H1 := hide hm
      have O1 := hide ho
      clear hm ho
      go_wp2
      go_end0
      rw [← he]
      exact ⟨rfl, H1.out, O1.out⟩


/-- A map: what is taken, with all behind its end. -/
structure MapOk (P : Nat) (T : Nat → Bool) : Prop where
  lo : 4 ≤ P
  hi : P ≤ 1048576
  t0 : T 0 = true
  t1 : T 1 = true
  up : ∀ j, P ≤ j → T j = true
def usedB (P : Nat) (T : Nat → Bool) (id : Int) : Bool := decide (0 ≤ id) && (decide (id < P) && T id.toNat)
set_option maxRecDepth 100000 in
set_option maxHeartbeats 1000000 in
theorem used_any (b g P : Nat) (T : Nat → Bool) (id : Int) (w : World) (h : MapR w b g P T) :
    Calls Tryd.prog 12 #[.pointer (some ⟨b, 0, none⟩), .int .i64 id] w fun e w' => e = .returned (.bool (usedB P T id)) ∧ Below w.heap.size w w' := by
  have c0 := h.c0
  have H := hide h
  clear h
  by_cases h2 : 0 ≤ id
  · by_cases h3 : id < P
    · obtain ⟨n, rfl⟩ : ∃ n : Nat, id = n := ⟨id.toNat, by omega⟩
      have hP := H.out.hi
      have hnW := nW_lo P
      have HB := hide (bitof_any n (by omega) w)
      have hn : n < P := by omega
      have hq : n / 64 < nW P := by omega
      have hu := word_used T n
      have HUB : Hid (usedB P T n = T n) := by show usedB P T n = T n; simp [usedB]; omega
      rw [HUB.out]
      clear hnW
      go_enter Tryd.func12, Tryd.ntmps12
      go_wp2_with fail
      refine HB.out.mono ?_
      rintro e w1 ⟨rfl, hb⟩
      have h1 := H.out.below hb
      have c1 := h1.c1
      have cw := h1.cw (n / 64) hq
      have hand : bits .and .u64 ((word T (n / 64) : Nat) : Int) ((2 ^ (n % 64) : Nat) : Int) = ((word T (n / 64) &&& 2 ^ (n % 64) : Nat) : Int) := bits_and_u64_nat _ _ (word_lt _ _) (two_pow_lt n)
      generalize hR : word T (n / 64) &&& 2 ^ (n % 64) = r at *
      generalize word T (n / 64) = x at *
      generalize 2 ^ (n % 64) = p at *
      generalize n / 64 = q at *
      generalize nW P = nn at *
      have HBB := hide hb
      have HU := hide hu
      clear h1 hb H HB hR hu
      cases hT : T n with
      | true =>
        have hr : ((r : Int) != 0) = true := by
          have : ¬ r = 0 := fun h => by have := HU.out.1 h; rw [hT] at this; cases this
          simp; omega
        have HT := hide hT
        clear hT
        go_wp2
        go_ret
        exact ⟨by rw [HT.out]; rfl, HBB.out⟩
      | false =>
        have hr : r = 0 := HU.out.2 hT
        subst hr
        have HT := hide hT
        clear hT
        go_wp2
        go_ret
        exact ⟨by rw [HT.out]; rfl, HBB.out⟩
    · have HUB : Hid (usedB P T id = false) := by show usedB P T id = false; simp [usedB]; omega
      rw [HUB.out]
      go_enter Tryd.func12, Tryd.ntmps12
      go_wp2
      go_ret
      exact ⟨rfl, Below.refl _ _⟩
  · have HUB : Hid (usedB P T id = false) := by show usedB P T id = false; simp [usedB]; omega
    rw [HUB.out]
    go_enter Tryd.func12, Tryd.ntmps12
    go_wp2
    go_ret
    exact ⟨rfl, Below.refl _ _⟩
theorem usedB_tree {P : Nat} {T : Nat → Bool} {id : Int} (h : treeB P id = true) : usedB P T id = T id.toNat := by
  simp only [treeB, Bool.and_eq_true, decide_eq_true_eq] at h
  simp [usedB, show (0 : Int) ≤ id by omega, h.2]

def markD (P : Nat) (T : Nat → Bool) (id : Int) : Option Nat × (Nat → Bool) := if treeB P id then (if T id.toNat then (some 4, T) else (none, upd T id.toNat true)) else (some 0, T)
def clearD (P : Nat) (T : Nat → Bool) (id : Int) : Option Nat × (Nat → Bool) := if treeB P id then (if T id.toNat then (none, upd T id.toNat false) else (some 5, T)) else (some 0, T)

set_option maxRecDepth 100000 in
set_option maxHeartbeats 1000000 in
theorem mark_any (base : Nat) (A : Nat → Addr) (b g P : Nat) (T : Nat → Bool) (id : Int) (w : World) (h : MapR w b g P T) (hE : Env base A w) :
    Calls Tryd.prog 13 #[.pointer (some ⟨b, 0, none⟩), .int .i64 id] w fun e w' => e = .returned (errV A (markD P T id).1) ∧ MapR w' b g P (markD P T id).2 ∧ Only (fun k => k = g) w w' := by
  have HTR := hide (tree_any b g P T id w h)
  have HUS := hide (used_any b g P T id w h)
  have H := hide h
  have HE := hide hE
  unfold markD
  cases ht : treeB P id with
  | false =>
    rw [if_neg (by simp)]
    rw [ht] at HTR
    have c : w.cell? ⟨1, 0, none⟩ = some (.iface 86 (.pointer (some (A 0)))) := hE.e 0 (by decide)
    clear ht h hE
    go_enter Tryd.func13, Tryd.ntmps13
    go_wp2_with fail
    refine HTR.out.mono ?_
    rintro e w1 ⟨rfl, rfl⟩
    go_wp2
    go_ret
    exact ⟨rfl, H.out, Only.refl _ _⟩
  | true =>
    rw [if_pos rfl]
    rw [ht] at HTR
    rw [usedB_tree ht] at HUS
    have hb := ht
    simp only [treeB, Bool.and_eq_true, decide_eq_true_eq] at hb
    obtain ⟨n, rfl⟩ : ∃ n : Nat, id = n := ⟨id.toNat, by omega⟩
    rw [Int.toNat_natCast] at *
    have hlt : n < 64 * nW P := by have := nW_lo P; omega
    have HLT := hide hlt
    clear ht h hb hlt hE
    cases hT : T n with
    | true =>
      rw [hT] at HUS
      rw [if_pos rfl]
      clear hT
      go_enter Tryd.func13, Tryd.ntmps13
      go_wp2_with fail
      refine HTR.out.mono ?_
      rintro e w1 ⟨rfl, rfl⟩
      go_wp2_with fail
      refine HUS.out.mono ?_
      rintro e w1 ⟨rfl, hb⟩
      have c : w1.cell? ⟨2, 0, none⟩ = some (.iface 86 (.pointer (some (A 4)))) := (HE.out.up hb).e 4 (by decide)
      have HBB := hide hb
      clear hb
      go_wp2
      go_ret
      exact ⟨rfl, H.out.below HBB.out, Only.of_below HBB.out⟩
    | false =>
      rw [hT] at HUS
      rw [if_neg (by simp)]
      clear hT
      go_enter Tryd.func13, Tryd.ntmps13
      go_wp2_with fail
      refine HTR.out.mono ?_
      rintro e w1 ⟨rfl, rfl⟩
      go_wp2_with fail
      refine HUS.out.mono ?_
      rintro e w1 ⟨rfl, hb⟩
      have HS := hide (set_any b g P T n w1 (H.out.below hb) HLT.out)
      have HBB := hide hb
      clear hb
      go_wp2_with fail
      refine HS.out.mono ?_
      rintro e w2 ⟨rfl, h2, o2⟩
      have H2 := hide h2
      have O2 := hide ((Only.of_below HBB.out).trans o2)
      clear h2 o2
      go_wp2
      go_ret
      exact ⟨rfl, H2.out, O2.out⟩

set_option maxRecDepth 100000 in
set_option maxHeartbeats 1000000 in
theorem clear_any (base : Nat) (A : Nat → Addr) (b g P : Nat) (T : Nat → Bool) (id : Int) (w : World) (h : MapR w b g P T) (hE : Env base A w) :
    Calls Tryd.prog 21 #[.pointer (some ⟨b, 0, none⟩), .int .i64 id] w fun e w' => e = .returned (errV A (clearD P T id).1) ∧ MapR w' b g P (clearD P T id).2 ∧ Only (fun k => k = g) w w' := by
  have HTR := hide (tree_any b g P T id w h)
  have HUS := hide (used_any b g P T id w h)
  have H := hide h
  have HE := hide hE
  unfold clearD
  cases ht : treeB P id with
  | false =>
    rw [if_neg (by simp)]
    rw [ht] at HTR
    have c : w.cell? ⟨1, 0, none⟩ = some (.iface 86 (.pointer (some (A 0)))) := hE.e 0 (by decide)
    clear ht h hE
    go_enter Tryd.func21, Tryd.ntmps21
    go_wp2_with fail
    refine HTR.out.mono ?_
    rintro e w1 ⟨rfl, rfl⟩
    go_wp2
    go_ret
    exact ⟨rfl, H.out, Only.refl _ _⟩
  | true =>
    rw [if_pos rfl]
    rw [ht] at HTR
    rw [usedB_tree ht] at HUS
    have hb := ht
    simp only [treeB, Bool.and_eq_true, decide_eq_true_eq] at hb
    obtain ⟨n, rfl⟩ : ∃ n : Nat, id = n := ⟨id.toNat, by omega⟩
    rw [Int.toNat_natCast] at *
    have hlt : n < 64 * nW P := by have := nW_lo P; omega
    have HLT := hide hlt
    clear ht h hb hlt hE
    cases hT : T n with
    | false =>
      rw [hT] at HUS
      rw [if_neg (by simp)]
      clear hT
      go_enter Tryd.func21, Tryd.ntmps21
      go_wp2_with fail
      refine HTR.out.mono ?_
      rintro e w1 ⟨rfl, rfl⟩
      go_wp2_with fail
      refine HUS.out.mono ?_
      rintro e w1 ⟨rfl, hb⟩
      have c : w1.cell? ⟨3, 0, none⟩ = some (.iface 86 (.pointer (some (A 5)))) := (HE.out.up hb).e 5 (by decide)
      have HBB := hide hb
      clear hb
      go_wp2
      go_ret
      exact ⟨rfl, H.out.below HBB.out, Only.of_below HBB.out⟩
    | true =>
      rw [hT] at HUS
      rw [if_pos rfl]
      clear hT
      go_enter Tryd.func21, Tryd.ntmps21
      go_wp2_with fail
      refine HTR.out.mono ?_
      rintro e w1 ⟨rfl, rfl⟩
      go_wp2_with fail
      refine HUS.out.mono ?_
      rintro e w1 ⟨rfl, hb⟩
      have HS := hide (unset_any b g P T n w1 (H.out.below hb) HLT.out)
      have HBB := hide hb
      clear hb
      go_wp2_with fail
      refine HS.out.mono ?_
      rintro e w2 ⟨rfl, h2, o2⟩
      have H2 := hide h2
      have O2 := hide ((Only.of_below HBB.out).trans o2)
      clear h2 o2
      go_wp2
      go_ret
      exact ⟨rfl, H2.out, O2.out⟩

end Go.Proofs.YtdghlblgmihbpaaDoor
