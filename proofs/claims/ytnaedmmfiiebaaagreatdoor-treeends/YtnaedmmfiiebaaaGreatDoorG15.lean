import Derived.Test.YtnaedmmfiiebaaaGreatDoorG14
namespace Go.Proofs.YtnaedmmfiiebaaaGreatDoor.T
open Go.RowKit

/-! The tree in memory and on the device, against the tree as data. -/
/-- What a page holds. -/
inductive PD where
  | leaf (l : List Pr)
  | br (f : Int) (lk : List B.Lk)
def pgN : (h : Nat) → Nd h → Nat
  | 0, t => t.1
  | _ + 1, t => t.1
/-- The page of that number, and all below it, is the tree t. -/
def PageIs (PG : Int → Option PD) : (h : Nat) → Int → Nd h → Prop
  | 0, id, t => (2 ≤ id ∧ id < 1048576) ∧ (t.1 : Int) = id ∧ PG id = some (.leaf t.2)
  | h + 1, id, t => (2 ≤ id ∧ id < 1048576) ∧ (t.1 : Int) = id ∧ ∃ (f : Int) (lk : List B.Lk), PG id = some (.br f lk) ∧ t.2.1 = lk.map (·.1) ∧ t.2.2.length = lk.length + 1 ∧ ∀ (i : Nat) (c : Nd h) (x : Int), t.2.2[i]? = some c → (B.kids f lk)[i]? = some x → PageIs PG h x c
/-- The node in memory is the top of the tree t. -/
def NodeIs (PG : Int → Option PD) (w : World) : (h : Nat) → SN → Nd h → Prop
  | 0, n, t => n.us = [] ∧ n.ps = t.2
  | h + 1, n, t => n.us.length = t.2.2.length ∧ n.us ≠ [] ∧ n.kin ∧ t.2.1 = n.lk.map (·.1) ∧ ∀ (i : Nat) (p : C.Ch) (c : Nd h), n.us[i]? = some p → t.2.2[i]? = some c →
      match p with
      | .pg id => PageIs PG h id c
      | .nd b => pgN h c = 0 ∧ ∃ m pv lv cv, SNR w b m pv lv cv ∧ NodeIs PG w h m c
/-- The child p is the tree t. -/
def KidIs (PG : Int → Option PD) (w : World) (h : Nat) (p : C.Ch) (t : Nd h) : Prop :=
  match p with
  | .pg id => PageIs PG h id t
  | .nd b => pgN h t = 0 ∧ ∃ m pv lv cv, SNR w b m pv lv cv ∧ NodeIs PG w h m t
theorem NodeIs.kid {PG : Int → Option PD} {w : World} {h : Nat} {n : SN} {t : Nd (h + 1)} (hn : NodeIs PG w (h + 1) n t) {i : Nat} {p : C.Ch} {c : Nd h} (h1 : n.us[i]? = some p) (h2 : t.2.2[i]? = some c) : KidIs PG w h p c := hn.2.2.2.2 i p c h1 h2
theorem NodeIs.below {PG : Int → Option PD} {w w' : World} (hb : Below w.heap.size w w') : ∀ (h : Nat) {n : SN} {t : Nd h}, NodeIs PG w h n t → NodeIs PG w' h n t
  | 0, _, _, hn => hn
  | h + 1, n, t, hn => ⟨hn.1, hn.2.1, hn.2.2.1, hn.2.2.2.1, fun i p c h1 h2 => by
    have := hn.2.2.2.2 i p c h1 h2
    cases p with
    | pg id => exact this
    | nd b =>
      obtain ⟨h0, m, pv, lv, cv, hs, hm⟩ := this
      exact ⟨h0, m, pv, lv, cv, hs.below hb, NodeIs.below hb h hm⟩⟩
theorem KidIs.below {PG : Int → Option PD} {w w' : World} {h : Nat} {p : C.Ch} {t : Nd h} (hk : KidIs PG w h p t) (hb : Below w.heap.size w w') : KidIs PG w' h p t := by
  cases p with
  | pg id => exact hk
  | nd b =>
    obtain ⟨h0, m, pv, lv, cv, hs, hm⟩ := hk
    exact ⟨h0, m, pv, lv, cv, hs.below hb, hm.below hb h⟩
theorem szKs_szB (l : List B.Lk) : szKs (l.map (·.1)) = B.szB l := by
  unfold szKs B.szB
  rw [List.map_map]
  rfl
/-- The size that the program reckons is that of the tree's top. -/
theorem NodeIs.sz {PG : Int → Option PD} {w : World} {h : Nat} {n : SN} {t : Nd h} (hn : NodeIs PG w h n t) : n.sz = szN h t := by
  cases h with
  | zero =>
    show n.sz = szL t.2
    unfold SN.sz
    rw [if_pos (by rw [hn.1]; rfl), hn.2]
  | succ h =>
    have h0 : ¬ n.us.length = 0 := fun e => hn.2.1 (List.length_eq_zero_iff.1 e)
    show n.sz = szKs t.2.1
    unfold SN.sz
    rw [if_neg h0, hn.2.2.2.1, szKs_szB]
theorem NodeIs.min {PG : Int → Option PD} {w : World} {h : Nat} {n : SN} {t : Nd h} (hn : NodeIs PG w h n t) : n.min = minN h := by
  cases h with
  | zero => unfold SN.min minN; rw [if_pos (by rw [hn.1]; rfl)]
  | succ h =>
    have h0 : ¬ n.us.length = 0 := fun e => hn.2.1 (List.length_eq_zero_iff.1 e)
    unfold SN.min minN
    rw [if_neg h0]
/-- Cut in memory is cut of the tree. -/
theorem NodeIs.cut {PG : Int → Option PD} {w : World} {h : Nat} {n a b : SN} {k : ByteArray} {t : Nd h} (hn : NodeIs PG w h n t) (hc : CutS n a k b) (hfull : h = 0 ∨ 3 ≤ n.lk.length) : ∃ ta tb, Cut h t ta k tb ∧ pgN h ta = 0 ∧ pgN h tb = 0 ∧ NodeIs PG w h a ta ∧ NodeIs PG w h b tb := by
  cases h with
  | zero =>
    rcases hc with ⟨_, i, v, h1, h2, rfl, rfl⟩ | ⟨h0, _⟩
    · obtain ⟨e1, e2⟩ := hn
      rw [e2] at h1 h2
      exact ⟨(0, t.2.take i), (0, t.2.drop i), ⟨i, h1, rfl, rfl, v, h2⟩, rfl, rfl, ⟨rfl, by rw [e2]⟩, ⟨rfl, by rw [e2]⟩⟩
    · exact absurd (by rw [hn.1]; rfl) h0
  | succ h =>
    have h0 : ¬ n.us.length = 0 := fun e => hn.2.1 (List.length_eq_zero_iff.1 e)
    rcases hc with ⟨h0', _⟩ | ⟨_, i, f2, x, h1, h2, rfl, rfl⟩
    · exact absurd h0' h0
    · obtain ⟨e1, e2, e3, e4, e5⟩ := hn
      have hlen : n.us.length = n.lk.length + 1 := e3.resolve_left h0
      have h3 : 3 ≤ n.lk.length := hfull.resolve_left (by omega)
      rw [← e4] at h1
      have hib := h1.1
      have hks : (szsKs t.2.1).length = n.lk.length := by rw [e4]; simp [szsKs]
      rw [hks] at hib
      have hk : t.2.1[i]? = some k := by rw [e4, List.getElem?_map, h2]; rfl
      refine ⟨(0, t.2.1.take i, t.2.2.take (i + 1)), (0, t.2.1.drop (i + 1), t.2.2.drop (i + 1)), ⟨i, h1, rfl, rfl, hk⟩, rfl, rfl, ⟨?_, ?_, ?_, ?_, fun j p c g1 g2 => ?_⟩, ⟨?_, ?_, ?_, ?_, fun j p c g1 g2 => ?_⟩⟩
      · show (n.us.take (i + 1)).length = (t.2.2.take (i + 1)).length
        rw [List.length_take, List.length_take, e1]
      · intro e
        have := congrArg List.length e
        simp only [List.length_take, List.length_nil] at this
        omega
      · right
        show (n.us.take (i + 1)).length = (n.lk.take i).length + 1
        rw [List.length_take, List.length_take]; omega
      · show t.2.1.take i = (n.lk.take i).map (·.1)
        rw [e4, List.map_take]
      · have g1 : (n.us.take (i + 1))[j]? = some p := g1
        have g2 : (t.2.2.take (i + 1))[j]? = some c := g2
        rw [List.getElem?_take] at g1 g2
        split at g1
        · rename_i hj
          rw [if_pos hj] at g2
          exact e5 j p c g1 g2
        · cases g1
      · show (n.us.drop (i + 1)).length = (t.2.2.drop (i + 1)).length
        rw [List.length_drop, List.length_drop, e1]
      · intro e
        have := congrArg List.length e
        simp only [List.length_drop, List.length_nil] at this
        omega
      · right
        show (n.us.drop (i + 1)).length = (n.lk.drop (i + 1)).length + 1
        rw [List.length_drop, List.length_drop]; omega
      · show t.2.1.drop (i + 1) = (n.lk.drop (i + 1)).map (·.1)
        rw [e4, List.map_drop]
      · have g1 : (n.us.drop (i + 1))[j]? = some p := g1
        have g2 : (t.2.2.drop (i + 1))[j]? = some c := g2
        rw [List.getElem?_drop] at g1 g2
        exact e5 _ p c g1 g2

end Go.Proofs.YtnaedmmfiiebaaaGreatDoor.T

namespace Go.Proofs.YtnaedmmfiiebaaaGreatDoor.T
open Go.RowKit

section rel
variable {α β : Type} {R : α → β → Prop}
/-- Two lists, one by one. -/
def Rel2 (R : α → β → Prop) (us : List α) (cs : List β) : Prop := us.length = cs.length ∧ ∀ (i : Nat) (p : α) (c : β), us[i]? = some p → cs[i]? = some c → R p c
theorem Rel2.append {us us' : List α} {cs cs' : List β} (h : Rel2 R us cs) (h' : Rel2 R us' cs') : Rel2 R (us ++ us') (cs ++ cs') := by
  refine ⟨by rw [List.length_append, List.length_append, h.1, h'.1], fun i p c h1 h2 => ?_⟩
  by_cases hi : i < us.length
  · rw [List.getElem?_append_left hi] at h1
    rw [List.getElem?_append_left (by rw [← h.1]; exact hi)] at h2
    exact h.2 i p c h1 h2
  · rw [List.getElem?_append_right (by omega)] at h1
    rw [List.getElem?_append_right (by rw [← h.1]; omega), ← h.1] at h2
    exact h'.2 _ p c h1 h2
theorem Rel2.take {us : List α} {cs : List β} (h : Rel2 R us cs) (k : Nat) : Rel2 R (us.take k) (cs.take k) := by
  refine ⟨by rw [List.length_take, List.length_take, h.1], fun i p c h1 h2 => ?_⟩
  rw [List.getElem?_take] at h1 h2
  split at h1
  · rename_i hj
    rw [if_pos hj] at h2
    exact h.2 i p c h1 h2
  · cases h1
theorem Rel2.drop {us : List α} {cs : List β} (h : Rel2 R us cs) (k : Nat) : Rel2 R (us.drop k) (cs.drop k) := by
  refine ⟨by rw [List.length_drop, List.length_drop, h.1], fun i p c h1 h2 => ?_⟩
  rw [List.getElem?_drop] at h1 h2
  exact h.2 _ p c h1 h2
theorem Rel2.cons {us : List α} {cs : List β} {p : α} {c : β} (hp : R p c) (h : Rel2 R us cs) : Rel2 R (p :: us) (c :: cs) := by
  refine ⟨by rw [List.length_cons, List.length_cons, h.1], fun i p' c' h1 h2 => ?_⟩
  cases i with
  | zero => cases h1; cases h2; exact hp
  | succ i => exact h.2 i p' c' (by simpa using h1) (by simpa using h2)
theorem Rel2.mono {R' : α → β → Prop} {us : List α} {cs : List β} (h : Rel2 R us cs) (hm : ∀ p c, R p c → R' p c) : Rel2 R' us cs := ⟨h.1, fun i p c h1 h2 => hm p c (h.2 i p c h1 h2)⟩
theorem set_split (l : List α) (i : Nat) (p : α) (h : i < l.length) : l.set i p = l.take i ++ p :: l.drop (i + 1) := List.set_eq_take_append_cons_drop.trans (by rw [if_pos h])
end rel

variable {PG : Int → Option PD} {w : World} {h : Nat}
theorem nodeIs_iff {n : SN} {t : Nd (h + 1)} : NodeIs PG w (h + 1) n t ↔ Rel2 (KidIs PG w h) n.us t.2.2 ∧ n.us ≠ [] ∧ n.kin ∧ t.2.1 = n.lk.map (·.1) := by
  constructor
  · intro hn
    exact ⟨⟨hn.1, fun i p c h1 h2 => hn.2.2.2.2 i p c h1 h2⟩, hn.2.1, hn.2.2.1, hn.2.2.2.1⟩
  · intro hn
    exact ⟨hn.1.1, hn.2.1, hn.2.2.1, hn.2.2.2, fun i p c h1 h2 => hn.1.2 i p c h1 h2⟩
theorem NodeIs.len {n : SN} {t : Nd (h + 1)} (hn : NodeIs PG w (h + 1) n t) : n.us.length = n.lk.length + 1 := hn.2.2.1.resolve_left (fun e => hn.2.1 (List.length_eq_zero_iff.1 e))
/-- One child in the place of another. -/
theorem NodeIs.set {n : SN} {t : Nd (h + 1)} {C1 C2 : List (Nd h)} {c x : Nd h} {p : C.Ch} (hn : NodeIs PG w (h + 1) n t) (e2 : t.2.2 = C1 ++ c :: C2) (hk : KidIs PG w h p x) (ps : List Pr) (f : Int) :
    NodeIs PG w (h + 1) ⟨ps, f, n.lk, n.us.set C1.length p⟩ (0, t.2.1, C1 ++ x :: C2) := by
  have hl := hn.len
  have hr := (nodeIs_iff.1 hn).1
  have hlt : C1.length < n.us.length := by rw [hr.1, e2]; simp
  refine nodeIs_iff.2 ⟨?_, ?_, .inr ?_, hn.2.2.2.1⟩
  · show Rel2 _ (n.us.set C1.length p) (C1 ++ x :: C2)
    rw [set_split _ _ _ hlt]
    have h1 := hr.take C1.length
    have h2 := hr.drop (C1.length + 1)
    rw [e2, List.take_left] at h1
    have e3 : (C1 ++ c :: C2).drop (C1.length + 1) = C2 := by
      rw [show C1 ++ c :: C2 = (C1 ++ [c]) ++ C2 by simp, show C1.length + 1 = (C1 ++ [c]).length by simp, List.drop_left]
    rw [e2, e3] at h2
    exact h1.append (h2.cons hk)
  · intro e
    have := congrArg List.length e
    rw [List.length_set] at this
    exact hn.2.1 (List.length_eq_zero_iff.1 this)
  · show (n.us.set C1.length p).length = n.lk.length + 1
    rw [List.length_set]; exact hl
end Go.Proofs.YtnaedmmfiiebaaaGreatDoor.T

namespace Go.Proofs.YtnaedmmfiiebaaaGreatDoor.T
open Go.RowKit

variable {PG : Int → Option PD} {w : World} {h : Nat}
/-- What join makes of two nodes, as it lies. -/
def SN.join (a : SN) (key : ByteArray) (b : SN) : SN := if a.us.length = 0 then ⟨a.ps ++ b.ps, 0, [], []⟩ else ⟨[], a.f, B.joinL a.lk key b.f b.lk, a.us ++ b.us⟩
end Go.Proofs.YtnaedmmfiiebaaaGreatDoor.T
