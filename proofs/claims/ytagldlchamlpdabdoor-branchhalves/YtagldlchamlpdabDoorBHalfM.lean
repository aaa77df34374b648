import Derived.Test.YtagldlchamlpdabDoorBMadeM
import Derived.Test.YtagldlchamlpdabDoorBPick2
import Derived.Test.YtagldlchamlpdabDoorBChild
import Derived.Test.YtagldlchamlpdabDoorBCut
namespace Go.Proofs.YtagldlchamlpdabDoor
open Go.RowKit

theorem leK_down {a b key : ByteArray} (h : ltK a b = true) (hb : leK b key = true) : leK a key = true := by
  simp only [leK, Bool.or_eq_true, beq_iff_eq] at hb ⊢
  rcases hb with hb | hb
  · exact .inl (bless_trans _ _ _ h hb)
  · rw [← hb]; exact .inl h
theorem PickAt.below {l : List Lk} {key : ByteArray} {p : Nat} (hr : RiseK l) (h : PickAt l key p) : ∀ d j (hj : j < l.length), j + d + 1 = p → leK l[j].1 key = true
  | 0, j, hj, e => h.2.2 j hj (by omega)
  | d + 1, j, hj, e => leK_down (hr j (by have := h.1; omega)) (PickAt.below hr h d (j + 1) (by have := h.1; omega) (by omega))
theorem PickAt.iff {l : List Lk} {key : ByteArray} {p : Nat} (hr : RiseK l) (h : PickAt l key p) (j : Nat) (hj : j < l.length) : leK l[j].1 key = true ↔ j < p := by
  constructor
  · intro ht
    rcases Nat.lt_or_ge j p with hlt | hge
    · exact hlt
    · rw [h.2.1 j hj hge] at ht; exact absurd ht (by simp)
  · intro hlt
    exact h.below hr (p - 1 - j) j hj (by omega)
theorem PickAt.unique {l : List Lk} {key : ByteArray} {p q : Nat} (hr : RiseK l) (h : PickAt l key p) (k : PickAt l key q) : p = q := by
  rcases Nat.lt_trichotomy p q with hlt | he | hlt
  · have hp : p < l.length := by have := k.1; omega
    exact absurd ((h.iff hr p hp).1 ((k.iff hr p hp).2 hlt)) (by omega)
  · exact he
  · have hp : q < l.length := by have := h.1; omega
    exact absurd ((k.iff hr q hp).1 ((h.iff hr q hp).2 hlt)) (by omega)
/-- A key belongs in the same child of the halves as of the whole. -/
theorem pick_left {f : Int} {l : List Lk} {key : ByteArray} {p q i : Nat} (hr : RiseK l) (hi : i < l.length) (hk : leK l[i].1 key = false) (h : PickAt l key p) (k : PickAt (l.take i) key q) : childN f l (p : Int) = childN f (l.take i) (q : Int) := by
  have hpi : p ≤ i := by
    rcases Nat.lt_or_ge i p with hlt | hge
    · rw [(h.iff hr i hi).2 hlt] at hk; exact absurd hk (by simp)
    · exact hge
  have hl : (l.take i).length = i := by rw [List.length_take]; omega
  have hq : PickAt (l.take i) key p := ⟨by omega, fun j hj hp => by simp only [List.getElem_take]; exact h.2.1 j (by omega) hp, fun j hj e => by simp only [List.getElem_take]; exact h.2.2 j (by omega) e⟩
  have e := PickAt.unique (hr.take i) hq k
  subst e
  unfold childN
  split
  · rfl
  · rename_i h0
    have h1 : ((p : Int) - 1).toNat < i := by omega
    rw [List.getD_eq_getElem?_getD, List.getD_eq_getElem?_getD, List.getElem?_take_of_lt h1]
theorem pick_right {f : Int} {l : List Lk} {key : ByteArray} {p q i : Nat} (hr : RiseK l) (hi : i < l.length) (hk : leK l[i].1 key = true) (h : PickAt l key p) (k : PickAt (l.drop (i + 1)) key q) : childN f l (p : Int) = childN l[i].2 (l.drop (i + 1)) (q : Int) := by
  have hpi : i < p := (h.iff hr i hi).1 hk
  have hpl := h.1
  have hq : PickAt (l.drop (i + 1)) key (p - (i + 1)) := ⟨by rw [List.length_drop]; omega, fun j hj hp => by
      rw [List.length_drop] at hj
      simp only [List.getElem_drop]; exact h.2.1 _ (by omega) (by omega), fun j hj e => by
      rw [List.length_drop] at hj
      simp only [List.getElem_drop]; exact h.2.2 _ (by omega) (by omega)⟩
  have e := PickAt.unique (hr.drop (i + 1)) hq k
  subst e
  have hp0 : ¬ (p : Int) = 0 := by omega
  unfold childN
  rw [if_neg hp0]
  by_cases h1 : p = i + 1
  · subst h1
    rw [if_pos (by omega), show (((i + 1 : Nat) : Int) - 1).toNat = i by omega, List.getD_eq_getElem?_getD, List.getElem?_eq_getElem hi]; rfl
  · rw [if_neg (by omega), List.getD_eq_getElem?_getD, List.getD_eq_getElem?_getD, List.getElem?_drop]
    congr 3
    omega
theorem chkB_fine {f : Int} {l : List Lk} (root : Bool) (hne : l ≠ []) (hc : childB f = true) (hm : ∀ p ∈ l, mayK p = true) (hr : RiseK l) (hk : (kids f l).Nodup) (hs : szB l ≤ 4072) (hs2 : 1777 ≤ szB l) : chkB f l root = none := by
  have hal : l.all mayK = true := List.all_eq_true.2 hm
  unfold chkB
  rw [if_neg hne, if_neg (by rw [hal, hc]; decide), if_neg (fun h => h hr), if_neg (fun h => h hk), if_neg (by omega), if_neg (by omega)]
theorem sum_cast (l : List Lk) : ((l.map fun p => (szK p : Int)).sum) = ((l.map szK).sum : Nat) := by
  induction l with
  | nil => rfl
  | cons p l ih => simp only [List.map_cons, List.sum_cons, ih]; omega
theorem szB_pre (l : List Lk) (i : Nat) : (szB (l.take i) : Int) = 6 + pre (szsK l) i := by
  rw [pre, szsK, ← List.map_take, sum_cast, szB]; omega
theorem szB_split (l : List Lk) (i : Nat) (h : i < l.length) : szB l + 6 = szB (l.take i) + szK l[i] + szB (l.drop (i + 1)) := by
  have e : l = l.take i ++ l[i] :: l.drop (i + 1) := by rw [← List.drop_eq_getElem_cons h, List.take_append_drop]
  have : (l.map szK).sum = ((l.take i).map szK).sum + (szK l[i] + ((l.drop (i + 1)).map szK).sum) := by
    conv => lhs; rw [e]
    simp only [List.map_append, List.map_cons, List.sum_append, List.sum_cons]
  simp only [szB]; omega

/-- THE STAGE'S THEOREM, its sizes: a branch that is too big by a link or as two joined is cut into two that may be. -/
theorem halves_sizes {l : List Lk} {i c : Nat} (hm : ∀ p ∈ l, mayK p = true) (h1 : 4072 < szB l) (h2 : szB l ≤ 7884) (hc : CutN 3 (gapP (szsK l)) (szsK l) i c) :
    c = 0 ∧ 1 ≤ i ∧ i + 2 ≤ l.length ∧ (1777 ≤ szB (l.take i) ∧ szB (l.take i) ≤ 4072) ∧ (1777 ≤ szB (l.drop (i + 1)) ∧ szB (l.drop (i + 1)) ≤ 4072) := by
  have hsz : ∀ k (h : k < (szsK l).length), 8 ≤ (szsK l)[k] ∧ (szsK l)[k] ≤ 262 := fun k h => by
    rw [szsK_get]
    have := mayK_parts (hm _ (List.getElem_mem (by rw [szsK_len] at h; exact h)))
    simp only [szK]; omega
  have hf : FineL (szsK l) := fun k h => by have := hsz k h; omega
  have hle : ∀ l : List Lk, (∀ p ∈ l, mayK p = true) → (l.map szK).sum ≤ 262 * l.length := fun l => by
    induction l with
    | nil => intro _; simp
    | cons p l ih =>
      intro h
      have a := ih fun q hq => h q (List.mem_cons_of_mem _ hq)
      have b := mayK_parts (h p List.mem_cons_self)
      simp only [List.map_cons, List.sum_cons, List.length_cons, szK]; omega
  have hlen : 3 ≤ l.length := by have := hle l hm; simp only [szB] at h1; omega
  rcases hc with ⟨h, _⟩ | ⟨_, h, _⟩ | ⟨_, _, hb, hc0⟩
  · rw [szsK_len] at h; omega
  · exact absurd hf h
  · have hg := pivot_even hf (by rw [szsK_len]; exact hlen) (fun k h => (hsz k h).2) hb
    have hi := hb.1
    rw [szsK_len] at hi
    have hil : i < l.length := by omega
    have e1 := szB_pre l i
    have e2 := szB_pre l (i + 1)
    have e3 := szB_pre l l.length
    rw [List.take_length] at e3
    have e4 := szB_split l i hil
    have e5 : szB (l.take (i + 1)) = szB (l.take i) + szK l[i] := by
      rw [List.take_succ_eq_append_getElem hil]; simp only [szB, List.map_append, List.sum_append, List.map_cons, List.sum_cons, List.map_nil, List.sum_nil]; omega
    have e6 := mayK_parts (hm _ (List.getElem_mem hil))
    have e7 : szK l[i] = 7 + l[i].1.size := rfl
    rw [gapP, szsK_len] at hg
    refine ⟨hc0, hi.1, by omega, ⟨?_, ?_⟩, ?_, ?_⟩ <;> omega
theorem kids_take {f : Int} {l : List Lk} (h : (kids f l).Nodup) (i : Nat) : (kids f (l.take i)).Nodup := by
  refine h.sublist ?_
  simp only [kids, List.map_take]
  exact List.Sublist.cons_cons _ (List.take_sublist _ _)
theorem kids_drop {f : Int} {l : List Lk} (h : (kids f l).Nodup) (i : Nat) (hi : i < l.length) : (kids l[i].2 (l.drop (i + 1))).Nodup := by
  refine h.sublist ?_
  have e : kids l[i].2 (l.drop (i + 1)) = (l.map (·.2)).drop i := by
    rw [← List.map_drop, List.drop_eq_getElem_cons hi]; rfl
  rw [e, kids]
  exact (List.drop_sublist _ _).cons _
/-- .. and Check has nothing to say of the two. -/
theorem halves_check {f : Int} {l : List Lk} {i c : Nat} (hcf : childB f = true) (hm : ∀ p ∈ l, mayK p = true) (hr : RiseK l) (hk : (kids f l).Nodup) (h1 : 4072 < szB l) (h2 : szB l ≤ 7884) (hc : CutN 3 (gapP (szsK l)) (szsK l) i c) :
    c = 0 ∧ ∃ h : i < l.length, chkB f (l.take i) false = none ∧ chkB l[i].2 (l.drop (i + 1)) false = none := by
  obtain ⟨hc0, hi1, hi2, ⟨a1, a2⟩, b1, b2⟩ := halves_sizes hm h1 h2 hc
  have hil : i < l.length := by omega
  have hci : childB l[i].2 = true := by
    have := mayK_parts (hm _ (List.getElem_mem hil))
    simp only [childB, decide_eq_true_eq]; omega
  refine ⟨hc0, hil, chkB_fine _ (fun h => ?_) hcf (fun p hp => hm p (List.mem_of_mem_take hp)) (hr.take i) (kids_take hk i) a2 a1, chkB_fine _ (fun h => ?_) hci (fun p hp => hm p (List.mem_of_mem_drop hp)) (hr.drop (i + 1)) (kids_drop hk i hil) b2 b1⟩
  · rw [h] at a1; exact absurd a1 (by decide)
  · rw [h] at b1; exact absurd b1 (by decide)
end Go.Proofs.YtagldlchamlpdabDoor
