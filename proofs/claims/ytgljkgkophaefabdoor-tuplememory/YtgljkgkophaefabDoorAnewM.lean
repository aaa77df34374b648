import Derived.Test.YtgljkgkophaefabDoorGrown
import Derived.Test.YtgljkgkophaefabDoorBackLaw2
import Derived.Test.YtgljkgkophaefabDoorComp
import Derived.Test.YtgljkgkophaefabDoorOrd3
namespace Go.Proofs.YtgljkgkophaefabDoor
open Go.RowKit

def itOver : It := .mk 4 0 ⟨#[111, 118, 101, 114]⟩ []
def itBig : It := .mk 3 1099511627776 ⟨#[]⟩ []
def itA : It := .mk 5 0 ⟨#[]⟩ [.mk 1 0 ⟨#[]⟩ [], .mk 5 0 ⟨#[]⟩ [.mk 1 0 ⟨#[]⟩ []]]
def itB : It := .mk 5 0 ⟨#[]⟩ [.mk 1 0 ⟨#[]⟩ []]
theorem itNull_ok : (It.mk 1 0 ⟨#[]⟩ []).Ok := ⟨by simp [It.kind], by simp [It.kind], by simp [It.num], by simp [It.num], by simp [It.text, ByteArray.size]⟩
theorem itOver_ok : itOver.Ok := ⟨by simp [itOver, It.kind], by simp [itOver, It.kind], by simp [itOver, It.num], by simp [itOver, It.num], by simp [itOver, It.text, ByteArray.size]⟩
theorem itBig_ok : itBig.Ok := ⟨by simp [itBig, It.kind], by simp [itBig, It.kind], by simp [itBig, It.num], by simp [itBig, It.num], by simp [itBig, It.text, ByteArray.size]⟩
theorem itList_ok (l : List It) : (It.mk 5 0 ⟨#[]⟩ l).Ok := ⟨by simp [It.kind], by simp [It.kind], by simp [It.num], by simp [It.num], by simp [It.text, ByteArray.size]⟩
theorem itNull_VI (r : Nat) : VI r (.mk 1 0 ⟨#[]⟩ []) := plain_item r 1 0 ⟨#[]⟩ fits_null (by decide) itNull_ok
theorem itOver_VI (r : Nat) : VI r itOver := plain_item r 4 0 _ rfl (by decide) itOver_ok
theorem itBig_VI (r : Nat) : VI r itBig := plain_item r 3 _ _ (fits_num _) (by decide) itBig_ok
theorem itB_VI (r : Nat) : VI (r + 1) itB := list_item r _ ⟨by simp, fun x hx => by simp only [List.mem_singleton] at hx; subst hx; exact itNull_VI r⟩
theorem itA_VI (r : Nat) : VI (r + 2) itA := list_item (r + 1) _ ⟨by simp, fun x hx => by
  simp only [List.mem_cons, List.not_mem_nil, or_false] at hx
  rcases hx with rfl | rfl
  · exact itNull_VI _
  · exact itB_VI r⟩
theorem VL.set {r : Nat} {l : List It} (h : VL r l) (i : Nat) (x : It) (hx : VI r x) : VL r (l.set i x) :=
  ⟨by simpa using h.1, fun y hy => by
    rcases List.mem_or_eq_of_mem_set hy with h' | rfl
    · exact h.each y h'
    · exact hx⟩
theorem encL_set_len : ∀ (l : List It) (i : Nat) (x : It), (encL (l.set i x)).length ≤ (encL l).length + x.enc.length
  | [], _, _ => by simp [encL]
  | y :: l, 0, x => by simp only [List.set_cons_zero, encL, List.length_append]; omega
  | y :: l, i + 1, x => by have := encL_set_len l i x; simp only [List.set_cons_succ, encL, List.length_append]; omega
theorem packF_VL {l : List It} (h : VL 4 l) (hl : (encL l).length ≤ 65536) : packF l = 0 := by
  unfold packF; rw [if_pos h.fault, if_neg (by omega)]
theorem packT_VL {l : List It} (h : VL 4 l) (hl : (encL l).length ≤ 65536) : packT l = ⟨(encL l).toArray⟩ := by
  unfold packT; rw [if_pos (packF_VL h hl)]
theorem compF_VL {a b : List It} (h : VL 4 a) (hl : (encL a).length ≤ 65536) (k : VL 4 b) (kl : (encL b).length ≤ 65536) : compF a b = 0 := by
  unfold compF; rw [if_pos (packF_VL h hl), packF_VL k kl]
theorem compV_VL {a b : List It} (h : VL 4 a) (hl : (encL a).length ≤ 65536) (k : VL 4 b) (kl : (encL b).length ≤ 65536) : compV a b = 0 ↔ a = b := by
  unfold compV; rw [if_pos ⟨packF_VL h hl, packF_VL k kl⟩]
  exact enc_inj a b h.fault k.fault h.okR k.okR
theorem over_len : itOver.enc.length ≤ 20 ∧ itBig.enc.length ≤ 20 := by
  constructor
  · rw [itOver.enc_eq]; simp [bodyOf, itOver, It.kind, It.text, encT, escL]
  · rw [itBig.enc_eq]; simp [bodyOf, itBig, It.kind, num8, be8]
/-- The list as anew writes it over. -/
def overL (q : List It) : List It := (q.set 0 itBig).set (q.length - 1) itOver
theorem overL_VL {q : List It} (h : VL 4 q) : VL 4 (overL q) := (h.set 0 _ (itBig_VI 4)).set _ _ (itOver_VI 4)
theorem overL_len {q : List It} : (encL (overL q)).length ≤ (encL q).length + 40 := by
  have h1 := encL_set_len (q.set 0 itBig) (q.length - 1) itOver
  have h2 := encL_set_len q 0 itBig
  have := over_len
  unfold overL
  omega
theorem overL_ne {q : List It} (h : q ≠ []) (hk : (q[q.length - 1]'(by have := List.length_pos_iff.2 h; omega)).kind = 5) : overL q ≠ q := by
  intro e
  have hp := List.length_pos_iff.2 h
  have : (overL q)[q.length - 1]? = some itOver := by
    unfold overL
    rw [List.getElem?_set_self (by simp; omega)]
  rw [e, List.getElem?_eq_getElem (by omega)] at this
  rw [Option.some.inj this] at hk
  simp [itOver, It.kind] at hk

/-- What is counted of a tidy list. -/
def limC : Nat → Nat
  | 0 => 4
  | r + 1 => 4 * (1 + limC r)
theorem cnt_list (n : Nat) : ∀ l : List It, (∀ x ∈ l, x.cnt ≤ n) → cntL l ≤ l.length * n
  | [], _ => by simp [cntL]
  | x :: r, h => by
    have h1 := h x (by simp)
    have h2 := cnt_list n r (fun y hy => h y (by simp [hy]))
    simp only [cntL, List.length_cons, Nat.add_mul, Nat.one_mul]
    omega
theorem fits_nolist {x : It} (h : fits x = true) (hk : x.kind ≠ 5) : x.list = [] := by
  rcases fits_cases h with rfl | rfl | rfl | ⟨n, rfl⟩ | ⟨t, rfl⟩ | ⟨l, rfl⟩ <;> first | rfl | exact absurd rfl hk
theorem TidyT.cnt : ∀ (r : Nat) (l : List It), TidyT r l → cntL l ≤ limC r
  | 0, l, h => by
    have h1 := cnt_list 1 l (fun x hx => by
      rw [x.cnt_eq, fits_nolist (h.2 x hx).fit (fun hk => (h.2 x hx).list hk)]; simp [cntL])
    have := h.1
    simp only [limC]
    omega
  | r + 1, l, h => by
    have h1 := cnt_list (1 + limC r) l (fun x hx => by
      rw [x.cnt_eq]
      by_cases hk : x.kind = 5
      · have := TidyT.cnt r _ ((h.2 x hx).list hk); omega
      · rw [fits_nolist (h.2 x hx).fit hk]; simp [cntL])
    have h2 : l.length * (1 + limC r) ≤ 4 * (1 + limC r) := Nat.mul_le_mul_right _ h.1
    simp only [limC]
    omega

/-- The list that the law hands about. -/
def memL (q : List It) : List It := q ++ [itA, itB]
theorem memL_VL {q : List It} (h : TidyT 4 q) (hl : q.length ≤ 4) : VL 4 (memL q) :=
  ⟨by simp [memL]; omega, fun x hx => by
    simp only [memL, List.mem_append, List.mem_cons, List.not_mem_nil, or_false] at hx
    rcases hx with hx | rfl | rfl
    · exact (tidy_VL h).each x hx
    · exact itA_VI 2
    · exact itB_VI 3⟩
theorem memL_len {q : List It} (h : TidyT 4 q) : (encL (memL q)).length ≤ 30000 := by
  have h1 := TidyT.len 4 q h
  rw [lim4] at h1
  have h2 : (encL [itA, itB]).length ≤ 100 := by
    simp only [encL, itA, itB, It.enc_eq]
    simp [bodyOf, It.kind, It.list, encL, It.enc_eq]
  rw [memL, encL_append, List.length_append]
  omega
theorem memL_cnt {q : List It} (h : TidyT 4 q) : cntL (memL q) ≤ 3000 := by
  have h1 := TidyT.cnt 4 q h
  have h3 : limC 4 ≤ 2000 := by decide
  have h2 : cntL [itA, itB] ≤ 100 := by simp [cntL, itA, itB, It.cnt]
  rw [memL, cntL_append]
  omega

end Go.Proofs.YtgljkgkophaefabDoor
