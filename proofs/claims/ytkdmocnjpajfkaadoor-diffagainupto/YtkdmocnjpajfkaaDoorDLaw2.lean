import Derived.Test.YtkdmocnjpajfkaaDoorDLaw
import Derived.Test.YtkdmocnjpajfkaaDoorDHas
import Derived.Test.YtkdmocnjpajfkaaDoorDCle
namespace Go.Proofs.YtkdmocnjpajfkaaDoor
open Go.RowKit

theorem lpairs_st {a : List Pr} (ha : Sd a) (v : Value) (V : World) (hR : PrR V v a) :
    Calls Tryd.prog 16 #[v] V fun e w' => ∃ x k, e = .returned (.slice x a.length k) ∧ PrR w' (.slice x a.length k) a ∧ Below V.heap.size V w' := by
  refine (lpairs_any v a V hR (by have := ha.len; omega)).mono ?_
  rintro e w' ⟨v', rfl, hown, hbl⟩
  obtain ⟨x, k, rfl⟩ := hown.form
  exact ⟨x, k, rfl, hown.at, hbl⟩
theorem lchanges_st (l : List Ch) (hl : l.length ≤ 2097152) (v : Value) (V : World) (hR : ChR V v l) :
    Calls Tryd.prog 17 #[v] V fun e w' => ∃ x k, e = .returned (.slice x l.length k) ∧ ChR w' (.slice x l.length k) l ∧ Below V.heap.size V w' := by
  refine (lchanges_any v l V hR (by omega)).mono ?_
  rintro e w' ⟨v', rfl, hown, hbl⟩
  obtain ⟨x, k, rfl⟩ := hown.form
  exact ⟨x, k, rfl, hown.at, hbl⟩
theorem clean_st {a b : List Pr} (ha : Sd a) (hb : Sd b) (v : Value) (V : World) (hR : ChR V v (listsD a b)) :
    Calls Tryd.prog 19 #[v] V fun e w' => e = .returned (.bool true) ∧ Below V.heap.size V w' :=
  clean_true v _ V (by have := ha.lists hb; omega) hR (lists_kr ha.kr hb.kr) (fun c hc => by
    obtain ⟨e1, e2⟩ := lists_mem ha.kr hb.kr hc
    rw [e1]; exact cl_chg e2)
theorem has_st {a : List Pr} (ha : Sd a) (v : Value) (key : ByteArray) (t : Bool) (s : ByteArray) (ht : t = (lk a key).isSome) (hs : s = (lk a key).getD nilB) (V : World) (hR : PrR V v a) :
    Calls Tryd.prog 18 #[v, .string key] V fun e w' => e = .returned (.tuple #[.string s, .bool t]) ∧ Below V.heap.size V w' := by
  subst ht hs
  exact has_any v a key V (by have := ha.len; omega) hR
end Go.Proofs.YtkdmocnjpajfkaaDoor
