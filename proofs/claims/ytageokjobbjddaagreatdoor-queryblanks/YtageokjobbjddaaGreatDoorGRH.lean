import Derived.Test.YtageokjobbjddaaGreatDoorGRE
import Derived.Test.YtageokjobbjddaaGreatDoorGRC
import Derived.Test.YtageokjobbjddaaGreatDoorGRG
import Derived.Test.YtageokjobbjddaaGreatDoorPWr2
namespace Go.Proofs.YtageokjobbjddaaGreatDoor
open Go.RowKit

/-! Numbers, hexadecimal digits, signs: where they end. -/
def dcount : List UInt8 → Nat
  | [] => 0
  | c :: r => if digitB c = true then dcount r + 1 else 0
theorem dcount_le : ∀ (l : List UInt8), dcount l ≤ l.length
  | [] => Nat.le_refl _
  | c :: r => by
    rw [dcount]
    split
    · have := dcount_le r; simp only [List.length_cons]; omega
    · simp
def numLen : List UInt8 → Nat
  | [] => 0
  | c :: r => if c = 45 then dcount r + 1 else dcount (c :: r)
def hexI (c : UInt8) : Int := if digitB c = true then (c.toNat : Int) - 48 else if 97 ≤ c.toNat ∧ c.toNat ≤ 102 then (c.toNat : Int) - 87 else if 65 ≤ c.toNat ∧ c.toNat ≤ 70 then (c.toNat : Int) - 55 else -1
theorem hexI_lt (c : UInt8) : -1 ≤ hexI c ∧ hexI c ≤ 15 := by
  unfold hexI
  split
  · rename_i h
    simp only [digitB, decide_eq_true_eq] at h
    omega
  split
  · omega
  split <;> omega
end Go.Proofs.YtageokjobbjddaaGreatDoor

namespace Go.Proofs.YtageokjobbjddaaGreatDoor
open Go.RowKit

def sgnLen : List UInt8 → Nat
  | [] => 0
  | c :: r => if (c = 60 ∨ c = 62) ∧ r.head? = some 61 then 2 else if c = 61 ∨ c = 60 ∨ c = 62 ∨ c = 91 ∨ c = 93 ∨ c = 44 then 1 else 0
def escX : List UInt8 → UInt8 × Nat
  | a :: b :: _ => if hexI a < 0 ∨ hexI b < 0 then (0, 0) else (UInt8.ofNat (16 * hexI a + hexI b).toNat, 4)
  | _ => (0, 0)
def escD : List UInt8 → UInt8 × Nat
  | _ :: c :: r => if c = 34 ∨ c = 92 then (c, 2) else if c = 120 then escX r else (0, 0)
  | _ => (0, 0)
end Go.Proofs.YtageokjobbjddaaGreatDoor

namespace Go.Proofs.YtageokjobbjddaaGreatDoor
open Go.RowKit

/-! The number that a text is. -/
def decV (l : List UInt8) : Nat := l.foldl (fun u c => u * 10 + (c.toNat - 48)) 0
theorem decV_snoc (l : List UInt8) (c : UInt8) : decV (l ++ [c]) = decV l * 10 + (c.toNat - 48) := by
  unfold decV
  rw [List.foldl_append]; rfl
theorem digit_le {c : UInt8} (h : digitB c = true) : 48 ≤ c.toNat ∧ c.toNat ≤ 57 := by simpa [digitB] using h
theorem decV_lt : ∀ (n : Nat) (l : List UInt8), l.length = n → (∀ c ∈ l, digitB c = true) → decV l < 10 ^ n
  | 0, l, h, _ => by
    rw [List.length_eq_zero_iff.1 h]; decide
  | n + 1, l, h, hd => by
    have hne : l ≠ [] := fun e => by rw [e] at h; simp at h
    have e := List.dropLast_concat_getLast hne
    have h1 := decV_lt n l.dropLast (by rw [List.length_dropLast]; omega) fun c hc => hd c ((List.dropLast_sublist l).subset hc)
    have h2 := digit_le (hd _ (List.getLast_mem hne))
    rw [← e, decV_snoc, Nat.pow_succ]
    omega
def badN (low : Bool) (t : List UInt8) : Bool := decide (t = []) || decide (19 < t.length) || (decide (t.head? = some 48) && (decide (1 < t.length) || low))
def natOk (low : Bool) (t : List UInt8) : Bool := !badN low t && t.all digitB && decide (decV t ≤ if low then 9223372036854775808 else 9223372036854775807)
def lowB (l : List UInt8) : Bool := decide (l.head? = some 45)
def bodyL (l : List UInt8) : List UInt8 := if lowB l then l.tail else l
def numOk (l : List UInt8) : Bool := natOk (lowB l) (bodyL l)
def numV (l : List UInt8) : Int := if lowB l then - (decV (bodyL l) : Int) else (decV (bodyL l) : Int)
theorem ex_tail (s : ByteArray) : (s.extract 1 s.size).data.toList = s.data.toList.tail := by
  rw [ByteArray.data_extract]
  simp
  exact List.take_of_length_le (by simp)
theorem size_list (s : ByteArray) : s.size = s.data.toList.length := (q_len s).symm
theorem emp_list (s : ByteArray) : s = ⟨#[]⟩ ↔ s.data.toList = [] := by
  constructor
  · intro h; subst h; rfl
  · intro h
    apply ByteArray.ext
    simpa using h
theorem head_list (s : ByteArray) (h : 0 < s.size) : s.data.toList.head? = some s[0] := by
  have := q_drop s 0 h
  rw [List.drop_zero] at this
  rw [this]; rfl
def numR (l : List UInt8) : Int := if (!badN (lowB l) (bodyL l) && (bodyL l).all digitB) = true then (if lowB l then IntKind.i64.wrap (IntKind.u64.wrap (-(decV (bodyL l) : Int))) else IntKind.i64.wrap (decV (bodyL l) : Int)) else 0
theorem wrap_neg (D : Nat) (h : D ≤ 9223372036854775808) : IntKind.i64.wrap (IntKind.u64.wrap (-(D : Int))) = -(D : Int) := by
  simp [IntKind.wrap, IntKind.bits, IntKind.signed]
  omega
theorem numR_ok {l : List UInt8} (h : numOk l = true) : numR l = numV l := by
  unfold numOk natOk at h
  rw [Bool.and_eq_true, decide_eq_true_eq] at h
  obtain ⟨h1, h2⟩ := h
  rw [numR, if_pos h1, numV]
  cases hl : lowB l with
  | true =>
    rw [hl, if_pos rfl] at h2
    rw [if_pos rfl, if_pos rfl]
    exact wrap_neg _ h2
  | false =>
    rw [hl, if_neg (by simp)] at h2
    rw [if_neg (by simp), if_neg (by simp)]
    exact wrap_i64 _ (by omega) (by omega)
end Go.Proofs.YtageokjobbjddaaGreatDoor

namespace Go.Proofs.YtageokjobbjddaaGreatDoor
open Go.RowKit

/-! A quoted name: what stands behind its first back quote. -/
def qnm : List UInt8 → Option (List UInt8 × Nat)
  | [] => none
  | [c] => if c.toNat < 33 ∨ 126 < c.toNat then none else if c = 96 then some ([], 1) else none
  | c :: d :: r => if c.toNat < 33 ∨ 126 < c.toNat then none else if c = 96 then (if d = 96 then (qnm r).map fun p => (96 :: p.1, p.2 + 2) else some ([], 1)) else (qnm (d :: r)).map fun p => (c :: p.1, p.2 + 1)
theorem qnm_bad {c : UInt8} (r : List UInt8) (h : c.toNat < 33 ∨ 126 < c.toNat) : qnm (c :: r) = none := by
  cases r <;> rw [qnm, if_pos h]
theorem qnm_plain {c : UInt8} (r : List UInt8) (h : ¬ (c.toNat < 33 ∨ 126 < c.toNat)) (h2 : c ≠ 96) : qnm (c :: r) = (qnm r).map fun p => (c :: p.1, p.2 + 1) := by
  cases r with
  | nil => simp only [qnm, if_neg h, if_neg h2]; rfl
  | cons d r => rw [qnm, if_neg h, if_neg h2]
theorem qnm_two (r : List UInt8) : qnm (96 :: 96 :: r) = (qnm r).map fun p => (96 :: p.1, p.2 + 2) := by
  rw [qnm, if_neg (by decide), if_pos rfl, if_pos rfl]
theorem qnm_end (r : List UInt8) (h : r.head? ≠ some 96) : qnm (96 :: r) = some ([], 1) := by
  cases r with
  | nil => rw [qnm, if_neg (by decide), if_pos rfl]
  | cons d r => rw [qnm, if_neg (by decide), if_pos rfl, if_neg (fun e => h (by rw [e]; rfl))]
def qnmR (l : List UInt8) : ByteArray × Nat := match qnm l with | none => (⟨#[]⟩, 0) | some p => (⟨p.1.toArray⟩, p.2 + 1)
def qcat (p : List UInt8) (n : Nat) (o : Option (List UInt8 × Nat)) : Option (List UInt8 × Nat) := o.map fun q => (p ++ q.1, n + q.2)
theorem qcat_map (p : List UInt8) (n : Nat) (c : UInt8) (k : Nat) (o : Option (List UInt8 × Nat)) : qcat p n (o.map fun q => (c :: q.1, q.2 + k)) = qcat (p ++ [c]) (n + k) o := by
  cases o with
  | none => rfl
  | some q => simp [qcat]; omega
end Go.Proofs.YtageokjobbjddaaGreatDoor

namespace Go.Proofs.YtageokjobbjddaaGreatDoor
open Go.RowKit

/-! A text: what stands behind its first double quote. -/
theorem escX_le (l : List UInt8) : (escX l).2 ≤ l.length + 2 ∧ ((escX l).2 = 0 ∨ (escX l).2 = 4 ∧ 2 ≤ l.length) := by
  match l with
  | [] => exact ⟨by simp [escX], .inl rfl⟩
  | [a] => exact ⟨by simp [escX], .inl rfl⟩
  | a :: b :: r =>
    rw [escX]
    split
    · exact ⟨by simp, .inl rfl⟩
    · exact ⟨by simp, .inr ⟨rfl, by simp⟩⟩
theorem escD_le (l : List UInt8) : (escD l).2 ≤ l.length ∧ (escD l).2 ≤ 4 := by
  match l with
  | [] => exact ⟨by simp [escD], by simp [escD]⟩
  | [a] => exact ⟨by simp [escD], by simp [escD]⟩
  | a :: c :: r =>
    rw [escD]
    split
    · exact ⟨by simp, by simp⟩
    split
    · have h := escX_le r
      simp only [List.length_cons]
      rcases h.2 with e | ⟨e, h2⟩
      · rw [e]; omega
      · rw [e]; omega
    · exact ⟨by simp, by simp⟩
def qtx : List UInt8 → Option (List UInt8 × Nat)
  | [] => none
  | c :: r => if c = 34 then some ([], 1) else if c.toNat < 32 ∨ 126 < c.toNat then none else if c = 92 then (if _h : (escD (c :: r)).2 = 0 then none else (qtx ((c :: r).drop (escD (c :: r)).2)).map fun p => ((escD (c :: r)).1 :: p.1, p.2 + (escD (c :: r)).2)) else (qtx r).map fun p => (c :: p.1, p.2 + 1)
termination_by l => l.length
decreasing_by
  · rw [List.length_drop, List.length_cons]; omega
  · simp
def qtxR (l : List UInt8) : ByteArray × Nat := match qtx l with | none => (⟨#[]⟩, 0) | some p => (⟨p.1.toArray⟩, p.2 + 1)
end Go.Proofs.YtageokjobbjddaaGreatDoor

namespace Go.Proofs.YtageokjobbjddaaGreatDoor
open Go.RowKit

/-! One token. -/
structure Tk where
  kind : Int
  num : Int
  text : ByteArray
def tkV (t : Tk) : Array Value := #[.int .i64 t.kind, .int .i64 t.num, .string t.text]
def tk0 : Tk := ⟨0, 0, ⟨#[]⟩⟩
def oneD (l : List UInt8) : Tk × Nat :=
  match l with
  | [] => (tk0, 0)
  | c :: r => if letterB c = true then (⟨1, 0, ⟨(l.take (wfrom true l)).toArray⟩⟩, wfrom true l)
    else if c = 96 then (⟨2, 0, (qnmR r).1⟩, (qnmR r).2)
    else if c = 34 then (⟨4, 0, (qtxR r).1⟩, (qtxR r).2)
    else if c = 45 ∨ digitB c = true then (if numOk (l.take (numLen l)) = true then (⟨3, numV (l.take (numLen l)), ⟨#[]⟩⟩, numLen l) else (tk0, 0))
    else (⟨5, 0, ⟨(l.take (sgnLen l)).toArray⟩⟩, sgnLen l)
theorem ex_sub (s : ByteArray) (a n : Nat) : s.extract a (a + n) = ⟨((s.data.toList.drop a).take n).toArray⟩ := by
  apply ByteArray.ext
  rw [ByteArray.data_extract]
  apply Array.toList_inj.1
  simp [List.take_drop]
theorem numLen_le (l : List UInt8) : numLen l ≤ l.length := by
  cases l with
  | nil => exact Nat.le_refl _
  | cons c r =>
    rw [numLen]
    split
    · have := dcount_le r; simp only [List.length_cons]; omega
    · exact dcount_le _
theorem sgnLen_le (l : List UInt8) : sgnLen l ≤ l.length := by
  cases l with
  | nil => exact Nat.le_refl _
  | cons c r =>
    rw [sgnLen]
    split
    · rename_i h
      cases r with
      | nil => simp at h
      | cons _ _ => simp
    split <;> simp
theorem below_row {a w : World} {H : Nat} (h : Below a.heap.size a w) (hH : a.heap.size ≤ H) (cs : Array Value) : Below a.heap.size a (w.setRow H cs) := below_setRow h hH cs
end Go.Proofs.YtageokjobbjddaaGreatDoor

namespace Go.Proofs.YtageokjobbjddaaGreatDoor
open Go.RowKit

/-! The program's tokens: names and words. -/
structure Pt where
  kind : Int
  text : ByteArray
  num : Int
abbrev ptV (t : Pt) : Array Value := #[.int .i64 t.kind, .string t.text, .int .i64 t.num]
def pt0 : Pt := ⟨0, ⟨#[]⟩, 0⟩
def ptBad : Pt := ⟨1, ⟨#[]⟩, 0⟩
theorem pt_set0 {w : World} {b : Nat} {x y z : Value} {t : TypeId} (h : RowAt w b #[x, y, z] t) (x' : Value) : RowAt (w.setCell ⟨b, 0, none⟩ x') b #[x', y, z] t := by
  unfold RowAt at h ⊢
  rw [setCell_eq_setRow w b 0 #[x, y, z] t (0, 0) x' h]
  exact setRow_heap w b _ _ t _ h
theorem pt_set1 {w : World} {b : Nat} {x y z : Value} {t : TypeId} (h : RowAt w b #[x, y, z] t) (y' : Value) : RowAt (w.setCell ⟨b, 1, none⟩ y') b #[x, y', z] t := by
  unfold RowAt at h ⊢
  rw [setCell_eq_setRow w b 1 #[x, y, z] t (0, 0) y' h]
  exact setRow_heap w b _ _ t _ h
theorem pt_set2 {w : World} {b : Nat} {x y z : Value} {t : TypeId} (h : RowAt w b #[x, y, z] t) (z' : Value) : RowAt (w.setCell ⟨b, 2, none⟩ z') b #[x, y, z'] t := by
  unfold RowAt at h ⊢
  rw [setCell_eq_setRow w b 2 #[x, y, z] t (0, 0) z' h]
  exact setRow_heap w b _ _ t _ h
/-- A token stored cell by cell. -/
theorem pt_put {w : World} {b : Nat} {x y z : Value} {t : TypeId} (h : RowAt w b #[x, y, z] t) (x' y' z' : Value) : RowAt (((w.setCell ⟨b, 0, none⟩ x').setCell ⟨b, 1, none⟩ y').setCell ⟨b, 2, none⟩ z') b #[x', y', z'] t := pt_set2 (pt_set1 (pt_set0 h x') y') z'
theorem pt_below {base b : Nat} {a w : World} (h : Below base a w) (hb : base ≤ b) (x' y' z' : Value) : Below base a (((w.setCell ⟨b, 0, none⟩ x').setCell ⟨b, 1, none⟩ y').setCell ⟨b, 2, none⟩ z') := ((h.setCell (p := ⟨b, 0, none⟩) hb x').setCell (p := ⟨b, 1, none⟩) hb y').setCell (p := ⟨b, 2, none⟩) hb z'
theorem pt_cells {w : World} {b : Nat} {x y z : Value} {t : TypeId} (h : RowAt w b #[x, y, z] t) : (w.cell? ⟨b, 0, none⟩ = some x ∧ w.cell? ⟨b, 1, none⟩ = some y ∧ w.cell? ⟨b, 2, none⟩ = some z) ∧ w.frozen? ⟨b, 0, none⟩ = false ∧ w.frozen? ⟨b, 1, none⟩ = false ∧ w.frozen? ⟨b, 2, none⟩ = false := ⟨⟨h.cell 0 (by simp), h.cell 1 (by simp), h.cell 2 (by simp)⟩, h.free 0, h.free 1, h.free 2⟩
def namedD (s : ByteArray) : Pt := if isNameD s = true then ⟨3, s, 0⟩ else ptBad
set_option maxHeartbeats 2000000 in
set_option maxRecDepth 100000 in
theorem pnamed_any (s : ByteArray) (w : World) (hs : s.size ≤ 140737488355328) :
    Calls Tryz.prog 82 #[.string s] w fun e w' => e = .returned (.agg (ptV (namedD s))) ∧ Below w.heap.size w w' := by
  have q1 := below_new w (.cells (ptV pt0) 67)
  have x1 := RowAt.new w (ptV pt0) 67
  unfold pt0 ptV at q1 x1
  obtain ⟨W1, hW1⟩ : ∃ W1, w.alloc (.cells #[.int .i64 0, .string ⟨#[]⟩, .int .i64 0] 67) = W1 := ⟨_, rfl⟩
  rw [hW1] at q1 x1
  have HW := hide hW1
  have HX := hide x1
  have HB := hide q1
  have HN := hide (pisname_any s W1 hs)
  have HC := hide (sclone_any s W1 (by omega))
  obtain ⟨t, ht⟩ : ∃ t, t = namedD s := ⟨_, rfl⟩
  rw [← ht]
  have HT := hide ht
  clear ht hW1 q1 x1
  cases hn : isNameD s with
  | true =>
    rw [hn] at HN
    have HE : Hid (t = ⟨3, s, 0⟩) := by show _ = _; rw [HT.out, namedD, if_pos hn]
    clear hn HT
    go_enter Tryz.func82, Tryz.ntmps82
    go_wp2_with fail
    rw [HW.out]
    refine HN.out.mono ?_
    rintro e w' ⟨rfl, rfl⟩
    clear HN
    go_wp2_with fail
    refine HC.out.mono ?_
    rintro e w2 ⟨rfl, hb2⟩
    have HST := hide (store_row w2 w.heap.size 67 _ #[.int .i64 3, .string s, .int .i64 0] (HX.out.below hb2) (by kernel_rfl) rfl (by simp [Value.oneCell']))
    have HX2 := hide (HX.out.below hb2)
    have HB2 := hide (Below.next HB.out hb2)
    clear HC hb2
    go_wp2_with (refine wpList_store_eq rfl 67 _ _ rfl _ _ rfl rfl HST.out ?_)
    refine bodyPost_ret (results_cell_row rfl _ _ w.heap.size 67 _ (0, 0) _ rfl (row_set _ _ _ _ _ HX2.out) Tryz.underlying67 rfl (by kernel_rfl)) rfl ?_
    exact ⟨by rw [HE.out], below_row HB2.out (Nat.le_refl _) _⟩
  | false =>
    rw [hn] at HN
    have HE : Hid (t = ptBad) := by show _ = _; rw [HT.out, namedD, hn, if_neg (by simp)]
    have HST := hide (store_row W1 w.heap.size 67 _ #[.int .i64 1, .string ⟨#[]⟩, .int .i64 0] HX.out (by kernel_rfl) rfl (by simp [Value.oneCell']))
    clear hn HT HC
    go_enter Tryz.func82, Tryz.ntmps82
    go_wp2_with fail
    rw [HW.out]
    refine HN.out.mono ?_
    rintro e w' ⟨rfl, rfl⟩
    clear HN
    go_wp2_with (refine wpList_store_eq rfl 67 _ _ rfl _ _ rfl rfl HST.out ?_)
    refine bodyPost_ret (results_cell_row rfl _ _ w.heap.size 67 _ (0, 0) _ rfl (row_set _ _ _ _ _ HX.out) Tryz.underlying67 rfl (by kernel_rfl)) rfl ?_
    exact ⟨by rw [HE.out]; rfl, below_row HB.out (Nat.le_refl _) _⟩
end Go.Proofs.YtageokjobbjddaaGreatDoor
