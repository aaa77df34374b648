import Derived.Test.YtageokjobbjddaaGreatDoorPCut
namespace Go.Proofs.YtageokjobbjddaaGreatDoor
open Go.RowKit

/-! What is left behind a token is shorter. -/
theorem pqn_le : ∀ (l : List UInt8) (q : List UInt8 × List UInt8), pqn l = some q → q.2.length ≤ l.length
  | [], q, h => by simp [pqn] at h
  | [c], q, h => by
    by_cases hc : c = 96
    · simp only [pqn, if_pos hc] at h; cases h; simp
    · simp only [pqn, if_neg hc] at h; cases h
  | c :: d :: r, q, h => by
    rw [pqn] at h
    split at h
    · split at h
      · cases hp : pqn r with
        | none => rw [hp] at h; cases h
        | some p => rw [hp] at h; cases h; have := pqn_le r p hp; simp; omega
      · cases h; simp
    · cases hp : pqn (d :: r) with
      | none => rw [hp] at h; cases h
      | some p => rw [hp] at h; cases h; have := pqn_le (d :: r) p hp; simp at this ⊢; omega
theorem quotD_le (l : List UInt8) : (quotD l).2.length ≤ l.length := by
  unfold quotD
  cases h : pqn l with
  | none => simp
  | some q => exact pqn_le l q h
theorem textD_le (l : List UInt8) : (textD l).2.length ≤ l.length := by
  unfold textD
  cases h : ptx l with
  | none => simp
  | some q =>
    unfold ptx at h
    cases hq : qtx l with
    | none => rw [hq] at h; cases h
    | some p => rw [hq] at h; cases h; simp
theorem psg_le (s : ByteArray) : ∀ (k : Nat) (q : Nat × ByteArray), psg s k = some q → ∃ j : Nat, q.2 = s.extract (sgnT (j : Int)).size s.size ∧ q.1 = j ∧ 1 ≤ j ∧ j ≤ k
  | 0, q, h => by cases h
  | k + 1, q, h => by
    rw [psg] at h
    split at h
    · cases h; exact ⟨k + 1, rfl, rfl, by omega, Nat.le_refl _⟩
    · obtain ⟨j, h1, h2, h3, h4⟩ := psg_le s k q h
      exact ⟨j, h1, h2, h3, by omega⟩
theorem sgnT_pos (n : Int) : 1 ≤ (sgnT n).size := by
  unfold sgnT
  repeat' split
  all_goals decide
theorem cutD_lt (s : ByteArray) (h : 0 < s.size) : (cutD s).2.size < s.size := by
  have hl0 : s.data.toList = s[0] :: s.data.toList.drop 1 := by
    have := q_drop s 0 h
    rwa [List.drop_zero] at this
  have hlen : (s.data.toList.drop 1).length = s.size - 1 := by rw [List.length_drop, q_len]
  generalize hc : s[0] = c at hl0
  generalize hr : s.data.toList.drop 1 = r at *
  have e : cutD s = (if letterB c = true then (wordD s (leadN inwB s), s.extract (leadN inwB s) s.size)
    else if c = 96 then ((quotD r).1, ⟨(quotD r).2.toArray⟩)
    else if c = 45 ∨ digitB c = true then numD s (numN s)
    else if c = 34 then ((textD r).1, ⟨(textD r).2.toArray⟩)
    else if markB c = true then (⟨7, ⟨#[c]⟩, 0⟩, s.extract 1 s.size)
    else signD s) := by
    unfold cutD
    rw [hl0]
  rw [e]
  split
  · rename_i hlt
    have h1 : 1 ≤ leadN inwB s := by
      unfold leadN
      rw [hl0, List.takeWhile_cons]
      have : inwB c = true := by simp [inwB, hlt]
      rw [this]
      simp
    show (s.extract (leadN inwB s) s.size).size < s.size
    rw [ByteArray.size_extract]; omega
  split
  · show (⟨(quotD r).2.toArray⟩ : ByteArray).size < s.size
    rw [← q_len]
    have := quotD_le r
    show (quotD r).2.length < s.size
    omega
  split
  · unfold numD
    split
    · exact h
    · show (s.extract (numN s) s.size).size < s.size
      have : 1 ≤ numN s := by unfold numN; omega
      rw [ByteArray.size_extract]; omega
  split
  · show (⟨(textD r).2.toArray⟩ : ByteArray).size < s.size
    rw [← q_len]
    have := textD_le r
    show (textD r).2.length < s.size
    omega
  split
  · show (s.extract 1 s.size).size < s.size
    rw [ByteArray.size_extract]; omega
  · unfold signD
    split
    · exact h
    · rename_i q hq
      obtain ⟨j, h1, _⟩ := psg_le s 5 q hq
      have := sgnT_pos (j : Int)
      show q.2.size < s.size
      rw [h1, ByteArray.size_extract]; omega
theorem cutD_le (s : ByteArray) : (cutD s).2.size ≤ s.size := by
  rcases Nat.eq_zero_or_pos s.size with h | h
  · rw [nil_size h]; decide
  · exact Nat.le_of_lt (cutD_lt s h)
end Go.Proofs.YtageokjobbjddaaGreatDoor

namespace Go.Proofs.YtageokjobbjddaaGreatDoor
open Go.RowKit

/-! The program's reader: its state, and one token on. -/
/-- Of the blocks that were there all but b and g are as they were. -/
structure Two (b g : Nat) (w w' : World) : Prop where
  os : w'.os = w.os
  tape : w'.tape = w.tape
  output : w'.output = w.output
  size : w.heap.size ≤ w'.heap.size
  block : ∀ k, k < w.heap.size → k ≠ b → k ≠ g → w'.heap[k]? = w.heap[k]?
theorem Two.refl (b g : Nat) (w : World) : Two b g w w := ⟨rfl, rfl, rfl, Nat.le_refl _, fun _ _ _ _ => rfl⟩
theorem Two.trans {b g : Nat} {x y z : World} (h : Two b g x y) (k : Two b g y z) : Two b g x z :=
  ⟨k.os.trans h.os, k.tape.trans h.tape, k.output.trans h.output, Nat.le_trans h.size k.size, fun i hi hn hm => (k.block i (Nat.lt_of_lt_of_le hi h.size) hn hm).trans (h.block i hi hn hm)⟩
theorem Two.of_below {b g : Nat} {w w' : World} (h : Below w.heap.size w w') : Two b g w w' := ⟨h.os, h.tape, h.output, h.size, fun k hk _ _ => h.block k hk⟩
theorem Two.set {b g : Nat} (c o : Nat) (w : World) (u : Value) (h : c = b ∨ c = g) : Two b g w (w.setCell ⟨c, o, none⟩ u) :=
  ⟨rfl, rfl, rfl, by simp [World.setCell], fun k _ hn hm => Below.heap_setCell w ⟨c, o, none⟩ u k (fun e => by
    have e2 : k = c := e
    rcases h with h | h
    · exact hn (e2.trans h)
    · exact hm (e2.trans h))⟩
theorem Two.below {b g : Nat} {w0 w w' : World} (h : Two b g w w') (hb : Below w0.heap.size w0 w) (hr : w0.heap.size ≤ b) (hg : w0.heap.size ≤ g) : Below w0.heap.size w0 w' :=
  hb.trans ⟨h.os, h.tape, h.output, h.size, fun k hk => h.block k (Nat.lt_of_lt_of_le hk hb.size) (by omega) (by omega)⟩
theorem Two.row {b g k : Nat} {w w' : World} {cs : Array Value} {t : TypeId} (h : Two b g w w') (hr : RowAt w k cs t) (h1 : k ≠ b) (h2 : k ≠ g) : RowAt w' k cs t := (h.block k hr.lt h1 h2).trans hr
theorem Two.setRow {b g H : Nat} {w w' : World} (h : Two b g w w') (hH : w.heap.size ≤ H) (cs : Array Value) : Two b g w (w'.setRow H cs) := by
  have k := below_setRow (Below.refl H w') (Nat.le_refl H) cs
  exact ⟨k.os.trans h.os, k.tape.trans h.tape, k.output.trans h.output, Nat.le_trans h.size k.size, fun i hi hn hm => (k.block i (by omega)).trans (h.block i hi hn hm)⟩
theorem Two.put {b g H : Nat} {w w' : World} (h : Two b g w w') (hH : w.heap.size ≤ H) (x y z : Value) : Two b g w (((w'.setCell ⟨H, 0, none⟩ x).setCell ⟨H, 1, none⟩ y).setCell ⟨H, 2, none⟩ z) := by
  have k := pt_below (Below.refl H w') (Nat.le_refl H) x y z
  exact ⟨k.os.trans h.os, k.tape.trans h.tape, k.output.trans h.output, Nat.le_trans h.size k.size, fun i hi hn hm => (k.block i (by omega)).trans (h.block i hi hn hm)⟩
def trimD (s : ByteArray) : ByteArray := ⟨(s.data.toList.dropWhile (· == 32)).toArray⟩
def nxtD (s : ByteArray) : Pt × ByteArray := cutD (trimD s)
theorem trimD_le (s : ByteArray) : (trimD s).size ≤ s.size := by
  rw [← q_len, ← q_len]
  show (s.data.toList.dropWhile (· == 32)).length ≤ _
  exact (List.dropWhile_suffix _).length_le
theorem one_set {w : World} {b : Nat} {x : Value} {t : TypeId} (h : RowAt w b #[x] t) (x' : Value) : RowAt (w.setCell ⟨b, 0, none⟩ x') b #[x'] t := by
  unfold RowAt at h ⊢
  rw [setCell_eq_setRow w b 0 #[x] t (0, 0) x' h]
  exact setRow_heap w b _ _ t _ h
set_option maxHeartbeats 4000000 in
set_option maxRecDepth 100000 in
theorem ptok1_any (g : Nat) (s : ByteArray) (w : World) (hr : RowAt w g #[.string s] 9) (hs : s.size ≤ 1000000) (hv : TokEnv w) :
    Calls Tryz.prog 44 #[.pointer (some ⟨g, 0, none⟩)] w fun e w' => e = .returned (.agg (ptV (nxtD s).1)) ∧ RowAt w' g #[.string (nxtD s).2] 9 ∧ Two g g w w' := by
  obtain ⟨⟨⟨uk, ut, un⟩, ur⟩, hu⟩ : ∃ u, u = nxtD s := ⟨_, rfl⟩
  rw [← hu]
  have hglt := hr.lt
  have q1 := below_new w (.cells (ptV pt0) 67)
  have x1 := RowAt.new w (ptV pt0) 67
  unfold pt0 ptV at q1 x1
  obtain ⟨W1, hW1⟩ : ∃ W1, w.alloc (.cells #[.int .i64 0, .string ⟨#[]⟩, .int .i64 0] 67) = W1 := ⟨_, rfl⟩
  rw [hW1] at q1 x1
  have q2 := below_new W1 (.cells (ptV pt0) 67)
  have x2 := RowAt.new W1 (ptV pt0) 67
  unfold pt0 ptV at q2 x2
  obtain ⟨W2, hW2⟩ : ∃ W2, W1.alloc (.cells #[.int .i64 0, .string ⟨#[]⟩, .int .i64 0] 67) = W2 := ⟨_, rfl⟩
  rw [hW2] at q2 x2
  have hsz1 : W1.heap.size = w.heap.size + 1 := by rw [← hW1]; simp
  have q12 := Below.next q1 q2
  have hc := (hr.below q12).cell 0 (by simp)
  simp only [List.getElem_toArray, List.getElem_cons_zero] at hc
  have HW1 := hide hW1
  have HW2 := hide hW2
  have HX1 := hide (x1.below q2)
  have HX2 := hide x2
  have HB := hide q12
  have HG := hide (hr.below q12)
  have HTR := hide (striml_any s W2)
  have HCT := hide (pcuttok_any (trimD s) W2 (Nat.le_trans (trimD_le s) hs) (hv.keep q12))
  have hu2 : cutD (trimD s) = (⟨uk, ut, un⟩, ur) := hu.symm
  rw [hu2] at HCT
  simp only at HCT
  have hce : ((w.alloc (.cells #[.int .i64 0, .string ⟨#[]⟩, .int .i64 0] 67)).alloc (.cells #[.int .i64 0, .string ⟨#[]⟩, .int .i64 0] 67)).cell? ⟨g, 0, none⟩ = some (.string s) := by rw [hW1, hW2]; exact hc
  rw [hsz1] at HX2
  have HS1 := hide hsz1
  clear hu hu2 hr hv q1 x1 q2 x2 hW1 hW2 q12 hsz1 hc
  go_enter Tryz.func44, Tryz.ntmps44
  go_wp2_with fail
  rw [HW1.out, HW2.out]
  refine HTR.out.mono ?_
  rintro e w' ⟨rfl, rfl⟩
  clear HTR hce
  go_wp2_with fail
  refine HCT.out.mono ?_
  rintro e W3 ⟨rfl, hb3⟩
  clear HCT
  have hx1 := HX1.out.below hb3
  have hx2 := HX2.out.below hb3
  have hg3 := HG.out.below hb3
  have HB3 := hide (Below.next HB.out hb3)
  have n1 : w.heap.size + 1 ≠ g := by omega
  have n2 : w.heap.size ≠ g := by omega
  have n3 : w.heap.size ≠ w.heap.size + 1 := by omega
  obtain ⟨W4, hW4⟩ : ∃ W4, W4 = W3.setRow (w.heap.size + 1) #[.int .i64 uk, .string ut, .int .i64 un] := ⟨_, rfl⟩
  have x24 := row_set W3 (w.heap.size + 1) 67 _ #[.int .i64 uk, .string ut, .int .i64 un] hx2
  have x14 : RowAt W4 w.heap.size #[.int .i64 0, .string ⟨#[]⟩, .int .i64 0] 67 := by rw [hW4]; exact (setRow_other _ _ _ _ n3).trans hx1
  have xg4 : RowAt W4 g #[.string s] 9 := by rw [hW4]; exact (setRow_other _ _ _ _ (Ne.symm n1)).trans hg3
  rw [← hW4] at x24
  have HST := hide (store_pt W3 (w.heap.size + 1) _ _ _ ⟨uk, ut, un⟩ hx2)
  unfold ptV at HST
  simp only at HST
  rw [← hW4] at HST
  have t4 : Two g g w W4 := by rw [hW4]; exact Two.setRow (Two.of_below HB3.out) (Nat.le_succ _) _
  have c4 := xg4.cell 0 (by simp)
  have f4 := xg4.free 0
  simp only [List.getElem_toArray, List.getElem_cons_zero] at c4
  have xg5 := one_set xg4 (.string ur)
  have x15 := x14.other n2 (.string ur) (j := 0)
  have x25 := x24.other n1 (.string ur) (j := 0)
  have t5 := t4.trans (Two.set (b := g) (g := g) g 0 W4 (.string ur) (.inl rfl))
  obtain ⟨⟨m0, m1, m2⟩, _⟩ := pt_cells x24
  have HST5 := hide (store_pt (W4.setCell ⟨g, 0, none⟩ (.string ur)) w.heap.size _ _ _ ⟨uk, ut, un⟩ x15)
  unfold ptV at HST5
  simp only at HST5
  have HX5 := hide x15
  have HG5 := hide xg5
  have HT5 := hide t5
  have n2s := hide n2
  clear hx1 hx2 hg3 hb3 hW4 x24 x14 xg4 xg5 x15 x25 t4 t5
  go_wp2_with (first
    | (refine wpList_store_eq rfl 67 _ _ rfl _ _ rfl rfl HST.out ?_)
    | (refine wpList_store_eq rfl 67 _ _ rfl _ _ rfl rfl HST5.out ?_))
  refine bodyPost_ret (results_cell_row rfl _ _ w.heap.size 67 _ (0, 0) _ rfl (row_set _ _ _ _ _ HX5.out) Tryz.underlying67 rfl (by kernel_rfl)) rfl ?_
  exact ⟨rfl, (setRow_other _ _ _ _ (Ne.symm n2s.out)).trans HG5.out, HT5.out.setRow (Nat.le_refl _) _⟩
end Go.Proofs.YtageokjobbjddaaGreatDoor

namespace Go.Proofs.YtageokjobbjddaaGreatDoor
open Go.RowKit

theorem Two.wide {b g : Nat} {w w' : World} (h : Two g g w w') : Two b g w w' := ⟨h.os, h.tape, h.output, h.size, fun k hk _ hm => h.block k hk hm hm⟩
abbrev nextV (g : Nat) : Value := .func (.func 44) #[] #[.pointer (some ⟨g, 0, none⟩)]
abbrev rdV (g : Nat) (t : Pt) : Array Value := #[nextV g, .int .i64 t.kind, .string t.text, .int .i64 t.num]
/-- THE READER'S STATE: the token ahead, and the text behind it. -/
structure RdP (w0 w : World) (b g : Nat) (t : Pt) (s : ByteArray) : Prop where
  bel : Below w0.heap.size w0 w
  row : RowAt w b (rdV g t) 69
  rst : RowAt w g #[.string s] 9
  hb : w0.heap.size ≤ b
  hg : w0.heap.size ≤ g
  ne : b ≠ g
  sz : s.size ≤ 1000000
theorem RdP.below {w0 w w' : World} {b g : Nat} {t : Pt} {s : ByteArray} (h : RdP w0 w b g t s) (hb : Below w.heap.size w w') : RdP w0 w' b g t s := ⟨Below.next h.bel hb, h.row.below hb, h.rst.below hb, h.hb, h.hg, h.ne, h.sz⟩
theorem rd_put {w : World} {b : Nat} {f x y z : Value} {t : TypeId} (h : RowAt w b #[f, x, y, z] t) (x' y' z' : Value) : RowAt (((w.setCell ⟨b, 1, none⟩ x').setCell ⟨b, 2, none⟩ y').setCell ⟨b, 3, none⟩ z') b #[f, x', y', z'] t := by
  have h1 : RowAt (w.setCell ⟨b, 1, none⟩ x') b #[f, x', y, z] t := by
    unfold RowAt at h ⊢
    rw [setCell_eq_setRow w b 1 #[f, x, y, z] t (0, 0) x' h]
    exact setRow_heap w b _ _ t _ h
  have h2 : RowAt ((w.setCell ⟨b, 1, none⟩ x').setCell ⟨b, 2, none⟩ y') b #[f, x', y', z] t := by
    unfold RowAt at h1 ⊢
    rw [setCell_eq_setRow _ b 2 #[f, x', y, z] t (0, 0) y' h1]
    exact setRow_heap _ b _ _ t _ h1
  unfold RowAt at h2 ⊢
  rw [setCell_eq_setRow _ b 3 #[f, x', y', z] t (0, 0) z' h2]
  exact setRow_heap _ b _ _ t _ h2
theorem rd_cells {w : World} {b : Nat} {f x y z : Value} {t : TypeId} (h : RowAt w b #[f, x, y, z] t) : (w.cell? ⟨b, 0, none⟩ = some f ∧ w.cell? ⟨b, 1, none⟩ = some x ∧ w.cell? ⟨b, 2, none⟩ = some y ∧ w.cell? ⟨b, 3, none⟩ = some z) ∧ w.frozen? ⟨b, 1, none⟩ = false ∧ w.frozen? ⟨b, 2, none⟩ = false ∧ w.frozen? ⟨b, 3, none⟩ = false := ⟨⟨h.cell 0 (by simp), h.cell 1 (by simp), h.cell 2 (by simp), h.cell 3 (by simp)⟩, h.free 1, h.free 2, h.free 3⟩
theorem nxtD_le (s : ByteArray) : (nxtD s).2.size ≤ s.size := Nat.le_trans (cutD_le _) (trimD_le s)
set_option maxHeartbeats 4000000 in
set_option maxRecDepth 100000 in
theorem pgoon_any (w0 : World) (b g : Nat) (t : Pt) (s : ByteArray) (w : World) (h : RdP w0 w b g t s) (hv : TokEnv w0) :
    Calls Tryz.prog 30 #[.pointer (some ⟨b, 0, none⟩)] w fun e w' => e = .returned (.agg (ptV t)) ∧ RdP w0 w' b g (nxtD s).1 (nxtD s).2 ∧ Two b g w w' := by
  obtain ⟨tk, tt, tn⟩ := t
  have hsz2 : (nxtD s).2.size ≤ 1000000 := Nat.le_trans (nxtD_le s) h.sz
  have hblt := h.row.lt
  have hglt := h.rst.lt
  have HNE := hide h.ne
  have HHB := hide h.hb
  have HHG := hide h.hg
  have HBL := hide h.bel
  obtain ⟨A, hA⟩ : ∃ A : Obj, A = .cells #[.int .i64 0, .string ⟨#[]⟩, .int .i64 0] 67 := ⟨_, rfl⟩
  have q1 := below_new w A
  have x1 : RowAt (w.alloc A) w.heap.size #[.int .i64 0, .string ⟨#[]⟩, .int .i64 0] 67 := by rw [hA]; exact RowAt.new w _ 67
  have hs1 : (w.alloc A).heap.size = w.heap.size + 1 := by simp
  have q2 := below_new (w.alloc A) A
  have x2 : RowAt ((w.alloc A).alloc A) (w.heap.size + 1) #[.int .i64 0, .string ⟨#[]⟩, .int .i64 0] 67 := by
    have := RowAt.new (w.alloc A) #[.int .i64 0, .string ⟨#[]⟩, .int .i64 0] 67
    rw [hs1] at this
    rw [hA] at this ⊢
    exact this
  obtain ⟨⟨_, a1, a2, a3⟩, _⟩ := rd_cells (h.row.below q1)
  have n3 : w.heap.size ≠ w.heap.size + 1 := by omega
  obtain ⟨V, hV⟩ : ∃ V, V = ((w.alloc A).alloc A).setRow (w.heap.size + 1) #[.int .i64 tk, .string tt, .int .i64 tn] := ⟨_, rfl⟩
  have HST := hide (store_pt _ (w.heap.size + 1) _ _ _ ⟨tk, tt, tn⟩ x2)
  unfold ptV at HST
  simp only at HST
  rw [← hV] at HST
  have y2 := row_set _ (w.heap.size + 1) 67 _ #[.int .i64 tk, .string tt, .int .i64 tn] x2
  rw [← hV] at y2
  have y1 : RowAt V w.heap.size #[.int .i64 0, .string ⟨#[]⟩, .int .i64 0] 67 := by rw [hV]; exact (setRow_other _ _ _ _ n3).trans (x1.below q2)
  have q12 := Below.next q1 q2
  have bV : Below w.heap.size w V := by rw [hV]; exact below_setRow q12 (Nat.le_succ _) _
  have hR := h.below bV
  have HP := hide (ptok1_any g s V hR.rst h.sz (hv.keep hR.bel))
  obtain ⟨⟨⟨uk, ut, un⟩, ur⟩, hu⟩ : ∃ u, u = nxtD s := ⟨_, rfl⟩
  rw [← hu] at HP hsz2
  rw [← hu]
  simp only at HP hsz2
  obtain ⟨⟨v0, v1, v2, v3⟩, _⟩ := rd_cells hR.row
  have m1 : w.heap.size ≠ b := by omega
  have m2 : w.heap.size + 1 ≠ b := by omega
  have m3 : w.heap.size ≠ g := by omega
  have m4 : w.heap.size + 1 ≠ g := by omega
  have HY1 := hide y1
  have HY2 := hide y2
  have HBV := hide bV
  have HRR := hide hR
  have HZ := hide hsz2
  subst hA
  clear h hv q1 q2 x1 x2 q12 hV y1 y2 bV hR hu hs1 n3 hsz2
  go_enter Tryz.func30, Tryz.ntmps30
  go_wp2_with (first
    | (refine wpList_store_eq rfl 67 _ _ rfl _ _ rfl rfl HST.out ?_))
  refine HP.out.mono ?_
  rintro e W3 ⟨rfl, hg3, ht3⟩
  clear HP HST a1 a2 a3 v0 v1 v2 v3
  have t3 : Two b g V W3 := ht3.wide
  have r3 := ht3.row HRR.out.row HNE.out HNE.out
  have y13 := ht3.row HY1.out m3 m3
  have y23 := ht3.row HY2.out m4 m4
  obtain ⟨⟨c0, c1, c2, c3⟩, f1, f2, f3⟩ := rd_cells r3
  have r4 := rd_put r3 (.int .i64 uk) (.string ut) (.int .i64 un)
  have g4 := ((hg3.other (Ne.symm HNE.out) (.int .i64 uk) (j := 1)).other (Ne.symm HNE.out) (.string ut) (j := 2)).other (Ne.symm HNE.out) (.int .i64 un) (j := 3)
  have y14 := ((y13.other m1 (.int .i64 uk) (j := 1)).other m1 (.string ut) (j := 2)).other m1 (.int .i64 un) (j := 3)
  have t4 := ((((Two.of_below HBV.out).trans t3).trans (Two.set (b := b) (g := g) b 1 W3 (.int .i64 uk) (.inl rfl))).trans (Two.set (b := b) (g := g) b 2 _ (.string ut) (.inl rfl))).trans (Two.set (b := b) (g := g) b 3 _ (.int .i64 un) (.inl rfl))
  obtain ⟨⟨d0, d1, d2⟩, _⟩ := pt_cells y23
  have HST4 := hide (store_pt _ w.heap.size _ _ _ ⟨tk, tt, tn⟩ y14)
  unfold ptV at HST4
  simp only at HST4
  have HR4 := hide r4
  have HG4 := hide g4
  have HY4 := hide y14
  have HT4 := hide t4
  have HM1 := hide m1
  have HM3 := hide m3
  clear t3 r3 y13 y23 r4 g4 y14 t4 hg3 ht3
  go_wp2_with (first
    | (refine wpList_store_eq rfl 67 _ _ rfl _ _ rfl rfl HST4.out ?_))
  refine bodyPost_ret (results_cell_row rfl _ _ w.heap.size 67 _ (0, 0) _ rfl (row_set _ _ _ _ _ HY4.out) Tryz.underlying67 rfl (by kernel_rfl)) rfl ?_
  have T := HT4.out.setRow (Nat.le_refl _) #[.int .i64 tk, .string tt, .int .i64 tn]
  refine ⟨rfl, ⟨?_, (setRow_other _ _ _ _ (Ne.symm HM1.out)).trans HR4.out, (setRow_other _ _ _ _ (Ne.symm HM3.out)).trans HG4.out, HHB.out, HHG.out, HNE.out, HZ.out⟩, T⟩
  exact T.below HBL.out HHB.out HHG.out
end Go.Proofs.YtageokjobbjddaaGreatDoor

namespace Go.Proofs.YtageokjobbjddaaGreatDoor
open Go.RowKit

/-- A token on, or not. -/
def stepT (y : Bool) (t : Pt) (s : ByteArray) : Pt × ByteArray := if y then nxtD s else (t, s)
/-- What a method of the reader leaves. -/
def RdR (w0 w : World) (b g : Nat) (u : Pt × ByteArray) (w' : World) : Prop := RdP w0 w' b g u.1 u.2 ∧ Two b g w w'
def takeT (kind : Int) (t : Pt) : Pt := if t.kind = kind then t else pt0
set_option maxHeartbeats 4000000 in
set_option maxRecDepth 100000 in
theorem ptake_any (w0 : World) (b g : Nat) (t : Pt) (s : ByteArray) (kind : Int) (w : World) (h : RdP w0 w b g t s) (hv : TokEnv w0) :
    Calls Tryz.prog 48 #[.pointer (some ⟨b, 0, none⟩), .int .i64 kind] w fun e w' => e = .returned (.tuple #[.agg (ptV (takeT kind t)), .bool (decide (t.kind = kind))]) ∧ RdR w0 w b g (stepT (decide (t.kind = kind)) t s) w' := by
  have q1 := below_new w (.cells (ptV pt0) 67)
  have x1 := RowAt.new w (ptV pt0) 67
  unfold pt0 ptV at q1 x1
  have hblt := h.row.lt
  have hglt := h.rst.lt
  have m1 : w.heap.size ≠ b := by omega
  have m3 : w.heap.size ≠ g := by omega
  obtain ⟨⟨_, a1, a2, a3⟩, _⟩ := rd_cells (h.row.below q1)
  obtain ⟨W1, hW1⟩ : ∃ W1, w.alloc (.cells #[.int .i64 0, .string ⟨#[]⟩, .int .i64 0] 67) = W1 := ⟨_, rfl⟩
  have HW := hide hW1
  have h1 := h.below q1
  rw [hW1] at q1 x1 h1
  have HX := hide x1
  have HB := hide q1
  have HR1 := hide h1
  have HG := hide (pgoon_any w0 b g t s W1 h1 hv)
  obtain ⟨tk, tt, tn⟩ := t
  simp only at a1 a2 a3
  by_cases hk : tk = kind
  · subst hk
    have HE : Hid (decide (tk = tk) = true ∧ takeT tk ⟨tk, tt, tn⟩ = ⟨tk, tt, tn⟩) := ⟨by simp, by simp [takeT]⟩
    have hkI : (tk == tk) = true := by simp
    show Calls _ _ _ _ fun e w' => e = .returned (.tuple #[.agg (ptV (takeT tk ⟨tk, tt, tn⟩)), .bool (decide (tk = tk))]) ∧ RdR w0 w b g (stepT (decide (tk = tk)) ⟨tk, tt, tn⟩ s) w'
    rw [HE.out.1, HE.out.2]
    clear h h1 hW1 q1 x1 hv HE
    go_enter Tryz.func48, Tryz.ntmps48
    go_wp2_with fail
    rw [HW.out]
    refine HG.out.mono ?_
    rintro e W2 ⟨rfl, hR2, hT2⟩
    have x2 := hT2.row HX.out m1 m3
    have HST := hide (store_pt W2 w.heap.size _ _ _ ⟨tk, tt, tn⟩ x2)
    unfold ptV at HST
    simp only at HST
    have HX2 := hide x2
    have HR2 := hide hR2
    have HT2 : Hid (Two b g w W2) := (Two.of_below HB.out).trans hT2
    have HM1 := hide m1
    have HM3 := hide m3
    clear HG hR2 hT2 x2 a1 a2 a3 m1 m3
    go_wp2_with (first
      | (refine wpList_store_eq rfl 67 _ _ rfl _ _ rfl rfl HST.out ?_))
    refine bodyPost_ret (results_row_tmp rfl _ _ w.heap.size 67 _ (0, 0) _ rfl (row_set _ _ _ _ _ HX2.out) Tryz.underlying67 rfl (by kernel_rfl)) rfl ?_
    have T := HT2.out.setRow (Nat.le_refl _) #[.int .i64 tk, .string tt, .int .i64 tn]
    have R := HR2.out
    refine ⟨rfl, ⟨?_, (setRow_other _ _ _ _ (Ne.symm HM1.out)).trans R.row, (setRow_other _ _ _ _ (Ne.symm HM3.out)).trans R.rst, R.hb, R.hg, R.ne, R.sz⟩, T⟩
    exact below_setRow R.bel (Nat.le_trans R.hb (Nat.le_of_lt hblt)) _
  · have hkI : (tk == kind) = false := by simpa using hk
    have HE : Hid (decide (tk = kind) = false ∧ takeT kind ⟨tk, tt, tn⟩ = pt0) := ⟨by simpa using hk, by simp [takeT, hk]⟩
    show Calls _ _ _ _ fun e w' => e = .returned (.tuple #[.agg (ptV (takeT kind ⟨tk, tt, tn⟩)), .bool (decide (tk = kind))]) ∧ RdR w0 w b g (stepT (decide (tk = kind)) ⟨tk, tt, tn⟩ s) w'
    rw [HE.out.1, HE.out.2]
    clear h h1 hW1 q1 x1 hv HE hk HG
    go_enter Tryz.func48, Tryz.ntmps48
    go_wp2_with fail
    rw [HW.out]
    refine bodyPost_ret (results_row_tmp rfl _ _ w.heap.size 67 _ (0, 0) _ rfl HX.out Tryz.underlying67 rfl (by kernel_rfl)) rfl ?_
    exact ⟨rfl, HR1.out, Two.of_below HB.out⟩
end Go.Proofs.YtageokjobbjddaaGreatDoor
