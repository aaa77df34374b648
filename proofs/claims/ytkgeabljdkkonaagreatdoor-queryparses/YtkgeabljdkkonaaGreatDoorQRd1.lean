import Derived.Test.YtkgeabljdkkonaaGreatDoorGL
import Derived.Test.YtkgeabljdkkonaaGreatDoorGG
namespace Go.Proofs.YtkgeabljdkkonaaGreatDoor
open Go.RowKit

/-! The reader of tokens. -/
/-- Of the blocks that were there all but b are as they were. -/
structure Solo (b : Nat) (w w' : World) : Prop where
  os : w'.os = w.os
  tape : w'.tape = w.tape
  output : w'.output = w.output
  size : w.heap.size ≤ w'.heap.size
  block : ∀ k, k < w.heap.size → k ≠ b → w'.heap[k]? = w.heap[k]?
theorem Solo.refl (b : Nat) (w : World) : Solo b w w := ⟨rfl, rfl, rfl, Nat.le_refl _, fun _ _ _ => rfl⟩
theorem Solo.trans {b : Nat} {x y z : World} (h : Solo b x y) (k : Solo b y z) : Solo b x z :=
  ⟨k.os.trans h.os, k.tape.trans h.tape, k.output.trans h.output, Nat.le_trans h.size k.size, fun i hi hn => (k.block i (Nat.lt_of_lt_of_le hi h.size) hn).trans (h.block i hi hn)⟩
theorem Solo.of_below {b : Nat} {w w' : World} (h : Below w.heap.size w w') : Solo b w w' := ⟨h.os, h.tape, h.output, h.size, fun k hk _ => h.block k hk⟩
theorem Solo.set (b o : Nat) (w : World) (u : Value) : Solo b w (w.setCell ⟨b, o, none⟩ u) :=
  ⟨rfl, rfl, rfl, by simp [World.setCell], fun k _ hn => Below.heap_setCell w ⟨b, o, none⟩ u k (fun e => hn e)⟩
theorem Solo.below {b : Nat} {w0 w w' : World} (h : Solo b w w') (hb : Below w0.heap.size w0 w) (hr : w0.heap.size ≤ b) : Below w0.heap.size w0 w' :=
  hb.trans ⟨h.os, h.tape, h.output, h.size, fun k hk => h.block k (Nat.lt_of_lt_of_le hk hb.size) (by omega)⟩
theorem Solo.cell {b : Nat} {w w' : World} (h : Solo b w w') {a : Addr} {v : Value} (hc : w.cell? a = some v) (hn : a.block ≠ b) : w'.cell? a = some v :=
  (World.cell?_of_block (a := a) (h.block a.block (World.block_lt_of_cell? w a hc) hn)).trans hc
/-- The slice that begins at a reads as the tokens l, in another block than b. -/
def TkAt (w : World) (b : Nat) (a : Option Addr) (l : List Tk) : Prop :=
  ∃ g off : Nat, (0 < l.length → a = some ⟨g, off, none⟩ ∧ g ≠ b) ∧ ∀ i (h : i < l.length), w.cell? ⟨g, off + i * 3, none⟩ = some (.int .i64 l[i].kind) ∧ w.cell? ⟨g, off + i * 3 + 1, none⟩ = some (.int .i64 l[i].num) ∧ w.cell? ⟨g, off + i * 3 + 2, none⟩ = some (.string l[i].text)
theorem TkAt.solo {w w' : World} {b : Nat} {a : Option Addr} {l : List Tk} (h : TkAt w b a l) (hs : Solo b w w') : TkAt w' b a l := by
  obtain ⟨g, off, h1, h2⟩ := h
  refine ⟨g, off, h1, fun i hi => ?_⟩
  have hg := (h1 (by omega)).2
  obtain ⟨k1, k2, k3⟩ := h2 i hi
  exact ⟨hs.cell k1 hg, hs.cell k2 hg, hs.cell k3 hg⟩
/-- THE READER'S STATE: the tokens, where it is among them, whether they are no query's. -/
structure RdS (w : World) (b : Nat) (a : Option Addr) (c : Nat) (l : List Tk) (k : Nat) (lost : Bool) : Prop where
  row : RowAt w b #[.slice a l.length c, .int .i64 (k : Int), .bool lost] 44
  tk : TkAt w b a l
  le : k ≤ l.length
  len : l.length ≤ 1000000
theorem RdS.below {w w' : World} {b c k : Nat} {a : Option Addr} {l : List Tk} {lost : Bool} (h : RdS w b a c l k lost) (hb : Below w.heap.size w w') : RdS w' b a c l k lost := ⟨h.row.below hb, h.tk.solo (.of_below hb), h.le, h.len⟩
theorem RowAt.set1 {w : World} {b : Nat} {x y z : Value} {t : TypeId} (h : RowAt w b #[x, y, z] t) (y' : Value) : RowAt (w.setCell ⟨b, 1, none⟩ y') b #[x, y', z] t := by
  unfold RowAt at h ⊢
  rw [setCell_eq_setRow w b 1 #[x, y, z] t (0, 0) y' h]
  exact setRow_heap w b _ _ t _ h
theorem RowAt.set2 {w : World} {b : Nat} {x y z : Value} {t : TypeId} (h : RowAt w b #[x, y, z] t) (z' : Value) : RowAt (w.setCell ⟨b, 2, none⟩ z') b #[x, y, z'] t := by
  unfold RowAt at h ⊢
  rw [setCell_eq_setRow w b 2 #[x, y, z] t (0, 0) z' h]
  exact setRow_heap w b _ _ t _ h
theorem RdS.next {w : World} {b c k : Nat} {a : Option Addr} {l : List Tk} {lost : Bool} (h : RdS w b a c l k lost) (hk : k < l.length) : RdS (w.setCell ⟨b, 1, none⟩ (.int .i64 ((k + 1 : Nat) : Int))) b a c l (k + 1) lost := ⟨h.row.set1 _, h.tk.solo (Solo.set b 1 w _), by omega, h.len⟩
theorem RdS.lose {w : World} {b c k : Nat} {a : Option Addr} {l : List Tk} {lost : Bool} (h : RdS w b a c l k lost) : RdS (w.setCell ⟨b, 2, none⟩ (.bool true)) b a c l k true := ⟨h.row.set2 _, h.tk.solo (Solo.set b 2 w _), h.le, h.len⟩
theorem RdS.drew {w : World} {b c k : Nat} {a : Option Addr} {l : List Tk} {lost : Bool} (h : RdS w b a c l k lost) (n : Nat) : RdS (w.drewN n) b a c l k lost := h.below (below_drewN' (Below.refl _ _) n)
def hereB (l : List Tk) (k : Nat) (kd : Int) (tx : ByteArray) : Bool := match l[k]? with | none => false | some t => decide (t.kind = kd) && decide (t.text = tx)
def goOn (k : Nat) (y : Bool) : Nat := if y then k + 1 else k
set_option maxHeartbeats 4000000 in
set_option maxRecDepth 100000 in
theorem here_any (b : Nat) (a : Option Addr) (c : Nat) (l : List Tk) (k : Nat) (lost : Bool) (kd : Int) (tx : ByteArray) (w : World) (h : RdS w b a c l k lost) :
    Calls Tryz.prog 29 #[.pointer (some ⟨b, 0, none⟩), .int .i64 kd, .string tx] w fun e w' => e = .returned (.bool (hereB l k kd tx)) ∧ RdS w' b a c l (goOn k (hereB l k kd tx)) lost ∧ Solo b w w' := by
  obtain ⟨r, hr⟩ : ∃ r, r = hereB l k kd tx := ⟨_, rfl⟩
  rw [← hr]
  unfold hereB at hr
  have HR := hide hr
  have HH := hide h
  have c0 := h.row.cell 0 (by simp)
  have c1 := h.row.cell 1 (by simp)
  have f1 := h.row.free 1
  simp only [List.getElem_toArray, List.getElem_cons_zero, List.getElem_cons_succ] at c0 c1
  have hle := h.le
  have hlen := h.len
  by_cases hlt : k < l.length
  · obtain ⟨g, off, h1, h2⟩ := h.tk
    obtain ⟨rfl, hgb⟩ := h1 (by omega)
    obtain ⟨s0, s1, s2⟩ := h2 k hlt
    have hltI : (k : Int) < (l.length : Int) := by omega
    have e0 : (0 : Int) ≤ (k : Int) := by omega
    rw [List.getElem?_eq_getElem hlt] at HR
    have HN := hide (fun n => (h.drew n).next hlt)
    obtain ⟨t, ht⟩ : ∃ t, t = l[k]'hlt := ⟨_, rfl⟩
    rw [← ht] at s0 s1 s2 HR
    obtain ⟨tk, tn, tt⟩ := t
    simp only at s0 s1 s2 HR
    clear h h1 h2 hr ht
    by_cases hk : tk = kd
    · subst hk
      by_cases htx : tt = tx
      · subst htx
        have HE : Hid (r = true) := by show _ = _; rw [HR.out]; simp
        have hq : (tt.toList == tt.toList) = true := str_eq _
        clear HR
        go_enter Tryz.func29, Tryz.ntmps29
        go_wp2_with fail
        go_quiet (fail)
        go_wp2
        go_ret
        exact ⟨by rw [HE.out]; rfl, by rw [HE.out]; exact HN.out _, (Solo.of_below (below_drewN' (Below.refl _ _) _)).trans (Solo.set b 1 _ _)⟩
      · have HE : Hid (r = false) := by show _ = _; rw [HR.out]; simp [htx]
        have hq : (tt.toList == tx.toList) = false := str_ne htx
        clear HR htx HN
        go_enter Tryz.func29, Tryz.ntmps29
        go_wp2_with fail
        go_quiet (fail)
        go_wp2
        go_ret
        exact ⟨by rw [HE.out]; rfl, by rw [HE.out]; exact HH.out.drew _, Solo.of_below (below_drewN' (Below.refl _ _) _)⟩
    · have HE : Hid (r = false) := by show _ = _; rw [HR.out]; simp [hk]
      have hq : (tk == kd) = false := by simp [hk]
      clear HR HN
      go_enter Tryz.func29, Tryz.ntmps29
      go_wp2_with fail
      go_quiet (fail)
      go_wp2
      go_ret
      exact ⟨by rw [HE.out]; rfl, by rw [HE.out]; exact HH.out.drew _, Solo.of_below (below_drewN' (Below.refl _ _) _)⟩
  · have hltI : ¬ (k : Int) < (l.length : Int) := by omega
    have HE : Hid (r = false) := by show _ = _; rw [HR.out, List.getElem?_eq_none (by omega)]
    clear HR h hr
    go_enter Tryz.func29, Tryz.ntmps29
    go_wp2_with fail
    go_quiet (fail)
    go_wp2
    go_ret
    exact ⟨by rw [HE.out]; rfl, by rw [HE.out]; exact HH.out.drew _, Solo.of_below (below_drewN' (Below.refl _ _) _)⟩
set_option maxHeartbeats 4000000 in
set_option maxRecDepth 100000 in
theorem must_any (b : Nat) (a : Option Addr) (c : Nat) (l : List Tk) (k : Nat) (lost : Bool) (kd : Int) (tx : ByteArray) (w : World) (h : RdS w b a c l k lost) :
    Calls Tryz.prog 27 #[.pointer (some ⟨b, 0, none⟩), .int .i64 kd, .string tx] w fun e w' => e = .returned (.tuple #[]) ∧ RdS w' b a c l (goOn k (hereB l k kd tx)) (lost || !hereB l k kd tx) ∧ Solo b w w' := by
  have HH := hide (here_any b a c l k lost kd tx w h)
  generalize hereB l k kd tx = r at HH ⊢
  clear h
  go_enter Tryz.func27, Tryz.ntmps27
  go_wp2_with fail
  refine HH.out.mono ?_
  rintro e w1 ⟨rfl, h1, hs1⟩
  clear HH
  have HS := hide hs1
  have H1 := hide h1
  have f2 := h1.row.free 2
  have c2 := h1.row.cell 2 (by simp)
  simp only [List.getElem_toArray, List.getElem_cons_zero, List.getElem_cons_succ] at c2
  clear h1 hs1
  cases r with
  | true =>
    go_wp2
    go_end0
    exact ⟨rfl, by rw [Bool.not_true, Bool.or_false]; exact H1.out, HS.out⟩
  | false =>
    go_wp2
    go_end0
    exact ⟨rfl, by rw [Bool.not_false, Bool.or_true]; exact H1.out.lose, HS.out.trans (Solo.set b 2 _ _)⟩
end Go.Proofs.YtkgeabljdkkonaaGreatDoor
