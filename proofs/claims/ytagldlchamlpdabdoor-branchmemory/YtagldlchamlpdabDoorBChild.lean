import Derived.Test.YtagldlchamlpdabDoorBSizes
import Derived.Test.YtagldlchamlpdabDoorLErr
namespace Go.Proofs.YtagldlchamlpdabDoor
open Go.RowKit

/-- The one sentinel that the edits tell. -/
def ErrA (A : Nat → Addr) (w : World) : Prop := w.cell? ⟨1, 0, none⟩ = some (.iface 167 (.pointer (some (A 0))))
theorem ErrA.below {A : Nat → Addr} {w w' : World} (h : ErrA A w) (hb : Below w.heap.size w w') : ErrA A w' := (hb.cell (p := ⟨1, 0, none⟩) (World.block_lt_of_cell? w _ h)).trans h
theorem ErrC.a {A : Nat → Addr} {w : World} (h : ErrC A w) : ErrA A w := (h.1.1 0 (by decide)).1

/-- Is there a child of that number? -/
def hasC (l : List Lk) (i : Int) : Bool := decide (0 ≤ i) && decide (i ≤ (l.length : Int))
/-- The child of that number. -/
def childN (f : Int) (l : List Lk) (i : Int) : Int := if i = 0 then f else (l.getD (i - 1).toNat (⟨#[]⟩, 0)).2
/-- What Child answers. -/
def ChildV (A : Nat → Addr) (f : Int) (l : List Lk) (i : Int) : Value :=
  if hasC l i then .tuple #[.int .i64 (childN f l i), .nilIface] else .tuple #[.int .i64 0, .iface 167 (.pointer (some (A 0)))]

set_option maxHeartbeats 1000000 in
theorem bhasc_any (f i : Int) (v : Value) (l : List Lk) (w : World) (hr : LkR w v l) :
    Calls Tryd.prog 47 #[.agg #[.int .i64 f, v], .int .i64 i] w fun e w' => e = .returned (.bool (hasC l i)) ∧ Below w.heap.size w w' := by
  obtain ⟨a, c, hv⟩ := hr.form
  subst hv
  obtain ⟨n, hn⟩ : ∃ n, n = l.length := ⟨_, rfl⟩
  have HG : Hid (hasC l i = (decide (0 ≤ i) && decide (i ≤ (n : Int)))) := by show _ = _; rw [hn]; rfl
  rw [← hn]
  have HB := hide (below_new w (.cells #[.int .i64 f, .slice a n c] 30))
  clear hr hn
  by_cases h0 : 0 ≤ i
  · by_cases h1 : i ≤ (n : Int)
    · go_enter Tryd.func47, Tryd.ntmps47
      go_wp2
      go_ret
      exact ⟨by rw [HG.out]; simp [h0, h1], HB.out⟩
    · go_enter Tryd.func47, Tryd.ntmps47
      go_wp2
      go_ret
      exact ⟨by rw [HG.out]; simp [h0, h1], HB.out⟩
  · have HF : Hid (hasC l i = false) := by show _ = _; rw [HG.out]; simp [h0]
    clear HG
    go_enter Tryd.func47, Tryd.ntmps47
    go_wp2
    go_ret
    exact ⟨by rw [HF.out]; rfl, HB.out⟩

set_option maxHeartbeats 1000000 in
theorem bchildA_any (A : Nat → Addr) (f i : Int) (v : Value) (l : List Lk) (w : World) (hm : l.length ≤ 5864062014805) (hr : LkR w v l) (hE : ErrA A w) :
    Calls Tryd.prog 20 #[.agg #[.int .i64 f, v], .int .i64 i] w fun e w' => e = .returned (ChildV A f l i) ∧ Below w.heap.size w w' := by
  have hr0 := hr
  obtain ⟨a, cap, hv, _, _, hc⟩ := hr
  subst hv
  obtain ⟨n, hn⟩ : ∃ n, n = l.length := ⟨_, rfl⟩
  rw [← hn] at hm hr0 ⊢
  have q1 := below_new w (.cells #[.int .i64 f, .slice a n cap] 30)
  have x1 := RowAt.new w #[.int .i64 f, .slice a n cap] 30
  generalize hW1 : w.alloc (.cells #[.int .i64 f, .slice a n cap] 30) = W1 at *
  have HH := hide (bhasc_any f i _ l W1 (hr0.below q1))
  have HE := hide (hE.below q1)
  have HC := hide hc
  have HN := hide hn
  have HQ := hide q1
  have HX := hide x1
  have p1 := x1.c0
  have p2 := x1.c1
  clear hc hn q1 hr0 hE x1
  go_enter Tryd.func20, Tryd.ntmps20
  go_wp2_with fail
  refine HH.out.mono ?_
  rintro e w1 ⟨rfl, hb1⟩
  have x2 := HX.out.below hb1
  have HB := hide (Below.next HQ.out hb1)
  have e0 : w1.cell? ⟨1, 0, none⟩ = some (.iface 167 (.pointer (some (A 0)))) := HE.out.below hb1
  have r1 := x2.c0
  have r2 := x2.c1
  by_cases hg : hasC l i = true
  · have HV : Hid (ChildV A f l i = .tuple #[.int .i64 (childN f l i), .nilIface]) := by show _ = _; simp [ChildV, hg]
    rw [hg]
    by_cases h0 : i = 0
    · subst h0
      clear hb1 x2 HE HH HC e0 p1 p2
      go_wp2
      go_ret2
      exact ⟨by rw [HV.out]; rfl, HB.out⟩
    · simp only [hasC, Bool.and_eq_true, decide_eq_true_eq] at hg
      obtain ⟨k, hk⟩ : ∃ k : Nat, i = (k : Int) + 1 := ⟨(i - 1).toNat, by omega⟩
      subst hk
      have hkl : k < l.length := by omega
      obtain ⟨g, o, ha, f1, f2⟩ := HC.out k hkl
      subst ha
      have c2 : w1.cell? ⟨g, o + k * 2 + 1, none⟩ = some (.int .i64 l[k].2) := (HB.out.cell (p := ⟨g, o + k * 2 + 1, none⟩) (World.block_lt_of_cell? w _ f2)).trans f2
      have HCH : Hid (childN f l ((k : Int) + 1) = l[k].2) := by
        show _ = _
        rw [childN, if_neg h0, show (((k : Int) + 1) - 1).toNat = k by omega, List.getD_eq_getElem?_getD, List.getElem?_eq_getElem hkl]; rfl
      obtain ⟨p, hp⟩ : ∃ p, p = l[k] := ⟨_, rfl⟩
      rw [← hp] at c2 HCH
      have hw1 : IntKind.i64.wrap (((k : Int) + 1) - 1) = (k : Int) := by have := HN.out; rw [IntKind.wrap_i64]; omega
      have hkn : (k : Int) < (n : Int) := by have := HN.out; omega
      have hk0 : (0 : Int) ≤ (k : Int) := by omega
      clear hb1 x2 HE HH HC e0 p1 p2 hp f1 f2 hg
      go_wp2
      go_ret2
      exact ⟨by rw [HV.out, HCH.out]; rfl, HB.out⟩
  · have HV : Hid (ChildV A f l i = .tuple #[.int .i64 0, .iface 167 (.pointer (some (A 0)))]) := by show _ = _; simp [ChildV, hg]
    rw [Bool.not_eq_true] at hg
    rw [hg]
    clear hb1 x2 HE HH HC p1 p2
    go_wp2_with fail
    go_quiet (fail)
    go_wp2
    go_ret2
    exact ⟨by rw [HV.out]; rfl, below_drewN' HB.out _⟩
theorem bchild_any (A : Nat → Addr) (f i : Int) (v : Value) (l : List Lk) (w : World) (hm : l.length ≤ 5864062014805) (hr : LkR w v l) (hE : ErrC A w) :
    Calls Tryd.prog 20 #[.agg #[.int .i64 f, v], .int .i64 i] w fun e w' => e = .returned (ChildV A f l i) ∧ Below w.heap.size w w' := bchildA_any A f i v l w hm hr hE.a

end Go.Proofs.YtagldlchamlpdabDoor
