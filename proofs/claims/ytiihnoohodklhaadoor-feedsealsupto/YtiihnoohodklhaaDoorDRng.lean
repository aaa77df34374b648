import Derived.RangeFuncNested
import Derived.RangeFuncBound
import Derived.RangeFuncCalls
import Derived.RangeFuncLeaves
import Derived.Shelf.Abstract
import Derived.Shelf.RegionOpen
import Derived.WalkKit
import Derived.OwnWalkIn
import Derived.TacticsInMore
import Derived.LoopNIn
import Derived.LoopIn
import Derived.Test.YtiihnoohodklhaaDoorBX
namespace Go.Proofs.YtiihnoohodklhaaDoor
open Go.RowKit

/-- Cells of a type that T names. -/
def ofT (T : TypeId → Bool) : Obj → Bool
  | .cells _ t _ => T t
  | _ => false
/-- The same, or no cells at all. -/
def ofTN (T : TypeId → Bool) : Obj → Bool
  | .cells _ t _ => T t
  | _ => true
theorem ofT_sub {T : TypeId → Bool} {o : Obj} (h : ofT T o = true) : ofTN T o = true := by cases o <;> simp_all [ofT, ofTN]
theorem ofTN_non {T : TypeId → Bool} {o : Obj} (h : o.isCells = false) : ofTN T o = true := by cases o <;> simp_all [ofTN, Obj.isCells]
theorem ofT_non {T : TypeId → Bool} {o : Obj} (h : o.isCells = false) : ofT T o = false := by cases o <;> simp_all [ofT, Obj.isCells]

/-- All blocks lie as they lay, but those from B on that X lets turn. -/
structure But (B : Nat) (X : Obj → Bool) (W W' : World) : Prop where
  os : W'.os = W.os
  tape : W'.tape = W.tape
  output : W'.output = W.output
  size : W.heap.size ≤ W'.heap.size
  same : ∀ (k : Nat) (o : Obj), W.heap[k]? = some o → ¬ (B ≤ k ∧ X o = true) → W'.heap[k]? = some o
theorem But.refl (B : Nat) (X : Obj → Bool) (W : World) : But B X W W := ⟨rfl, rfl, rfl, Nat.le_refl _, fun _ _ h _ => h⟩
theorem But.trans {B : Nat} {X : Obj → Bool} {W1 W2 W3 : World} (h : But B X W1 W2) (k : But B X W2 W3) : But B X W1 W3 :=
  ⟨k.os.trans h.os, k.tape.trans h.tape, k.output.trans h.output, Nat.le_trans h.size k.size, fun i o hi hn => k.same i o (h.same i o hi hn) hn⟩
theorem But.mono {B B' : Nat} {X X' : Obj → Bool} {W W' : World} (h : But B X W W') (hB : B' ≤ B) (hX : ∀ o, X o = true → X' o = true) : But B' X' W W' :=
  ⟨h.os, h.tape, h.output, h.size, fun k o hk hn => h.same k o hk (fun hh => hn ⟨Nat.le_trans hB hh.1, hX o hh.2⟩)⟩
theorem But.of_below {B : Nat} {X : Obj → Bool} {W W' : World} (h : Below W.heap.size W W') : But B X W W' :=
  ⟨h.os, h.tape, h.output, h.size, fun k _ hk _ => (h.block k (Array.getElem?_eq_some_iff.1 hk).1).trans hk⟩
theorem But.alloc {B : Nat} {X : Obj → Bool} {W0 W : World} (h : But B X W0 W) (o : Obj) : But B X W0 (W.alloc o) :=
  h.trans (.of_below ((Below.refl _ _).alloc (Nat.le_refl _) o))
theorem But.drew {B : Nat} {X : Obj → Bool} {W0 W : World} (h : But B X W0 W) : But B X W0 W.drew := ⟨h.os, h.tape, h.output, h.size, h.same⟩
theorem But.setCell {B : Nat} {X : Obj → Bool} {W0 W : World} (h : But B X W0 W) {p : Addr} {o : Obj} (ho : W.heap[p.block]? = some o) (hB : B ≤ p.block) (hX : X o = true) (u : Value) : But B X W0 (W.setCell p u) :=
  h.trans ⟨rfl, rfl, rfl, by simp [World.setCell], fun k o' hk hn => by
    by_cases e : k = p.block
    · subst e; rw [ho] at hk; cases hk; exact absurd ⟨hB, hX⟩ hn
    · exact (Below.heap_setCell W p u k e).trans hk⟩
theorem But.putObj {B : Nat} {X : Obj → Bool} {W0 W : World} (h : But B X W0 W) {l : Nat} {o : Obj} (ho : W.heap[l]? = some o) (hB : B ≤ l) (hX : X o = true) (o' : Obj) : But B X W0 (W.putObj l o') :=
  h.trans ⟨rfl, rfl, rfl, by simp, fun k o'' hk hn => by
    by_cases e : k = l
    · subst e; rw [ho] at hk; cases hk; exact absurd ⟨hB, hX⟩ hn
    · exact (World.putObj_heap_other e).trans hk⟩
theorem But.grown {B : Nat} {X : Obj → Bool} {W0 W W' : World} {row : Option Nat} (h : But B X W0 W) (hg : W.grownBy W' row) (hr : ∀ k o, row = some k → W.heap[k]? = some o → B ≤ k ∧ X o = true) : But B X W0 W' :=
  h.trans ⟨hg.os, hg.tape, hg.output, hg.size, fun k o hk hn => (hg.block k (Array.getElem?_eq_some_iff.1 hk).1 (fun e => hn (hr k o e.symm hk))).trans hk⟩
theorem But.below {B : Nat} {X : Obj → Bool} {W W' : World} (h : But B X W W') (hB : B ≤ W.heap.size) : Below B W W' :=
  ⟨h.os, h.tape, h.output, h.size, fun k hk => by
    have hlt : k < W.heap.size := by omega
    rw [h.same k _ (Array.getElem?_eq_getElem hlt) (fun hh => by omega), Array.getElem?_eq_getElem hlt]⟩
theorem But.cell {B : Nat} {X : Obj → Bool} {W W' : World} (h : But B X W W') {p : Addr} {v : Value} {o : Obj} (ho : W.heap[p.block]? = some o) (hn : ¬ (B ≤ p.block ∧ X o = true)) (hc : W.cell? p = some v) : W'.cell? p = some v := by
  rw [← hc]; exact World.cell?_of_block ((h.same _ _ ho hn).trans ho.symm)

/-- WHAT AN ITERATOR THAT KEEPS ITS STATE IN CELLS PROMISES: from s0 on, as long as there is more to come (More s), yield is called at encs s, and nx s is next. The iterator turns cells of the types T alone, the rounds leave all from base on that is cells of no type of U. -/
def IterS {σ : Type} (F : Fence) (n : Nat) (P : Program) (gf : Nat) (lb : Array Value) (encs : σ → Array Value) (nx : σ → σ) (More : σ → Prop) (s0 : σ) (T U : TypeId → Bool) (base : Nat) (w : World) : Prop :=
  ∀ (l : Nat) (J Jx : σ → World → Prop) (W : World), Below w.heap.size w W →
    (∀ s A B, J s A → But W.heap.size (ofT T) A B → J s B) → (∀ s A B, Jx s A → But W.heap.size (ofT T) A B → Jx s B) →
    (∀ s W1, J s W1 → More s → YieldAt F (n - 1) P l (encs s) W1 fun e W' => But base (ofTN U) W1 W' ∧ ((e = .returned (.bool true) ∧ J (nx s) W') ∨ (e = .returned (.bool false) ∧ Jx s W'))) →
    J s0 W →
    CallsIn F n P gf (#[.func (.yield l) #[] #[]] ++ lb) W fun e W' => (∃ v, e = .returned v) ∧ ((∃ s, ¬ More s ∧ J s W') ∨ (∃ s, Jx s W'))

/-- How the body of a round may be left: it goes on, or the function returns. -/
def rndPost {σ : Type} (nx : σ → σ) (U : TypeId → Bool) (base : Nat) (I Ix : σ → World → Prop) (s : σ) (W : World) : Exit → Act → World → Prop
  | .normal, _, W' => But base (ofT U) W W' ∧ I (nx s) W'
  | .ret, _, W' => But base (ofT U) W W' ∧ Ix s W'
  | _, _, _ => False

variable {F : Fence} {n : Nat} {P : Program}

theorem range_s {σ : Type} {g : Operand} {ps : Array Tmp} {assign body : Code} {Q : Exit → Act → World → Prop} {a : Act} {w : World}
    (hro : F.round = none) (h1 : 1 ≤ n) {gf : Nat} {lb : Array Value} (hg : a.eval g = .func (.func gf) #[] lb) (hFg : F.fn gf) (eg : ∀ args w, (callFunc gf args).run P w = .ok (.enter gf args) w)
    {encs : σ → Array Value} {nx : σ → σ} {More : σ → Prop} {s0 : σ} {T U : TypeId → Bool} {base : Nat} (hit : IterS F (n - 1) P gf lb encs nx More s0 T U base w) (hps : ∀ s, (encs s).size = ps.size) (hbase : base ≤ w.heap.size)
    (I Ix : σ → World → Prop) (hI : ∀ s A B, I s A → But w.heap.size (ofTN T) A B → I s B) (hIx : ∀ s A B, Ix s A → But w.heap.size (ofTN T) A B → Ix s B) (h0 : I s0 w) (a₁ : σ → Act)
    (hassign : ∀ (l : Nat) (s : σ) (W : World) (K : Act → World → Prop), K (a₁ s) W →
      assign.wpIn (F.inRound l) (n - 1 - 1) P (Exit.then K (fun _ _ _ => False)) { tmps := (ps.zip (encs s)).foldl (fun t (p, v) => t.setIfInBounds p v) a.tmps, defers := [] } W)
    (hbody : ∀ (l : Nat) (s : σ) (W : World), I s W → More s → body.wpIn (F.inRound l) (n - 1 - 1) P (rndPost nx U base I Ix s W) (a₁ s) W)
    (hdone : ∀ (D : Nat) (s : σ) (W : World), w.heap.size ≤ D → ¬ More s → I s W → W.heap[D]? = some (.deferred (some [])) → Q .normal { a with defers := { target := .collected D, args := #[] } :: a.defers } W)
    (hstop : ∀ (D : Nat) (s : σ) (W : World), w.heap.size ≤ D → Ix s W → W.heap[D]? = some (.deferred (some [])) → Code.ret.wpIn F n P Q { a with defers := { target := .collected D, args := #[] } :: a.defers } W) :
    (Code.rangeFunc g ps assign body).wpIn F n P Q a w := by
  refine wpIn_rangeFunc fun fn hfn => ?_
  rw [hro]
  obtain ⟨rec, hrec⟩ : ∃ rec : LoopState → Option Code → Loop, rec = fun st pe => { state := st, pending := pe, fn, tmps := a.tmps, params := ps, assign, body, defers := w.heap.size } := ⟨_, rfl⟩
  obtain ⟨D, hD⟩ : ∃ D, D = w.heap.size := ⟨_, rfl⟩
  obtain ⟨W1, hW1⟩ : ∃ W1, (w.alloc (.deferred (some []))).alloc (.loop (rec .ready none)) = W1 := ⟨_, rfl⟩
  have hs1 : W1.heap.size = D + 2 := by rw [← hW1, hD]; simp
  have hb1 : Below w.heap.size w W1 := by rw [← hW1]; exact ((Below.refl _ w).alloc (Nat.le_refl _) _).alloc (by simp) _
  have hrl : W1.heap[D + 1]? = some (.loop (rec .ready none)) := by
    rw [← hW1, hD]; have := World.alloc_heap_new (w.alloc (.deferred (some []))) (.loop (rec .ready none)); rwa [World.size_alloc] at this
  have hdl : W1.heap[D]? = some (.deferred (some [])) := by
    rw [← hW1, hD]; exact (Below.heap_alloc _ _ _ (by simp)).trans (World.alloc_heap_new w _)
  refine ⟨D + 1, [{ target := .collected D, args := #[] }], W1, { target := .fn (.func gf) lb, args := #[.func (.yield (D + 1)) #[] #[]] }, W1, gf, #[.func (.yield (D + 1)) #[] #[]] ++ lb, W1, ?_, ?_, ?_, ?_, fun _ => h1, ?_⟩
  · rw [← hW1, hrec, hD]; exact run_enterLoop_outer _ _ _ _ _
  · simp only [resolve, hg]
    simp [go_sem]
  · intro f' hf'; simp [Target.leads] at hf'; subst hf'; exact hFg
  · simp [invoke, go_sem, eg]
  have hsub : ∀ {A B : World}, But W1.heap.size (ofT T) A B → But w.heap.size (ofTN T) A B := fun h => h.mono (by omega) (fun o => ofT_sub)
  have hrk : ∀ {A B : World} {k : Nat} {o : Obj}, But W1.heap.size (ofT T) A B → A.heap[k]? = some o → k < D + 2 → B.heap[k]? = some o := fun h hk hlt => h.same _ _ hk (fun hh => by have := hh.1; omega)
  refine (hit (D + 1)
    (fun s W => I s W ∧ W.heap[D + 1]? = some (.loop (rec .ready none)) ∧ W.heap[D]? = some (.deferred (some [])))
    (fun s W => Ix s W ∧ W.heap[D + 1]? = some (.loop (rec .done (some .ret))) ∧ W.heap[D]? = some (.deferred (some [])))
    W1 hb1
    (fun s A B hs hk => ⟨hI s A B hs.1 (hsub hk), hrk hk hs.2.1 (by omega), hrk hk hs.2.2 (by omega)⟩)
    (fun s A B hs hk => ⟨hIx s A B hs.1 (hsub hk), hrk hk hs.2.1 (by omega), hrk hk hs.2.2 (by omega)⟩)
    ?_ ⟨hI _ _ _ h0 (.of_below hb1), hrl, hdl⟩).mono ?_
  · rintro s W ⟨hi, hl, hk⟩ hmore
    have hlt : D + 1 < W.heap.size := (Array.getElem?_eq_some_iff.1 hl).1
    have hy := run_yield (P := P) (args := encs s) hl (by rw [hrec]; exact hps s)
    rw [hrec] at hy
    refine ⟨fn, _, assign, body, hy, roundIn_of_wpIn hfn (hassign _ s W _ ⟨_, run_beginRound hl (by rw [hrec]), ?_⟩)⟩
    obtain ⟨W2, hW2⟩ : ∃ W2, W.putObj (D + 1) (.loop { rec .ready none with state := .busy }) = W2 := ⟨_, rfl⟩
    rw [hW2]
    have hl2 : W2.heap[D + 1]? = some (.loop { rec .ready none with state := .busy }) := by rw [← hW2]; exact World.putObj_heap_same hlt
    have hk2 : W2.heap[D]? = some (.deferred (some [])) := by rw [← hW2]; exact (World.putObj_heap_other (by omega)).trans hk
    have h12 : ∀ (B : Nat) (V : TypeId → Bool), B ≤ D + 1 → But B (ofTN V) W W2 := fun B V hB => by rw [← hW2]; exact (But.refl _ _ _).putObj hl hB (ofTN_non rfl) _
    refine wpIn_mono (hbody _ s W2 (hI _ _ _ hi (h12 _ _ (by omega))) hmore) ?_
    have fin : ∀ (jump : Option Code) (W3 : World), But base (ofT U) W2 W3 →
        (Instr.endRound (D + 1) jump).run P W3 = .ok (.bool jump.isNone) (W3.putObj (D + 1) (.loop (rec (if jump.isNone then .ready else .done) jump))) ∧
        (W3.putObj (D + 1) (.loop (rec (if jump.isNone then .ready else .done) jump))).heap[D + 1]? = some (.loop (rec (if jump.isNone then .ready else .done) jump)) ∧
        (W3.putObj (D + 1) (.loop (rec (if jump.isNone then .ready else .done) jump))).heap[D]? = some (.deferred (some [])) ∧
        (∀ (B : Nat) (V : TypeId → Bool), B ≤ D + 1 → But B (ofTN V) W3 (W3.putObj (D + 1) (.loop (rec (if jump.isNone then .ready else .done) jump)))) := fun jump W3 hb => by
      have hl3 := hb.same _ _ hl2 (fun hh => by simp [ofT] at hh)
      have hk3 := hb.same _ _ hk2 (fun hh => by simp [ofT] at hh)
      have hr := run_endRound (P := P) jump hl3
      rw [hrec] at hr ⊢
      exact ⟨hr, World.putObj_heap_same (Array.getElem?_eq_some_iff.1 hl3).1, (World.putObj_heap_other (by omega)).trans hk3, fun B V hB => (But.refl _ _ _).putObj hl3 hB (ofTN_non rfl) _⟩
    rintro e a3 W3 hp
    cases e with
    | normal =>
      obtain ⟨hb, hi3⟩ := hp
      obtain ⟨hr, hl4, hk4, h34⟩ := fin none W3 hb
      exact ⟨_, _, hr, (h12 base U (by omega)).trans ((hb.mono (Nat.le_refl _) (fun o => ofT_sub)).trans (h34 base U (by omega))), .inl ⟨rfl, hI _ _ _ hi3 (h34 _ _ (by omega)), hl4, hk4⟩⟩
    | ret =>
      obtain ⟨hb, hi3⟩ := hp
      obtain ⟨hr, hl4, hk4, h34⟩ := fin (some .ret) W3 hb
      exact ⟨_, _, hr, (h12 base U (by omega)).trans ((hb.mono (Nat.le_refl _) (fun o => ofT_sub)).trans (h34 base U (by omega))), .inr ⟨rfl, hIx _ _ _ hi3 (h34 _ _ (by omega)), hl4, hk4⟩⟩
    | exit id => exact hp.elim
    | goto t => exact hp.elim
    | panic ch => exact hp.elim
    | outgrown => exact hp.elim
  · rintro e W2 ⟨⟨v, rfl⟩, (⟨s, hS, hi, hl, hk⟩ | ⟨s, hi, hl, hk⟩)⟩
    · exact ⟨none, _, by have := run_endLoop (P := P) hl (by rw [hrec]; simp); rw [hrec] at this; exact this, hdone D s _ (by omega) hS (hI _ _ _ hi ((But.refl _ _ _).putObj hl (by omega) (ofTN_non rfl) _)) ((World.putObj_heap_other (by omega)).trans hk)⟩
    · exact ⟨some .ret, _, by have := run_endLoop (P := P) hl (by rw [hrec]; simp); rw [hrec] at this; exact this, hstop D s _ (by omega) (hIx _ _ _ hi ((But.refl _ _ _).putObj hl (by omega) (ofTN_non rfl) _)) ((World.putObj_heap_other (by omega)).trans hk)⟩

end Go.Proofs.YtiihnoohodklhaaDoor
