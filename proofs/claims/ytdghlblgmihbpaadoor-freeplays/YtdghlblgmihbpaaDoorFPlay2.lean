import Derived.Test.YtdghlblgmihbpaaDoorFPlay
namespace Go.Proofs.YtdghlblgmihbpaaDoor
open Go.RowKit

structure Play (B : Nat) (w : World) (ba ga rb : Nat) (vb : Value) (Pa : Nat) (Ta : Nat → Bool) (bc gc rd : Nat) (vd : Value) (Pc : Nat) (Tc : Nat → Bool) (kv : Value) (N : Nat) (a : Nat → Option Addr) (n c : Nat → Nat) (U : Nat → List Value) : Prop where
  A : Two2 B w ba ga rb vb Pa Ta
  C : Two2 B w bc gc rd vd Pc Tc
  K : Kept B w kv N a n c U
  g : ga ≠ gc
  r : rb ≠ rd
  kb : ∀ g, InN N a g → vb.ownBlock ≠ some g ∧ vd.ownBlock ≠ some g
section
variable {B : Nat} {w w' : World} {ba ga rb : Nat} {vb : Value} {Pa : Nat} {Ta : Nat → Bool} {bc gc rd : Nat} {vd : Value} {Pc : Nat} {Tc : Nat → Bool} {kv : Value} {N : Nat} {a : Nat → Option Addr} {n c : Nat → Nat} {U : Nat → List Value}
theorem Play.swap (h : Play B w ba ga rb vb Pa Ta bc gc rd vd Pc Tc kv N a n c U) : Play B w bc gc rd vd Pc Tc ba ga rb vb Pa Ta kv N a n c U :=
  ⟨h.C, h.A, h.K, fun e => h.g e.symm, fun e => h.r e.symm, fun g hg => ⟨(h.kb g hg).2, (h.kb g hg).1⟩⟩
theorem Play.below (h : Play B w ba ga rb vb Pa Ta bc gc rd vd Pc Tc kv N a n c U) (hb : Below w.heap.size w w') : Play B w' ba ga rb vb Pa Ta bc gc rd vd Pc Tc kv N a n c U :=
  ⟨h.A.below hb, h.C.below hb, h.K.below hb, h.g, h.r, h.kb⟩
/-- A step of the first map and of the document's. -/
theorem Play.step (h : Play B w ba ga rb vb Pa Ta bc gc rd vd Pc Tc kv N a n c U) (hB : B < w.heap.size) (ho : Only (fun k => k = ga ∨ k = rb) w w') {T' : Nat → Bool} {v' : Value} (hm : MapR w' ba ga Pa T') (hok : MapOk Pa T') (hr : RefR w' rb v' Pa T') (hv : ∀ k, v'.ownBlock = some k → vb.ownBlock = some k ∨ w.heap.size ≤ k) : Play B w' ba ga rb v' Pa T' bc gc rd vd Pc Tc kv N a n c U := by
  have blkb := h.C.map.blk
  obtain ⟨cg, blkg⟩ := h.C.gblk
  have blkr := h.C.ref.blk
  refine ⟨⟨hm, hok, hr, h.A.lo.1, h.A.lo.2.1, h.A.lo.2.2.1, fun k hk => (hv k hk).elim (h.A.lo.2.2.2 k) (fun h' => by omega)⟩, ?_, ?_, h.g, h.r, fun g hg => ⟨fun e => ?_, (h.kb g hg).2⟩⟩
  · refine h.C.only ho ?_ ?_ ?_ (fun k hk => ?_)
    · rintro (e | e)
      · exact h.A.gne blkb (by decide) e
      · exact h.A.rne blkb (by decide) e
    · rintro (e | e)
      · exact h.g e.symm
      · exact h.A.rne blkg (by decide) e
    · rintro (e | e)
      · exact h.A.gne blkr (by decide) e
      · exact h.r e.symm
    · obtain ⟨c3, b3⟩ := h.C.vblk k hk
      rintro (e | e)
      · exact h.A.gne b3 (by decide) e
      · exact h.A.rne b3 (by decide) e
  · refine h.K.only ho (fun k hk => ?_) (fun g hg => ?_)
    · obtain ⟨c3, b3⟩ := h.K.kblk k hk
      rintro (e | e)
      · exact h.A.gne b3 (by decide) e
      · exact h.A.rne b3 (by decide) e
    · obtain ⟨c3, b3⟩ := h.K.lblk hg
      rintro (e | e)
      · exact h.A.gne b3 (by decide) e
      · exact h.A.rne b3 (by decide) e
  · rcases hv g e with h1 | h1
    · exact (h.kb g hg).1 h1
    · have := h.K.llt hg; omega
/-- One list more is kept. -/
theorem Play.keep (h : Play B w ba ga rb vb Pa Ta bc gc rd vd Pc Tc kv N a n c U) (hB : B < w.heap.size) (hN : N ≤ 2932031007325) (la : Option Addr) (ln lc : Nat) (xs : List Value) (hl : w.ownsRow 0 3 1 (.slice la ln lc) ln xs) (hs : ln ≤ 1048576)
    (hb : ∀ g, la = some ⟨g, 0, none⟩ → B < g) (hn : ∀ g, la = some ⟨g, 0, none⟩ → ¬ InN N a g) (hvb : ∀ g, la = some ⟨g, 0, none⟩ → vb.ownBlock ≠ some g ∧ vd.ownBlock ≠ some g) :
    ∃ g cap w', (Builtin.append_ #[60, 60] 60 #[kv, .slice (some ⟨w.heap.size, 0, none⟩) 1 1]).run Tryd.prog (w.alloc (.cells #[.slice la ln lc] 28)) = .ok (.slice (some ⟨g, 0, none⟩) (N + 1) cap) w' ∧ Play B w' ba ga rb vb Pa Ta bc gc rd vd Pc Tc (.slice (some ⟨g, 0, none⟩) (N + 1) cap) (N + 1) (upF a N la) (upF n N ln) (upF c N lc) (upF U N xs) ∧ Only (fun k => kv.ownBlock = some k) w w' := by
  obtain ⟨g, cap, w', hr, hk, ho⟩ := h.K.push hB hN la ln lc xs hl hs hb hn
  have hne : ∀ {k : Nat} {cc : Array Value} {t : TypeId} {f : Nat × Nat}, w.heap[k]? = some (.cells cc t f) → t ≠ 28 → ¬ kv.ownBlock = some k := fun hk ht e => by
    obtain ⟨c2, e2⟩ := h.K.kblk _ e
    exact type_ne hk e2 ht rfl
  have two : ∀ {b g rb : Nat} {v : Value} {P : Nat} {T : Nat → Bool}, Two2 B w b g rb v P T → Two2 B w' b g rb v P T := fun ht => by
    obtain ⟨cg, blkg⟩ := ht.gblk
    refine ht.only ho (hne ht.map.blk (by decide)) (hne blkg (by decide)) (hne ht.ref.blk (by decide)) (fun k hk => ?_)
    obtain ⟨c3, b3⟩ := ht.vblk k hk
    exact hne b3 (by decide)
  refine ⟨g, cap, w', hr, ⟨two h.A, two h.C, hk, h.g, h.r, fun g' hg' => ?_⟩, ho⟩
  obtain ⟨i, hi, hai⟩ := hg'
  by_cases hiN : i = N
  · subst hiN; rw [upF_eq] at hai; exact hvb g' hai
  · rw [upF_ne _ _ _ _ hiN] at hai; exact h.kb g' ⟨i, by omega, hai⟩
/-- The second one becomes a copy of the first. -/
theorem Play.copy (h : Play B w ba ga rb vb Pa Ta bc gc rd vd Pc Tc kv N a n c U) (hB : B < w.heap.size) (hb : Below w.heap.size w w') {bo go ro : Nat} {vo : Value} (hm : MapR w' bo go Pa Ta) (hr : RefR w' ro vo Pa Ta) (h1 : w.heap.size ≤ bo) (h2 : w.heap.size ≤ go) (h3 : w.heap.size ≤ ro) (h4 : ∀ k, vo.ownBlock = some k → w.heap.size ≤ k) : Play B w' ba ga rb vb Pa Ta bo go ro vo Pa Ta kv N a n c U := by
  have hga := h.A.map.ltg
  have hrb := h.A.ref.ltb
  exact ⟨h.A.below hb, ⟨hm, h.A.ok, hr, by omega, by omega, by omega, fun k hk => by have := h4 k hk; omega⟩, h.K.below hb, by omega, by omega, fun g hg => ⟨(h.kb g hg).1, fun e => by have := h4 g e; have := h.K.llt hg; omega⟩⟩
end
theorem act_len2 {P : Nat} {T : Nat → Bool} (h : MapOk P T) (K n : Int) : (actD P T K n).2.list.length ≤ 1048576 := by
  have h1 := frl_le T P
  have h2 := h.hi
  unfold actD
  repeat' split
  all_goals try (simp [said0]; done)
  unfold takeD
  split
  · simp
  · split
    · simp
    · simp only []
      rw [lowL_len]; omega
theorem step_unwanted {c : Bool} {p q : Prop} (h : c = false) (hq : q) : if c = true then p else q := by rw [h]; exact hq
def MidF (sp : Bool) (rm : Nat) (lv : Value) (k : Nat) : Prop := k = rm ∨ (sp = true ∧ lv.ownBlock = some k)
/-- What the drawn region leaves. -/
def Mid (sp : Bool) (w3 wx : World) (rm : Nat) (vm : Value) (P : Nat) (T' : Nat → Bool) (lv : Value) : Prop := ∃ v', RefR wx rm v' P T' ∧ (∀ k, v'.ownBlock = some k → vm.ownBlock = some k ∨ w3.heap.size ≤ k) ∧ Only (MidF sp rm lv) w3 wx
theorem step_new (w : World) (K O n : Int) : (Instr.storeAt 33 (.pointer (some ⟨w.heap.size, 0, none⟩)) (.agg #[.int .i64 K, .int .i64 O, .int .i64 n])).run Tryd.prog (w.alloc (.cells #[.int .i64 0, .int .i64 0, .int .i64 0] 33)) = .ok () (w.alloc (.cells #[.int .i64 K, .int .i64 O, .int .i64 n] 33)) :=
  run_storeAt_new w 33 #[.int .i64 0, .int .i64 0, .int .i64 0] #[.int .i64 K, .int .i64 O, .int .i64 n] (by kernel_rfl) rfl (by simp [Value.oneCell'])

end Go.Proofs.YtdghlblgmihbpaaDoor
