import Derived.Test.YtdieacdkomiooabDoorAct2
namespace Go.Proofs.YtdieacdkomiooabDoor
open Go.RowKit Go.Maps

theorem act_any (base : Nat) (A : Nat → Addr) (b : Nat) (F : Nat → Prop) (d : Dev) (w : World) (h : DevAt w b F d) (hE : ErrsB base A w) (hF : ∀ k, F k → base ≤ k) (s : Stp) (fv : Value) (hl : FatesIn w fv s.fates) (hs : StpOk d s) (hop : OpOk base A b d.arms) (hk : s.kind ≠ 5) :
    Calls Tryd.prog 11 #[.pointer (some ⟨b, 0, none⟩), .agg #[.int .i64 s.kind, .int .i64 s.sector, .int .i64 s.n, .string s.data, fv]] w fun e w' => ∃ vb vs F', ActPost w b F (d.act s) e w' vb vs F' := by
  obtain ⟨K, S, n, D, l⟩ := s
  by_cases h1 : K = 1
  · exact act_write base A b F d w h hE hF K S n D l fv hl hs hop h1
  by_cases h2 : K = 2
  · exact act_sync base A b F d w h hE hF K S n D l fv hl hs hop h2
  by_cases h3 : K = 3
  · exact act_read base A b F d w h hE hF K S n D l fv hl hs hop h3
  by_cases h4 : K = 4
  · exact act_crash base A b F d w h hE hF K S n D l fv hl hs hop h4
  by_cases h6 : K = 6
  · exact act_revive base A b F d w h hE hF K S n D l fv hl hs hop h6
  by_cases h7 : K = 7
  · exact act_durable base A b F d w h hE hF K S n D l fv hl hs hop h7
  by_cases h8 : K = 8
  · exact act_pending base A b F d w h hE hF K S n D l fv hl hs hop h8
  by_cases h9 : K = 9
  · exact act_counts base A b F d w h hE hF K S n D l fv hl hs hop h9
  exact act_none base A b F d w h hE hF K S n D l fv hl hs hop ⟨h1, h2, h3, h4, hk, h6, h7, h8, h9⟩

theorem done_arms (d : Dev) (h : d.arms = []) : d.done.1.arms = [] ∧ d.done.1.pend = d.pend ∧ d.done.2 = 0 := by
  unfold Dev.done; rw [h]; exact ⟨h, rfl, rfl⟩
theorem act_arms (d : Dev) (s : Stp) (h : d.arms = []) (hk : s.kind ≠ 5) : (d.act s).1.arms = [] := by
  unfold Dev.act
  repeat' split
  all_goals (try exact h)
  · unfold Dev.write; split
    · exact h
    · split
      · exact h
      · exact (done_arms { d with pend := d.pend ++ _, nw := _ } h).1
  · unfold Dev.sync; split
    · exact h
    · exact (done_arms { d with dur := _, pend := [], ns := _ } h).1
  · unfold Dev.read; repeat' split
    all_goals exact h
  · simp only []; unfold Dev.crash; split
    · exact h
    · exact h
theorem done_pend (d : Dev) : d.done.1.pend.length ≤ d.pend.length := by
  unfold Dev.done
  cases d.arms with
  | nil => exact Nat.le_refl _
  | cons a r => simp only []; split
                · exact Nat.le_refl _
                · simp [Dev.kill]
theorem act_pend (d : Dev) (s : Stp) : (d.act s).1.pend.length ≤ d.pend.length + s.data.size / 512 := by
  unfold Dev.act
  repeat' split
  all_goals (try (simp only [Dev.arm, Dev.revive]; omega))
  · unfold Dev.write; split
    · simp only []; omega
    · split
      · simp only []; omega
      · have := done_pend { d with pend := d.pend ++ chunks s.sector (bl s.data) ((bl s.data).length / 512), nw := wrap64 (d.nw + (((bl s.data).length / 512 : Nat) : Int)) }
        simp only [List.length_append, chunks_len, bl_len] at this
        simp only [bl_len]
        exact this
  · unfold Dev.sync; split
    · simp only []; omega
    · have := done_pend { d with dur := syncD d.dur d.pend, pend := [], ns := wrap64 (d.ns + 1) }
      simp only [List.length_nil] at this
      simp only []
      omega
  · unfold Dev.read; repeat' split
    all_goals (simp only []; omega)
  · simp only []; unfold Dev.crash; split
    · omega
    · simp [Dev.kill]
theorem act_ok (d : Dev) (s : Stp) (h : d.Ok) (hn : s.n < 9223372036854775808) : (d.act s).1.Ok := by
  unfold Dev.act
  repeat' split
  all_goals (try exact h)
  · exact h.write _ _
  · exact h.sync
  · exact h.read _ _
  · exact h.crash _
  · exact h.arm _ _ hn
  · exact h.revive
theorem act_size (d : Dev) (s : Stp) : (d.act s).1.size = d.size := by
  have hd : ∀ d : Dev, d.done.1.size = d.size := fun d => by
    unfold Dev.done
    cases d.arms with
    | nil => rfl
    | cons a r => simp only []; split <;> rfl
  unfold Dev.act
  repeat' split
  all_goals (try rfl)
  · unfold Dev.write; repeat' split
    all_goals (try rfl)
    exact hd _
  · unfold Dev.sync; split
    · rfl
    · exact hd _
  · unfold Dev.read; repeat' split
    all_goals rfl
  · simp only []; unfold Dev.crash; split <;> rfl
/-- Steps, one behind the other, but for the arms. -/
def plays (d : Dev) (l : List Stp) : Dev := l.foldl (fun d s => if s.kind = 5 then d else (d.act s).1) d
theorem plays_snoc (d : Dev) (l : List Stp) (s : Stp) : plays d (l ++ [s]) = if s.kind = 5 then plays d l else ((plays d l).act s).1 := by simp [plays, List.foldl_append]
theorem plays_cons (d : Dev) (s : Stp) (l : List Stp) : plays d (s :: l) = plays (if s.kind = 5 then d else (d.act s).1) l := rfl
theorem plays_arms : ∀ (l : List Stp) (d : Dev), d.arms = [] → (plays d l).arms = []
  | [], _, h => h
  | s :: l, d, h => by
    rw [plays_cons]
    split
    · exact plays_arms l d h
    · exact plays_arms l _ (act_arms d s h ‹_›)
theorem plays_size : ∀ (l : List Stp) (d : Dev), (plays d l).size = d.size
  | [], _ => rfl
  | s :: l, d => by
    rw [plays_cons, plays_size l]
    split
    · rfl
    · exact act_size d s
theorem plays_pend (m : Nat) : ∀ (l : List Stp) (d : Dev), (∀ s ∈ l, s.data.size ≤ m * 512) → (plays d l).pend.length ≤ d.pend.length + l.length * m
  | [], _, _ => by simp [plays]
  | s :: l, d, h => by
    have hs := h s (by simp)
    have ha := act_pend d s
    have h2 : s.data.size / 512 ≤ m := by omega
    rw [plays_cons, List.length_cons, Nat.add_mul, Nat.one_mul]
    refine Nat.le_trans (plays_pend m l _ fun x hx => h x (by simp [hx])) ?_
    split
    · omega
    · omega

/-- Steps that are handed in. -/
def StepsIn (w : World) (v : Value) (l : List Stp) : Prop := ∃ a cap g off, ∃ fvs : List Value, v = .slice a l.length cap ∧ l.length ≤ 1048576 ∧ (0 < l.length → a = some ⟨g, off, none⟩) ∧ fvs.length = l.length ∧
  ∀ i (h : i < l.length) (h' : i < fvs.length), (w.cell? ⟨g, off + i * 5, none⟩ = some (.int .i64 l[i].kind) ∧ w.cell? ⟨g, off + i * 5 + 1, none⟩ = some (.int .i64 l[i].sector) ∧ w.cell? ⟨g, off + i * 5 + 2, none⟩ = some (.int .i64 l[i].n) ∧ w.cell? ⟨g, off + i * 5 + 3, none⟩ = some (.string l[i].data) ∧ w.cell? ⟨g, off + i * 5 + 4, none⟩ = some fvs[i]) ∧ FatesIn w fvs[i] l[i].fates ∧ l[i].n < 9223372036854775808 ∧ l[i].data.size ≤ 1048576
theorem StepsIn.keep {w w' : World} {v : Value} {l : List Stp} (h : StepsIn w v l) (hb : Below w.heap.size w w') : StepsIn w' v l := by
  obtain ⟨a, cap, g, off, fvs, h1, h2, h3, h4, h5⟩ := h
  exact ⟨a, cap, g, off, fvs, h1, h2, h3, h4, fun i h h' => ⟨⟨cell_below hb (h5 i h h').1.1, cell_below hb (h5 i h h').1.2.1, cell_below hb (h5 i h h').1.2.2.1, cell_below hb (h5 i h h').1.2.2.2.1, cell_below hb (h5 i h h').1.2.2.2.2⟩, (h5 i h h').2.1.keep hb, (h5 i h h').2.2⟩⟩
/-- The sectors that small takes. -/
def firsts (size : Int) : Int → List Sec → List Sec
  | _, [] => []
  | last, x :: r => if last < x.ix ∧ x.ix < size ∧ x.dat.size = 512 then x :: firsts size x.ix r else firsts size last r
theorem firsts_opens (size : Int) : ∀ (l : List Sec) (last : Int), opens size (last + 1) (firsts size last l) = true
  | [], _ => rfl
  | x :: r, last => by
    unfold firsts
    split
    · unfold opens
      rw [firsts_opens size r x.ix, decide_eq_true (by omega)]
      rfl
    · exact firsts_opens size r last
theorem firsts_len (size : Int) : ∀ (l : List Sec) (last : Int), (firsts size last l).length ≤ l.length
  | [], _ => Nat.le_refl _
  | x :: r, last => by
    unfold firsts
    split
    · simp only [List.length_cons]; have := firsts_len size r x.ix; omega
    · simp only [List.length_cons]; have := firsts_len size r last; omega
def smallDev (r : Int) (first : List Sec) : Dev := { newDev r with dur := openD (firsts (newDev r).size (-1) first) }

end Go.Proofs.YtdieacdkomiooabDoor
