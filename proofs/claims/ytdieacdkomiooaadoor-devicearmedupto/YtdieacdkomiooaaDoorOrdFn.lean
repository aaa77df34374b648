import Derived.Test.YtdieacdkomiooaaDoorChoiceLaw
namespace Go.Proofs.YtdieacdkomiooaaDoor
open Go.RowKit Go.Maps

/-- The writes that a fate makes. -/
def meetW (pend : List Sec) (f : Fate) : List Sec := match pend[f.ix.toNat]? with
  | some x => if f.kind = 2 then [⟨x.ix, x.dat⟩] else if f.kind = 3 then [⟨x.ix, tornB x.dat f⟩] else []
  | none => []
def ordW (pend : List Sec) : List Int → List Fate → List Sec
  | _, [] => []
  | seen, f :: r => if f.ix < 0 ∨ (pend.length : Int) ≤ f.ix ∨ f.ix ∈ seen then ordW pend seen r else meetW pend f ++ ordW pend (f.ix :: seen) r
theorem ifc {P Q : Prop} [Decidable P] [Decidable Q] {α : Type} {a b : α} (h : P ↔ Q) : (if P then a else b) = if Q then a else b := by
  by_cases hp : P
  · rw [if_pos hp, if_pos (h.1 hp)]
  · rw [if_neg hp, if_neg (fun hq => hp (h.2 hq))]
theorem syncD_app (a b dur : List Sec) : syncD dur (a ++ b) = syncD (syncD dur a) b := by simp [syncD, List.foldl_append]
theorem sync_meetW (pend dur : List Sec) (f : Fate) : syncD dur (meetW pend f) = meetD pend dur f := by
  unfold meetW meetD
  cases pend[f.ix.toNat]? with
  | none => rfl
  | some x =>
    simp only []
    split
    · rfl
    · split <;> rfl
theorem sync_ordW (pend : List Sec) : ∀ (l : List Fate) (seen : List Int) (dur : List Sec), syncD dur (ordW pend seen l) = settleD pend seen dur l
  | [], _, _ => rfl
  | f :: r, seen, dur => by
    unfold ordW settleD
    split
    · exact sync_ordW pend r seen dur
    · rw [syncD_app, sync_meetW]; exact sync_ordW pend r _ _
theorem ordW_snoc (pend : List Sec) (f : Fate) : ∀ (l : List Fate) (seen : List Int), ordW pend seen (l ++ [f]) = ordW pend seen l ++ (if f.ix < 0 ∨ (pend.length : Int) ≤ f.ix ∨ f.ix ∈ seen ∨ (∃ g ∈ l, g.ix = f.ix) then [] else meetW pend f)
  | [], seen => by
    simp only [List.nil_append, ordW, List.append_nil]
    by_cases h : f.ix < 0 ∨ (pend.length : Int) ≤ f.ix ∨ f.ix ∈ seen
    · rw [if_pos h, if_pos (by rcases h with h | h | h <;> simp [h])]
    · rw [if_neg h, if_neg (by
        intro h'
        rcases h' with h' | h' | h' | ⟨g, hg, _⟩
        · exact h (.inl h')
        · exact h (.inr (.inl h'))
        · exact h (.inr (.inr h'))
        · cases hg)]
  | g :: r, seen => by
    simp only [List.cons_append, ordW]
    by_cases hg : g.ix < 0 ∨ (pend.length : Int) ≤ g.ix ∨ g.ix ∈ seen
    · rw [if_pos hg, if_pos hg, ordW_snoc pend f r seen]
      congr 1
      apply ifc
      constructor
      · rintro (h | h | h | ⟨x, hx, he⟩)
        · exact .inl h
        · exact .inr (.inl h)
        · exact .inr (.inr (.inl h))
        · exact .inr (.inr (.inr ⟨x, by simp [hx], he⟩))
      · rintro (h | h | h | ⟨x, hx, he⟩)
        · exact .inl h
        · exact .inr (.inl h)
        · exact .inr (.inr (.inl h))
        · rcases List.mem_cons.1 hx with rfl | hx
          · rw [he] at hg
            rcases hg with h | h | h
            · exact .inl h
            · exact .inr (.inl h)
            · exact .inr (.inr (.inl h))
          · exact .inr (.inr (.inr ⟨x, hx, he⟩))
    · rw [if_neg hg, if_neg hg, ordW_snoc pend f r (g.ix :: seen), List.append_assoc]
      congr 2
      apply ifc
      constructor
      · rintro (h | h | h | ⟨x, hx, he⟩)
        · exact .inl h
        · exact .inr (.inl h)
        · rcases List.mem_cons.1 h with h | h
          · exact .inr (.inr (.inr ⟨g, by simp, h.symm⟩))
          · exact .inr (.inr (.inl h))
        · exact .inr (.inr (.inr ⟨x, by simp [hx], he⟩))
      · rintro (h | h | h | ⟨x, hx, he⟩)
        · exact .inl h
        · exact .inr (.inl h)
        · exact .inr (.inr (.inl (by simp [h])))
        · rcases List.mem_cons.1 hx with rfl | hx
          · exact .inr (.inr (.inl (by simp [he])))
          · exact .inr (.inr (.inr ⟨x, hx, he⟩))
/-- Has an earlier fate the same number? -/
def earl (l : List Fate) (i : Nat) (x : Int) : Bool := (l.take i).any fun g => decide (g.ix = x)
theorem earl_iff (l : List Fate) (i : Nat) (x : Int) : earl l i x = true ↔ ∃ g ∈ l.take i, g.ix = x := by simp [earl]
theorem ordW_next (pend : List Sec) (l : List Fate) (i : Nat) (h : i < l.length) : ordW pend [] (l.take (i + 1)) = ordW pend [] (l.take i) ++ (if l[i].ix < 0 ∨ (pend.length : Int) ≤ l[i].ix ∨ earl l i l[i].ix = true then [] else meetW pend l[i]) := by
  rw [List.take_succ_eq_append_getElem h, ordW_snoc]
  congr 1
  apply ifc
  rw [earl_iff]
  simp
theorem earl_succ (l : List Fate) (k : Nat) (x : Int) (h : k < l.length) : earl l (k + 1) x = (earl l k x || decide (l[k].ix = x)) := by
  unfold earl
  rw [List.take_succ_eq_append_getElem h, List.any_append]
  simp

set_option maxRecDepth 100000 in
set_option maxHeartbeats 800000 in
theorem earlier_any (l : List Fate) (v : Value) (i : Nat) (w : World) (hv : FatesIn w v l) (hi : i < l.length) :
    Calls Tryd.prog 31 #[v, .int .i64 (i : Int)] w fun e w' => e = .returned (.bool (earl l i l[i].ix)) ∧ Below w.heap.size w w' := by
  obtain ⟨a, cap, g, off, rfl, hl, ha, hc⟩ := hv.cells
  obtain ⟨n, hn⟩ : ∃ n, n = l.length := ⟨_, rfl⟩
  have HN : Hid (n = l.length) := hn
  have HC : Hid (∀ i (h : i < l.length), w.cell? ⟨g, off + i * 4, none⟩ = some (.int .i64 l[i].ix)) := fun i h => (hc i h).1
  have c0 := (hc i hi).1
  have HX : Hid (∀ k (h : k < l.length), earl l (k + 1) l[i].ix = (earl l k l[i].ix || decide (l[k].ix = l[i].ix))) := fun k h => earl_succ l k _ h
  have H0 : Hid (earl l 0 l[i].ix = false) := by simp [earl, Hid]
  obtain rfl := ha (by omega)
  have i0 : (0 : Int) ≤ (i : Int) := Int.natCast_nonneg _
  have i1 : (i : Int) < (n : Int) := by omega
  have hin : i < n := by omega
  rw [← hn] at hl ⊢
  generalize l[i].ix = X at *
  clear hc ha hn hi hv
  go_enter Tryd.func31, Tryd.ntmps31
  go_wp2_with fail
  go_loopw [5] (fun j wr => ∃ k m : Nat, k ≤ i ∧ j = .int .i64 (k : Int) ∧ earl l k X = false ∧ wr = w.drewN m) (fun j _ => i - (intOf j).toNat)
  case atStart => exact ⟨0, 0, Nat.zero_le _, rfl, H0.out, rfl⟩
  case round =>
    obtain ⟨k, m, hk, rfl, hE, rfl⟩ := hrel
    have HE : Hid (earl l k X = false) := hE
    clear hE H0
    by_cases hlt : k < i
    · have hkl : k < l.length := by rw [← HN.out]; omega
      have d0 := HC.out k hkl
      have HNX : Hid (earl l (k + 1) X = decide (l[k].ix = X)) := by
        show _ = _
        rw [HX.out k hkl, HE.out]; simp
      have HMO : Hid (l[k].ix = X → earl l i X = true) := fun h => by
        show _ = _
        have : ∃ g ∈ l.take i, g.ix = X := ⟨l[k], by rw [List.mem_take_iff_getElem]; exact ⟨k, by omega, rfl⟩, h⟩
        rw [earl_iff]; exact this
      have k0 : (0 : Int) ≤ (k : Int) := Int.natCast_nonneg _
      have k1 : (k : Int) < (n : Int) := by omega
      have k2 : (k : Int) < (i : Int) := by omega
      generalize l[k].ix = Y at *
      by_cases hx : Y = X
      · have HR : Hid (earl l i X = true) := HMO.out hx
        subst hx
        clear HMO HNX
        go_wp2_with fail
        go_quiet (fail)
        go_wp2_with fail
        go_ret
        exact ⟨congrArg (fun b => Ending.returned (.bool b)) HR.out.symm, below_drewN (below_drewN (Below.refl _ _) _) _⟩
      · have HR : Hid (earl l (k + 1) X = false) := by show _ = _; rw [HNX.out]; exact decide_eq_false hx
        have t1 : (Y == X) = false := by simp [hx]
        have t2 : decide (Y = X) = false := decide_eq_false hx
        clear HMO HNX
        go_wp2_with fail
        go_quiet (fail)
        go_wp2_with fail
        exact ⟨⟨k + 1, _, by omega, by go_num, HR.out, rfl⟩, by simp [intOf]; omega⟩
    · have hki : k = i := by omega
      have HR : Hid (earl l i X = false) := hki ▸ HE.out
      have k2 : ¬ (k : Int) < (i : Int) := by omega
      go_wp2_with fail
      go_ret
      exact ⟨congrArg (fun b => Ending.returned (.bool b)) HR.out.symm, below_drewN (Below.refl _ _) _⟩

/-- Two devices, apart. -/
structure Two (A : Nat → Addr) (W wr : World) (b : Nat) (F : Nat → Prop) (d : Dev) (c : Nat) (G : Nat → Prop) (o : Dev) : Prop where
  one : Bg A W wr b F d
  two : Bg A W wr c G o
  no : ∀ k, F k → ¬ G k
theorem Two.up {A : Nat → Addr} {W wr w' : World} {b c : Nat} {F G : Nat → Prop} {d o : Dev} (h : Two A W wr b F d c G o) (hb : Below wr.heap.size wr w') : Two A W w' b F d c G o := ⟨h.one.up hb, h.two.up hb, h.no⟩
theorem Bg.keep {A : Nat → Addr} {W wr w' : World} {b : Nat} {F G G' : Nat → Prop} {d : Dev} (h : Bg A W wr b F d) (hs : Step G G' wr w') (hG : ∀ k, G k → W.heap.size ≤ k) (hn : ∀ k, F k → ¬ G k) : Bg A W w' b F d :=
  ⟨h.dev.keep hs hn, h.bel.trans (hs.below hG h.bel.size), h.far, h.err.step hs hG⟩
theorem Two.go2 {A : Nat → Addr} {W wr w' : World} {b c : Nat} {F G G' : Nat → Prop} {d o o' : Dev} (h : Two A W wr b F d c G o) (hb : Bg A W w' c G' o') (hs : Step G G' wr w') : Two A W w' b F d c G' o' :=
  ⟨h.one.keep hs h.two.far h.no, hb, fun k hf hg => (hs.sub k hg).elim (h.no k hf) (fun h' => by have := h.one.dev.lt k hf; omega)⟩
theorem Two.go1 {A : Nat → Addr} {W wr w' : World} {b c : Nat} {F F' G : Nat → Prop} {d d' o : Dev} (h : Two A W wr b F d c G o) (hb : Bg A W w' b F' d') (hs : Step F F' wr w') : Two A W w' b F' d' c G o :=
  ⟨hb, h.two.keep hs h.one.far (fun k hg hf => h.no k hf hg), fun k hf hg => (hs.sub k hf).elim (fun hf => h.no k hf hg) (fun h' => by have := h.two.dev.lt k hg; omega)⟩
/-- A row that a device's steps don't reach. -/
def RowAt (w : World) (G : Nat → Prop) (base e size : Nat) (v : Value) (n : Nat) (xs : List Value) : Prop := w.ownsRow base e size v n xs ∧ ∀ g, v.ownBlock = some g → ¬ G g
theorem RowAt.step {w w' : World} {G G' : Nat → Prop} {base e size n : Nat} {v : Value} {xs : List Value} (h : RowAt w G base e size v n xs) (hs : Step G G' w w') : RowAt w' G' base e size v n xs :=
  ⟨owns_step h.1 hs h.2, fun g hg hf => (hs.sub g hf).elim (h.2 g hg) (fun h' => by have := (owns_blk h.1 g hg).2.1; omega)⟩
theorem RowAt.up {w w' : World} {G : Nat → Prop} {base e size n : Nat} {v : Value} {xs : List Value} (h : RowAt w G base e size v n xs) (hb : Below w.heap.size w w') : RowAt w' G base e size v n xs := ⟨owns_below h.1 hb, h.2⟩

end Go.Proofs.YtdieacdkomiooaaDoor
