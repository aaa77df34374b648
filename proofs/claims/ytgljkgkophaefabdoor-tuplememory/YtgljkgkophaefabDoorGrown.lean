import Derived.Test.YtgljkgkophaefabDoorMarks4
import Derived.ArgAppend
namespace Go.Proofs.YtgljkgkophaefabDoor
open Go.RowKit

theorem add_zero' (g j : Nat) : (⟨g, 0, none⟩ : Addr).add j = ⟨g, j, none⟩ := by
  unfold Addr.add
  split
  · rename_i h; rw [h]
  · simp
def newIt : List Value := [.int .i64 0, .int .i64 (-1), .string ⟨#[]⟩, .slice none 0 0]
theorem newIt_one : ∀ u ∈ newIt, u.oneCell' = true := by
  intro u hu
  simp only [newIt, List.mem_cons, List.not_mem_nil, or_false] at hu
  rcases hu with rfl | rfl | rfl | rfl <;> rfl
theorem newIt_cells (w : World) : ∀ j u, newIt[j]? = some u → (w.alloc (.cells newIt.toArray 43)).cell? ((⟨w.heap.size, 0, none⟩ : Addr).add j) = some u := by
  intro j u hj
  exact World.news_of_block (heap_alloc_new w (.cells newIt.toArray 43)) j u (by simpa using hj)
theorem OnlyB.of_below {bs : List Nat} {w w' : World} (h : Below w.heap.size w w') : OnlyB bs w w' := ⟨h.os, h.tape, h.output, h.size, fun k hk _ => h.block k hk⟩

theorem wpList_append_run' {ops : Array Oper} {rest : List Oper} {o : Oper} {a : Act} {w : World} {Q : Exit → Act → World → Prop} (t : TypeId) (hgd : o.guard = none) (d x : Operand)
    (ho : o.op = .call { callee := .builtin .append, args := #[d, x], argTypes := #[t, t] }) (hty : o.type = t) (vd vx : Value) (hd : a.eval d = vd) (hx : a.eval x = vx) (v : Value) (w' : World)
    (hrun : (Builtin.append_ #[t, t] t #[vd, vx]).run Tryd.prog w = .ok v w') (h : wpList Tryd.prog ops Q rest (a.put o.dst v) w') : wpList Tryd.prog ops Q (o :: rest) a w :=
  wpList_plain hgd fun _ hK => by
    unfold Oper.wp
    simp [execOp, ho, resolve, invoke, builtin, hd, hx, hty, hrun, Result.andThen]
    exact hK _ _ h
/-- A list is grown by one item: in its own block, or in a new one. -/
theorem grow_item {w : World} {n c : Nat} {a : Option Addr} {xs : List Value} (h : w.ownsRow 0 43 4 (.slice a n c) n xs) (hn : n ≤ 1000000000) :
    ∃ a' c' w', (Builtin.append_ #[22, 22] 22 #[.slice a n c, .slice (some ⟨w.heap.size, 0, none⟩) 1 1]).run Tryd.prog (w.alloc (.cells newIt.toArray 43)) = .ok (.slice a' (n + 1) c') w' ∧ w'.ownsRow 0 43 4 (.slice a' (n + 1) c') (n + 1) (xs ++ newIt) ∧
      ((∃ g, a = some ⟨g, 0, none⟩ ∧ a' = a ∧ c' = c ∧ OnlyB [g] w w') ∨ (Below w.heap.size w w' ∧ ∃ g, a' = some ⟨g, 0, none⟩ ∧ w.heap.size ≤ g)) := by
  obtain ⟨i0, hi, hz, hsz, hby⟩ := info_parts Tryd.info43
  have hb := below_new w (.cells newIt.toArray 43)
  have h2 := owns_keep h hb
  have hl := h.1
  rcases h2.2 with ⟨h', h0⟩ | ⟨g, cap, cur, h', hbg, hg, hnc, hcm, hcs, htk⟩
  · simp only [Value.slice.injEq] at h'
    obtain ⟨rfl, rfl, rfl⟩ := h'
    have hx : xs = [] := List.length_eq_zero_iff.1 (by omega)
    subst hx
    obtain ⟨v', w', hr, ho, hgr, _⟩ := run_append_own (P := Tryd.prog) (w.alloc (.cells newIt.toArray 43)) w.heap.size 22 22 43 i0 _ 4 56 Tryd.underlying22 hi hz hsz hby rfl (by decide) (.slice none 0 0) 0 [] (World.ownsRow_nil _ _ _ _) ⟨w.heap.size, 0, none⟩ 1 1 newIt rfl (newIt_cells w) newIt_one (by decide) (by decide) (by simp)
    obtain ⟨g', c', rfl, hb', hl'⟩ := ho.form (by decide)
    have hbw : Below w.heap.size w w' := hb.grown hgr (by simp) (fun j hj => by cases hj)
    refine ⟨_, c', w', hr, ?_, .inr ⟨hbw, g', rfl, hb'⟩⟩
    refine ⟨ho.1, ?_⟩
    rcases ho.2 with h' | ⟨g'', cap, cur, he, hbg, rest⟩
    · exact .inl h'
    · exact .inr ⟨g'', cap, cur, he, Nat.zero_le _, rest⟩
  · simp only [Value.slice.injEq] at h'
    obtain ⟨rfl, -, rfl⟩ := h'
    by_cases hroom : n + 1 ≤ c
    · obtain ⟨v', w', hr, ho, hgr, _⟩ := run_append_own (P := Tryd.prog) (w.alloc (.cells newIt.toArray 43)) 0 22 22 43 i0 _ 4 56 Tryd.underlying22 hi hz hsz hby rfl (by decide) _ n xs h2 ⟨w.heap.size, 0, none⟩ 1 1 newIt rfl (newIt_cells w) newIt_one (by unfold maxLen; omega) (by omega) (Nat.zero_le _)
      have hr2 := run_append_room (P := Tryd.prog) (w.alloc (.cells newIt.toArray 43)) 22 22 43 i0 Tryd.underlying22 hi g n c cur hg ⟨w.heap.size, 0, none⟩ 1 1 newIt (by rw [hsz]; rfl) (newIt_cells w) newIt_one hroom (by rw [hsz, hcs]; show n * 4 + 4 ≤ c * 4; omega)
      have he := hr.symm.trans hr2
      simp only [Result.ok.injEq] at he
      obtain ⟨rfl, rfl⟩ := he
      refine ⟨_, _, _, hr, ho, .inl ⟨g, rfl, rfl, rfl, ?_⟩⟩
      exact ⟨hgr.os, hgr.tape, hgr.output, Nat.le_trans hb.size hgr.size, fun k hk hn => (hgr.block k (Nat.lt_of_lt_of_le hk hb.size) (fun e => hn (by simp only [Value.ownBlock, Option.some.injEq] at e; simp [e]))).trans (hb.block k hk)⟩
    · obtain ⟨v', w', hr, ho, hgr⟩ := run_append_arg_grows (P := Tryd.prog) (w.alloc (.cells newIt.toArray 43)) 22 22 43 i0 _ 4 56 Tryd.underlying22 hi hz hsz hby rfl (by decide) ⟨g, 0, none⟩ n c xs hl (fun j u hj => by
        have hj' := (List.getElem?_eq_some_iff.1 hj).1
        have := h2.cellAt j (by omega)
        rw [add_zero' g j, this]; exact hj) ⟨w.heap.size, 0, none⟩ 1 1 newIt rfl (newIt_cells w) (by omega) (by unfold maxLen; omega) (by omega)
      obtain ⟨g', c', rfl, hb', hl'⟩ := ho.form (by omega)
      have hbw : Below w.heap.size w w' := hb.grown hgr (by simp) (fun j hj => by cases hj)
      refine ⟨_, c', w', hr, ?_, .inr ⟨hbw, g', rfl, by simp at hb'; omega⟩⟩
      refine ⟨ho.1, ?_⟩
      rcases ho.2 with h' | ⟨g'', cap, cur, he, hbg, rest⟩
      · exact .inl h'
      · exact .inr ⟨g'', cap, cur, he, Nat.zero_le _, rest⟩

/-- A longer row's first part. -/
theorem owns_prefix {w : World} {e size n m c g : Nat} {xs ys : List Value} (h : w.ownsRow 0 e size (.slice (some ⟨g, 0, none⟩) m c) m (xs ++ ys)) (hx : xs.length = n * size) (hm : n ≤ m) : w.ownsRow 0 e size (.slice (some ⟨g, 0, none⟩) n c) n xs := by
  refine ⟨hx, ?_⟩
  rcases h.2 with ⟨h', _⟩ | ⟨g', cap, cur, h', hb, hg, hnc, hcm, hcs, htk⟩
  · cases h'
  · simp only [Value.slice.injEq, Option.some.injEq, Addr.mk.injEq] at h'
    obtain ⟨⟨rfl, _⟩, _, rfl⟩ := h'
    refine .inr ⟨g, c, cur, rfl, hb, hg, by omega, hcm, hcs, ?_⟩
    have h1 : (cur.toList.take (m * size)).take (n * size) = xs := by rw [htk, ← hx, List.take_left]
    rw [List.take_take, Nat.min_eq_left (Nat.mul_le_mul_right _ hm)] at h1
    exact h1

theorem owns_cells {w : World} {e size n c g : Nat} {xs : List Value} (h : w.ownsRow 0 e size (.slice (some ⟨g, 0, none⟩) n c) n xs) : ∃ cur, w.heap[g]? = some (.cells cur e (0, 0)) ∧ cur.toList.take (n * size) = xs := by
  rcases h.2 with ⟨h', _⟩ | ⟨g', cap, cur, h', hb, hg, hnc, hcm, hcs, htk⟩
  · cases h'
  · simp only [Value.slice.injEq, Option.some.injEq, Addr.mk.injEq] at h'
    obtain ⟨⟨rfl, _⟩, _, rfl⟩ := h'
    exact ⟨cur, hg, htk⟩
/-- The list of which a longer one was made in the same block reads as it did. -/
theorem Tr.room {w w' : World} {l : List It} {bs : List Nat} {g n c m m' : Nat} {zs ys : List Value} (h : Tr w (.slice (some ⟨g, 0, none⟩) n c) l bs) (hn : n = l.length) (hz : w.ownsRow 0 43 4 (.slice (some ⟨g, 0, none⟩) m c) m zs) (hnm : n ≤ m)
    (hw : w'.ownsRow 0 43 4 (.slice (some ⟨g, 0, none⟩) m' c) m' (zs ++ ys)) (hm' : m ≤ m') (ho : OnlyB [g] w w') : Tr w' (.slice (some ⟨g, 0, none⟩) n c) l bs := by
  cases h with
  | row _ g' _ us bss hne hlen hus hbs hvb how hok hin hnd =>
    simp only [Value.ownBlock, Option.some.injEq] at hvb
    subst hvb
    subst hn
    obtain ⟨cur, h1, h2⟩ := owns_cells how
    obtain ⟨cur', h3, h4⟩ := owns_cells hz
    rw [h1] at h3
    simp only [Option.some.injEq, Obj.cells.injEq, and_true] at h3
    subst h3
    have hzs : zs.take (l.length * 4) = cellsOf' l us := by
      rw [← h4, List.take_take, Nat.min_eq_left (Nat.mul_le_mul_right _ hnm)]; exact h2
    have hsp : zs ++ ys = cellsOf' l us ++ (zs.drop (l.length * 4) ++ ys) := by
      rw [← hzs, ← List.append_assoc, List.take_append_drop]
    rw [hsp] at hw
    have hn' := List.nodup_cons.1 hnd
    refine .row _ g l us bss hne hlen hus hbs rfl (owns_prefix hw (cellsOf'_len l us hus) (by omega)) hok (fun i h h1 h2 => (hin i h h1 h2).only ho (fun k hk hm => ?_)) hnd
    simp only [List.mem_singleton] at hm
    subst hm
    exact hn'.1 (mem_flat h2 k hk)

/-- What stands while a list is grown by k. -/
structure GrS (w : World) (a : Option Addr) (c : Nat) (l : List It) (bs : List Nat) (am : Option Addr) (m cm : Nat) (wr : World) : Prop where
  own : ∃ zs, wr.ownsRow 0 43 4 (.slice am m cm) m zs
  tree : Tr wr (.slice a l.length c) l bs
  only : OnlyB bs w wr
  alt : (am = a ∧ cm = c) ∨ ∃ g, am = some ⟨g, 0, none⟩ ∧ w.heap.size ≤ g ∧ g ∉ bs
theorem GrS.step {w : World} {a : Option Addr} {c : Nat} {l : List It} {bs : List Nat} {am : Option Addr} {m cm : Nat} {wr : World} (h : GrS w a c l bs am m cm wr) (hm : m ≤ 1000000000) (hlm : l.length ≤ m) :
    ∃ a' c' w', (Builtin.append_ #[22, 22] 22 #[.slice am m cm, .slice (some ⟨wr.heap.size, 0, none⟩) 1 1]).run Tryd.prog (wr.alloc (.cells newIt.toArray 43)) = .ok (.slice a' (m + 1) c') w' ∧ GrS w a c l bs a' (m + 1) c' w' := by
  obtain ⟨zs, ho⟩ := h.own
  obtain ⟨a', c', w', hr, ho', hal⟩ := grow_item ho hm
  refine ⟨a', c', w', hr, ⟨_, ho'⟩, ?_, ?_, ?_⟩
  · rcases hal with ⟨g, rfl, rfl, rfl, hob⟩ | ⟨hb, _⟩
    · rcases h.alt with ⟨rfl, rfl⟩ | ⟨g', hg', hge, hnb⟩
      · exact h.tree.room rfl ho hlm ho' (by omega) hob
      · cases hg'
        exact h.tree.only hob (fun k hk hm => hnb (by simp only [List.mem_singleton] at hm; rw [← hm]; exact hk))
    · exact h.tree.under hb
  · rcases hal with ⟨g, rfl, rfl, rfl, hob⟩ | ⟨hb, _⟩
    · rcases h.alt with ⟨rfl, rfl⟩ | ⟨g', hg', hge, hnb⟩
      · have hgm : g ∈ bs := by
          have ht := h.tree
          cases ht with
          | row _ g' _ us bss hne hlen hus hbs hvb how hok hin hnd =>
            simp only [Value.ownBlock, Option.some.injEq] at hvb
            subst hvb
            exact List.mem_cons_self
        exact h.only.trans (hob.more (fun k hk => by simp only [List.mem_singleton] at hk; rw [hk]; exact hgm))
      · cases hg'
        exact ⟨hob.os.trans h.only.os, hob.tape.trans h.only.tape, hob.output.trans h.only.output, Nat.le_trans h.only.size hob.size, fun k hk hn => (hob.block k (Nat.lt_of_lt_of_le hk h.only.size) (fun hm => by simp only [List.mem_singleton] at hm; omega)).trans (h.only.block k hk hn)⟩
    · exact h.only.trans (OnlyB.of_below hb)
  · rcases hal with ⟨g, rfl, rfl, rfl, hob⟩ | ⟨hb, g, rfl, hg⟩
    · exact h.alt
    · exact .inr ⟨g, rfl, Nat.le_trans h.only.size hg, fun hm => by have := h.tree.lt g hm; omega⟩

def GrownC (k : Nat) : Prop := ∀ (l : List It) (v : Value) (bs : List Nat) (w : World), SizeOf.sizeOf l ≤ k → Tr w v l bs → cntL l ≤ 1000000 →
    Calls Tryd.prog 20 #[v] w fun e w' => ∃ n : Nat, e = .returned (.int .i64 (n : Int)) ∧ 64 ≤ n ∧ n ≤ 65 * cntL l + 64 ∧ Tr w' v l bs ∧ OnlyB bs w w'
theorem len_cnt : ∀ l : List It, l.length ≤ cntL l
  | [] => by simp
  | x :: r => by have := len_cnt r; have := x.cnt_eq; simp only [List.length_cons, cntL]; omega

/-- What stands while the inner lists are grown. -/
structure InS (w : World) (v : Value) (l : List It) (bs : List Nat) (j n : Nat) (wr : World) : Prop where
  tree : Tr wr v l bs
  only : OnlyB bs w wr
  lo : 64 ≤ n
  hi : n + j ≤ 65 * cntL (l.take j) + 64 + l.length

set_option maxHeartbeats 4000000 in
theorem grown_any (k : Nat) : GrownC k := by
  induction k with
  | zero => intro l v bs w hk; cases l <;> simp at hk
  | succ k ih =>
    intro l v bs w hk hv hc
    have hlc := len_cnt l
    obtain ⟨a, c, rfl⟩ := hv.form
    have HH : Hid (GrownC k ∧ SizeOf.sizeOf l ≤ k + 1) := ⟨ih, hk⟩
    obtain ⟨us, bss, hus, hbs, how, -⟩ := hv.parts
    have h0 : GrS w a c l bs a l.length c w := ⟨⟨_, how⟩, hv, OnlyB.refl _ _, .inl ⟨rfl, rfl⟩⟩
    obtain ⟨a1, c1, w1, hrun1, h1⟩ := h0.step (by omega) (Nat.le_refl _)
    have hnew : newIt.toArray = #[.int .i64 0, .int .i64 (-1), .string ⟨#[]⟩, .slice none 0 0] := rfl
    rw [hnew] at hrun1
    have HG1 := hide' h1
    obtain ⟨len, hln⟩ : ∃ len, len = l.length := ⟨_, rfl⟩
    have HLN := hide' hln
    rw [← hln] at hrun1 HG1 hlc ⊢
    have HC := hide' hc
    have hlen : len ≤ 1000000 := by omega
    clear ih hk hv how h0 h1 hus hbs hln hlc hc hnew
    go_enter Tryd.func20, Tryd.ntmps20
    go_wp2_with (first | (at_builtin; refine wpList_append_run' 22 rfl (.tmp 7) (.tmp 9) rfl rfl _ _ rfl rfl _ _ hrun1 ?_))
    clear hrun1
    go_loopw [3, 4] (fun mo i wr => ∃ (k m cm : Nat) (am : Option Addr), 1 ≤ k ∧ k ≤ 64 ∧ i = .int .i64 k ∧ m = len + k ∧ mo = .slice am m cm ∧ GrS w a c l bs am m cm wr) (fun _ i _ => 64 - (intOf i).toNat)
    case atStart => exact ⟨1, len + 1, c1, a1, by omega, by omega, rfl, rfl, rfl, HG1.out⟩
    case round =>
      obtain ⟨j, m, cm, am, hj1, hj2, rfl, hm, rfl, hst⟩ := hrel
      clear HG1
      by_cases hlt : j < 64
      · obtain ⟨a2, c2, w2, hrun2, h2⟩ := hst.step (by omega) (by have := HLN.out; omega)
        have hnew : newIt.toArray = #[.int .i64 0, .int .i64 (-1), .string ⟨#[]⟩, .slice none 0 0] := rfl
        rw [hnew] at hrun2
        have H2 := hide' h2
        have HM := hide' hm
        have hltI : (j : Int) < 64 := by omega
        clear h2 hst hnew hm
        go_wp2_with (first | (at_builtin; refine wpList_append_run' 22 rfl (.tmp 15) (.tmp 17) rfl rfl _ _ rfl rfl _ _ hrun2 ?_))
        refine ⟨⟨j + 1, m + 1, c2, a2, by omega, by omega, by go_num, by have := HM.out; omega, rfl, H2.out⟩, ?_⟩
        simp only [intOf]
        omega
      · have hltI : ¬ (j : Int) < 64 := by omega
        have hm64 : m = len + 64 := by omega
        have HI0 : Hid (InS w (.slice a len c) l bs 0 m wr) := by
          have ht := hst.tree
          rw [← HLN.out] at ht
          exact ⟨ht, hst.only, by omega, by have := HLN.out; simp [cntL]; omega⟩
        have hmb : m ≤ 1000064 := by omega
        clear hst hm hm64
        generalize wr = W1 at *
        go_wp2_with fail
        clear hltI
        go_loopw [5, 6] (fun nn i wr => ∃ (q N : Nat), q ≤ len ∧ i = .int .i64 q ∧ nn = .int .i64 (N : Int) ∧ InS w (.slice a len c) l bs q N wr) (fun _ i _ => len - (intOf i).toNat)
        case atStart => exact ⟨0, m, Nat.zero_le _, rfl, rfl, HI0.out⟩
        case round =>
          obtain ⟨q, N, hq, rfl, rfl, hst⟩ := hrel
          clear HI0
          have hcq := cntL_take_le l q
          by_cases hlq : q < len
          · have hql : q < l.length := by have := HLN.out; omega
            have hcs := cntL_take_succ l q hql
            have hcq1 := cntL_take_le l (q + 1)
            have hce := l[q].cnt_eq
            have HLO : Hid (64 ≤ N ∧ N + q ≤ 65 * cntL (l.take q) + 64 + l.length) := ⟨hst.lo, hst.hi⟩
            have HON := hide' hst.only
            have ht := hst.tree
            clear hst
            cases ht with
            | nil => simp at hql
            | row _ g _ us bss hne hlen2 hus hbs hvb how hok hin hnd =>
              have h1 : q < us.length := by omega
              have h2 : q < bss.length := by omega
              have htq := hin q hql h1 h2
              obtain ⟨g', c', he, _, hgl⟩ := how.form (by omega)
              simp only [Value.slice.injEq] at he
              obtain ⟨rfl, -, rfl⟩ := he
              simp only [Value.ownBlock, Option.some.injEq] at hvb
              subst hvb
              rw [← HLN.out] at how
              have hce3 : wr.cell? ⟨g', q * 4 + 3, none⟩ = some us[q] := by
                have := how.cellAt (q * 4 + 3) (by omega)
                rw [(cellsOf'_get l us hus q hql).2.2.2, List.getElem?_eq_getElem h1] at this
                exact this
              have HIH := hide' (HH.out.1 l[q].list us[q] bss[q] wr (by have := list_lt_of_get hql; have := HH.out.2; omega) htq (by have := HC.out; omega))
              have HNEXT : Hid (∀ w3 n2, Tr w3 us[q] l[q].list bss[q] → OnlyB bss[q] wr w3 → n2 ≤ 65 * cntL l[q].list + 64 → InS w (.slice (some ⟨g', 0, none⟩) len c) l (g' :: bss.flatten) (q + 1) (N + n2) w3) := fun w3 n2 p ob hn2 => by
                have hn' := List.nodup_cons.1 hnd
                have hkeep : Tr w3 (.slice (some ⟨g', 0, none⟩) len c) l (g' :: bss.flatten) := by
                  refine .row _ g' l us bss hne hlen2 hus hbs rfl (by rw [← HLN.out]; exact owns_same how rfl (ob.block g' hgl (fun hm => hn'.1 (mem_flat h2 g' hm)))) hok (fun i hi h1' h2' => ?_) hnd
                  by_cases hiq : i = q
                  · subst hiq; exact p
                  · exact (hin i hi h1' h2').only ob (fun k hk => flat_apart hn'.2 h2' h2 hiq k hk)
                exact ⟨hkeep, HON.out.trans (ob.more (fun k hk => List.mem_cons_of_mem _ (mem_flat h2 k hk))), by have := HLO.out; omega, by have := HLO.out; omega⟩
              obtain ⟨aa, ca, hform⟩ := htq.form
              obtain ⟨uq, huq⟩ : ∃ u, u = us[q] := ⟨_, rfl⟩
              rw [← huq] at HIH HNEXT hce3 hform
              subst hform
              have HB : Hid (65 * cntL l[q].list + 64 ≤ 65000064) := by show _ ≤ _; have := HC.out; omega
              have HNB : Hid (N ≤ 70000000) := by show _ ≤ _; have := HLO.out; have := HC.out; have := HLN.out; omega
              obtain ⟨cl, hcl⟩ : ∃ cl, cl = cntL l[q].list := ⟨_, rfl⟩
              rw [← hcl] at HIH HNEXT HB
              have hlqI : (q : Int) < (len : Int) := by omega
              clear how hok hin hnd htq huq hcs hcq1 hce hcl hcq hgl
              go_wp2_with fail
              refine HIH.out.mono ?_
              rintro e w3 ⟨n2, rfl, hn64, hn2, ht3, ho3⟩
              have HS3 := hide' (HNEXT.out w3 n2 ht3 ho3 hn2)
              have hw : IntKind.i64.wrap ((N : Int) + (n2 : Int)) = ((N + n2 : Nat) : Int) := by rw [IntKind.wrap_i64]; have := HNB.out; have := HB.out; omega
              obtain ⟨N2, hN2⟩ : ∃ N2, N2 = N + n2 := ⟨_, rfl⟩
              rw [← hN2] at hw HS3
              clear ht3 ho3 hn2 hn64 HIH HNEXT hce3 hN2
              go_wp2_with fail
              go_roundw
              case rel => exact ⟨q + 1, N2, by omega, by go_num, rfl, HS3.out⟩
              case measure => simp [intOf]; omega
          · have hlqI : ¬ (q : Int) < (len : Int) := by omega
            have hqe : q = l.length := by have := HLN.out; omega
            have HFIN : Hid (64 ≤ N ∧ N ≤ 65 * cntL l + 64 ∧ Tr wr (.slice a len c) l bs ∧ OnlyB bs w wr) := by
              have hh := hst.hi
              rw [hqe, List.take_of_length_le (Nat.le_refl _)] at hh
              exact ⟨hst.lo, by omega, hst.tree, hst.only⟩
            clear hst hqe hcq
            go_wp2_with fail
            go_ret
            exact ⟨N, rfl, HFIN.out⟩

end Go.Proofs.YtgljkgkophaefabDoor
