import Derived.Test.YtgljkgkophaefabDoorAnewM
import Derived.Deep.MidRow
namespace Go.Proofs.YtgljkgkophaefabDoor
open Go.RowKit

theorem wpList_store_eq {ops : Array Oper} {rest : List Oper} {op : Oper} {a : Act} {w w' : World} {Q : Exit → Act → World → Prop} (hgd : op.guard = none) (ty : TypeId) (x y : Operand) (ho : op.op = .store ty x y)
    (p v : Value) (hx : a.eval x = p) (hy : a.eval y = v) (hrun : (Instr.storeAt ty p v).run Tryd.prog w = .ok () w') (h : wpList Tryd.prog ops Q rest (a.put op.dst undef) w') : wpList Tryd.prog ops Q (op :: rest) a w :=
  wpList_plain hgd fun _ hK => by
    unfold Oper.wp execOp
    simp only [ho, hx, hy, Sem.run_bind, hrun, Result.andThen_ok, Sem.run_pure]
    exact hK _ _ h
theorem cells_over : ∀ (l : List It) (us : List Value) (j : Nat) (x : It) (u : Value), us.length = l.length → j < l.length →
    ((((cellsOf' l us).set (j * 4) (.int .i64 x.kind)).set (j * 4 + 1) (.int .i64 x.num)).set (j * 4 + 1 + 1) (.string x.text)).set (j * 4 + 1 + 1 + 1) u = cellsOf' (l.set j x) (us.set j u)
  | [], _, j, _, _, _, h => by simp at h
  | _ :: _, [], _, _, _, hus, _ => by simp at hus
  | y :: l, z :: us, 0, x, u, _, _ => by simp [cellsOf']
  | y :: l, z :: us, j + 1, x, u, hus, h => by
    have ih := cells_over l us j x u (by simpa using hus) (by simpa using h)
    rw [show (j + 1) * 4 = (j * 4) + 4 by omega, show j * 4 + 4 + 1 = (j * 4 + 1) + 4 by omega, show j * 4 + 1 + 4 + 1 = (j * 4 + 1 + 1) + 4 by omega, show j * 4 + 1 + 1 + 4 + 1 = (j * 4 + 1 + 1 + 1) + 4 by omega]
    simp only [cellsOf', List.set_cons_succ]
    rw [ih]
theorem ItsOwn.over {w : World} {base g n c : Nat} {l : List It} (h : ItsOwn w base (.slice (some ⟨g, 0, none⟩) n c) l) (i : Nat) (hi : i < l.length) (x : It) (hx : x.Ok) (hxl : x.list = []) :
    ∃ w', (Instr.storeAt 43 (.pointer (some ⟨g, i * 4, none⟩)) (.agg #[.int .i64 x.kind, .int .i64 x.num, .string x.text, .slice none 0 0])).run Tryd.prog w = .ok () w' ∧ ItsOwn w' base (.slice (some ⟨g, 0, none⟩) n c) (l.set i x) ∧ OnlyB [g] w w' := by
  obtain ⟨us, hus, how, hok, hin⟩ := h
  obtain ⟨g', c', he, hb, hl⟩ := how.form (by omega)
  simp only [Value.slice.injEq, Option.some.injEq, Addr.mk.injEq, and_true] at he
  obtain ⟨rfl, rfl, rfl⟩ := he
  have ht : w.there g (i * 4) 4 := by
    intro j hj
    refine ⟨?_, how.frozenAt _⟩
    have hc := how.cellAt (i * 4 + j) (by omega)
    rw [hc, Option.isSome_iff_exists]
    exact ⟨_, List.getElem?_eq_getElem (by rw [how.1]; omega)⟩
  have hon : OnlyB [g] w (w.setCells g (i * 4) [.int .i64 x.kind, .int .i64 x.num, .string x.text, .slice none 0 0]) :=
    (((OnlyB.set g _ w _).trans (OnlyB.set g _ _ _)).trans (OnlyB.set g _ _ _)).trans (OnlyB.set g _ _ _)
  refine ⟨_, run_storeAt_mid w g (i * 4) 43 _ ht rfl (all_oneCell_toArray (cs := [.int .i64 x.kind, .int .i64 x.num, .string x.text, .slice none 0 0]) (fun v hv => by simp only [List.mem_cons, List.not_mem_nil, or_false] at hv; rcases hv with rfl | rfl | rfl | rfl <;> rfl)), ?_, ?_⟩
  · have s1 := (how.stored (i * 4) (.int .i64 x.kind)).1
    have s2 := (s1.stored (i * 4 + 1) (.int .i64 x.num)).1
    have s3 := (s2.stored (i * 4 + 1 + 1) (.string x.text)).1
    have s4 := (s3.stored (i * 4 + 1 + 1 + 1) (.slice none 0 0)).1
    rw [cells_over l us i x _ hus hi] at s4
    have hbut : But w (w.setCells g (i * 4) [.int .i64 x.kind, .int .i64 x.num, .string x.text, .slice none 0 0]) (some g) := ⟨hon.size, fun k hk hn => hon.block k hk (fun hm => hn (by simp only [List.mem_singleton] at hm; rw [hm]))⟩
    refine ⟨us.set i (.slice none 0 0), by simp [hus], by rw [List.length_set]; exact s4, fun j hj => ?_, fun j hj hj' => ?_⟩
    · by_cases e : j = i
      · subst e; simpa using hx
      · rw [List.getElem_set_ne (by omega)]; exact hok j (by simpa using hj)
    · by_cases e : j = i
      · subst e; simp only [List.getElem_set_self, hxl]; exact its_nil _ _ _ _
      · rw [List.getElem_set_ne (by omega), List.getElem_set_ne (by omega)]
        exact ((hin j (by simpa using hj) (by simpa using hj')).but hbut (fun k hk => hk.2.1)).imp fun k hk => ⟨hk.1, hk.2.1, Nat.lt_of_lt_of_le hk.2.2 hbut.size⟩
  · exact hon
end Go.Proofs.YtgljkgkophaefabDoor
