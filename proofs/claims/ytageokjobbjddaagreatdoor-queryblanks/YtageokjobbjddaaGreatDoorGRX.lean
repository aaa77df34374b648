import Derived.Test.YtageokjobbjddaaGreatDoorPBl2
import Derived.Test.YtageokjobbjddaaGreatDoorPBa5
namespace Go.Proofs.YtageokjobbjddaaGreatDoor
open Go.RowKit

/-! The field of a condition of the law's own list is set anew. -/
theorem ccells_set : ∀ (l : List Cd) (us : List Value) (i : Nat) (hi : i < l.length) (nm : ByteArray), us.length = l.length → (ccells l us).set (i * 6) (.string nm) = ccells (l.set i { l[i] with field := nm }) us
  | [], _, i, hi, _, _ => by simp at hi
  | _ :: _, [], _, _, _, h => by simp at h
  | c :: l, u :: us, 0, _, nm, _ => by simp [ccells, Cd.cells]
  | c :: l, u :: us, i + 1, hi, nm, h => by
    have ih := ccells_set l us i (by simpa using hi) nm (by simpa using h)
    rw [show (i + 1) * 6 = i * 6 + 6 by omega]
    simp only [List.set_cons_succ, ccells, Cd.cells, List.cons_append, List.nil_append, List.getElem_cons_succ]
    rw [ih]
/-- As CsOwn, all blocks below top. -/
def CsLo (w : World) (base top : Nat) (v : Value) (l : List Cd) : Prop :=
  ∃ us : List Value, us.length = l.length ∧ w.ownsRow base 34 6 v l.length (ccells l us) ∧ (∀ k, v.ownBlock = some k → k < top) ∧ (∀ i (h : i < l.length), l[i].Ok) ∧
    ∀ i (h : i < l.length) (h' : i < us.length), ItsAt w (fun g => some g ≠ v.ownBlock ∧ g < top) us[i] l[i].item.list
theorem CsLo.of {w : World} {base : Nat} {v : Value} {l : List Cd} (h : CsOwn w base v l) : CsLo w base w.heap.size v l := by
  have hb := h.blk
  obtain ⟨us, hus, how, hok, hin⟩ := h
  exact ⟨us, hus, how, fun k hk => (hb k hk).2, hok, fun i h h' => (hin i h h').imp fun k hk => hk.2⟩
theorem CsLo.keep {w w' : World} {base top : Nat} {v : Value} {l : List Cd} (h : CsLo w base top v l) (hb : Below w.heap.size w w') : CsLo w' base top v l := by
  obtain ⟨us, hus, how, ht, hok, hin⟩ := h
  exact ⟨us, hus, owns_keep how hb, ht, hok, fun i h h' => (hin i h h').keep hb⟩
theorem CsLo.two {w w' : World} {b g base top : Nat} {v : Value} {l : List Cd} (h : CsLo w base top v l) (hs : Two b g w w') (hb : top ≤ b) (hg : top ≤ g) : CsLo w' base top v l := by
  obtain ⟨us, hus, how, ht, hok, hin⟩ := h
  refine ⟨us, hus, ⟨how.1, ?_⟩, ht, hok, fun i h h' => (hin i h h').two hs (fun k hk => by have := hk.2; omega)⟩
  rcases how.2 with h' | ⟨k, cap, cur, h', h1, hk, hr⟩
  · exact .inl h'
  · have hkt := ht k (by rw [h']; rfl)
    exact .inr ⟨k, cap, cur, h', h1, (hs.block k (Array.getElem?_eq_some_iff.1 hk).1 (by omega) (by omega)).trans hk, hr⟩
theorem CsLo.at' {w : World} {base top : Nat} {v : Value} {l : List Cd} (h : CsLo w base top v l) (ht : top ≤ w.heap.size) (hl : l.length ≤ 1759218604390) : CsAt w anyB v l := by
  obtain ⟨us, hus, how, ht2, hok, hin⟩ := h
  have how0 : w.ownsRow 0 34 6 v l.length (ccells l us) := ⟨how.1, how.2.imp id fun ⟨k, cap, cur, h', _, hr⟩ => ⟨k, cap, cur, h', Nat.zero_le _, hr⟩⟩
  have h2 : CsOwn w 0 v l := ⟨us, hus, how0, hok, fun i h h' => (hin i h h').imp fun k hk => ⟨Nat.zero_le _, hk.1, Nat.lt_of_lt_of_le hk.2 ht⟩⟩
  exact (h2.at' hl).any
theorem CsLo.field {w : World} {base top : Nat} {a : Option Addr} {n c : Nat} {l : List Cd} (h : CsLo w base top (.slice a n c) l) (hn : n = l.length) (i : Nat) (hi : i < l.length) :
    ∃ g, a = some ⟨g, 0, none⟩ ∧ base ≤ g ∧ g < top ∧ w.cell? ⟨g, i * 6, none⟩ = some (.string l[i].field) := by
  subst hn
  obtain ⟨us, hus, how, ht, hok, hin⟩ := h
  obtain ⟨g, c', he, hb, hg⟩ := how.form (by omega)
  cases he
  refine ⟨g, rfl, hb, ht g rfl, ?_⟩
  have hc := how.cellAt (i * 6) (by omega)
  rw [hc]
  have := ccells_get l us hus i hi (by omega) 0 (.string l[i].field) rfl
  simpa using this
theorem CsLo.free {w : World} {base top g n c : Nat} {l : List Cd} (h : CsLo w base top (.slice (some ⟨g, 0, none⟩) n c) l) (j : Nat) (hn : n = l.length) : w.frozen? ⟨g, j, none⟩ = false := by
  subst hn
  obtain ⟨us, hus, how, ht, hok, hin⟩ := h
  exact how.frozenAt j
theorem CsLo.setField {w : World} {base top g n c : Nat} {l : List Cd} (h : CsLo w base top (.slice (some ⟨g, 0, none⟩) n c) l) (hn : n = l.length) (i : Nat) (hi : i < l.length) (nm : ByteArray) (hnm : nm.size ≤ 32) :
    CsLo (w.setCell ⟨g, i * 6, none⟩ (.string nm)) base top (.slice (some ⟨g, 0, none⟩) n c) (l.set i { l[i] with field := nm }) := by
  subst hn
  obtain ⟨us, hus, how, ht, hok, hin⟩ := h
  obtain ⟨s1, s2⟩ := how.stored (i * 6) (.string nm)
  rw [ccells_set l us i hi nm hus] at s1
  have hbut : But w (w.setCell ⟨g, i * 6, none⟩ (.string nm)) (some g) := ⟨s2.size, s2.block⟩
  have hl : (l.set i { l[i] with field := nm }).length = l.length := by simp
  refine ⟨us, by simpa using hus, by rw [hl]; exact s1, ht, fun j hj => ?_, fun j hj hj' => ?_⟩
  · by_cases e : i = j
    · subst e
      have k := hok i hi
      rw [List.getElem_set_self]
      exact ⟨by show nm.size ≤ _; omega, k.s1, k.s2, k.it⟩
    · rw [List.getElem_set_ne e]; exact hok j (by simpa using hj)
  · have hi2 := (hin j (by simpa using hj) hj').but hbut (fun k hk => hk.1)
    have e : (l.set i { l[i] with field := nm })[j].item = (l[j]'(by simpa using hj)).item := by
      by_cases e : i = j
      · subst e; rw [List.getElem_set_self]
      · rw [List.getElem_set_ne e]
    rw [e]
    exact hi2
theorem step_plain {ops : Array Oper} {o : Oper} {a : Act} {K : Act → World → Prop} {Q : Exit → Act → World → Prop} {E : Prop} (w : World) (hgd : o.guard = none) (x0 : Operand) (v0 : Value)
    (ho : o.op = .call { callee := .value (.func 5), args := #[x0], argTypes := #[9] }) (hx0 : a.eval x0 = v0)
    (h : Calls Tryz.prog 5 #[v0] w fun e w' => ∃ v, e = .returned v ∧ K (a.put o.dst v) w') :
    if Region.wanted o (yielded ops a.tmps) = true then Oper.wp Tryz.prog o a w K Q else E := by
  have hw : Region.wanted o (yielded ops a.tmps) = true := by simp [Region.wanted, hgd]
  rw [if_pos hw]
  have hrun : (execOp a.eval o).run Tryz.prog w = .ok (.enter 5 #[v0]) w := by
    have he : execOp a.eval o = callFunc 5 #[v0] := by
      obtain ⟨dst, op, ty, pos, after, guard⟩ := o
      simp only [] at ho
      subst ho
      have hy : execOp a.eval { dst := dst, op := .call { callee := .value (.func 5), args := #[x0], argTypes := #[9] }, type := ty, pos := pos, after := after, guard := guard } = callFunc 5 (#[] ++ #[x0].map a.eval ++ #[]) := rfl
      rw [hy]
      simp [hx0]
    rw [he]
    simp [callFunc, go_sem, Tryz.func5, Tryz.f5]
  unfold Oper.wp
  rw [hrun]
  refine h.mono ?_
  rintro e w' ⟨v, rfl, hk⟩
  exact hk
/-- What is said of the query's conditions while their fields are set anew. -/
structure FldS (l : List Cd) (I : Nat) : Prop where
  c : ∀ d ∈ l, isNameD d.field = true ∧ 1 ≤ d.sign ∧ d.sign ≤ 5 ∧ Deep 4 d.item
  s : ∀ j (h : j < l.length), j < I → smallN l[j].field
theorem FldS.step {l : List Cd} {I : Nat} (h : FldS l I) (hi : I < l.length) (nm : ByteArray) (h1 : isNameD nm = true) (h2 : smallN nm) : FldS (l.set I { l[I] with field := nm }) (I + 1) := by
  refine ⟨fun d hd => ?_, fun j hj hj2 => ?_⟩
  · rcases List.mem_or_eq_of_mem_set hd with h3 | h3
    · exact h.c d h3
    · subst h3
      have := h.c l[I] (List.getElem_mem hi)
      exact ⟨h1, this.2⟩
  · by_cases e : I = j
    · subst e; rw [List.getElem_set_self]; exact h2
    · rw [List.getElem_set_ne e]
      exact h.s j (by simpa using hj) (by omega)
theorem FldS.small {l : List Cd} {n : Nat} (h : FldS l n) (hn : l.length = n) : ∀ c ∈ l, smallN c.field := by
  intro c hc
  obtain ⟨j, hj, rfl⟩ := List.mem_iff_getElem.1 hc
  exact h.s j hj (by omega)
end Go.Proofs.YtageokjobbjddaaGreatDoor

namespace Go.Proofs.YtageokjobbjddaaGreatDoor
open Go.RowKit

/-! The law QueryBlanks. -/
theorem parD_long (s : ByteArray) (h : 65536 < s.size) : parD s = none ∧ parF s = 3 := by
  unfold parD parF
  rw [if_pos h, if_pos h]
  exact ⟨rfl, rfl⟩
theorem small_empty : smallN ⟨#[]⟩ := fun c hc => by cases hc
/-- What the text with more blanks is read as. -/
theorem blanks_read {q : Qd} (h : TidyQ q) (hn : QNums q) (hs : SmallQ q) {m : List UInt8} (hm : Bs false (printT q).data.toList m) (hl : ¬ 65536 < (⟨(32 :: (m ++ [32])).toArray⟩ : ByteArray).size) : parD ⟨(32 :: (m ++ [32])).toArray⟩ = some q := by
  have e : printT q = ⟨(textL q).toArray⟩ := by unfold printT; rw [if_pos (h.print hn).1]
  rw [e, ba_list'] at hm
  refine parse_back q h.fault _ ?_ (by omega)
  rw [ba_list']
  exact toks_blanks q (qfine_of h.fault hn) hs m hm
theorem blanks_wf {q : Qd} (h : TidyQ q) (hn : QNums q) (hs : SmallQ q) : ∃ m, Bs false (printT q).data.toList m := by
  have e : printT q = ⟨(textL q).toArray⟩ := by unfold printT; rw [if_pos (h.print hn).1]
  rw [e, ba_list']
  exact ⟨_, (txt_query q (qfine_of h.fault hn) hs).wf⟩
set_option maxHeartbeats 8000000 in
set_option maxRecDepth 100000 in
theorem lblanks_any (A : Nat → Addr) (q : Qd) (cv lv : Value) (l : List Int) (w : World) (hc : CsAt w anyB cv q.cs) (hl : InsAt w lv l) (ht : q.table.size ≤ 140737488355328) (ho : q.order.size ≤ 140737488355328) (hm2 : q.limit ≤ 9223372036854775807) (hv : LEnv A w) (hE : ErrsAt 13 gAll A w) :
    Calls Tryz.prog 3 #[.agg #[.string q.table, cv, .string q.order, .bool q.falling, .int .i64 q.limit, lv]] w fun e w' => e = .returned (.bool true) ∧ Below w.heap.size w w' := by
  obtain ⟨ca, cc, hcv⟩ := hc.form
  subst hcv
  obtain ⟨ia, ic, hlv⟩ := hl.form
  subst hlv
  have HTI := hide (fun W (hW : Below w.heap.size w W) => tidy_any q (.slice ca q.cs.length cc) W (hc.keep hW) ht ho hm2)
  have HV := hide hv
  have HL := hide hl
  have HE13 := hide hE
  obtain ⟨qt, qc, qo, qf, ql⟩ := q
  simp only [qV] at HTI ⊢
  have q0 := below_new w (.cells #[.string qt, .slice ca qc.length cc, .string qo, .bool qf, .int .i64 ql, .slice ia l.length ic] 27)
  have x0 := RowAt.new w #[.string qt, .slice ca qc.length cc, .string qo, .bool qf, .int .i64 ql, .slice ia l.length ic] 27
  obtain ⟨b0, b1, b2, b3, b4, b5⟩ := x0.q6
  obtain ⟨W0, hW0⟩ : ∃ W0, w.alloc (.cells #[.string qt, .slice ca qc.length cc, .string qo, .bool qf, .int .i64 ql, .slice ia l.length ic] 27) = W0 := ⟨_, rfl⟩
  have HW := hide hW0
  have hs0 : W0.heap.size = w.heap.size + 1 := by rw [← hW0]; simp
  rw [hW0] at q0 x0
  have HX0 := hide x0
  have HT0 := hide (HTI.out W0 q0)
  have HB0 := hide q0
  clear hc hl ht ho hm2 hv hE q0 x0 hW0 HTI
  go_enter Tryz.func3, Tryz.ntmps3
  go_wp2_with fail
  rw [HW.out]
  refine HT0.out.mono ?_
  rintro e W1 ⟨p, la, k, rfl, hty, hCS, hb1⟩
  have hs1 := hb1.size
  have HTY := hide hty
  have y1 := RowAt.new W1 #[.string ⟨#[]⟩, .slice none 0 0, .string ⟨#[]⟩, .bool false, .int .i64 0] 24
  have HST := hide (store_q _ W1.heap.size _ _ _ _ _ p la p.cs.length k y1)
  obtain ⟨V, hV⟩ : ∃ V, (W1.alloc (.cells #[.string ⟨#[]⟩, .slice none 0 0, .string ⟨#[]⟩, .bool false, .int .i64 0] 24)).setRow W1.heap.size (qV p (.slice la p.cs.length k)) = V := ⟨_, rfl⟩
  have hB : Below W1.heap.size W1 V := by rw [← hV]; exact below_setRow (below_new W1 _) (Nat.le_refl _) _
  have yV : RowAt V W1.heap.size (qV p (.slice la p.cs.length k)) 24 := by rw [← hV]; exact row_set _ _ _ _ _ y1
  rw [hV] at HST
  have HBV := hide (hb1.trans (hB.mono hs1))
  have HCV := hide ((CsLo.of hCS).keep hB)
  have HYV := hide yV
  have HPT := hide (fun W => plainof_any p.table W (by have := nm_size hty.t; omega))
  have hos : p.order.size ≤ 140737488355328 := by
    rcases hty.o with h | h
    · rw [h]; show 0 ≤ _; omega
    · have := nm_size h; omega
  have HPO := hide (fun W => plainof_any p.order W hos)
  have HF0 : Hid (FldS p.cs 0) := ⟨hty.c, fun j _ h => by omega⟩
  have hn2 : p.cs.length ≤ 2 := hty.n
  obtain ⟨pt, pc, po, pf, pl⟩ := p
  simp only [qV] at HST HYV HPT HPO HCV HF0 hn2
  obtain ⟨d0, d1, d2, d3, d4⟩ := HYV.out.q5
  clear HT0 hty hCS hb1 hos y1 hV hB yV b0 b1 b2 b3 b4 b5
  go_wp2_with (first
    | (refine wpList_store_eq rfl 24 _ _ rfl _ _ rfl rfl HST.out ?_))
  refine (HPT.out _).mono ?_
  rintro e W2 ⟨nt, rfl, hnt, hst, hb2⟩
  have yW := HYV.out.below hb2
  have HYW := hide (q_set0 yW (.string nt))
  have HCW := hide ((HCV.out.keep hb2).two (Two.cell1 W1.heap.size 0 W2 (.string nt)) (Nat.le_refl _) (Nat.le_refl _))
  have HBW := hide ((Below.next HBV.out hb2).setCell (p := ⟨W1.heap.size, 0, none⟩) hs1 (.string nt))
  have HNT := hide hnt
  have HNS := hide hst
  clear d0 d1 d2 d3 d4
  obtain ⟨d0, d1, d2, d3, d4⟩ := yW.q5
  have df0 := yW.free 0
  clear HST HYV HCV HBV hnt hst hb2 yW HPT
  go_wp2_with fail
  clear d0 d1 d2 d3 d4 df0
  go_loopw [4] (fun iv wr => ∃ (I : Nat) (cs : List Cd), iv = .int .i64 (I : Int) ∧ I ≤ pc.length ∧ Hid (pc.length = cs.length) ∧ Hid (FldS cs I) ∧ Hid (CsLo wr W0.heap.size W1.heap.size (.slice la pc.length k) cs) ∧ Hid (RowAt wr W1.heap.size #[.string nt, .slice la pc.length k, .string po, .bool pf, .int .i64 pl] 24) ∧ Hid (Below W0.heap.size W0 wr)) (fun iv _ => pc.length - (intOf iv).toNat)
  case atStart => exact ⟨0, pc, rfl, Nat.zero_le _, rfl, HF0.out, HCW.out, HYW.out, HBW.out⟩
  case round =>
    obtain ⟨I, cs, rfl, hI, hlen, hfs, hown, hrow, hbl⟩ := hrel
    by_cases hlt : I < pc.length
    · have j1 : (I : Int) < (pc.length : Int) := by omega
      have j0 : (0 : Int) ≤ (I : Int) := by omega
      have hI2 : I < cs.length := by have := hlen.out; omega
      obtain ⟨g, rfl, hgB, hgt, hcell⟩ := hown.out.field hlen.out I hI2
      have hne : g ≠ W1.heap.size := by omega
      have hne2 : W1.heap.size ≠ g := Ne.symm hne
      have hfit := (hfs.out.c cs[I] (List.getElem_mem hI2)).1
      generalize hz : cs[I].field = f at hcell hfit
      have HPL := hide (fun W => plainof_any f W (by have := nm_size hfit; omega))
      obtain ⟨d0, d1, d2, d3, d4⟩ := hrow.out.q5
      have HCELL := hide hcell
      have HD1 := hide d1
      clear hz hfit
      go_upto_region 6 with fail
      clear d0 d2 d3 d4
      have HT0 : Hid ((fun w' : World => w'.cell? ⟨W1.heap.size, 1, none⟩ = some (.slice (some ⟨g, 0, none⟩) pc.length k) ∧ w'.cell? ⟨g, I * 6, none⟩ = some (.string f)) wr.drew) := ⟨HD1.out, HCELL.out⟩
      refine AnyD.region (fun w' => w'.cell? ⟨W1.heap.size, 1, none⟩ = some (.slice (some ⟨g, 0, none⟩) pc.length k) ∧ w'.cell? ⟨g, I * 6, none⟩ = some (.string f)) (fun j => j != 12) (by kernel_rfl) ?_
      refine AnyD.taked (i := 0) (d := 27) (v := .pointer (some ⟨W1.heap.size, 1, none⟩)) rfl rfl (by kernel_rfl) (by kernel_rfl) (by kernel_rfl) rfl (by kernel_rfl) (fun _ _ _ h => h) (Or.inl ⟨by rfl, ?_⟩) HT0.out ?_
      · intro w' hw'
        obtain ⟨t0, t1⟩ := hw'
        go_simp
      try simp only [Act.put, List.setIfInBounds_toArray, List.set_cons_zero, List.set_cons_succ]
      refine AnyD.taked (i := 1) (d := 28) (v := .slice (some ⟨g, 0, none⟩) pc.length k) rfl rfl (by kernel_rfl) (by kernel_rfl) (by kernel_rfl) rfl (by kernel_rfl) (fun _ _ _ h => h) (Or.inl ⟨by rfl, ?_⟩) HT0.out ?_
      · intro w' hw'
        obtain ⟨t0, t1⟩ := hw'
        go_simp
      try simp only [Act.put, List.setIfInBounds_toArray, List.set_cons_zero, List.set_cons_succ]
      refine AnyD.taked (i := 2) (d := 29) (v := .int .i64 (I : Int)) rfl rfl (by kernel_rfl) (by kernel_rfl) (by kernel_rfl) rfl (by kernel_rfl) (fun _ _ _ h => h) (Or.inl ⟨by rfl, ?_⟩) HT0.out ?_
      · intro w' hw'
        obtain ⟨t0, t1⟩ := hw'
        go_simp
      try simp only [Act.put, List.setIfInBounds_toArray, List.set_cons_zero, List.set_cons_succ]
      refine AnyD.taked (i := 3) (d := 30) (v := .pointer (some ⟨W1.heap.size, 1, none⟩)) rfl rfl (by kernel_rfl) (by kernel_rfl) (by kernel_rfl) rfl (by kernel_rfl) (fun _ _ _ h => h) (Or.inl ⟨by rfl, ?_⟩) HT0.out ?_
      · intro w' hw'
        obtain ⟨t0, t1⟩ := hw'
        go_simp
      try simp only [Act.put, List.setIfInBounds_toArray, List.set_cons_zero, List.set_cons_succ]
      refine AnyD.taked (i := 4) (d := 31) (v := .slice (some ⟨g, 0, none⟩) pc.length k) rfl rfl (by kernel_rfl) (by kernel_rfl) (by kernel_rfl) rfl (by kernel_rfl) (fun _ _ _ h => h) (Or.inl ⟨by rfl, ?_⟩) HT0.out ?_
      · intro w' hw'
        obtain ⟨t0, t1⟩ := hw'
        go_simp
      try simp only [Act.put, List.setIfInBounds_toArray, List.set_cons_zero, List.set_cons_succ]
      refine AnyD.taked (i := 5) (d := 32) (v := .int .i64 (I : Int)) rfl rfl (by kernel_rfl) (by kernel_rfl) (by kernel_rfl) rfl (by kernel_rfl) (fun _ _ _ h => h) (Or.inl ⟨by rfl, ?_⟩) HT0.out ?_
      · intro w' hw'
        obtain ⟨t0, t1⟩ := hw'
        go_simp
      try simp only [Act.put, List.setIfInBounds_toArray, List.set_cons_zero, List.set_cons_succ]
      refine AnyD.taked (i := 6) (d := 33) (v := .pointer (some ⟨g, I * 6, none⟩)) rfl rfl (by kernel_rfl) (by kernel_rfl) (by kernel_rfl) rfl (by kernel_rfl) (fun _ _ _ h => h) (Or.inl ⟨by rfl, ?_⟩) HT0.out ?_
      · intro w' hw'
        obtain ⟨t0, t1⟩ := hw'
        go_simp
      try simp only [Act.put, List.setIfInBounds_toArray, List.set_cons_zero, List.set_cons_succ]
      refine AnyD.taked (i := 7) (d := 34) (v := .pointer (some ⟨g, I * 6, none⟩)) rfl rfl (by kernel_rfl) (by kernel_rfl) (by kernel_rfl) rfl (by kernel_rfl) (fun _ _ _ h => h) (Or.inl ⟨by rfl, ?_⟩) HT0.out ?_
      · intro w' hw'
        obtain ⟨t0, t1⟩ := hw'
        go_simp
      try simp only [Act.put, List.setIfInBounds_toArray, List.set_cons_zero, List.set_cons_succ]
      refine AnyD.taked (i := 8) (d := 35) (v := .string f) rfl rfl (by kernel_rfl) (by kernel_rfl) (by kernel_rfl) rfl (by kernel_rfl) (fun _ _ _ h => h) (Or.inl ⟨by rfl, ?_⟩) HT0.out ?_
      · intro w' hw'
        obtain ⟨t0, t1⟩ := hw'
        go_simp
      try simp only [Act.put, List.setIfInBounds_toArray, List.set_cons_zero, List.set_cons_succ]
      refine AnyD.one (i := 9) (by kernel_rfl) (wpOp_of rfl fun K hK => ?_)
      refine step_plain _ rfl (.tmp 35) (.string f) rfl rfl ?_
      refine (HPL.out _).mono ?_
      rintro e w6 ⟨nm, rfl, hnm, hsm, hb6⟩
      have hbX : Below wr.heap.size wr w6 := ⟨hb6.os, hb6.tape, hb6.output, hb6.size, hb6.block⟩
      have HNM := hide hnm
      have HSM := hide hsm
      have HB6 := hide hbX
      have HT6 : Hid (w6.cell? ⟨W1.heap.size, 1, none⟩ = some (.slice (some ⟨g, 0, none⟩) pc.length k) ∧ w6.cell? ⟨g, I * 6, none⟩ = some (.string f)) := ⟨cell_below hbX HD1.out, cell_below hbX HCELL.out⟩
      refine ⟨_, rfl, hK (Act.put _ (some 36) (.string nm)) _ ⟨fun _ => HT6.out, ?_⟩⟩
      clear hK K hnm hsm hb6 hbX d1 hcell
      try simp only [Act.put, List.setIfInBounds_toArray, List.set_cons_zero, List.set_cons_succ]
      refine AnyD.one (i := 10) (by kernel_rfl) (wpOp_of rfl fun K hK => ?_)
      go_simp
      refine hK _ _ ⟨fun _ => HT6.out, ?_⟩
      clear hK K
      try simp only [Act.put, List.setIfInBounds_toArray, List.set_cons_zero, List.set_cons_succ]
      refine AnyD.one (i := 11) (by kernel_rfl) (wpOp_of rfl fun K hK => ?_)
      go_simp
      refine hK _ _ ⟨fun _ => HT6.out, ?_⟩
      clear hK K
      try simp only [Act.put, List.setIfInBounds_toArray, List.set_cons_zero, List.set_cons_succ]
      have pc6 := HT6.out.2
      have pf6 := (hown.out.keep HB6.out).free (I * 6) hlen.out
      refine AnyD.one (i := 12) (by kernel_rfl) (wpOp_of rfl fun K hK => ?_)
      go_simp
      refine hK _ _ ⟨(fun h => by cases h), ?_⟩
      clear hK K
      try simp only [Act.put, List.setIfInBounds_toArray, List.set_cons_zero, List.set_cons_succ]
      refine AnyD.done (by kernel_rfl) ?_ _
      have HF6 := hide (hfs.out.step hI2 nm HNM.out HSM.out)
      have HC6 := hide ((hown.out.keep HB6.out).setField hlen.out I hI2 nm (nm_size HNM.out))
      have HR6 := hide ((hrow.out.below HB6.out).other (g := g) (j := I * 6) hne2 (.string nm))
      have HBL := hide ((Below.next hbl.out HB6.out).setCell (p := ⟨g, I * 6, none⟩) hgB (.string nm))
      clear pc6 pf6 HPL HT0 HT6
      go_wp2
      go_roundw
      case rel => exact ⟨I + 1, _, by go_num, by omega, by rw [List.length_set]; exact hlen, HF6, HC6, HR6, HBL⟩
      case measure => simp [intOf]; omega
    · have j1 : ¬ (I : Int) < (pc.length : Int) := by omega
      have hIn : I = pc.length := by omega
      subst hIn
      have HTQ : Hid (∀ no : ByteArray, (no = ⟨#[]⟩ ∧ po = ⟨#[]⟩) ∨ isNameD no = true → TidyQ ⟨nt, cs, no, pf, pl⟩) := fun no h => by
        have hty := HTY.out
        refine ⟨HNT.out, by show cs.length ≤ 2; have := hlen.out; omega, hfs.out.c, ?_, ?_, hty.m1, hty.m2⟩
        · rcases h with ⟨h, _⟩ | h
          · exact .inl h
          · exact .inr h
        · intro hf
          rcases h with ⟨h, h2⟩ | h
          · exact absurd h2 (hty.f hf)
          · intro e
            have e : no = ⟨#[]⟩ := e
            rw [e] at h; revert h; decide
      have HSQ : Hid (∀ no : ByteArray, smallN no → SmallQ ⟨nt, cs, no, pf, pl⟩) := fun no h => ⟨HNS.out, hfs.out.small hlen.out.symm, h⟩
      have HOW := hide hown.out
      have HRW := hide hrow.out
      have HBL := hide hbl.out
      have HLN := hide hlen.out
      obtain ⟨d0, d1, d2, d3, d4⟩ := hrow.out.q5
      have df2 := hrow.out.free 2
      clear hown hrow hbl hfs hlen HTY hlt hI
      by_cases hoe : po = ⟨#[]⟩
      · have hie : po.toList.isEmpty = true := by rw [hoe, ByteArray.toList_eq]; rfl
        have hty := HTQ.out po (.inl ⟨hoe, hoe⟩)
        have hsq := HSQ.out po (by rw [hoe]; exact small_empty)
        have hCX := HOW.out.at' (by have := HRW.out.lt; omega) (by have := HLN.out; omega)
        have hRX := HRW.out
        have hBX := HBL.out
        clear hoe HTQ HSQ HOW HRW HBL d0 d1 d2 d3 d4 df2
        have hnums : QNums (⟨nt, cs, po, pf, pl⟩ : Qd) := ⟨hCX.nums, hty.m2⟩
        have hpr := hty.print hnums
        have hos : (po : ByteArray).size ≤ 140737488355328 := by
          rcases hty.o with h | h
          · have h : po = ⟨#[]⟩ := h
            rw [h]; show 0 ≤ _; omega
          · have h : isNameD po = true := h
            have := nm_size h; omega
        have HVX := hide (HV.out.keep (Below.next HB0.out hBX))
        have HPR := hide (pprint_any A (⟨nt, cs, po, pf, pl⟩ : Qd) (.slice la pc.length k) wr hCX HVX.out.errs hty.cnt (by have := nm_size HNT.out; show nt.size ≤ _; omega) hos hty.m2 HVX.out.pow)
        rw [hpr.1] at HPR
        have HWF := hide (blanks_wf hty hnums hsq)
        have HRD := hide (fun m hm hl => blanks_read hty hnums hsq (m := m) hm hl)
        have hps := hpr.2
        have HSM := hide (fun W va vb h1 h2 => sameQ_same (⟨nt, cs, po, pf, pl⟩ : Qd) va vb W h1 h2)
        have HCX := hide hCX
        have HRX := hide hRX
        have HBX := hide hBX
        have HXX := hide (HX0.out.below hBX)
        have HLX := hide (HL.out.keep (Below.next HB0.out hBX))
        have HEX := hide (HE13.out.keep (Below.next HB0.out hBX))
        clear hpr
        generalize printT (⟨nt, cs, po, pf, pl⟩ : Qd) = s at HPR HWF HRD hps
        simp only [qV] at HPR HSM
        have e0 : errQ A 0 = .nilIface := rfl
        rw [e0] at HPR
        clear hCX hRX hBX hty hsq hnums hos e0
        obtain ⟨d0, d1, d2, d3, d4⟩ := HRX.out.q5
        go_wp2_with fail
        refine HPR.out.mono ?_
        rintro e X2 ⟨rfl, hb2⟩
        have HB2 := hide hb2
        have HFI := hide (first_any A X2 (HVX.out.keep hb2))
        clear HPR hb2 d0 d1 d2 d3 d4
        go_wp2_with fail
        refine HFI.out.mono ?_
        rintro e X3 ⟨rfl, hb3⟩
        have hb23 := Below.next HB2.out hb3
        have HB3 := hide hb23
        obtain ⟨_, _, _, _, _, c5⟩ := (HXX.out.below hb23).q6
        have HBK := hide (blanks_any s (.slice ia l.length ic) l X3 (by omega) (HLX.out.keep hb23) HWF.out)
        clear HFI hb3 hb23
        go_wp2_with fail
        refine HBK.out.mono ?_
        rintro e X4 ⟨m, rfl, hm, hml, hb4⟩
        have HR4 := hide (HRD.out m hm)
        have hts : (⟨(32 :: (m ++ [32])).toArray⟩ : ByteArray).size = m.length + 2 := by rw [ba_size]; simp
        generalize (⟨(32 :: (m ++ [32])).toArray⟩ : ByteArray) = t at HR4 hts ⊢
        have hb34 := Below.next HB3.out hb4
        have HB4 := hide hb34
        have HV4 := hide (HVX.out.keep hb34)
        have HPA := hide (pparse_any A t X4 HV4.out.errs HV4.out.tok (by omega))
        clear HBK hm hb4 hb34 HRD c5
        go_wp2_with fail
        refine HPA.out.mono ?_
        rintro e X5 ⟨hpr, hb5⟩
        have hb45 := Below.next HB4.out hb5
        have y5 := RowAt.new X5 #[.string ⟨#[]⟩, .slice none 0 0, .string ⟨#[]⟩, .bool false, .int .i64 0] 24
        clear HPA
        by_cases hl : 65536 < t.size
        · obtain ⟨e1, e2⟩ := parD_long t hl
          rw [e1, e2] at hpr
          obtain rfl : e = .returned (.tuple #[.agg (qV qd0 (.slice none 0 0)), errQ A 3]) := hpr
          have HST := hide (store_q _ X5.heap.size _ _ _ _ _ qd0 none 0 0 y5)
          obtain ⟨V5, hV5⟩ : ∃ V5, (X5.alloc (.cells #[.string ⟨#[]⟩, .slice none 0 0, .string ⟨#[]⟩, .bool false, .int .i64 0] 24)).setRow X5.heap.size (qV qd0 (.slice none 0 0)) = V5 := ⟨_, rfl⟩
          have hB5 : Below X5.heap.size X5 V5 := by rw [← hV5]; exact below_setRow (below_new X5 _) (Nat.le_refl _) _
          have yV5 : RowAt V5 X5.heap.size (qV qd0 (.slice none 0 0)) 24 := by rw [← hV5]; exact row_set _ _ _ _ _ y5
          rw [hV5] at HST
          have hb6 := Below.next hb45 hB5
          have HB6 := hide hb6
          have HSQ2 := hide (sameQ_same qd0 (.slice none 0 0) (.slice none 0 0) V5 (cs_nil _ _ _ _) (cs_nil _ _ _ _))
          have HNM := hide (fun W (hW : Below V5.heap.size V5 W) => num_errQ A W (HEX.out.keep (Below.next HB6.out hW)) 3 (by simp))
          simp only [qV] at HST HSQ2 yV5
          obtain ⟨d0, d1, d2, d3, d4⟩ := yV5.q5
          have e3 : errQ A 3 = .iface 166 (.pointer (some (A 2))) := rfl
          rw [e3] at HNM ⊢
          have hlI : (65536 : Int) < (t.size : Int) := by omega
          clear hb5 hb45 y5 hV5 hB5 yV5 hb6 e1 e2 e3 hl hts HR4
          go_wp2_with (first
            | (refine wpList_store_eq rfl 24 _ _ rfl _ _ rfl rfl HST.out ?_))
          refine HSQ2.out.mono ?_
          rintro e X6 ⟨rfl, hb7⟩
          have HNM6 := hide (HNM.out X6 hb7)
          have HEND := hide (Below.next HB6.out hb7)
          clear HSQ2 HNM hb7 HST d0 d1 d2 d3 d4
          go_wp2_with fail
          refine HNM6.out.mono ?_
          rintro e X7 ⟨rfl, rfl⟩
          clear HNM6
          go_wp2_with fail
          go_ret
          exact ⟨rfl, Below.next (Below.next HB0.out HBX.out) HEND.out⟩
        · rw [HR4.out hl] at hpr
          obtain ⟨la4, k4, rfl, hC4⟩ := hpr
          have HST := hide (store_q _ X5.heap.size _ _ _ _ _ (⟨nt, cs, po, pf, pl⟩ : Qd) la4 cs.length k4 y5)
          obtain ⟨V5, hV5⟩ : ∃ V5, (X5.alloc (.cells #[.string ⟨#[]⟩, .slice none 0 0, .string ⟨#[]⟩, .bool false, .int .i64 0] 24)).setRow X5.heap.size (qV (⟨nt, cs, po, pf, pl⟩ : Qd) (.slice la4 cs.length k4)) = V5 := ⟨_, rfl⟩
          have hB5 : Below X5.heap.size X5 V5 := by rw [← hV5]; exact below_setRow (below_new X5 _) (Nat.le_refl _) _
          have yV5 : RowAt V5 X5.heap.size (qV (⟨nt, cs, po, pf, pl⟩ : Qd) (.slice la4 cs.length k4)) 24 := by rw [← hV5]; exact row_set _ _ _ _ _ y5
          rw [hV5] at HST
          have hb6 := Below.next hb45 hB5
          have HB6 := hide hb6
          have HSM5 := hide (HSM.out V5 (.slice la pc.length k) (.slice la4 cs.length k4) (HCX.out.keep hb6) (hC4.keep hB5).any)
          simp only [qV] at HST yV5
          obtain ⟨d0, d1, d2, d3, d4⟩ := (HRX.out.below hb6).q5
          obtain ⟨f0, f1, f2, f3, f4⟩ := yV5.q5
          have hlI : ¬ (65536 : Int) < (t.size : Int) := by omega
          clear hb5 hb45 y5 hV5 hB5 yV5 hb6 hl hts HR4 hC4 HSM
          go_wp2_with (first
            | (refine wpList_store_eq rfl 24 _ _ rfl _ _ rfl rfl HST.out ?_))
          refine HSM5.out.mono ?_
          rintro e X6 ⟨rfl, hb7⟩
          have HEND := hide (Below.next HB6.out hb7)
          clear HSM5 hb7 HST d0 d1 d2 d3 d4 f0 f1 f2 f3 f4
          go_wp2_with fail
          go_ret
          exact ⟨rfl, Below.next (Below.next HB0.out HBX.out) HEND.out⟩
      · have hie : po.toList.isEmpty = false := (ne_nil hoe).2
        go_wp2_with fail
        refine (HPO.out _).mono ?_
        rintro e W3 ⟨no, rfl, hno, hns, hb3⟩
        have hty := HTQ.out no (.inr hno)
        have hsq := HSQ.out no hns
        have yW3 := HRW.out.below hb3
        have hRX := q_set2 yW3 (.string no)
        have hBX := (Below.next HBL.out hb3).setCell (p := ⟨W1.heap.size, 2, none⟩) hs1 (.string no)
        have hCX := ((HOW.out.keep hb3).two (Two.cell1 W1.heap.size 2 W3 (.string no)) (Nat.le_refl _) (Nat.le_refl _)).at' (by have := yW3.lt; simp; omega) (by have := HLN.out; omega)
        have d2 := yW3.q5.2.2.1
        have df2 := yW3.free 2
        have hX : ∃ X, W3.setCell ⟨W1.heap.size, 2, none⟩ (.string no) = X := ⟨_, rfl⟩
        clear hoe HTQ HSQ HOW HRW HBL hno hns hb3 yW3
        have hnums : QNums (⟨nt, cs, no, pf, pl⟩ : Qd) := ⟨hCX.nums, hty.m2⟩
        have hpr := hty.print hnums
        have hos : (no : ByteArray).size ≤ 140737488355328 := by
          rcases hty.o with h | h
          · have h : no = ⟨#[]⟩ := h
            rw [h]; show 0 ≤ _; omega
          · have h : isNameD no = true := h
            have := nm_size h; omega
        have HVX := hide (HV.out.keep (Below.next HB0.out hBX))
        have HPR := hide (pprint_any A (⟨nt, cs, no, pf, pl⟩ : Qd) (.slice la pc.length k) (W3.setCell ⟨W1.heap.size, 2, none⟩ (.string no)) hCX HVX.out.errs hty.cnt (by have := nm_size HNT.out; show nt.size ≤ _; omega) hos hty.m2 HVX.out.pow)
        rw [hpr.1] at HPR
        have HWF := hide (blanks_wf hty hnums hsq)
        have HRD := hide (fun m hm hl => blanks_read hty hnums hsq (m := m) hm hl)
        have hps := hpr.2
        have HSM := hide (fun W va vb h1 h2 => sameQ_same (⟨nt, cs, no, pf, pl⟩ : Qd) va vb W h1 h2)
        have HCX := hide hCX
        have HRX := hide hRX
        have HBX := hide hBX
        have HXX := hide (HX0.out.below hBX)
        have HLX := hide (HL.out.keep (Below.next HB0.out hBX))
        have HEX := hide (HE13.out.keep (Below.next HB0.out hBX))
        clear hpr
        generalize printT (⟨nt, cs, no, pf, pl⟩ : Qd) = s at HPR HWF HRD hps
        simp only [qV] at HPR HSM
        have e0 : errQ A 0 = .nilIface := rfl
        rw [e0] at HPR
        clear hCX hRX hBX hty hsq hnums hos e0
        obtain ⟨d0, d1, d2, d3, d4⟩ := HRX.out.q5
        go_wp2_with fail
        refine HPR.out.mono ?_
        rintro e X2 ⟨rfl, hb2⟩
        have HB2 := hide hb2
        have HFI := hide (first_any A X2 (HVX.out.keep hb2))
        clear HPR hb2 d0 d1 d2 d3 d4
        go_wp2_with fail
        refine HFI.out.mono ?_
        rintro e X3 ⟨rfl, hb3⟩
        have hb23 := Below.next HB2.out hb3
        have HB3 := hide hb23
        obtain ⟨_, _, _, _, _, c5⟩ := (HXX.out.below hb23).q6
        have HBK := hide (blanks_any s (.slice ia l.length ic) l X3 (by omega) (HLX.out.keep hb23) HWF.out)
        clear HFI hb3 hb23
        go_wp2_with fail
        refine HBK.out.mono ?_
        rintro e X4 ⟨m, rfl, hm, hml, hb4⟩
        have HR4 := hide (HRD.out m hm)
        have hts : (⟨(32 :: (m ++ [32])).toArray⟩ : ByteArray).size = m.length + 2 := by rw [ba_size]; simp
        generalize (⟨(32 :: (m ++ [32])).toArray⟩ : ByteArray) = t at HR4 hts ⊢
        have hb34 := Below.next HB3.out hb4
        have HB4 := hide hb34
        have HV4 := hide (HVX.out.keep hb34)
        have HPA := hide (pparse_any A t X4 HV4.out.errs HV4.out.tok (by omega))
        clear HBK hm hb4 hb34 HRD c5
        go_wp2_with fail
        refine HPA.out.mono ?_
        rintro e X5 ⟨hpr, hb5⟩
        have hb45 := Below.next HB4.out hb5
        have y5 := RowAt.new X5 #[.string ⟨#[]⟩, .slice none 0 0, .string ⟨#[]⟩, .bool false, .int .i64 0] 24
        clear HPA
        by_cases hl : 65536 < t.size
        · obtain ⟨e1, e2⟩ := parD_long t hl
          rw [e1, e2] at hpr
          obtain rfl : e = .returned (.tuple #[.agg (qV qd0 (.slice none 0 0)), errQ A 3]) := hpr
          have HST := hide (store_q _ X5.heap.size _ _ _ _ _ qd0 none 0 0 y5)
          obtain ⟨V5, hV5⟩ : ∃ V5, (X5.alloc (.cells #[.string ⟨#[]⟩, .slice none 0 0, .string ⟨#[]⟩, .bool false, .int .i64 0] 24)).setRow X5.heap.size (qV qd0 (.slice none 0 0)) = V5 := ⟨_, rfl⟩
          have hB5 : Below X5.heap.size X5 V5 := by rw [← hV5]; exact below_setRow (below_new X5 _) (Nat.le_refl _) _
          have yV5 : RowAt V5 X5.heap.size (qV qd0 (.slice none 0 0)) 24 := by rw [← hV5]; exact row_set _ _ _ _ _ y5
          rw [hV5] at HST
          have hb6 := Below.next hb45 hB5
          have HB6 := hide hb6
          have HSQ2 := hide (sameQ_same qd0 (.slice none 0 0) (.slice none 0 0) V5 (cs_nil _ _ _ _) (cs_nil _ _ _ _))
          have HNM := hide (fun W (hW : Below V5.heap.size V5 W) => num_errQ A W (HEX.out.keep (Below.next HB6.out hW)) 3 (by simp))
          simp only [qV] at HST HSQ2 yV5
          obtain ⟨d0, d1, d2, d3, d4⟩ := yV5.q5
          have e3 : errQ A 3 = .iface 166 (.pointer (some (A 2))) := rfl
          rw [e3] at HNM ⊢
          have hlI : (65536 : Int) < (t.size : Int) := by omega
          clear hb5 hb45 y5 hV5 hB5 yV5 hb6 e1 e2 e3 hl hts HR4
          go_wp2_with (first
            | (refine wpList_store_eq rfl 24 _ _ rfl _ _ rfl rfl HST.out ?_))
          refine HSQ2.out.mono ?_
          rintro e X6 ⟨rfl, hb7⟩
          have HNM6 := hide (HNM.out X6 hb7)
          have HEND := hide (Below.next HB6.out hb7)
          clear HSQ2 HNM hb7 HST d0 d1 d2 d3 d4
          go_wp2_with fail
          refine HNM6.out.mono ?_
          rintro e X7 ⟨rfl, rfl⟩
          clear HNM6
          go_wp2_with fail
          go_ret
          exact ⟨rfl, Below.next (Below.next HB0.out HBX.out) HEND.out⟩
        · rw [HR4.out hl] at hpr
          obtain ⟨la4, k4, rfl, hC4⟩ := hpr
          have HST := hide (store_q _ X5.heap.size _ _ _ _ _ (⟨nt, cs, no, pf, pl⟩ : Qd) la4 cs.length k4 y5)
          obtain ⟨V5, hV5⟩ : ∃ V5, (X5.alloc (.cells #[.string ⟨#[]⟩, .slice none 0 0, .string ⟨#[]⟩, .bool false, .int .i64 0] 24)).setRow X5.heap.size (qV (⟨nt, cs, no, pf, pl⟩ : Qd) (.slice la4 cs.length k4)) = V5 := ⟨_, rfl⟩
          have hB5 : Below X5.heap.size X5 V5 := by rw [← hV5]; exact below_setRow (below_new X5 _) (Nat.le_refl _) _
          have yV5 : RowAt V5 X5.heap.size (qV (⟨nt, cs, no, pf, pl⟩ : Qd) (.slice la4 cs.length k4)) 24 := by rw [← hV5]; exact row_set _ _ _ _ _ y5
          rw [hV5] at HST
          have hb6 := Below.next hb45 hB5
          have HB6 := hide hb6
          have HSM5 := hide (HSM.out V5 (.slice la pc.length k) (.slice la4 cs.length k4) (HCX.out.keep hb6) (hC4.keep hB5).any)
          simp only [qV] at HST yV5
          obtain ⟨d0, d1, d2, d3, d4⟩ := (HRX.out.below hb6).q5
          obtain ⟨f0, f1, f2, f3, f4⟩ := yV5.q5
          have hlI : ¬ (65536 : Int) < (t.size : Int) := by omega
          clear hb5 hb45 y5 hV5 hB5 yV5 hb6 hl hts HR4 hC4 HSM
          go_wp2_with (first
            | (refine wpList_store_eq rfl 24 _ _ rfl _ _ rfl rfl HST.out ?_))
          refine HSM5.out.mono ?_
          rintro e X6 ⟨rfl, hb7⟩
          have HEND := hide (Below.next HB6.out hb7)
          clear HSM5 hb7 HST d0 d1 d2 d3 d4 f0 f1 f2 f3 f4
          go_wp2_with fail
          go_ret
          exact ⟨rfl, Below.next (Below.next HB0.out HBX.out) HEND.out⟩
end Go.Proofs.YtageokjobbjddaaGreatDoor
