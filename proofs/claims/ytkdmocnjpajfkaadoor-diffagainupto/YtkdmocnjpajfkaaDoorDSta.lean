import Derived.Test.YtkdmocnjpajfkaaDoorDStep2
namespace Go.Proofs.YtkdmocnjpajfkaaDoor
open Go.RowKit
attribute [local go_sem ↓] Go.wp_at_zero Go.wp_at_succ

def lastB (m : List Pr) (p : Pr) : Bool := match m.getLast? with
  | none => true
  | some q => ltK q.1 p.1
def stepS (m : List Pr) (p : Pr) : List Pr := if lastB m p then m ++ [p] else m
/-- The pairs of which those that do not rise are let go. -/
def stD (l : List Pr) : List Pr := l.foldl stepS []
theorem st_succ (l : List Pr) (k : Nat) (h : k < l.length) : stD (l.take (k + 1)) = stepS (stD (l.take k)) l[k] := by
  unfold stD
  rw [List.take_succ_eq_append_getElem h, List.foldl_append]
  rfl
theorem kr_last {m : List Pr} (h : KR m) {q : Pr} (hq : m.getLast? = some q) : ∀ x ∈ m, x = q ∨ ltK x.1 q.1 = true := by
  obtain ⟨ys, rfl⟩ := List.getLast?_eq_some_iff.1 hq
  intro x hx
  rcases List.mem_append.1 hx with hx | hx
  · exact .inr ((List.pairwise_append.1 h).2.2 x hx q (by simp))
  · exact .inl (by simpa using hx)
theorem step_kr {m : List Pr} (h : KR m) (p : Pr) : KR (stepS m p) := by
  unfold stepS
  split
  · rename_i hb
    refine List.pairwise_append.2 ⟨h, List.pairwise_singleton _ _, fun x hx y hy => ?_⟩
    obtain rfl : y = p := by simpa using hy
    unfold lastB at hb
    cases hg : m.getLast? with
    | none => rw [List.getLast?_eq_none_iff.1 hg] at hx; simp at hx
    | some q =>
      rw [hg] at hb
      rcases kr_last h hg x hx with rfl | hx'
      · exact hb
      · exact ltK_trans hx' hb
  · exact h
theorem fold_ok (l : List Pr) : ∀ m : List Pr, KR m → KR (l.foldl stepS m) ∧ (l.foldl stepS m).length ≤ m.length + l.length ∧ ∀ p ∈ l.foldl stepS m, p ∈ m ∨ p ∈ l := by
  induction l with
  | nil => intro m h; exact ⟨h, by simp, fun p hp => .inl hp⟩
  | cons p l ih =>
    intro m h
    obtain ⟨h1, h2, h3⟩ := ih (stepS m p) (step_kr h p)
    have hl : (stepS m p).length ≤ m.length + 1 := by unfold stepS; split <;> simp
    refine ⟨h1, ?_, fun x hx => ?_⟩
    · simp only [List.foldl_cons, List.length_cons]; omega
    · rcases h3 x hx with h | h
      · unfold stepS at h
        split at h
        · rcases List.mem_append.1 h with h | h
          · exact .inl h
          · exact .inr (by simp at h; simp [h])
        · exact .inl h
      · exact .inr (by simp [h])
theorem st_kr (l : List Pr) : KR (stD l) := (fold_ok l [] List.Pairwise.nil).1
theorem st_len (l : List Pr) : (stD l).length ≤ l.length := by have := (fold_ok l [] List.Pairwise.nil).2.1; rw [List.length_nil, Nat.zero_add] at this; exact this
theorem st_okl {l : List Pr} (h : OkL l) : OkL (stD l) := fun p hp => by
  rcases (fold_ok l [] List.Pairwise.nil).2.2 p hp with h' | h'
  · simp at h'
  · exact h p h'
theorem gt_eq (a b : ByteArray) : (!Op.bytesLess a.toList b.toList && !a.toList == b.toList) = ltK b a := by
  rw [list_eq]
  cases h1 : ltK b a with
  | true =>
    have h2 : Op.bytesLess a.toList b.toList = false := ltK_asymm h1
    have h3 : ¬ a = b := fun e => by rw [e, ltK_irrefl] at h1; cases h1
    simp [h2, h3]
  | false =>
    cases h2 : Op.bytesLess a.toList b.toList with
    | true => rfl
    | false => have := ltK_total h2 h1; simp [this]
theorem lastB_nil (p : Pr) : lastB [] p = true := rfl
theorem lastB_snoc (ys : List Pr) (q p : Pr) : lastB (ys ++ [q]) p = ltK q.1 p.1 := by simp [lastB]
theorem step_yes {m : List Pr} {p : Pr} (h : lastB m p = true) : stepS m p = m ++ [p] := by simp [stepS, h]
theorem step_no {m : List Pr} {p : Pr} (h : lastB m p = false) : stepS m p = m := by simp [stepS, h]
set_option maxHeartbeats 4000000 in
theorem state_any (v : Value) (l : List Pr) (w : World) (hn : (l.length + 1) * 32 ≤ 140737488355328) (hR : PrR w v l) :
    Calls Tryd.prog 10 #[v] w fun e w' => ∃ v', e = .returned v' ∧ PrO w' w.heap.size v' (stD l) ∧ Below w.heap.size w w' := by
  obtain ⟨a, c, rfl⟩ : ∃ a c, v = .slice a l.length c := by obtain ⟨x, y, h, _⟩ := hR; exact ⟨x, y, h⟩
  obtain ⟨n, hnl⟩ : ∃ n, n = l.length := ⟨_, rfl⟩
  rw [← hnl] at hR hn ⊢
  have hm : n ≤ 140737488355328 := by omega
  have HR := hide hR
  have HN := hide hn
  have HNL := hide hnl
  obtain ⟨Q, hQ⟩ : ∃ Q : Ending → World → Prop, Q = fun e w' => ∃ v', e = .returned v' ∧ PrO w' w.heap.size v' (stD l) ∧ Below w.heap.size w w' := ⟨_, rfl⟩
  rw [← hQ]
  have HQ := hide hQ
  clear hQ hR hn hnl
  go_enter Tryd.func10, Tryd.ntmps10
  go_wp2
  go_loopw [3, 4] (fun x i wr => ∃ (q : Nat), q ≤ n ∧ i = .int .i64 (q : Int) ∧ PrO wr w.heap.size x (stD (l.take q)) ∧ Below w.heap.size w wr) (fun _ i _ => n - (intOf i).toNat)
  case atStart => exact ⟨0, Nat.zero_le _, rfl, PrO.nil _ _, Below.refl _ _⟩
  case round =>
    obtain ⟨q, hq, rfl, hown, hb⟩ := hrel
    obtain ⟨m, hmm⟩ : ∃ m, m = stD (l.take q) := ⟨_, rfl⟩
    rw [← hmm] at hown
    obtain ⟨a', c', rfl⟩ : ∃ a' c', _ = Value.slice a' m.length c' := hown.form
    obtain ⟨nm, hnm⟩ : ∃ nm, nm = m.length := ⟨_, rfl⟩
    rw [← hnm] at hown ⊢
    have HO := hide hown
    have HB := hide hb
    have HM := hide hmm
    have HNM := hide hnm
    by_cases hlt : q < n
    · have j1 : (q : Int) < (n : Int) := by omega
      have j0 : (0 : Int) ≤ (q : Int) := by omega
      have hql : q < l.length := by have := HNL.out; omega
      have hml : m.length ≤ q := by rw [hmm]; exact Nat.le_trans (st_len _) (by rw [List.length_take]; omega)
      have HML : Hid ((nm + 1) * 32 ≤ 140737488355328) := by have := HN.out; show _ ≤ _; omega
      have hnmm : nm ≤ 140737488355328 := by have := HML.out; omega
      obtain ⟨a'', cap, he, hle, hnl', hc⟩ := HR.out.below HB.out
      cases he
      obtain ⟨g, o, rfl, c0, c1⟩ := hc q hql
      obtain ⟨⟨k, y⟩, hky⟩ : ∃ p : Pr, p = l[q] := ⟨_, rfl⟩
      rw [← hky] at c0 c1
      simp only at c0 c1
      have HTK : Hid (stD (l.take (q + 1)) = stepS m (k, y)) := by rw [st_succ l q hql, ← hmm, ← hky]; exact rfl
      have HLT := hide hlt
      obtain ⟨bb, hbb⟩ : ∃ bb, bb = lastB m (k, y) := ⟨_, rfl⟩
      have HBB := hide hbb
      have HC0 := hide c0
      have HC1 := hide c1
      clear hc hnl' hky hmm hnm hown hb hml hbb c0 c1
      have c0 := HC0.out
      have c1 := HC1.out
      go_upto_region 5 with fail
      go_cut [28] (fun u wx => u = .bool bb ∧ ∃ nq, wx = wr.drewN nq)
      case first =>
        rcases (show m = [] ∨ ∃ ys qq, m = ys ++ [qq] from by rcases List.eq_nil_or_concat m with h | ⟨ys, qq, h⟩; exact .inl h; exact .inr ⟨ys, qq, by rw [h]; simp⟩) with h0 | ⟨ys, qq, h0⟩
        · have h1 : nm = 0 := by rw [HNM.out, h0]; rfl
          have h2 : bb = true := by rw [HBB.out, h0]; rfl
          clear HNM HBB HM HO HTK
          subst h0
          subst h1
          subst h2
          go_quiet (fail)
          go_wp2_with fail
          go_meet
          exact ⟨rfl, _, rfl⟩
        · obtain ⟨mm, hmm⟩ : ∃ mm, mm = ys.length := ⟨_, rfl⟩
          have h1 : nm = mm + 1 := by rw [HNM.out, h0, hmm]; simp
          have h2 : bb = Op.bytesLess qq.1.toList k.toList := by rw [HBB.out, h0]; exact lastB_snoc ys qq (k, y)
          obtain ⟨a3, cap3, he3, hle3, hn3, hc3⟩ := HO.out.at
          obtain ⟨rfl, -, rfl⟩ : a' = a3 ∧ nm = m.length ∧ c' = cap3 := by simpa using he3
          obtain ⟨g3, o3, rfl, d0, d1⟩ := hc3 mm (by rw [h0, hmm]; simp)
          have hq3 : m[mm]'(by rw [h0, hmm]; simp) = qq := by subst h0; subst hmm; simp
          rw [hq3] at d0
          have hwm : IntKind.i64.wrap ((nm : Int) - 1) = (mm : Int) := by rw [IntKind.wrap_i64]; omega
          have i0 : (0 : Int) ≤ (mm : Int) := by omega
          have i1 : (mm : Int) < (nm : Int) := by omega
          have hz : ((nm : Int) == 0) = false := by rw [beq_eq_false_iff_ne]; omega
          clear hc3 hn3 he3 hle3 hq3 d1 HM HO HTK HBB HNM h0 h1 hmm HN HNL HML
          subst h2
          go_quiet (fail)
          go_wp2_with fail
          go_meet
          exact ⟨congrArg Value.bool (gt_eq k qq.1), _, rfl⟩
      case rest =>
        obtain ⟨rfl, nq, rfl⟩ := hcut
        have hbd : Below wr.heap.size wr (wr.drewN nq) := below_drewN2 (Below.refl _ wr) nq
        generalize wr.drewN nq = W5 at *
        have HO5 := hide (HO.out.below hbd)
        have HB5 := hide (Below.next HB.out hbd)
        have d0 := cell_bel hbd HC0.out
        have d1 := cell_bel hbd HC1.out
        clear hbd c0 c1 HC0 HC1 HO HB
        cases bb with
        | true =>
          obtain ⟨a3, c3', W4, hrun, hown1, hgr⟩ := push_prs' w.heap.size _ m (k, y) 48 W5 nm HNM.out.symm HO5.out HML.out HB5.out.size
          have HO1 := hide hown1
          have HG := hide hgr
          clear hown1 hgr
          go_wp2_with (first | (at_builtin; refine wpList_append_run 22 rfl (.tmp 29) (.tmp 34) rfl rfl _ _ rfl rfl _ _ hrun ?_))
          clear hrun
          have HBF : Hid (Below w.heap.size w W4) := bel_but HB5.out (((But.refl w.heap.size (fun _ => true) W5).alloc _).grown HG.out (fun b o hb ho => ⟨(HO5.out.blk b hb).1, rfl⟩)) (Nat.le_refl _)
          go_wp2
          go_roundw
          case rel => exact ⟨q + 1, HLT.out, by go_num, by rw [HTK.out, step_yes HBB.out.symm]; exact HO1.out, HBF.out⟩
          case measure => have := HLT.out; simp [intOf]; omega
        | false =>
          go_wp2
          go_roundw
          case rel => exact ⟨q + 1, HLT.out, by go_num, by rw [HTK.out, step_no HBB.out.symm]; exact HO5.out, HB5.out⟩
          case measure => have := HLT.out; simp [intOf]; omega
    · obtain rfl : q = n := by omega
      have HE : Hid (l.take q = l) := by have := HNL.out; rw [this]; exact List.take_length
      go_wp2
      rw [HQ.out]
      refine ⟨_, rfl, ?_, HB.out⟩
      have := HO.out
      rw [HM.out, HE.out] at this
      exact this
end Go.Proofs.YtkdmocnjpajfkaaDoor
