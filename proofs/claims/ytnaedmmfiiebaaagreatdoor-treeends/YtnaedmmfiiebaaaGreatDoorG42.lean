import Derived.Test.YtnaedmmfiiebaaaGreatDoorG41
import Derived.Deep.RegionLaw
namespace Go.Proofs.YtnaedmmfiiebaaaGreatDoor.T
open Go.RowKit

theorem results_cell_3 {fn : Func} {p u v : Tmp} {t1 : TypeId} (h : fn.results = #[.cell p t1, .tmp u, .tmp v]) (tmps : Array Value) (P : Program) (w : World) :
    (results fn tmps).run P w = ((asAddr (tmps.getD p undef)).run P w).andThen fun a w₁ => ((loadVar t1 a).run P w₁).andThen fun x w₂ => .ok (.tuple #[x, tmps.getD u undef, tmps.getD v undef]) w₂ := by
  simp only [results, h]
  simp [Sem.run_bind, Result.andThen]
theorem results_row_3 {P : Program} {fn : Func} {p u v : Tmp} {ty : TypeId} (h : fn.results = #[.cell p ty, .tmp u, .tmp v]) (tmps : Array Value) (w : World) (g : Nat) (t : TypeId) (cs : Array Value) (fr : Nat × Nat) (d : TypeDesc)
    (hp : tmps.getD p undef = .pointer (some ⟨g, 0, none⟩)) (hg : w.heap[g]? = some (.cells cs t fr)) (hu : P.underlying ty = some d) (hd : (match d with | .struct _ | .array _ _ => true | _ => false) = true) (hi : (P.info? ty).map (·.size) = some cs.size) :
    (results fn tmps).run P w = .ok (.tuple #[.agg cs, tmps.getD u undef, tmps.getD v undef]) w := by
  rw [results_cell_3 h tmps P w, hp]
  simp [asAddr, run_loadVar_row w g t ty cs fr d hg hu hd hi, Result.andThen]
set_option maxRecDepth 100000 in
theorem lastof_none (ev : Value) (hev : ev = .nilIface ∨ ∃ q, ev = .iface 360 (.pointer (some q))) (w : World) :
    Calls Tryz.prog 53 #[.slice none 0 0, ev] w fun e w' => e = .returned (.tuple #[.agg #[.string ⟨#[]⟩, .string ⟨#[]⟩], .bool false, ev]) ∧ Below w.heap.size w w' := by
  have q0 := below_new w (.cells #[.string ⟨#[]⟩, .string ⟨#[]⟩] 52)
  have x0 := B.RowAt.new w #[.string ⟨#[]⟩, .string ⟨#[]⟩] 52
  have HX := hide x0
  have z0 := x0.c0
  have z1 := x0.c1
  have y0 := x0.free 0
  have y1 := x0.free 1
  have HB := hide q0
  clear q0 x0
  rcases hev with rfl | ⟨q, rfl⟩
  · go_enter Tryz.func53, Tryz.ntmps53
    go_wp2_with fail
    refine (pairsat_none _).mono ?_
    rintro e w1 ⟨rfl, rfl⟩
    go_wp2_with fail
    (try simp only [Exit.inBlock, Exit.then])
    exact bodyPost_ret (results_row_3 rfl _ _ w.heap.size 52 _ (0, 0) _ rfl HX.out Tryz.underlying52 rfl (by kernel_rfl)) rfl ⟨rfl, HB.out⟩
  · go_enter Tryz.func53, Tryz.ntmps53
    go_wp2_with fail
    refine (pairsat_none _).mono ?_
    rintro e w1 ⟨rfl, rfl⟩
    go_wp2_with fail
    (try simp only [Exit.inBlock, Exit.then])
    exact bodyPost_ret (results_row_3 rfl _ _ w.heap.size 52 _ (0, 0) _ rfl HX.out Tryz.underlying52 rfl (by kernel_rfl)) rfl ⟨rfl, HB.out⟩
set_option maxRecDepth 100000 in
set_option maxHeartbeats 2000000 in
theorem lastof_some (a : Option Addr) (m c : Nat) (l : List W.Lk) (q : W.Lk) (n : SN) (pv lv cv : Value) (w : World) (hm : m = l.length) (hm2 : m ≤ 100000) (hr : W.LkR w (.slice a (m + 1) c) (l ++ [q])) (hs : SNR w q.1 n pv lv cv) :
    Calls Tryz.prog 53 #[.slice a (m + 1) c, .nilIface] w fun e w' => (∃ k v b, e = .returned (.tuple #[.agg #[.string k, .string v], .bool b, .nilIface])) ∧ Below w.heap.size w w' := by
  have q0 := below_new w (.cells #[.string ⟨#[]⟩, .string ⟨#[]⟩] 52)
  have x0 := B.RowAt.new w #[.string ⟨#[]⟩, .string ⟨#[]⟩] 52
  have HX := hide x0
  have z0 := x0.c0
  have z1 := x0.c1
  have y0 := x0.free 0
  have y1 := x0.free 1
  have HB0 := hide q0
  have HPA := hide (pairsat_some a m c l q n pv lv cv _ hm hm2 (by
    obtain ⟨a', cap, e, hle, hn, hc⟩ := hr
    exact ⟨a', cap, e, hle, hn, fun j hj => by
      obtain ⟨g, o, ha, h1, h2⟩ := hc j hj
      exact ⟨g, o, ha, (q0.cell (p := ⟨g, o + j * 2, none⟩) (World.block_lt_of_cell? w _ h1)).trans h1, (q0.cell (p := ⟨g, o + j * 2 + 1, none⟩) (World.block_lt_of_cell? w _ h2)).trans h2⟩⟩) (hs.below q0))
  have HPR := hide (hs.prs.below q0)
  have HF : Hid (n.ps.length ≤ 4000) := hs.fine.2.1
  obtain ⟨xa, xc, hpf⟩ := hs.prs.form
  subst hpf
  obtain ⟨M, hM⟩ : ∃ M, M = m + 1 := ⟨_, rfl⟩
  rw [← hM] at HPA ⊢
  clear q0 x0 hr hs hm hm2 hM
  obtain ⟨N, hN⟩ : ∃ N, N = n.ps.length := ⟨_, rfl⟩
  have HN := hide hN
  rw [← hN] at HPA HPR HF
  clear hN
  by_cases h0 : N = 0
  · subst h0
    go_enter Tryz.func53, Tryz.ntmps53
    go_wp2_with fail
    refine HPA.out.mono ?_
    rintro e w1 ⟨rfl, rfl⟩
    go_wp2_with fail
    (try simp only [Exit.inBlock, Exit.then])
    exact bodyPost_ret (results_row_3 rfl _ _ w.heap.size 52 _ (0, 0) _ rfl HX.out Tryz.underlying52 rfl (by kernel_rfl)) rfl ⟨⟨_, _, _, rfl⟩, HB0.out⟩
  · have hlt : N - 1 < n.ps.length := by have := HN.out; omega
    obtain ⟨_, _, hvf, _, _, hcell⟩ := HPR.out
    simp only [Value.slice.injEq] at hvf
    obtain ⟨rfl, -, rfl⟩ := hvf
    obtain ⟨g, o, rfl, c1, c2⟩ := hcell (N - 1) hlt
    generalize (n.ps[N - 1]).1 = s1 at c1
    generalize (n.ps[N - 1]).2 = s2 at c2
    obtain ⟨j, rfl⟩ : ∃ j, N = j + 1 := ⟨N - 1, by omega⟩
    rw [Nat.add_sub_cancel] at c1 c2
    have hq0 : (0 : Int) ≤ (j : Int) := by omega
    have hq1 : (j : Int) < (j : Int) + 1 := by omega
    have hq2 : (j : Int) ≤ 4000 := by have := HF.out; omega
    have hq3 : (((j + 1 : Nat) : Int) == 0) = false := by simp; omega
    clear hcell hlt h0
    go_enter Tryz.func53, Tryz.ntmps53
    go_wp2_with fail
    refine HPA.out.mono ?_
    rintro e w1 ⟨rfl, rfl⟩
    go_wp2_with fail
    (try simp only [Exit.inBlock, Exit.then])
    exact bodyPost_ret (results_row_3 rfl _ _ w.heap.size 52 _ (0, 0) _ rfl (B.RowAt.new w #[.string s1, .string s2] 52) Tryz.underlying52 rfl (by kernel_rfl)) rfl ⟨⟨_, _, _, rfl⟩, below_new w _⟩

end Go.Proofs.YtnaedmmfiiebaaaGreatDoor.T

namespace Go.Proofs.YtnaedmmfiiebaaaGreatDoor.T
open Go.RowKit

/-- An append whose run is known, as one step of a region that draws. -/
theorem step_append_run {ops : Array Oper} {o : Oper} {a : Act} {w : World} {K : Act → World → Prop} {Q : Exit → Act → World → Prop} {E : Prop} (t : TypeId) (hgd : o.guard = none) (d x : Operand)
    (ho : o.op = .call { callee := .builtin .append, args := #[d, x], argTypes := #[t, t] }) (hty : o.type = t) (vd vx : Value) (hd : a.eval d = vd) (hx : a.eval x = vx) (v : Value) (w' : World)
    (hrun : (Builtin.append_ #[t, t] t #[vd, vx]).run Tryz.prog w = .ok v w') (h : K (a.put o.dst v) w') : if Region.wanted o (yielded ops a.tmps) = true then Oper.wp Tryz.prog o a w K Q else E := by
  have hw : Region.wanted o (yielded ops a.tmps) = true := by simp [Region.wanted, hgd]
  rw [if_pos hw]
  unfold Oper.wp
  simp [execOp, ho, resolve, invoke, builtin, hd, hx, hty, hrun, Result.andThen]
  exact h
/-- append(way[:i:i], step): a new list. -/
theorem push_cut (g o i n c : Nat) (l : List W.Lk) (p : W.Lk) (w : World) (hr : W.LkR w (.slice (some ⟨g, o, none⟩) n c) l) (hi : i ≤ l.length) (hn : i ≤ 100000) :
    ∃ c' w', (Builtin.append_ #[101, 101] 101 #[.slice (some ⟨g, o, none⟩) i i, .slice (some ⟨w.heap.size, 0, none⟩) 1 1]).run Tryz.prog (w.alloc (.cells #[.pointer (some ⟨p.1, 0, none⟩), .int .i64 p.2] 159)) = .ok (.slice (some ⟨w.heap.size + 1, 0, none⟩) (i + 1) c') w' ∧ StO w' w.heap.size (.slice (some ⟨w.heap.size + 1, 0, none⟩) (i + 1) c') (l.take i ++ [p]) ∧ Below w.heap.size w w' := by
  obtain ⟨i0, hi0, hz, hsz, hby⟩ := info_parts W.infoK
  have hbx := boxed_new w #[.pointer (some ⟨p.1, 0, none⟩), .int .i64 p.2] 159
  have q0 := below_new w (.cells #[.pointer (some ⟨p.1, 0, none⟩), .int .i64 p.2] 159)
  have hnews : ∀ j u, ([.pointer (some ⟨p.1, 0, none⟩), .int .i64 p.2] : List Value)[j]? = some u → (w.alloc (.cells #[.pointer (some ⟨p.1, 0, none⟩), .int .i64 p.2] 159)).cell? ((⟨w.heap.size, 0, none⟩ : Addr).add j) = some u := fun j u hj => by
    rw [add_plain', Nat.zero_add]
    match j, hj with
    | 0, hj => cases hj; exact hbx.2 0 (by simp)
    | 1, hj => cases hj; exact hbx.2 1 (by simp)
  have hlt : (l.take i).length = i := by rw [List.length_take]; omega
  have hlo : (W.lks (l.take i)).length = i * i0.size := by rw [hsz, W.lks_length, hlt]
  have holds : ∀ j u, (W.lks (l.take i))[j]? = some u → (w.alloc (.cells #[.pointer (some ⟨p.1, 0, none⟩), .int .i64 p.2] 159)).cell? ((⟨g, o, none⟩ : Addr).add j) = some u := fun j u hj => by
    have hj' := (List.getElem?_eq_some_iff.1 hj).1
    rw [W.lks_length, hlt] at hj'
    obtain ⟨a', c', he, hle, hnn, hc⟩ := hr
    obtain ⟨g', o', ha, c1, c2⟩ := hc (j / 2) (by omega)
    cases he
    cases ha
    have hg := W.lks_get (l.take i) (j / 2) (by omega)
    rw [List.getElem_take] at hg
    rw [add_plain']
    rcases Nat.mod_two_eq_zero_or_one j with hm | hm
    · have e : j / 2 * 2 = j := by omega
      rw [e] at hg c1
      rw [hg.1] at hj; cases hj
      exact (q0.cell (p := ⟨g, o + j, none⟩) (World.block_lt_of_cell? w _ c1)).trans c1
    · have e : j / 2 * 2 + 1 = j := by omega
      rw [Nat.add_assoc, e] at c2
      rw [e] at hg
      rw [hg.2] at hj; cases hj
      exact (q0.cell (p := ⟨g, o + j, none⟩) (World.block_lt_of_cell? w _ c2)).trans c2
  have hq := run_append_grow (P := Tryz.prog) (w.alloc (.cells #[.pointer (some ⟨p.1, 0, none⟩), .int .i64 p.2] 159)) 101 101 159 i0 _ Tryz.underlying101 hi0 hz ⟨g, o, none⟩ i i (W.lks (l.take i)) hlo holds ⟨w.heap.size, 0, none⟩ 1 1 _ (by rw [hsz]; rfl) hnews (by omega) (by omega) (growslice_fits (by omega) (by rw [hby]; omega))
  have hW1 : (w.alloc (.cells #[.pointer (some ⟨p.1, 0, none⟩), .int .i64 p.2] 159)).heap.size = w.heap.size + 1 := by simp
  obtain ⟨cap, hcap⟩ : ∃ cap, cap = grownCap (w.alloc (.cells #[.pointer (some ⟨p.1, 0, none⟩), .int .i64 p.2] 159)) (i + 1) i 159 := ⟨_, rfl⟩
  have hge : i + 1 ≤ cap := by rw [hcap]; exact grownCap_ge _ _ _ _
  have hle : cap ≤ maxLen := by rw [hcap]; exact grownCap_le_maxLen _ _ _ _ (by unfold maxLen; omega)
  rw [← hcap, hW1] at hq
  generalize hV : w.alloc (.cells #[.pointer (some ⟨p.1, 0, none⟩), .int .i64 p.2] 159) = V at *
  obtain ⟨cur, hcur⟩ : ∃ cur, cur = (W.lks (l.take i)).toArray ++ ([.pointer (some ⟨p.1, 0, none⟩), .int .i64 p.2] : List Value).toArray ++ Builtin.zeroCells (Value.agg #[.pointer none, .int .i64 0]).cells (cap - (i + 1)) := ⟨_, rfl⟩
  rw [← hcur] at hq
  have hnew : (V.drew.alloc (.cells cur 159)).heap[w.heap.size + 1]? = some (.cells cur 159 (0, 0)) := by
    rw [← hW1]
    exact heap_alloc_new V.drew _
  have hlk : W.lks (l.take i ++ [p]) = W.lks (l.take i) ++ [.pointer (some ⟨p.1, 0, none⟩), .int .i64 p.2] := by rw [W.lks_append]; rfl
  refine ⟨cap, _, hq, ⟨⟨by rw [W.lks_length], .inr ⟨w.heap.size + 1, cap, cur, ?_, by omega, hnew, ?_, hle, ?_, ?_⟩⟩, fun g' hg' => ?_⟩, Below.next q0 ⟨rfl, rfl, rfl, by simp, fun k hk => heap_alloc_old V.drew _ hk⟩⟩
  · rw [List.length_append, hlt]; rfl
  · rw [List.length_append, hlt]; exact hge
  · rw [hcur, Array.size_append, Array.size_append, size_zeroCells]
    simp only [List.size_toArray, W.lks_length, hlt, List.length_cons, List.length_nil]
    show i * 2 + (0 + 1 + 1) + (cap - (i + 1)) * 2 = cap * 2
    omega
  · rw [hcur, hlk, List.length_append, hlt]
    simp only [Array.toList_append]
    rw [List.take_left' (by simp only [List.length_append, W.lks_length, hlt, List.length_cons, List.length_nil]; omega)]
  · simp only [Value.ownBlock, Option.some.injEq] at hg'
    subst hg'
    refine ⟨cur, hnew, fun u hu => ?_⟩
    rw [hcur] at hu
    simp only [Array.toList_append, List.mem_append] at hu
    rcases hu with (hu | hu) | hu
    · exact lks_plain (l.take i) u (by simpa using hu)
    · exact lks_plain [p] u (by simpa [W.lks] using hu)
    · exact zero_plain _ u hu

end Go.Proofs.YtnaedmmfiiebaaaGreatDoor.T

namespace Go.Proofs.YtnaedmmfiiebaaaGreatDoor.T
open Go.RowKit

theorem Way.get {d : S.V.Dev} {X : Type} {S : Sys d X} {Pk : SN → Nat → Prop} {w : World} : ∀ {t : List (Stp X)} {x y : X}, Way S Pk w x t y → ∀ (k : Nat) (h : k < t.length), OkS S w t[k] ∧ ¬ t[k].n.us.length = 0 ∧ t[k].at' < t[k].n.us.length
  | [], _, _, _, _, h => by simp at h
  | _ :: _, _, _, ⟨_, h2, h3, _, h5, _, _, _⟩, 0, _ => ⟨h2, h3, h5⟩
  | _ :: _, _, _, ⟨_, _, _, _, _, _, _, h7⟩, k + 1, h => Way.get h7 k (by simpa using h)
set_option maxRecDepth 20000 in
theorem slCut (w : World) (a : Option Addr) (n cap m : Nat) (hm : m ≤ cap) : (Instr.sliceAt 101 (.slice a n cap) none (some (.int .i64 (m : Int))) (some (.int .i64 (m : Int)))).run Tryz.prog w = .ok (.slice a m m) w := by
  rw [run_sliceAt_slice (h := Tryz.underlying101), run_slice_hm (ht := Tryz.underlying101) (h0 := by omega) (h2 := by omega) (h3 := by omega)]
  have hz : (sizeOf (Tryz.prog.elem 101)).run Tryz.prog w = .ok 2 w := by kernel_rfl
  rw [hz]
  simp [Result.andThen, sliced, Addr.add]
theorem W.LkO.mono {w : World} {b b2 : Nat} {v : Value} {l : List W.Lk} (h : W.LkO w b v l) (hb : b2 ≤ b) : W.LkO w b2 v l := by
  refine ⟨h.1, ?_⟩
  rcases h.2 with h' | ⟨g, cap, cur, h', h1, hr⟩
  · exact .inl h'
  · exact .inr ⟨g, cap, cur, h', Nat.le_trans hb h1, hr⟩
/-- What wayAhead answers. -/
def AheadA (A : Nat → Addr) (e : Ending) (w' : World) : Prop :=
  e = .returned (.tuple #[.slice none 0 0, .iface 360 (.pointer (some (A 8)))]) ∨
  e = .returned (.tuple #[.slice none 0 0, .nilIface]) ∨
  ∃ (m : Nat) (a : Option Addr) (c : Nat) (l : List W.Lk) (q : W.Lk) (n : SN) (pv lv cv : Value), e = .returned (.tuple #[.slice a (m + 1) c, .nilIface]) ∧ m = l.length ∧ m ≤ 100000 ∧ W.LkR w' (.slice a (m + 1) c) (l ++ [q]) ∧ SNR w' q.1 n pv lv cv
section
variable {base : Nat} {A : Nat → Addr} {db : Nat} {F : Nat → Prop} {d : S.V.Dev}
set_option maxRecDepth 100000 in
set_option maxHeartbeats 600000 in
theorem wayahead_any {w0 w : World} {tb : Nat} {rv : Value} {Pk : SN → Nat → Prop} (a : Option Addr) (c : Nat) (ss : List (Stp Unit)) (s : Stp Unit) (hv0 : Dv base A db F d w0) (hm : Mv db F w0 w) (hv : Dv base A db F d w) (ht : B.RowAt w tb #[.pointer (some ⟨db, 0, none⟩), rv] 100)
    (ho : W.LkR w (.slice a (ss.length + 1) c) (ss.map Stp.lk ++ [s.lk])) (hway : Way (anyS d) Pk w () ss s.x) (hat : s.at' = 0) (hl : ss.length ≤ 63) :
    Calls Tryz.prog 56 #[.pointer (some ⟨tb, 0, none⟩), .slice a (ss.length + 1) c] w fun e w' => AheadA A e w' ∧ Dv base A db F d w' ∧ Mv db F w0 w' := by
  obtain ⟨M, hM⟩ : ∃ M, M = ss.length + 1 := ⟨_, rfl⟩
  rw [← hM] at ho ⊢
  have HO := hide ho
  have HW := hide hway
  have HV := hide hv
  have HV0 := hide hv0
  have HMV := hide hm
  have HT := hide ht
  have HM := hide hM
  have HL := hide hl
  have HAT := hide hat
  have hMs : (M : Int) ≤ 64 := by omega
  have hM0 : (0 : Int) ≤ (M : Int) := by omega
  clear hv0 hm hv ht ho hway hat hl hM
  go_enter Tryz.func56, Tryz.ntmps56
  go_wp2
  go_loopw [6] (fun iv wr => ∃ j : Nat, iv = .int .i64 ((j : Int) - 1) ∧ j ≤ M ∧ Below w.heap.size w wr) (fun iv _ => (intOf iv + 1).toNat)
  case atStart => exact ⟨M, rfl, Nat.le_refl _, Below.refl _ _⟩
  case round =>
    obtain ⟨j, rfl, hj, hb⟩ := hrel
    cases j with
    | zero =>
      have HB := hide hb
      have hneg : ¬ (0 : Int) ≤ ((0 : Nat) : Int) - 1 := by omega
      clear hb
      go_wp2
      go_ret2
      exact ⟨.inr (.inl rfl), HV.out.below HB.out, HMV.out.trans (Mv.of HB.out)⟩
    | succ k =>
      have e0 : ((k + 1 : Nat) : Int) - 1 = (k : Int) := by omega
      rw [e0]
      have hk0 : (0 : Int) ≤ (k : Int) := by omega
      have hk1 : (k : Int) < (M : Int) := by omega
      have hkl : k < (ss.map Stp.lk ++ [s.lk]).length := by rw [List.length_append, List.length_map]; simp; have := HM.out; omega
      obtain ⟨g, o, rfl, c1, c2⟩ := W.LkR.spot HO.out k hkl
      have f1 : wr.cell? ⟨g, o + k * 2, none⟩ = some (.pointer (some ⟨(ss.map Stp.lk ++ [s.lk])[k].1, 0, none⟩)) := (hb.cell (p := ⟨g, o + k * 2, none⟩) (World.block_lt_of_cell? w _ c1)).trans c1
      have f2 : wr.cell? ⟨g, o + k * 2 + 1, none⟩ = some (.int .i64 (ss.map Stp.lk ++ [s.lk])[k].2) := (hb.cell (p := ⟨g, o + k * 2 + 1, none⟩) (World.block_lt_of_cell? w _ c2)).trans c2
      obtain ⟨lb, hlb⟩ : ∃ x, x = (ss.map Stp.lk ++ [s.lk])[k].1 := ⟨_, rfl⟩
      obtain ⟨lat, hlat⟩ : ∃ x, x = (ss.map Stp.lk ++ [s.lk])[k].2 := ⟨_, rfl⟩
      rw [← hlb] at f1
      rw [← hlat] at f2
      have q0 := below_new wr (.cells #[.pointer (some ⟨lb, 0, none⟩), .int .i64 lat] 159)
      have x0 := B.RowAt.new wr #[.pointer (some ⟨lb, 0, none⟩), .int .i64 lat] 159
      have k0 := x0.c0
      have k1 := x0.c1
      have HB := hide (Below.next hb q0)
      by_cases hpos : 0 < lat
      · have hks : k < ss.length := by
          rcases Nat.lt_or_ge k ss.length with h | h
          · exact h
          · have e : k = ss.length := by have := HM.out; omega
            have e2 : (ss.map Stp.lk ++ [s.lk])[k] = s.lk := by
              subst e
              simp
            rw [e2] at hlat
            have : lat = (s.at' : Int) := hlat
            rw [HAT.out] at this
            omega
        have e2 : (ss.map Stp.lk ++ [s.lk])[k] = ss[k].lk := by rw [List.getElem_append_left (by rw [List.length_map]; exact hks), List.getElem_map]
        rw [e2] at hlb hlat
        obtain ⟨⟨⟨pv, lv, cv, hs⟩, hn⟩, hnl, hlt⟩ := HW.out.get k hks
        replace hn : NAny w ss[k].n := hn
        generalize ss[k] = t at *
        change lb = t.b at hlb
        change lat = (t.at' : Int) at hlat
        subst hlb
        obtain ⟨q, hq⟩ : ∃ q, t.at' = q + 1 := ⟨t.at' - 1, by omega⟩
        have hlat2 : lat = (q : Int) + 1 := by rw [hlat, hq]; omega
        clear hlat
        subst hlat2
        rw [hq] at hlt
        obtain ⟨p, hp⟩ : ∃ p, t.n.us[q]? = some p := ⟨_, List.getElem?_eq_getElem (by omega)⟩
        have hpa : Any w p := hn.2 p (List.mem_of_getElem? hp)
        generalize hWb : wr.alloc (.cells #[.pointer (some ⟨t.b, 0, none⟩), .int .i64 ((q : Int) + 1)] 159) = Wb at *
        have hbd : Below w.heap.size w Wb.drew := B.below_drewB HB.out
        obtain ⟨c', w3, hrun, hst3, hb3⟩ := push_cut g o k M c _ (t.b, (q : Int)) Wb.drew (W.LkR.below HO.out hbd) (by omega) (by omega)
        have hbb : Below w.heap.size w w3.drew := B.below_drewB (Below.next hbd hb3)
        have hlp : ((ss.map Stp.lk ++ [s.lk]).take k ++ [(t.b, (q : Int))]).length = k + 1 := by
          rw [List.length_append, List.length_take]; simp; omega
        have hst4 : StO w3.drew w0.heap.size (.slice (some ⟨Wb.drew.heap.size + 1, 0, none⟩) (k + 1) c') ((ss.map Stp.lk ++ [s.lk]).take k ++ [(t.b, (q : Int))]) := ⟨W.LkO.mono (b := Wb.drew.heap.size) hst3.1 (Nat.le_trans HMV.out.size hbd.size), hst3.2⟩
        have HG := hide (godown_last (anyS d) (fun n q => q = n.lk.length) (fun _ => True) (fun _ _ _ h => h) _ _ p () tb rv w0 w3.drew (hpa.away (Away.of hbb)) (HT.out.below hbb) (HV.out.below hbb) (HMV.out.trans (Mv.of hbb)) HV0.out hst4 trivial (by rw [hlp]; have := HL.out; have := HM.out; omega) (.inl trivial) (fun W b n pv lv cv y _ hs hn hnl => by
          have hk := ((anyS d).fit hn).1.resolve_left hnl
          exact (tlast_any n lv W hs.lks).mono fun e w' ⟨he, hb⟩ => ⟨n.lk.length, he, rfl, by omega, hb⟩))
        obtain ⟨pre, hpre⟩ : ∃ pre, pre = (ss.map Stp.lk ++ [s.lk]).take k ++ [(t.b, (q : Int))] := ⟨_, rfl⟩
        rw [← hpre] at HG hlp
        have hsz : Wb.drew.heap.size = wr.heap.size + 1 := by rw [← hWb]; simp [World.drew]
        rw [show (Wb.drew).alloc (.cells #[.pointer (some ⟨t.b, 0, none⟩), .int .i64 (q : Int)] 159) = (Wb.alloc (.cells #[.pointer (some ⟨t.b, 0, none⟩), .int .i64 (q : Int)] 159)).drew from rfl, hsz] at hrun
        rw [hsz] at HG
        have HRUN := hide hrun
        have HLP := hide hlp
        have HS3 := hide (hs.below (Below.next hbd hb3))
        have p3 := (hs.below (Below.next hbd hb3)).c3
        obtain ⟨ca, cc, hcf, -, -, hcell⟩ := hs.kids
        rw [C.lks_length, Nat.mul_one] at hcf
        subst hcf
        obtain ⟨g2, o2, rfl, cqw⟩ := hcell q p.val (by unfold C.lks; rw [List.getElem?_map, hp]; rfl)
        have cq : w3.cell? ⟨g2, o2 + q, none⟩ = some p.val := ((Below.next hbd hb3).cell (p := ⟨g2, o2 + q, none⟩) (World.block_lt_of_cell? w _ cqw)).trans cqw
        have HNE : Hid ((wr.heap.size < w3.heap.size ∧ wr.heap.size ≠ db) ∧ (t.b < wr.heap.size ∧ t.b ≠ db) ∧ g2 < wr.heap.size ∧ g2 ≠ db) := by
          obtain ⟨d', _, hd⟩ := HV.out.dev
          have hdb := HV.out.dblt
          have s1 := hb.size
          have s2 := (B.undrewB hb3).size
          have s3 : wr.heap.size < Wb.heap.size := by rw [← hWb]; simp
          refine ⟨⟨by omega, by omega⟩, ⟨Nat.lt_of_lt_of_le hs.row.lt s1, fun e => ?_⟩, Nat.lt_of_lt_of_le (World.block_lt_of_cell? w _ cqw) s1, fun e => ?_⟩
          · have h1 := hs.row
            rw [e] at h1
            obtain ⟨mb, nb, pv', av, Dn, hb'⟩ := hd
            unfold B.RowAt at h1
            rw [hb'.blk] at h1
            simp at h1
          · obtain ⟨tt, xx, hpv⟩ := val_form p
            rw [hpv] at cqw
            subst e
            exact (dev_kinds hd cqw).2 tt xx rfl
        obtain ⟨pt, px, hpv⟩ := val_form p
        rw [hpv] at cq HG
        have m0 := (x0.below (B.undrewB hb3)).c0
        have m1 := (x0.below (B.undrewB hb3)).c1
        have hsc := fun W => slCut W (some ⟨g, o, none⟩) M c k (by
          obtain ⟨_, _, e, hle, _⟩ := HO.out
          simp only [Value.slice.injEq] at e
          rw [List.length_append, List.length_map] at hle
          simp at hle
          obtain ⟨_, _, rfl⟩ := e
          have := HM.out
          omega)
        have HCEL : Hid (∀ w4, Kept db (.slice (some ⟨wr.heap.size + 1 + 1, 0, none⟩) (k + 1) c') w3.drew w4 → w4.cell? ⟨wr.heap.size, 0, none⟩ = some (.pointer (some ⟨t.b, 0, none⟩)) ∧ w4.cell? ⟨wr.heap.size, 1, none⟩ = some (.int .i64 ((q : Int) + 1)) ∧ w4.cell? ⟨t.b, 3, none⟩ = some (.slice (some ⟨g2, o2, none⟩) t.n.us.length cc) ∧ w4.cell? ⟨g2, o2 + q, none⟩ = some (.iface pt px)) := fun w4 hk => by
          have hne := HNE.out
          have e1 := hk.2 wr.heap.size (by show wr.heap.size < w3.heap.size; omega) (by omega) (by simp [Value.ownBlock]; omega)
          have e2 := hk.2 t.b (by show t.b < w3.heap.size; omega) (by omega) (by simp [Value.ownBlock]; omega)
          have e3 := hk.2 g2 (by show g2 < w3.heap.size; omega) (by omega) (by simp [Value.ownBlock]; omega)
          exact ⟨cell_same e1 m0, cell_same e1 m1, cell_same e2 p3, cell_same e3 cq⟩
        have hq0 : (0 : Int) ≤ (q : Int) := by omega
        have hq1 : (q : Int) < (t.n.us.length : Int) := by omega
        have hq2 : (t.n.us.length : Int) ≤ 4001 := by have := hs.fine.2.2.2.2; omega
        have hqp : (q : Int) + 1 > 0 := by omega
        have hwq : IntKind.i64.wrap (q : Int) = (q : Int) := by rw [IntKind.wrap_i64]; omega
        clear hcell cqw hpv hst4 hst3 hbb hb3 hrun hpre hpa hn hs hnl hlt hp hlp hbd x0 q0 hb c1 c2 hpos hq e2 hsz
        subst hWb
        go_wp2_with fail
        go_region_held3 (fun w' => w'.cell? ⟨wr.heap.size, 0, none⟩ = some (.pointer (some ⟨t.b, 0, none⟩)) ∧ w'.cell? ⟨wr.heap.size, 1, none⟩ = some (.int .i64 ((q : Int) + 1))) (go_keep)
          (first | (refine step_append_run 101 rfl (.tmp 26) (.tmp 33) rfl rfl _ _ rfl rfl _ _ HRUN.out ?_))
        all_goals
          clear HRUN hsc k0 k1 f1 f2
          go_wp2_with fail
          go_region_held3 (fun w' => w'.cell? ⟨wr.heap.size, 0, none⟩ = some (.pointer (some ⟨t.b, 0, none⟩)) ∧ w'.cell? ⟨wr.heap.size, 1, none⟩ = some (.int .i64 ((q : Int) + 1)) ∧ w'.cell? ⟨t.b, 3, none⟩ = some (.slice (some ⟨g2, o2, none⟩) t.n.us.length cc) ∧ w'.cell? ⟨g2, o2 + q, none⟩ = some (.iface pt px)) (go_keep)
            (first | (go_at_call 89; refine HG.out.mono ?_; rintro e w4 ⟨hdn, hv4, hm4, hkp4⟩; have n0 := HCEL.out w4 hkp4; obtain ⟨n0, n1, n2, n3⟩ := n0; clear hkp4; obtain ⟨a4, n4, c4, v4, he4, hvv⟩ := hdn.form; subst he4; have HD4 := hide hdn; have HV4 := hide hv4; have HM4 := hide hm4; have HVV := hide hvv; clear hdn hv4 hm4 hvv))
          all_goals
            have HRES : Hid (AheadA A (.returned (.tuple #[.slice a4 n4 c4, v4])) w4) := by
              rcases HD4.out with ⟨_, he⟩ | ⟨ss', s', a', c'', he, ho', _, ⟨⟨pv', lv', cv', hs'⟩, _⟩, _, _, hl'⟩
              · exact .inl he
              · exact .inr (.inr ⟨pre.length + ss'.length, a', c'', pre ++ ss'.map Stp.lk, s'.lk, s'.n, pv', lv', cv', he, by rw [List.length_append, List.length_map], by omega, ho'.1.at, hs'⟩)
            clear HD4 HG m0 m1 p3 cq n0 n1 n2 n3
            obtain ⟨vv, hvv⟩ : ∃ vv, vv = v4 := ⟨_, rfl⟩
            rw [← hvv] at HRES HVV ⊢
            rcases HVV.out with h | h
            · subst h
              clear hvv HVV
              go_wp2
              go_ret2
              exact ⟨HRES.out, HV4.out, HM4.out⟩
            · subst h
              clear hvv HVV
              go_wp2
              go_ret2
              exact ⟨HRES.out, HV4.out, HM4.out⟩
      · have hnp : ¬ lat > 0 := hpos
        clear c1 c2 hb x0 q0 hlb hlat hpos
        go_wp2
        go_roundw
        case rel => exact ⟨k, rfl, by omega, HB.out⟩
        case measure => simp [intOf]
end

end Go.Proofs.YtnaedmmfiiebaaaGreatDoor.T
