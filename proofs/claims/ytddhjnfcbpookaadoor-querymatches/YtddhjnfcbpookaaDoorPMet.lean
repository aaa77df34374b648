import Derived.Test.YtddhjnfcbpookaaDoorPSig
import Derived.Test.YtddhjnfcbpookaaDoorPNum
namespace Go.Proofs.YtddhjnfcbpookaaDoor
open Go.RowKit

abbrev iV (x : It) (u : Value) : Array Value := #[.int .i64 x.kind, .int .i64 x.num, .string x.text, u]
set_option maxHeartbeats 2000000 in
set_option maxRecDepth 100000 in
theorem pcomp_any (aA aM : Addr) (x y : It) (u v : Value) (w : World) (hx : x.Ok) (hy : y.Ok) (hu : ItsAt w anyB u x.list) (hv : ItsAt w anyB v y.list) (he : Errs2 aA aM w) (sx : (encL [x]).length ≤ 100000000000000) (sy : (encL [y]).length ≤ 100000000000000) :
    Calls Tryd.prog 62 #[.agg (iV x u), .agg (iV y v)] w fun e w' => e = .returned (.int .i64 (compV [x] [y])) ∧ Below w.heap.size w w' := by
  obtain ⟨ua, uc, hf⟩ := hu.form
  obtain ⟨va, vc, hg⟩ := hv.form
  subst hf hg
  simp only [iV]
  obtain ⟨X, hX⟩ : ∃ X : Obj, X = .cells #[.int .i64 x.kind, .int .i64 x.num, .string x.text, .slice ua x.list.length uc] 59 := ⟨_, rfl⟩
  obtain ⟨Y, hY⟩ : ∃ Y : Obj, Y = .cells #[.int .i64 y.kind, .int .i64 y.num, .string y.text, .slice va y.list.length vc] 59 := ⟨_, rfl⟩
  have q1 := below_new w X
  have q2 := below_new (w.alloc X) Y
  have q3 := below_new ((w.alloc X).alloc Y) X
  have q4 := below_new (((w.alloc X).alloc Y).alloc X) Y
  have hs3 : ((w.alloc X).alloc Y).heap.size = w.heap.size + 1 + 1 := by simp
  have hs4 : (((w.alloc X).alloc Y).alloc X).heap.size = w.heap.size + 1 + 1 + 1 := by simp
  have hb := Below.next (Below.next (Below.next q1 q2) q3) q4
  have r3 : RowAt ((((w.alloc X).alloc Y).alloc X).alloc Y) (w.heap.size + 1 + 1) #[.int .i64 x.kind, .int .i64 x.num, .string x.text, .slice ua x.list.length uc] 59 := by
    rw [← hs3, hX]
    rw [hX] at q4
    exact (RowAt.new _ _ _).below q4
  have r4 : RowAt ((((w.alloc X).alloc Y).alloc X).alloc Y) (w.heap.size + 1 + 1 + 1) #[.int .i64 y.kind, .int .i64 y.num, .string y.text, .slice va y.list.length vc] 59 := by
    rw [← hs4, hY]
    exact RowAt.new _ _ _
  have HCP := hide (compare_any aA aM [x] [y] (.slice (some ⟨w.heap.size + 1 + 1, 0, none⟩) 1 1) (.slice (some ⟨w.heap.size + 1 + 1 + 1, 0, none⟩) 1 1) _ (its_one r3 trivial hx (hu.keep hb)) (its_one r4 trivial hy (hv.keep hb)) (he.keep hb) (fun _ => sx) (fun _ => sy))
  have HB := hide hb
  rw [hX, hY] at HCP HB
  generalize compV [x] [y] = cv at HCP ⊢
  generalize errOf aA aM (compF [x] [y]) = ev at HCP
  clear q1 q2 q3 q4 hs3 hs4 hb r3 r4 hX hY hu hv he hx hy sx sy
  go_enter Tryd.func62, Tryd.ntmps62
  go_wp2_with fail
  refine HCP.out.mono ?_
  rintro e w5 ⟨rfl, hb5⟩
  have HB5 := hide (Below.next HB.out hb5)
  clear hb5 HCP HB
  go_wp2
  go_ret
  exact ⟨rfl, HB5.out⟩
/-- The cells of a test. -/
abbrev tsV (fi : Int) (c : Cd) (u : Value) : Array Value := #[.int .i64 fi, .int .i64 c.item.kind, .int .i64 c.item.num, .string c.item.text, u, sgnV (sgnFn c.sign)]
set_option maxHeartbeats 4000000 in
set_option maxRecDepth 100000 in
theorem pismet_any (aA aM : Addr) (fi : Int) (c : Cd) (x : It) (uc u : Value) (w : World) (hc : c.item.Ok) (hx : x.Ok) (huc : ItsAt w anyB uc c.item.list) (hu : ItsAt w anyB u x.list) (he : Errs2 aA aM w) (fx : packF [x] = 0) (fc : packF [c.item] = 0) (sx : (encL [x]).length ≤ 100000000000000) (sc : (encL [c.item]).length ≤ 100000000000000) :
    Calls Tryd.prog 43 #[.agg (tsV fi c uc), .agg (iV x u)] w fun e w' => e = .returned (.bool (standsB x c)) ∧ Below w.heap.size w w' := by
  obtain ⟨r, hr⟩ : ∃ r, r = standsB x c := ⟨_, rfl⟩
  rw [← hr]
  have ox : OkR 4 [x] := fun y hy => by
    obtain rfl : y = x := by simpa using hy
    exact ⟨hx, hu.okR 3⟩
  have oc : OkR 4 [c.item] := fun y hy => by
    obtain rfl : y = c.item := by simpa using hy
    exact ⟨hc, huc.okR 3⟩
  have HR : Hid (r = (decide (x.kind = c.item.kind) && signB c.sign (compV [x] [c.item]))) := by
    show _ = _
    rw [hr, standsB, comp_one x c.item fx fc ox oc]
  obtain ⟨ua, ul, hf⟩ := hu.form
  obtain ⟨va, vl, hg⟩ := huc.form
  subst hf hg
  simp only [iV, tsV, sgnV]
  have q1 := below_new w (.cells #[.int .i64 fi, .int .i64 c.item.kind, .int .i64 c.item.num, .string c.item.text, .slice va c.item.list.length vl, .func (.func (sgnFn c.sign)) #[] #[]] 101)
  have x1 := RowAt.new w #[.int .i64 fi, .int .i64 c.item.kind, .int .i64 c.item.num, .string c.item.text, .slice va c.item.list.length vl, .func (.func (sgnFn c.sign)) #[] #[]] 101
  have hs1 : (w.alloc (.cells #[.int .i64 fi, .int .i64 c.item.kind, .int .i64 c.item.num, .string c.item.text, .slice va c.item.list.length vl, .func (.func (sgnFn c.sign)) #[] #[]] 101)).heap.size = w.heap.size + 1 := by simp
  generalize hW1 : w.alloc (.cells #[.int .i64 fi, .int .i64 c.item.kind, .int .i64 c.item.num, .string c.item.text, .slice va c.item.list.length vl, .func (.func (sgnFn c.sign)) #[] #[]] 101) = W1 at q1 x1 hs1
  have q2 := below_new W1 (.cells #[.int .i64 x.kind, .int .i64 x.num, .string x.text, .slice ua x.list.length ul] 59)
  have x2 := RowAt.new W1 #[.int .i64 x.kind, .int .i64 x.num, .string x.text, .slice ua x.list.length ul] 59
  rw [hs1] at x2
  generalize hW2 : W1.alloc (.cells #[.int .i64 x.kind, .int .i64 x.num, .string x.text, .slice ua x.list.length ul] 59) = W2 at q2 x2
  have HW : Hid ((w.alloc (.cells #[.int .i64 fi, .int .i64 c.item.kind, .int .i64 c.item.num, .string c.item.text, .slice va c.item.list.length vl, .func (.func (sgnFn c.sign)) #[] #[]] 101)).alloc (.cells #[.int .i64 x.kind, .int .i64 x.num, .string x.text, .slice ua x.list.length ul] 59) = W2) := by rw [hW1]; exact hW2
  have hb2 := Below.next q1 q2
  have HB := hide hb2
  obtain ⟨t0, t1, t2, t3, t4, t5⟩ := (x1.below q2).q6
  have i0 := x2.cell 0 (by simp)
  have i1 := x2.cell 1 (by simp)
  have i2 := x2.cell 2 (by simp)
  have i3 := x2.cell 3 (by simp)
  simp only [List.getElem_toArray, List.getElem_cons_zero, List.getElem_cons_succ] at i0 i1 i2 i3
  have HCP := hide (fun W (hW : Below W2.heap.size W2 W) => pcomp_any aA aM x c.item (.slice ua x.list.length ul) (.slice va c.item.list.length vl) W hx hc ((hu.keep hb2).keep hW) ((huc.keep hb2).keep hW) ((he.keep hb2).keep hW) sx sc)
  have HSG := hide (fun n W => sgn_any c.sign n W)
  have hcf := sgn_call c.sign
  generalize compV [x] [c.item] = cv at HR HCP
  simp only [iV] at HCP
  have HT := hide (fun W (hW : Below W2.heap.size W2 W) => cell_below hW t5)
  clear hr ox oc q1 x1 hs1 q2 x2 hb2 hW1 hW2 hu huc he hx hc fx fc sx sc
  go_enter Tryd.func43, Tryd.ntmps43
  by_cases hk : x.kind = c.item.kind
  · have hkb : (x.kind == c.item.kind) = true := by simp [hk]
    have HF : Hid (r = signB c.sign cv) := by show _ = _; rw [HR.out]; simp [hk]
    clear hk HR
    go_upto_region 1 with fail
    rw [HW.out]
    go_region_held3 (fun w' => w'.cell? ⟨w.heap.size, 1, none⟩ = some (.int .i64 c.item.kind) ∧ w'.cell? ⟨w.heap.size, 2, none⟩ = some (.int .i64 c.item.num) ∧ w'.cell? ⟨w.heap.size, 3, none⟩ = some (.string c.item.text) ∧ w'.cell? ⟨w.heap.size, 4, none⟩ = some (.slice va c.item.list.length vl) ∧ w'.cell? ⟨w.heap.size, 5, none⟩ = some (.func (.func (sgnFn c.sign)) #[] #[]) ∧ w'.cell? ⟨w.heap.size + 1, 0, none⟩ = some (.int .i64 x.kind) ∧ w'.cell? ⟨w.heap.size + 1, 1, none⟩ = some (.int .i64 x.num) ∧ w'.cell? ⟨w.heap.size + 1, 2, none⟩ = some (.string x.text) ∧ w'.cell? ⟨w.heap.size + 1, 3, none⟩ = some (.slice ua x.list.length ul)) (go_keep)
      (first
        | (go_at_call 62; refine (HCP.out _ ?_).mono ?_; (first | exact Below.refl _ _ | exact (Below.refl _ _).drew | exact below_drewN' (Below.refl _ _) _); rintro e w6 ⟨rfl, hg⟩; have HG := hide hg; have kt1 := cell_below (w := W2) ⟨hg.os, hg.tape, hg.output, hg.size, hg.block⟩ t1; have kt2 := cell_below (w := W2) ⟨hg.os, hg.tape, hg.output, hg.size, hg.block⟩ t2; have kt3 := cell_below (w := W2) ⟨hg.os, hg.tape, hg.output, hg.size, hg.block⟩ t3; have kt4 := cell_below (w := W2) ⟨hg.os, hg.tape, hg.output, hg.size, hg.block⟩ t4; have kt5 := cell_below (w := W2) ⟨hg.os, hg.tape, hg.output, hg.size, hg.block⟩ t5; have ki0 := cell_below (w := W2) ⟨hg.os, hg.tape, hg.output, hg.size, hg.block⟩ i0; have ki1 := cell_below (w := W2) ⟨hg.os, hg.tape, hg.output, hg.size, hg.block⟩ i1; have ki2 := cell_below (w := W2) ⟨hg.os, hg.tape, hg.output, hg.size, hg.block⟩ i2; have ki3 := cell_below (w := W2) ⟨hg.os, hg.tape, hg.output, hg.size, hg.block⟩ i3; clear hg)
        | (refine (HSG.out _ _).mono ?_; rintro e w7 ⟨rfl, rfl⟩))
    generalize signB c.sign cv = sb at *
    clear t0 t1 t2 t3 t4 t5 i0 i1 i2 i3 kt1 kt2 kt3 kt4 kt5 ki0 ki1 ki2 ki3 HCP HSG hcf HT
    go_wp2
    go_ret
    exact ⟨by rw [HF.out]; rfl, Below.next (b := W2) HB.out ⟨HG.out.os, HG.out.tape, HG.out.output, HG.out.size, HG.out.block⟩⟩
  · have hkb : (x.kind == c.item.kind) = false := by simp [hk]
    have HF : Hid (r = false) := by show _ = _; rw [HR.out]; simp [hk]
    clear hk HR
    go_upto_region 1 with fail
    rw [HW.out]
    go_quiet (fail)
    go_wp2
    go_ret
    exact ⟨by rw [HF.out]; rfl, below_drewN' HB.out _⟩
end Go.Proofs.YtddhjnfcbpookaaDoor
