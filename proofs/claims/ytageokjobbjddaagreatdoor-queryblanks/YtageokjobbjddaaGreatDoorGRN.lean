import Derived.Test.YtageokjobbjddaaGreatDoorGRW
import Derived.Test.YtageokjobbjddaaGreatDoorPPar2
import Derived.Test.YtageokjobbjddaaGreatDoorGRC
namespace Go.Proofs.YtageokjobbjddaaGreatDoor
open Go.RowKit

/-! The law's `first`. -/
/-- What the statements stand on. -/
structure LEnv (A : Nat → Addr) (w : World) : Prop where
  errs : ErrsAt 3 gAll A w
  tok : TokEnv w
  pow : Lib.TabIs Tryz.prog w "internal/strconv.uint64pow10" .u64 Lib.pow10Tab
theorem LEnv.keep {A : Nat → Addr} {w w' : World} (h : LEnv A w) (hb : Below w.heap.size w w') : LEnv A w' := ⟨h.errs.keep hb, h.tok.keep hb, Lib.tabBelow_of_tabIs h.pow w' hb⟩
theorem fq_cnt : cntC FQ.cs ≤ 16777216 := by decide
set_option maxHeartbeats 8000000 in
set_option maxRecDepth 100000 in
theorem first_any (A : Nat → Addr) (w : World) (hv : LEnv A w) :
    Calls Tryz.prog 7 #[] w fun e w' => e = .returned (.bool true) ∧ Below w.heap.size w w' := by
  have HP := hide (pparse_any A FT1 w hv.errs hv.tok (by decide))
  rw [fq_parse] at HP
  have HV := hide hv
  unfold FT1 at HP
  clear hv
  go_enter Tryz.func7, Tryz.ntmps7
  go_wp2_with fail
  refine HP.out.mono ?_
  rintro e W1 ⟨⟨la, k, rfl, hCS⟩, hB1⟩
  have y1 := RowAt.new W1 #[.string ⟨#[]⟩, .slice none 0 0, .string ⟨#[]⟩, .bool false, .int .i64 0] 24
  have HST := hide (store_q _ W1.heap.size _ _ _ _ _ FQ la FQ.cs.length k y1)
  obtain ⟨V, hV⟩ : ∃ V, (W1.alloc (.cells #[.string ⟨#[]⟩, .slice none 0 0, .string ⟨#[]⟩, .bool false, .int .i64 0] 24)).setRow W1.heap.size (qV FQ (.slice la FQ.cs.length k)) = V := ⟨_, rfl⟩
  have hB : Below W1.heap.size W1 V := by rw [← hV]; exact below_setRow (below_new W1 _) (Nat.le_refl _) _
  have yV : RowAt V W1.heap.size (qV FQ (.slice la FQ.cs.length k)) 24 := by rw [← hV]; exact row_set _ _ _ _ _ y1
  rw [hV] at HST
  have hVV := HV.out.keep (Below.next hB1 hB)
  have HPR := hide (pprint_any A FQ (.slice la FQ.cs.length k) V (hCS.keep hB).any hVV.errs fq_cnt (by decide) (by decide) (by decide) hVV.pow)
  rw [fq_print.1, fq_print.2] at HPR
  have HC := hide (hCS.keep hB)
  have HYV := hide yV
  have HBV := hide (Below.next hB1 hB)
  obtain ⟨d0, d1, d2, d3, d4⟩ := yV.q5
  simp only [qV, FQ, List.length_cons, List.length_nil] at HPR HST HYV d0 d1 d2 d3 d4 HC
  unfold FT2 at HPR
  clear HP hCS hB1 y1 hV hB yV hVV
  go_wp2_with (first
    | (refine wpList_store_eq rfl 24 _ _ rfl _ _ rfl rfl HST.out ?_))
  refine HPR.out.mono ?_
  rintro e W2 ⟨rfl, hb2⟩
  have hC2 := HC.out.keep hb2
  obtain ⟨cg, coff, cu, hla, -, -, -, -, -, s3, -, -, -⟩ := hC2.get 0 (by simp)
  subst hla
  simp only [List.getElem_cons_zero, It.num, Nat.zero_mul, Nat.add_zero] at s3
  have HB2 := hide (Below.next HBV.out hb2)
  clear d0 d1 d2 d3 d4
  obtain ⟨d0, d1, d2, d3, d4⟩ := (HYV.out.below hb2).q5
  have e0 : errQ A 0 = .nilIface := rfl
  rw [e0]
  clear HPR HST hb2 hC2 HC HYV HBV e0
  go_wp2_with fail
  go_ret
  exact ⟨rfl, HB2.out⟩
end Go.Proofs.YtageokjobbjddaaGreatDoor

namespace Go.Proofs.YtageokjobbjddaaGreatDoor
open Go.RowKit

set_option maxRecDepth 100000 in
set_option maxHeartbeats 2000000 in
/-- Two queries that are the same data are the same. -/
theorem sameQ_same (q : Qd) (va vb : Value) (w : World) (ha : CsAt w anyB va q.cs) (hb : CsAt w anyB vb q.cs) :
    Calls Tryz.prog 10 #[.agg (qV q va), .agg (qV q vb)] w fun e w' => e = .returned (.bool true) ∧ Below w.heap.size w w' := by
  obtain ⟨t, l, o, f, m⟩ := q
  simp only [qV] at ha hb ⊢
  obtain ⟨aa, ac, hva⟩ := ha.form
  obtain ⟨ba, bc, hvb⟩ := hb.form
  subst hva hvb
  have q1 := below_new w (.cells #[.string t, .slice aa l.length ac, .string o, .bool f, .int .i64 m] 24)
  have x1 := RowAt.new w #[.string t, .slice aa l.length ac, .string o, .bool f, .int .i64 m] 24
  have hs1 : (w.alloc (.cells #[.string t, .slice aa l.length ac, .string o, .bool f, .int .i64 m] 24)).heap.size = w.heap.size + 1 := by simp
  generalize hW1 : w.alloc (.cells #[.string t, .slice aa l.length ac, .string o, .bool f, .int .i64 m] 24) = W1 at q1 x1 hs1
  have q2 := below_new W1 (.cells #[.string t, .slice ba l.length bc, .string o, .bool f, .int .i64 m] 24)
  have x2 := RowAt.new W1 #[.string t, .slice ba l.length bc, .string o, .bool f, .int .i64 m] 24
  rw [hs1] at x2
  generalize hW2 : W1.alloc (.cells #[.string t, .slice ba l.length bc, .string o, .bool f, .int .i64 m] 24) = W2 at q2 x2
  have HW : Hid ((w.alloc (.cells #[.string t, .slice aa l.length ac, .string o, .bool f, .int .i64 m] 24)).alloc (.cells #[.string t, .slice ba l.length bc, .string o, .bool f, .int .i64 m] 24) = W2) := by rw [hW1]; exact hW2
  have hb2 := Below.next q1 q2
  have HX := hide (x1.below q2)
  have HY := hide x2
  have HA := hide (ha.keep hb2)
  have HB := hide (hb.keep hb2)
  have HBL := hide hb2
  have et : (t.toList != t.toList) = false := by simp
  have eo : (o.toList != o.toList) = false := by simp
  have ef : (f != f) = false := by simp
  have em : (m != m) = false := by simp
  have el : ((l.length : Int) != (l.length : Int)) = false := by simp
  have hlen := ha.len
  clear ha hb q1 x1 hs1 q2 x2 hb2 hW1 hW2
  go_enter Tryz.func10, Tryz.ntmps10
  go_wp2
  rw [HW.out]
  go_loopw [5, 6] (fun iv _ wr => ∃ j : Nat, iv = .int .i64 (j : Int) ∧ j ≤ l.length ∧ Below W2.heap.size W2 wr) (fun iv _ _ => l.length - (intOf iv).toNat)
  case atStart => exact ⟨0, rfl, Nat.zero_le _, Below.refl _ _⟩
  case round =>
    obtain ⟨j, rfl, hj, hbl⟩ := hrel
    have c1 := (HX.out.below hbl).q5.2.1
    have d1 := (HY.out.below hbl).q5.2.1
    have HBB := hide hbl
    by_cases hlt : j < l.length
    · obtain ⟨g, off, u, hca, -, -, s0, s1, s2, s3, s4, s5, hin⟩ := (HA.out.keep hbl).get j hlt
      obtain ⟨g', off', u', hcb, -, -, r0, r1, r2, r3, r4, r5, hin'⟩ := (HB.out.keep hbl).get j hlt
      obtain ⟨x, hx⟩ : ∃ x, x = l[j] := ⟨_, rfl⟩
      rw [← hx] at s0 s1 s2 s3 s4 hin r0 r1 r2 r3 r4 hin'
      subst hca hcb
      have hd1 : (j : Int) < (l.length : Int) := by omega
      have e0 : (0 : Int) ≤ (j : Int) := by omega
      have HSI : Hid (∀ W, Below wr.heap.size wr W → Calls Tryz.prog 19 #[.agg #[.int .i64 x.item.kind, .int .i64 x.item.num, .string x.item.text, u], .agg #[.int .i64 x.item.kind, .int .i64 x.item.num, .string x.item.text, u']] W fun e w' => e = .returned (.bool true) ∧ Below wr.heap.size wr w') := fun W hW =>
        (sameItem_any _ (sameItems_any _) x.item x.item u u' W (Nat.le_refl _) (hin.keep hW) (hin'.keep hW)).mono fun e w' ⟨b, e1, e2, e3⟩ => ⟨by rw [e1, e2.2 rfl], Below.next hW e3⟩
      obtain ⟨ua, uc, hu⟩ := hin.form
      obtain ⟨ua', uc', hu'⟩ := hin'.form
      subst hu hu'
      have HJ : Hid (j + 1 ≤ l.length) := by show _ ≤ _; omega
      have ex : (x.field.toList != x.field.toList) = false := by simp
      have es : (x.sign != x.sign) = false := by simp
      have HS2 : Hid (∀ W, Below wr.heap.size wr W → W.cell? ⟨w.heap.size, 1, none⟩ = some (.slice (some ⟨g, off, none⟩) l.length ac) ∧ W.cell? ⟨w.heap.size + 1, 1, none⟩ = some (.slice (some ⟨g', off', none⟩) l.length bc) ∧ W.cell? ⟨g, off + j * 6, none⟩ = some (.string x.field) ∧ W.cell? ⟨g, off + j * 6 + 1, none⟩ = some (.int .i64 x.sign) ∧ W.cell? ⟨g', off' + j * 6, none⟩ = some (.string x.field) ∧ W.cell? ⟨g', off' + j * 6 + 1, none⟩ = some (.int .i64 x.sign)) := fun W hW => ⟨cell_below hW c1, cell_below hW d1, cell_below hW s0, cell_below hW s1, cell_below hW r0, cell_below hW r1⟩
      clear hin hin' hx hbl
      go_upto_region 6 with fail
      go_cut [6] from 42 to 93 (fun v wx => v = .bool true ∧ Below wr.heap.size wr wx)
      case first =>
        go_region_held3 (fun w' => w'.cell? ⟨w.heap.size, 1, none⟩ = some (.slice (some ⟨g, off, none⟩) l.length ac) ∧ w'.cell? ⟨w.heap.size + 1, 1, none⟩ = some (.slice (some ⟨g', off', none⟩) l.length bc) ∧ w'.cell? ⟨g, off + j * 6 + 2, none⟩ = some (.int .i64 x.item.kind) ∧ w'.cell? ⟨g, off + j * 6 + 3, none⟩ = some (.int .i64 x.item.num) ∧ w'.cell? ⟨g, off + j * 6 + 4, none⟩ = some (.string x.item.text) ∧ w'.cell? ⟨g, off + j * 6 + 5, none⟩ = some (.slice ua x.item.list.length uc) ∧ w'.cell? ⟨g', off' + j * 6 + 2, none⟩ = some (.int .i64 x.item.kind) ∧ w'.cell? ⟨g', off' + j * 6 + 3, none⟩ = some (.int .i64 x.item.num) ∧ w'.cell? ⟨g', off' + j * 6 + 4, none⟩ = some (.string x.item.text) ∧ w'.cell? ⟨g', off' + j * 6 + 5, none⟩ = some (.slice ua' x.item.list.length uc')) (go_keep)
          (first | (go_at_call 19; refine (HSI.out _ ?_).mono ?_; (first | exact Below.refl _ _ | exact (Below.refl _ _).drew | exact below_drewN' (Below.refl _ _) _); rintro e w4 ⟨rfl, hg⟩; have HG := hide hg; have k1 := cell_below hg c1; have k2 := cell_below hg d1; have k3 := cell_below hg s2; have k4 := cell_below hg s3; have k5 := cell_below hg s4; have k6 := cell_below hg s5; have k7 := cell_below hg r2; have k8 := cell_below hg r3; have k9 := cell_below hg r4; have k10 := cell_below hg r5; clear hg))
        all_goals
          clear c1 d1 s0 s1 s2 s3 s4 s5 r0 r1 r2 r3 r4 r5 k1 k2 k3 k4 k5 k6 k7 k8 k9 k10 HSI
          go_wp2_with fail
          go_meet
          exact ⟨rfl, HG.out⟩
      case rest =>
        obtain ⟨rfl, hbc⟩ := hcut
        obtain ⟨y1, y2, y3, y4, y5, y6⟩ := HS2.out wc hbc
        have HBC := hide (Below.next HBB.out hbc)
        clear hbc HSI c1 d1 s0 s1 s2 s3 s4 s5 r0 r1 r2 r3 r4 r5 HS2
        go_wp2_with fail
        go_quiet (fail)
        have HBD := hide (below_drewN' HBC.out nq)
        clear y1 y2 y3 y4 y5 y6
        go_wp2
        go_roundw
        case rel => exact ⟨j + 1, by go_num, HJ.out, HBD.out⟩
        case measure => simp [intOf]; omega
    · have he : ¬ (j : Int) < (l.length : Int) := by omega
      have HE : Hid (Below w.heap.size w wr) := Below.next HBL.out hbl
      clear hlt hbl
      go_wp2
      go_ret
      exact ⟨rfl, HE.out⟩
end Go.Proofs.YtageokjobbjddaaGreatDoor
