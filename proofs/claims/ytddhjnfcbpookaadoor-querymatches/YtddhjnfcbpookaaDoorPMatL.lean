import Derived.Test.YtddhjnfcbpookaaDoorPMat
import Derived.Test.YtddhjnfcbpookaaDoorQChoose
import Derived.Test.YtddhjnfcbpookaaDoorQTwin
import Derived.Test.YtddhjnfcbpookaaDoorQSmall
namespace Go.Proofs.YtddhjnfcbpookaaDoor
open Go.RowKit Go.Maps

theorem RowAt.q10 {w : World} {b : Nat} {t : TypeId} {x0 x1 x2 x3 x4 x5 x6 x7 x8 x9 : Value} (h : RowAt w b #[x0, x1, x2, x3, x4, x5, x6, x7, x8, x9] t) : (w.cell? ⟨b, 0, none⟩ = some x0 ∧ w.cell? ⟨b, 1, none⟩ = some x1 ∧ w.cell? ⟨b, 2, none⟩ = some x2 ∧ w.cell? ⟨b, 3, none⟩ = some x3 ∧ w.cell? ⟨b, 4, none⟩ = some x4) ∧ w.cell? ⟨b, 5, none⟩ = some x5 ∧ w.cell? ⟨b, 6, none⟩ = some x6 ∧ w.cell? ⟨b, 7, none⟩ = some x7 ∧ w.cell? ⟨b, 8, none⟩ = some x8 ∧ w.cell? ⟨b, 9, none⟩ = some x9 := ⟨⟨h.cell 0 (by simp), h.cell 1 (by simp), h.cell 2 (by simp), h.cell 3 (by simp), h.cell 4 (by simp)⟩, h.cell 5 (by simp), h.cell 6 (by simp), h.cell 7 (by simp), h.cell 8 (by simp), h.cell 9 (by simp)⟩
set_option maxHeartbeats 8000000 in
set_option maxRecDepth 100000 in
theorem lmatches_any (A : Nat → Addr) (tn : ByteArray) (fv iv rv cv : Value) (id : Int) (fs : List Fd) (ixs : List (List Int)) (its : List It) (q : Qd) (w : World) (hf : FsAt w fv fs) (hn : ∀ f ∈ fs, f.1.size ≤ 140737488355328) (hi : IxsAt w iv ixs) (hr : ItsAt w anyB rv its) (hc : CsAt w anyB cv q.cs) (he : ErrsAt 13 gAll A w) (ht : q.table.size ≤ 140737488355328) (ho : q.order.size ≤ 140737488355328) :
    Calls Tryd.prog 4 #[.agg #[.string tn, fv, iv, .int .i64 id, rv, .string q.table, cv, .string q.order, .bool q.falling, .int .i64 q.limit]] w fun e w' => e = .returned (.bool true) ∧ Below w.heap.size w w' := by
  have HSM := hide (fun W (hW : Below w.heap.size w W) => small_any q cv id its rv W (hc.keep hW) (hr.keep hW))
  have HTW := hide (fun W (hW : Below w.heap.size w W) => twinOf_any q cv W (hc.keep hW))
  have HPC := hide (fun W (hW : Below w.heap.size w W) cw (hcw : CsAt W anyB cw q.cs) (hsz : cntL its + cntC q.cs ≤ 16777216) => pmatch_any A tn fv iv cw rv id fs its q.cs W (hf.keep hW) hn (hi.form.elim fun a h => h.elim fun c e => ⟨a, _, c, e⟩) (hr.keep hW) hcw (he.keep hW) hsz)
  have HRC := hide (fun W (hW : Below w.heap.size w W) (hsz : cntL its + cntC q.cs ≤ 16777216) => match_any tn fv iv cv rv fs id its q.cs W (hf.keep hW) (hi.form.elim fun a h => h.elim fun c e => ⟨a, _, c, e⟩) (hr.keep hW) (hc.keep hW) hsz)
  have HLR := hide (fun W (hW : Below w.heap.size w W) g cap base hl => lret_any q cv g cap base W (hc.keep hW) hl)
  have HER := hide he
  have hclen := hc.len
  obtain ⟨ca, cc, hcv⟩ := hc.form
  obtain ⟨fa, fc, hfv⟩ := hf.form
  obtain ⟨ia, ic, hiv⟩ := hi.form
  obtain ⟨ra, rc, hrv⟩ := hr.form
  subst hcv hfv hiv hrv
  have HCK := hide (match_kinds fs its q.cs)
  generalize matchD fs its q.cs = R at HPC HRC HCK
  obtain ⟨rb, rn⟩ := R
  obtain ⟨t, l, o, f, m⟩ := q
  simp only [qV, tV] at HSM HTW HPC HRC HLR HCK hclen ⊢
  have q1 := below_new w (.cells #[.string tn, .slice fa fs.length fc, .slice ia ixs.length ic, .int .i64 id, .slice ra its.length rc, .string t, .slice ca l.length cc, .string o, .bool f, .int .i64 m] 33)
  have x1 := RowAt.new w #[.string tn, .slice fa fs.length fc, .slice ia ixs.length ic, .int .i64 id, .slice ra its.length rc, .string t, .slice ca l.length cc, .string o, .bool f, .int .i64 m] 33
  obtain ⟨⟨b0, b1, b2, b3, b4⟩, b5, b6, b7, b8, b9⟩ := x1.q10
  generalize hW1 : w.alloc (.cells #[.string tn, .slice fa fs.length fc, .slice ia ixs.length ic, .int .i64 id, .slice ra its.length rc, .string t, .slice ca l.length cc, .string o, .bool f, .int .i64 m] 33) = W1 at q1 x1
  have HW := hide hW1
  have HX := hide x1
  have HB := hide q1
  have HS1 := hide (HSM.out W1 q1)
  clear hf hi hc hr he hn ht ho q1 x1 hW1 HSM
  go_enter Tryd.func4, Tryd.ntmps4
  go_wp2_with fail
  rw [HW.out] at b0 b1 b2 b3 b4 b5 b6 b7 b8 b9 ⊢
  refine HS1.out.mono ?_
  rintro e w2 ⟨sb, rfl, hsb, hb2⟩
  cases sb with
  | false =>
    have HEB := hide (Below.next HB.out hb2)
    clear hsb hb2
    go_wp2
    go_ret
    exact ⟨rfl, HEB.out⟩
  | true =>
    have HSZ : Hid (cntL its + cntC l ≤ 16777216) := hsb rfl
    have hb02 := Below.next HB.out hb2
    have HT2 := hide (HTW.out w2 hb02)
    have HX2 := hide (HX.out.below hb2)
    clear b0 b1 b2 b3 b4 b5 b6 b7 b8 b9
    obtain ⟨⟨b0, b1, b2, b3, b4⟩, b5, b6, b7, b8, b9⟩ := HX2.out.q10
    have HB2 := hide hb02
    clear hsb hb2 hb02 HS1 HTW HX
    go_wp2_with fail
    refine HT2.out.mono ?_
    rintro e w3 ⟨g, cap, rfl, hlent⟩
    have HL3 := hide hlent.all
    have HB3 := hide (Below.next HB2.out hlent.bel)
    have HX3 := hide (HX2.out.below hlent.bel)
    have q4 := below_new w3 (.cells #[.string t, .slice (some ⟨g, 0, none⟩) l.length cap, .string o, .bool f, .int .i64 m] 31)
    have x4 := RowAt.new w3 #[.string t, .slice (some ⟨g, 0, none⟩) l.length cap, .string o, .bool f, .int .i64 m] 31
    have HL4 := hide (hlent.all.keep q4)
    have HX4 := hide (HX3.out.below q4)
    clear b0 b1 b2 b3 b4 b5 b6 b7 b8 b9
    obtain ⟨⟨b0, b1, b2, b3, b4⟩, b5, b6, b7, b8, b9⟩ := HX4.out.q10
    obtain ⟨y0, y1, y2, y3, y4⟩ := x4.q5
    obtain ⟨QB, hQB⟩ : ∃ QB, QB = w3.heap.size := ⟨_, rfl⟩
    obtain ⟨W4, hW4⟩ : ∃ W4, w3.alloc (.cells #[.string t, .slice (some ⟨g, 0, none⟩) l.length cap, .string o, .bool f, .int .i64 m] 31) = W4 := ⟨_, rfl⟩
    have HW4 := hide hW4
    have HQB := hide hQB
    have HQR : Hid (RowAt W4 QB #[.string t, .slice (some ⟨g, 0, none⟩) l.length cap, .string o, .bool f, .int .i64 m] 31) := by
      show RowAt _ _ _ _
      rw [← hW4, hQB]; exact x4
    rw [hW4] at HL4 HX4 q4
    have HB4 := hide (Below.next HB3.out q4)
    have HP4 := hide (HPC.out W4 HB4.out (.slice (some ⟨g, 0, none⟩) l.length cap) ((HL4.out.head (cap' := cap) hclen).any) HSZ.out)
    clear hlent q4 x4 hW4 hQB HT2 HX2 HX3 HL3 HPC HB2
    go_wp2_with fail
    rw [HW4.out] at b0 b1 b2 b3 b4 b5 b6 b7 b8 b9 y0 y1 y2 y3 y4 ⊢
    rw [← HQB.out]
    refine HP4.out.mono ?_
    rintro e w5 ⟨rfl, hb5⟩
    have HX6 := hide (HX4.out.below hb5)
    have HQ6 := hide (HQR.out.below hb5)
    have HL6 := hide (HL4.out.keep hb5)
    have HB6 := hide (Below.next HB4.out hb5)
    clear b0 b1 b2 b3 b4 b5 b6 b7 b8 b9 y0 y1 y2 y3 y4
    obtain ⟨⟨b0, b1, b2, b3, b4⟩, b5, b6, b7, b8, b9⟩ := HX6.out.q10
    have HR6 := hide (HRC.out w5 HB6.out HSZ.out)
    clear hb5 HP4 HX4 HQR HL4 HB4 HRC
    obtain ⟨ev, hev⟩ : ∃ ev, ev = errQ A rn := ⟨_, rfl⟩
    rw [← hev]
    have HNM := hide (fun W (hW : ErrsAt 13 gAll A W) => num_errQ A W hW rn HCK.out)
    rw [← hev] at HNM
    clear hev HCK
    go_wp2_with fail
    refine HR6.out.mono ?_
    rintro e w7 ⟨rfl, hb7⟩
    have HX8 := hide (HX6.out.below hb7)
    have HQ8 := hide (HQ6.out.below hb7)
    have HL8 := hide (HL6.out.keep hb7)
    have HB8 := hide (Below.next HB6.out hb7)
    clear b0 b1 b2 b3 b4 b5 b6 b7 b8 b9
    obtain ⟨⟨b0, b1, b2, b3, b4⟩, b5, b6, b7, b8, b9⟩ := HX8.out.q10
    obtain ⟨y0, y1, y2, y3, y4⟩ := HQ8.out.q5
    have HN8 := hide (HNM.out w7 (HER.out.keep HB8.out))
    have HR8 := hide (HLR.out w7 HB8.out g cap w2.heap.size HL8.out)
    clear hb7 HR6 HX6 HQ6 HL6 HB6 HNM HLR
    have g1 : (rb == rb) = true := by simp
    have g3 : ((rn : Int) == (rn : Int)) = true := by simp
    go_wp2_with fail
    refine HN8.out.mono ?_
    rintro e w9 ⟨rfl, rfl⟩
    go_wp2_with fail
    refine HR8.out.mono ?_
    rintro e w10 ⟨rfl, hb10⟩
    have HEB := hide (Below.next HB8.out hb10)
    clear hb10 HR8
    go_wp2
    go_ret
    exact ⟨rfl, HEB.out⟩
end Go.Proofs.YtddhjnfcbpookaaDoor
