import Derived.Test.YtddhjnfcbpookaaDoorPPrn
import Derived.Test.YtddhjnfcbpookaaDoorQTwin
import Derived.Test.YtddhjnfcbpookaaDoorQSmall
namespace Go.Proofs.YtddhjnfcbpookaaDoor
open Go.RowKit

theorem below_grow (W : World) (k : Nat) (os : Array Obj) : Below W.heap.size W (Sort.grow (W.drewN k) os) := by
  refine ⟨rfl, rfl, rfl, ?_, fun j hj => ?_⟩
  · show W.heap.size ≤ (W.heap ++ os).size
    simp
  · show (W.heap ++ os)[j]? = W.heap[j]?
    exact Array.getElem?_append_left hj
theorem itoAt_of {w : World} (hp : Lib.TabIs Tryd.prog w "internal/strconv.uint64pow10" .u64 Lib.pow10Tab) : ItoAt w := fun W n hW h1 h2 => by
  refine (Any.strconv_Itoa Tryd.lays171 n h1 h2 W (Lib.tabBelow_of_tabIs hp W hW)).mono ?_
  rintro e w' ⟨rfl, k, os, rfl⟩
  exact ⟨rfl, below_grow W k os⟩
theorem print_kinds (q : Qd) : printF q = 0 ∨ printF q = 1 ∨ printF q = 2 ∨ printF q = 3 ∨ printF q = 6 := by
  unfold printF
  split
  · split
    · exact .inr (.inr (.inr (.inl rfl)))
    · exact .inl rfl
  · rcases qfault_kinds' q with h | h | h
    · exact .inl h
    · exact .inr (.inl h)
    · exact .inr (.inr (.inr (.inl h)))
set_option maxHeartbeats 8000000 in
set_option maxRecDepth 100000 in
theorem lprints_any (A : Nat → Addr) (cv : Value) (q : Qd) (w : World) (hc : CsAt w anyB cv q.cs) (he : ErrsAt 13 gAll A w) (ht : q.table.size ≤ 140737488355328) (ho : q.order.size ≤ 140737488355328) (hm1 : -9223372036854775808 ≤ q.limit) (hm2 : q.limit ≤ 9223372036854775807) (hp : Lib.TabIs Tryd.prog w "internal/strconv.uint64pow10" .u64 Lib.pow10Tab) :
    Calls Tryd.prog 5 #[.agg (qV q cv)] w fun e w' => e = .returned (.bool true) ∧ Below w.heap.size w w' := by
  have HSM := hide (fun W (hW : Below w.heap.size w W) => small_any q cv 0 [] (.slice none 0 0) W (hc.keep hW) (its_nil W anyB none 0))
  have HTW := hide (fun W (hW : Below w.heap.size w W) => twinOf_any q cv W (hc.keep hW))
  have HPC := hide (fun W (hW : Below w.heap.size w W) cw (hcw : CsAt W anyB cw q.cs) (hsz : cntC q.cs ≤ 16777216) => pprint_any A q cw W hcw (he.keep hW) hsz ht ho hm2 (Lib.tabBelow_of_tabIs hp W hW))
  have HRC := hide (fun W (hW : Below w.heap.size w W) (hsz : cntC q.cs ≤ 16777216) => print_any q cv W (hc.keep hW) hsz ht ho hm1 hm2 (itoAt_of (Lib.tabBelow_of_tabIs hp W hW)))
  have HLR := hide (fun W (hW : Below w.heap.size w W) g cap base hl => lret_any q cv g cap base W (hc.keep hW) hl)
  have HER := hide he
  have hclen := hc.len
  obtain ⟨ca, cc, hcv⟩ := hc.form
  subst hcv
  have HCK := hide (print_kinds q)
  generalize printF q = rn at HPC HRC HCK
  generalize printT q = rt at HPC HRC
  obtain ⟨t, l, o, f, m⟩ := q
  simp only [qV] at HSM HTW HPC HRC HLR hclen ⊢
  have q1 := below_new w (.cells #[.string t, .slice ca l.length cc, .string o, .bool f, .int .i64 m] 31)
  have x1 := RowAt.new w #[.string t, .slice ca l.length cc, .string o, .bool f, .int .i64 m] 31
  obtain ⟨b0, b1, b2, b3, b4⟩ := x1.q5
  generalize hW1 : w.alloc (.cells #[.string t, .slice ca l.length cc, .string o, .bool f, .int .i64 m] 31) = W1 at q1 x1
  have HW := hide hW1
  have HX := hide x1
  have HB := hide q1
  have HS1 := hide (HSM.out W1 q1)
  clear hc he ht ho hm1 hm2 hp q1 x1 hW1 HSM
  go_enter Tryd.func5, Tryd.ntmps5
  go_wp2_with fail
  rw [HW.out] at b0 b1 b2 b3 b4 ⊢
  refine HS1.out.mono ?_
  rintro e w2 ⟨sb, rfl, hsb, hb2⟩
  cases sb with
  | false =>
    have HEB := hide (Below.next HB.out hb2)
    clear hsb hb2
    go_wp2
    go_ret
    exact ⟨rfl, HEB.out⟩
  | true =>
    have HSZ : Hid (cntC l ≤ 16777216) := by
      have := hsb rfl
      show _ ≤ _
      omega
    have hb02 := Below.next HB.out hb2
    have HT2 := hide (HTW.out w2 hb02)
    have HX2 := hide (HX.out.below hb2)
    clear b0 b1 b2 b3 b4
    obtain ⟨b0, b1, b2, b3, b4⟩ := HX2.out.q5
    have HB2 := hide hb02
    clear hsb hb2 hb02 HS1 HTW HX
    go_wp2_with fail
    refine HT2.out.mono ?_
    rintro e w3 ⟨g, cap, rfl, hlent⟩
    have HB3 := hide (Below.next HB2.out hlent.bel)
    have HX3 := hide (HX2.out.below hlent.bel)
    have q4 := below_new w3 (.cells #[.string t, .slice (some ⟨g, 0, none⟩) l.length cap, .string o, .bool f, .int .i64 m] 31)
    have x4 := RowAt.new w3 #[.string t, .slice (some ⟨g, 0, none⟩) l.length cap, .string o, .bool f, .int .i64 m] 31
    have HL4 := hide (hlent.all.keep q4)
    have HX4 := hide (HX3.out.below q4)
    clear b0 b1 b2 b3 b4
    obtain ⟨y0, y1, y2, y3, y4⟩ := x4.q5
    obtain ⟨QB, hQB⟩ : ∃ QB, QB = w3.heap.size := ⟨_, rfl⟩
    obtain ⟨W4, hW4⟩ : ∃ W4, w3.alloc (.cells #[.string t, .slice (some ⟨g, 0, none⟩) l.length cap, .string o, .bool f, .int .i64 m] 31) = W4 := ⟨_, rfl⟩
    have HW4 := hide hW4
    have HQB := hide hQB
    have HQR : Hid (RowAt W4 QB #[.string t, .slice (some ⟨g, 0, none⟩) l.length cap, .string o, .bool f, .int .i64 m] 31) := by
      show RowAt _ _ _ _
      rw [← hW4, hQB]; exact x4
    rw [hW4] at HL4 HX4 q4
    have HB4 := hide (Below.next HB3.out q4)
    have HP4 := hide (HPC.out W4 HB4.out (.slice (some ⟨g, 0, none⟩) l.length cap) ((HL4.out.head (cap' := cap) hclen).any) HSZ.out)
    clear hlent q4 x4 hW4 hQB HT2 HX2 HX3 HPC HB2
    go_wp2_with fail
    rw [HW4.out] at y0 y1 y2 y3 y4 ⊢
    rw [← HQB.out]
    refine HP4.out.mono ?_
    rintro e w5 ⟨rfl, hb5⟩
    have HX6 := hide (HX4.out.below hb5)
    have HQ6 := hide (HQR.out.below hb5)
    have HL6 := hide (HL4.out.keep hb5)
    have HB6 := hide (Below.next HB4.out hb5)
    clear y0 y1 y2 y3 y4
    obtain ⟨b0, b1, b2, b3, b4⟩ := HX6.out.q5
    have HR6 := hide (HRC.out w5 HB6.out HSZ.out)
    clear hb5 HP4 HX4 HQR HL4 HB4 HRC
    obtain ⟨ev, hev⟩ : ∃ ev, ev = errQ A rn := ⟨_, rfl⟩
    rw [← hev]
    have HNM := hide (fun W (hW : ErrsAt 13 gAll A W) => num_errQ A W hW rn HCK.out)
    rw [← hev] at HNM
    clear hev HCK
    go_wp2_with fail
    refine HR6.out.mono ?_
    rintro e w7 ⟨rfl, hb7⟩
    have HX8 := hide (HX6.out.below hb7)
    have HQ8 := hide (HQ6.out.below hb7)
    have HL8 := hide (HL6.out.keep hb7)
    have HB8 := hide (Below.next HB6.out hb7)
    clear b0 b1 b2 b3 b4
    obtain ⟨b0, b1, b2, b3, b4⟩ := HX8.out.q5
    obtain ⟨y0, y1, y2, y3, y4⟩ := HQ8.out.q5
    have HN8 := hide (HNM.out w7 (HER.out.keep HB8.out))
    have HR8 := hide (HLR.out w7 HB8.out g cap w2.heap.size HL8.out)
    clear hb7 HR6 HX6 HQ6 HL6 HB6 HNM HLR
    have g1 : (rt.toList == rt.toList) = true := str_eq rt
    have g3 : ((rn : Int) == (rn : Int)) = true := by simp
    go_wp2_with fail
    refine HN8.out.mono ?_
    rintro e w9 ⟨rfl, rfl⟩
    go_wp2_with fail
    refine HR8.out.mono ?_
    rintro e w10 ⟨rfl, hb10⟩
    have HEB := hide (Below.next HB8.out hb10)
    clear hb10 HR8
    go_wp2
    go_ret
    exact ⟨rfl, HEB.out⟩
end Go.Proofs.YtddhjnfcbpookaaDoor
