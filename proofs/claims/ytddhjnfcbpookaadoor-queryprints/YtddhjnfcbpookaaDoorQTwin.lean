import Derived.Test.YtddhjnfcbpookaaDoorQSame
namespace Go.Proofs.YtddhjnfcbpookaaDoor
open Go.RowKit

def markC : Cd := ⟨⟨#[109, 97, 114, 107]⟩, 77, .mk 0 0 ⟨#[]⟩ []⟩
theorem markC_ok : markC.Ok := ⟨by decide, by decide, by decide, ⟨by decide, by decide, by decide, by decide, by decide⟩⟩
/-- What the law lends: a twin of the query, and marks behind its conditions. -/
structure Lent (w w' : World) (l : List Cd) (g cap : Nat) : Prop where
  all : CsOwn w' w.heap.size (.slice (some ⟨g, 0, none⟩) (l.length + 4) cap) (l ++ List.replicate 4 markC)
  bel : Below w.heap.size w w'
set_option maxRecDepth 100000 in
set_option maxHeartbeats 2000000 in
theorem twinOf_any (q : Qd) (cv : Value) (w : World) (hc : CsAt w anyB cv q.cs) :
    Calls Tryd.prog 7 #[.agg (qV q cv)] w fun e w' => ∃ g cap, e = .returned (.tuple #[.agg (qV q (.slice (some ⟨g, 0, none⟩) q.cs.length cap)), .slice (some ⟨g, 0, none⟩) (q.cs.length + 4) cap]) ∧ Lent w w' q.cs g cap := by
  obtain ⟨i0, hi, hz0, hz1, hz2⟩ := info_parts Tryd.info61
  obtain ⟨t, l, o, f, m⟩ := q
  simp only [qV] at hc ⊢
  obtain ⟨ca, cc, hcv⟩ := hc.form
  subst hcv
  have hlen := hc.len
  have q1 := below_new w (.cells #[.string t, .slice ca l.length cc, .string o, .bool f, .int .i64 m] 31)
  have x1 := RowAt.new w #[.string t, .slice ca l.length cc, .string o, .bool f, .int .i64 m] 31
  have hs1 : (w.alloc (.cells #[.string t, .slice ca l.length cc, .string o, .bool f, .int .i64 m] 31)).heap.size = w.heap.size + 1 := by simp
  generalize hW1 : w.alloc (.cells #[.string t, .slice ca l.length cc, .string o, .bool f, .int .i64 m] 31) = W1 at q1 x1 hs1
  have q2 := below_new W1 (.cells #[.string ⟨#[]⟩, .slice none 0 0, .string ⟨#[]⟩, .bool false, .int .i64 0] 31)
  have x2 := RowAt.new W1 #[.string ⟨#[]⟩, .slice none 0 0, .string ⟨#[]⟩, .bool false, .int .i64 0] 31
  rw [hs1] at x2
  generalize hW2 : W1.alloc (.cells #[.string ⟨#[]⟩, .slice none 0 0, .string ⟨#[]⟩, .bool false, .int .i64 0] 31) = W2 at q2 x2
  have HW : Hid ((w.alloc (.cells #[.string t, .slice ca l.length cc, .string o, .bool f, .int .i64 m] 31)).alloc (.cells #[.string ⟨#[]⟩, .slice none 0 0, .string ⟨#[]⟩, .bool false, .int .i64 0] 31) = W2) := by rw [hW1]; exact hW2
  have hb2 := Below.next q1 q2
  have HX := hide (x1.below q2)
  have HY := hide x2
  have HC := hide (hc.keep hb2)
  have HB := hide hb2
  obtain ⟨Q0, hQ0⟩ : ∃ Q0 : Ending → World → Prop, Q0 = fun e w' => ∃ g cap, e = .returned (.tuple #[.agg #[.string t, .slice (some ⟨g, 0, none⟩) l.length cap, .string o, .bool f, .int .i64 m], .slice (some ⟨g, 0, none⟩) (l.length + 4) cap]) ∧ Lent w w' l g cap := ⟨_, rfl⟩
  rw [← hQ0]
  have HQ := hide hQ0
  clear hc q1 x1 hs1 q2 x2 hb2 hW1 hW2 hQ0
  go_enter Tryd.func7, Tryd.ntmps7
  go_wp2_with fail
  rw [HW.out]
  go_loopw [4, 5, 6] (fun av iv _ wr => ∃ j : Nat, iv = .int .i64 (j : Int) ∧ j ≤ l.length ∧ CsOwn wr W2.heap.size av (l.take j) ∧ Below W2.heap.size W2 wr) (fun _ iv _ _ => l.length - (intOf iv).toNat)
  case atStart => exact ⟨0, rfl, Nat.zero_le _, ⟨[], rfl, by simpa [ccells] using World.ownsRow_nil _ _ _ _, fun i h => absurd h (by simp), fun i h => absurd h (by simp)⟩, Below.refl _ _⟩
  case round =>
    obtain ⟨j, rfl, hj, hown, hbl⟩ := hrel
    have c1 := (HX.out.below hbl).q5.2.1
    by_cases hlt : j < l.length
    · obtain ⟨g, off, u, hca, -, hok, s0, s1, s2, s3, s4, s5, hin⟩ := (HC.out.keep hbl).get j hlt
      have HT : Hid (l.take (j + 1) = l.take j ++ [l[j]]) := List.take_succ_eq_append_getElem hlt
      obtain ⟨x, hx⟩ : ∃ x, x = l[j] := ⟨_, rfl⟩
      rw [← hx] at s0 s1 s2 s3 s4 hin HT hok
      subst hca
      have hd1 : (j : Int) < (l.length : Int) := by omega
      have e0 : (0 : Int) ≤ (j : Int) := by omega
      have HOK := hide hok
      have HTW := hide (fun W (hW : Below wr.heap.size wr W) => twins_any _ x.item.list u W (Nat.le_refl _) (hin.keep hW))
      have HIL : Hid (x.item.list.length ≤ 2513169434843) := hin.len_le
      obtain ⟨ua, uc, hu⟩ := hin.form
      subst hu
      clear hin hok hx
      go_wp2_with fail
      have b1 := below_new wr (.cells #[.string x.field, .int .i64 x.sign, .int .i64 x.item.kind, .int .i64 x.item.num, .string x.item.text, .slice ua x.item.list.length uc] 61)
      have y1 := RowAt.new wr #[.string x.field, .int .i64 x.sign, .int .i64 x.item.kind, .int .i64 x.item.num, .string x.item.text, .slice ua x.item.list.length uc] 61
      have s1' : (wr.alloc (.cells #[.string x.field, .int .i64 x.sign, .int .i64 x.item.kind, .int .i64 x.item.num, .string x.item.text, .slice ua x.item.list.length uc] 61)).heap.size = wr.heap.size + 1 := by simp
      generalize wr.alloc (.cells #[.string x.field, .int .i64 x.sign, .int .i64 x.item.kind, .int .i64 x.item.num, .string x.item.text, .slice ua x.item.list.length uc] 61) = V1 at b1 y1 s1' ⊢
      refine (HTW.out V1 b1).mono ?_
      rintro e w2 ⟨u', rfl, hu, hb2⟩
      obtain ⟨va, vc, rfl⟩ := hu.form
      have y2 := y1.below hb2
      obtain ⟨k0, k1, k2, k3, k4, k5⟩ := y2.q6
      have f2 := y2.free 5
      have hu3 := (hu.at' HIL.out).but (But.of_set w2 wr.heap.size 5 (.slice va x.item.list.length vc)) (fun g hg e => by have := Option.some.inj e; omega)
      have b3 : Below wr.heap.size wr (w2.setCell ⟨wr.heap.size, 5, none⟩ (.slice va x.item.list.length vc)) := (Below.next b1 hb2).setCell (Nat.le_refl _) _
      clear y1 y2 hu HTW b1 hb2 c1 s0 s1 s2 s3 s4 s5
      obtain ⟨us, hus, how, hoks, hins⟩ := hown.keep b3
      generalize hLj : l.take j = lj at *
      have hjl : lj.length = j := by rw [← hLj, List.length_take]; omega
      have HJ : Hid (lj.length = j ∧ j + 1 ≤ l.length) := ⟨hjl, by omega⟩
      have hlb : lj.length < 1759218604390 := by omega
      clear hLj hjl
      have hz3 : (w2.setCell ⟨wr.heap.size, 5, none⟩ (.slice va x.item.list.length vc)).heap.size = w2.heap.size := by simp [World.setCell]
      have hnb := heap_alloc_new (w2.setCell ⟨wr.heap.size, 5, none⟩ (.slice va x.item.list.length vc)) (.cells #[.string x.field, .int .i64 x.sign, .int .i64 x.item.kind, .int .i64 x.item.num, .string x.item.text, .slice va x.item.list.length vc] 61)
      rw [hz3] at hnb
      have HN : Hid (∀ j u, [Value.string x.field, .int .i64 x.sign, .int .i64 x.item.kind, .int .i64 x.item.num, .string x.item.text, .slice va x.item.list.length vc][j]? = some u → ((w2.setCell ⟨wr.heap.size, 5, none⟩ (.slice va x.item.list.length vc)).alloc (.cells #[.string x.field, .int .i64 x.sign, .int .i64 x.item.kind, .int .i64 x.item.num, .string x.item.text, .slice va x.item.list.length vc] 61)).cell? ((⟨w2.heap.size, 0, none⟩ : Addr).add j) = some u) := World.news_of_block hnb
      have H3 : Hid ((w2.setCell ⟨wr.heap.size, 5, none⟩ (.slice va x.item.list.length vc)).heap.size = w2.heap.size) := hz3
      clear hnb hz3
      go_wp2_with (first
        | (at_builtin; refine wpList_append_lies _ rfl _ _ 29 rfl W2.heap.size 61 i0 (.agg #[.string ⟨#[]⟩, .int .i64 0, .int .i64 0, .int .i64 0, .string ⟨#[]⟩, .slice none 0 0]) 6 80 Tryd.underlying29 hi hz0 hz1 hz2 rfl (by decide) _ _ _ rfl (how.alloc _) ⟨w2.heap.size, 0, none⟩ 1 1 [.string x.field, .int .i64 x.sign, .int .i64 x.item.kind, .int .i64 x.item.num, .string x.item.text, .slice va x.item.list.length vc] rfl rfl ?c1 ?c2 ?c3 ?c4 ?c5 ?c6 (w2.heap.size + 1) ?c7 ?_))
      case c1 => exact HN.out
      case c2 => intro u hu; simp at hu; rcases hu with rfl | rfl | rfl | rfl | rfl | rfl <;> rfl
      case c3 => decide
      case c4 => unfold maxLen; omega
      case c5 => omega
      case c6 => have := hbl.size; have := b3.size; have := H3.out; simp; omega
      case c7 => have := H3.out; simp
      intro g' cap' w5 hown5 hgrow hat hlg
      have hbk := hown.blk
      have n4 := below_new (w2.setCell ⟨wr.heap.size, 5, none⟩ (.slice va x.item.list.length vc)) (.cells #[.string x.field, .int .i64 x.sign, .int .i64 x.item.kind, .int .i64 x.item.num, .string x.item.text, .slice va x.item.list.length vc] 61)
      have hsz1 := hbl.size
      have HBQ : Hid (Below W2.heap.size W2 w5) := (Below.next (Below.next hbl b3) n4).grown hgrow (by have := (Below.next (Below.next hbl b3) n4).size; omega) (fun k hk => (hbk k hk).1)
      have HF : Hid (CsOwn w5 W2.heap.size (.slice (some ⟨g', 0, none⟩) (lj.length + 1) cap') (l.take (j + 1))) := by
        show CsOwn _ _ _ _
        rw [HT.out]
        refine push_cown (w4 := (w2.setCell ⟨wr.heap.size, 5, none⟩ (.slice va x.item.list.length vc)).alloc (.cells #[.string x.field, .int .i64 x.sign, .int .i64 x.item.kind, .int .i64 x.item.num, .string x.item.text, .slice va x.item.list.length vc] 61)) (H := w2.heap.size + 1) hus hoks (fun i h h' => ?_) HOK.out ?_ hown5 hgrow hat (by have := H3.out; simp)
        · exact ((hins i h h').keep n4).imp fun k hk => ⟨hk.1, hk.2.1, Nat.lt_of_lt_of_le hk.2.2 n4.size⟩
        · refine (hu3.keep n4).lt.imp fun k hk => ⟨by omega, fun e => ?_, hk.2⟩
          have := (hbk k e.symm).2
          omega
      clear hown5 hgrow hat hlg hu3 b3 n4 hins hoks hown how hbl hbk HN H3 k0 k1 k2 k3 k4 k5 f2
      go_wp2_with fail
      have hjl := HJ.out.1
      go_roundw
      case rel => exact ⟨j + 1, by go_num, HJ.out.2, HF.out, HBQ.out⟩
      case measure => simp [intOf]; omega
    · have hke : j = l.length := by omega
      have HF : Hid (CsOwn wr W2.heap.size u4 l) := by
        have := hown
        rwa [List.take_of_length_le (by omega)] at this
      have HBW := hide hbl
      have hd : ¬ (j : Int) < (l.length : Int) := by omega
      clear hown hbl hlt
      go_wp2
      clear c1
      go_loopw [4, 7] (fun av iv wq => ∃ j : Nat, iv = .int .i64 (j : Int) ∧ j ≤ 4 ∧ CsOwn wq W2.heap.size av (l ++ List.replicate j markC) ∧ Below W2.heap.size W2 wq) (fun _ iv _ => 4 - (intOf iv).toNat)
      case atStart => exact ⟨0, rfl, by omega, by simpa using HF.out, HBW.out⟩
      case round =>
        obtain ⟨i, rfl, hi4, hown, hbl⟩ := hrel
        clear HF HBW
        by_cases hlt : i < 4
        · obtain ⟨us, hus, how, hoks, hins⟩ := hown
          have HT : Hid (l ++ List.replicate (i + 1) markC = (l ++ List.replicate i markC) ++ [markC]) := by
            show _ = _
            rw [List.replicate_succ', List.append_assoc]
          have hjl : (l ++ List.replicate i markC).length = l.length + i := by simp
          generalize l ++ List.replicate i markC = lj at *
          have hlb : lj.length < 1759218604394 := by omega
          have hltI : (i : Int) < 4 := by omega
          clear hjl
          have hbk := owns_blk how
          go_wp2_with (first
            | (at_builtin; refine wpList_append_lies _ rfl _ _ 29 rfl W2.heap.size 61 i0 (.agg #[.string ⟨#[]⟩, .int .i64 0, .int .i64 0, .int .i64 0, .string ⟨#[]⟩, .slice none 0 0]) 6 80 Tryd.underlying29 hi hz0 hz1 hz2 rfl (by decide) _ _ _ rfl (how.alloc _) ⟨wr.heap.size, 0, none⟩ 1 1 [.string ⟨#[109, 97, 114, 107]⟩, .int .i64 77, .int .i64 0, .int .i64 0, .string ⟨#[]⟩, .slice none 0 0] rfl rfl ?c1 ?c2 ?c3 ?c4 ?c5 ?c6 (wr.heap.size + 1) ?c7 ?_))
          case c1 => exact World.news_of_block (heap_alloc_new wr (.cells #[.string ⟨#[109, 97, 114, 107]⟩, .int .i64 77, .int .i64 0, .int .i64 0, .string ⟨#[]⟩, .slice none 0 0] 61))
          case c2 => intro u hu; simp at hu; rcases hu with rfl | rfl | rfl | rfl | rfl | rfl <;> rfl
          case c3 => decide
          case c4 => unfold maxLen; omega
          case c5 => omega
          case c6 => have := hbl.size; simp; omega
          case c7 => simp
          intro g' cap' w5 hown5 hgrow hat hlg
          have n4 := below_new wr (.cells #[.string ⟨#[109, 97, 114, 107]⟩, .int .i64 77, .int .i64 0, .int .i64 0, .string ⟨#[]⟩, .slice none 0 0] 61)
          have hsz1 := hbl.size
          have HBQ : Hid (Below W2.heap.size W2 w5) := (Below.next hbl n4).grown hgrow (by have := (Below.next hbl n4).size; omega) (fun k hk => (hbk k hk).1)
          have HF : Hid (CsOwn w5 W2.heap.size (.slice (some ⟨g', 0, none⟩) (lj.length + 1) cap') (l ++ List.replicate (i + 1) markC)) := by
            show CsOwn _ _ _ _
            rw [HT.out]
            refine push_cown (w4 := wr.alloc (.cells #[.string ⟨#[109, 97, 114, 107]⟩, .int .i64 77, .int .i64 0, .int .i64 0, .string ⟨#[]⟩, .slice none 0 0] 61)) (H := wr.heap.size + 1) hus hoks (fun i h h' => ?_) markC_ok (its_nil _ _ _ _) hown5 hgrow hat (by simp)
            exact ((hins i h h').keep n4).imp fun k hk => ⟨hk.1, hk.2.1, Nat.lt_of_lt_of_le hk.2.2 n4.size⟩
          clear hown5 hgrow hat hlg n4 hins hoks how hbl hbk
          go_wp2_with fail
          go_roundw
          case rel => exact ⟨i + 1, by go_num, by omega, HF.out, HBQ.out⟩
          case measure => simp [intOf]; omega
        · have hk4 : i = 4 := by omega
          subst hk4
          obtain ⟨ga, gc, hgf⟩ := hown.form
          have hg : ∃ g, ga = some ⟨g, 0, none⟩ ∧ l.length + 4 ≤ gc := by
            obtain ⟨us, _, how, _⟩ := hown
            rcases how.2 with ⟨h', h0⟩ | ⟨g, cap, cur, h', _, _, hle, _⟩
            · simp at h0
            · rw [hgf] at h'
              cases h'
              exact ⟨g, rfl, by simpa using hle⟩
          obtain ⟨g, rfl, hgc⟩ := hg
          rw [show (l ++ List.replicate 4 markC).length = l.length + 4 by simp] at hgf
          subst hgf
          have c0 := (HX.out.below hbl).q5
          have y0 := HY.out.below hbl
          obtain ⟨c0, c1, c2, c3, c4⟩ := c0
          have HOW := hide hown
          have HBL := hide hbl
          have hd4 : ¬ (((4 : Nat) : Int) < 4) := by omega
          have hle1 : (0 : Int) ≤ (l.length : Int) := by omega
          have hle2 : (l.length : Int) ≤ (gc : Int) := by omega
          have qa := below_new wr (.cells #[.string t, .slice ca l.length cc, .string o, .bool f, .int .i64 m] 31)
          have d1 := cell_below qa c1
          have y1 := y0.below qa
          have qb := below_new wr (.cells #[.string t, .slice (some ⟨g, 0, none⟩) l.length gc, .string o, .bool f, .int .i64 m] 31)
          have yb := y0.below qb
          have HST := hide (store_row _ (w.heap.size + 1) 31 _ #[.string t, .slice (some ⟨g, 0, none⟩) l.length gc, .string o, .bool f, .int .i64 m] yb (by kernel_rfl) rfl (by simp [Value.oneCell']))
          have HYB := hide yb
          have HQB := hide qb
          clear hown hbl hlt qb yb
          go_wp2_with (refine wpList_store_eq rfl 31 _ _ rfl _ _ rfl rfl HST.out ?_)
          refine bodyPost_ret (results_row_tmp rfl _ _ (w.heap.size + 1) 31 _ (0, 0) _ rfl (row_set _ _ _ _ _ HYB.out) Tryd.underlying31 rfl (by kernel_rfl)) rfl ?_
          rw [HQ.out]
          have hlt2 := HY.out.lt
          have hsz2 := HB.out.size
          refine ⟨g, gc, rfl, ?_, ?_⟩
          · exact ((HOW.out.keep HQB.out).but (but_row _ _ _) hlt2).mono hsz2
          · exact below_setRow (Below.next (Below.next HB.out HBL.out) HQB.out) (Nat.le_succ _) _
set_option maxRecDepth 100000 in
set_option maxHeartbeats 2000000 in
/-- What was lent comes back as it was. -/
theorem lret_any (q : Qd) (cv : Value) (g cap : Nat) (base : Nat) (w : World) (hc : CsAt w anyB cv q.cs) (hl : CsOwn w base (.slice (some ⟨g, 0, none⟩) (q.cs.length + 4) cap) (q.cs ++ List.replicate 4 markC)) :
    Calls Tryd.prog 11 #[.agg (qV q (.slice (some ⟨g, 0, none⟩) q.cs.length cap)), .agg (qV q cv), .slice (some ⟨g, 0, none⟩) (q.cs.length + 4) cap] w fun e w' => e = .returned (.bool true) ∧ Below w.heap.size w w' := by
  obtain ⟨t, l, o, f, m⟩ := q
  simp only [qV] at hc hl ⊢
  obtain ⟨ca, cc, hcv⟩ := hc.form
  subst hcv
  have hlen := hc.len
  have q1 := below_new w (.cells #[.string t, .slice (some ⟨g, 0, none⟩) l.length cap, .string o, .bool f, .int .i64 m] 31)
  have x1 := RowAt.new w #[.string t, .slice (some ⟨g, 0, none⟩) l.length cap, .string o, .bool f, .int .i64 m] 31
  have hs1 : (w.alloc (.cells #[.string t, .slice (some ⟨g, 0, none⟩) l.length cap, .string o, .bool f, .int .i64 m] 31)).heap.size = w.heap.size + 1 := by simp
  generalize hW1 : w.alloc (.cells #[.string t, .slice (some ⟨g, 0, none⟩) l.length cap, .string o, .bool f, .int .i64 m] 31) = W1 at q1 x1 hs1
  have q2 := below_new W1 (.cells #[.string t, .slice ca l.length cc, .string o, .bool f, .int .i64 m] 31)
  have x2 := RowAt.new W1 #[.string t, .slice ca l.length cc, .string o, .bool f, .int .i64 m] 31
  rw [hs1] at x2
  generalize hW2 : W1.alloc (.cells #[.string t, .slice ca l.length cc, .string o, .bool f, .int .i64 m] 31) = W2 at q2 x2
  have HW : Hid ((w.alloc (.cells #[.string t, .slice (some ⟨g, 0, none⟩) l.length cap, .string o, .bool f, .int .i64 m] 31)).alloc (.cells #[.string t, .slice ca l.length cc, .string o, .bool f, .int .i64 m] 31) = W2) := by rw [hW1]; exact hW2
  have hb2 := Below.next q1 q2
  obtain ⟨c0, c1, c2, c3, c4⟩ := (x1.below q2).q5
  obtain ⟨d0, d1, d2, d3, d4⟩ := x2.q5
  have hl2 := hl.keep hb2
  have HSQ := hide (sameQ_same ⟨t, l, o, f, m⟩ (.slice (some ⟨g, 0, none⟩) l.length cap) (.slice ca l.length cc) W2 (hl2.head (cap' := cap) hlen).any (hc.keep hb2))
  have HMK : Hid (∀ j, l.length ≤ j → j < l.length + 4 → W2.cell? ⟨g, j * 6, none⟩ = some (.string ⟨#[109, 97, 114, 107]⟩) ∧ W2.cell? ⟨g, j * 6 + 1, none⟩ = some (.int .i64 77)) := fun j h1 h2 => by
    obtain ⟨us, hus, how, hok, hin⟩ := hl2
    have hj2 : j < (l ++ List.replicate 4 markC).length := by simp; omega
    have hj3 : j < us.length := by omega
    have e1 : (l ++ List.replicate 4 markC)[j] = markC := by rw [List.getElem_append_right h1, List.getElem_replicate]
    have hv : (Value.slice (some ⟨g, 0, none⟩) (l.length + 4) cap) = .slice (some ⟨g, 0, none⟩) (l ++ List.replicate 4 markC).length cap := by simp
    have k := fun i u (hu : (markC.cells us[j])[i]? = some u) => cell_ownedC how hv _ _ (ccells_get _ _ hus j hj2 hj3 i u (by rw [e1]; exact hu))
    exact ⟨k 0 _ rfl, k 1 _ rfl⟩
  have HB := hide hb2
  rw [← hW2, ← hW1] at d1
  clear hc hl q1 x1 hs1 q2 x2 hb2 hW1 hW2 hl2
  go_enter Tryd.func11, Tryd.ntmps11
  go_wp2_with fail
  rw [HW.out] at d1 ⊢
  go_loopw [7] (fun iv wr => ∃ j : Nat, iv = .int .i64 (j : Int) ∧ l.length ≤ j ∧ j ≤ l.length + 4 ∧ wr = W2) (fun iv _ => l.length + 4 - (intOf iv).toNat)
  case atStart => exact ⟨l.length, rfl, Nat.le_refl _, by omega, rfl⟩
  case round =>
    obtain ⟨j, rfl, hj1, hj2, rfl⟩ := hrel
    by_cases hlt : j < l.length + 4
    · obtain ⟨m0, m1⟩ := HMK.out j hj1 hlt
      have hd : (j : Int) < ((l.length + 4 : Nat) : Int) := by omega
      have hd' : (j : Int) < (l.length : Int) + 4 := by omega
      have e0 : (0 : Int) ≤ (j : Int) := by omega
      have HJ : Hid (l.length ≤ j + 1 ∧ j + 1 ≤ l.length + 4) := ⟨by omega, by omega⟩
      go_wp2
      go_roundw
      case rel => exact ⟨j + 1, by go_num, HJ.out.1, HJ.out.2, by first | trivial | rfl⟩
      case measure => simp [intOf]; omega
    · have hd : ¬ (j : Int) < ((l.length + 4 : Nat) : Int) := by omega
      have hd' : ¬ (j : Int) < (l.length : Int) + 4 := by omega
      go_wp2_with fail
      refine HSQ.out.mono ?_
      rintro e w3 ⟨rfl, hb3⟩
      have HE := hide (Below.next HB.out hb3)
      clear hb3 HSQ c0 c1 c2 c3 c4 d0 d1 d2 d3 d4
      go_wp2
      go_ret
      exact ⟨rfl, HE.out⟩
end Go.Proofs.YtddhjnfcbpookaaDoor
