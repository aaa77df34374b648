import Derived.Test.YtdkckbfamecipaaDoorWByte
import Derived.Test.YtdkckbfamecipaaDoorRdStr
import Derived.Laws.BytesArg
namespace Go.Proofs.YtdkckbfamecipaaDoor
open Go.RowKit

theorem owns_at {w : World} {base n : Nat} {v : Value} {us : List Value} (h : w.ownsRow base 5 1 v n us) : RowR w v us := rowR_of_owns h
theorem run_strG {w : World} {v : Value} {l : List UInt8} (h : RowR w v (u8s l)) : (convert 61 9 v).run Tryd.prog w = .ok (.string (ba l)) w := by
  obtain ⟨a, cap, rfl, hle, hn, hc⟩ := h
  rw [u8s_length]
  cases a with
  | none =>
    have h0 : l = [] := by
      cases l with
      | nil => rfl
      | cons x r => obtain ⟨g, o, he, _⟩ := hc 0 _ (u8s_get (x :: r) 0 (by simp)); cases he
    subst h0
    exact run_convert_bytes_nil (P := Tryd.prog) (w := w) 61 5 Tryd.underlying61 Tryd.underlying5 0 cap 9 Tryd.underlying9
  | some ad =>
    refine run_convert_bytes_back w 61 9 5 ad cap l Tryd.underlying61 Tryd.underlying5 Tryd.underlying9 (fun j hj => ?_)
    obtain ⟨g, o, he, hcell⟩ := hc j _ (u8s_get l j hj)
    cases he
    rw [add_plain']
    exact hcell
theorem owns_below5 {w w' : World} {base e n : Nat} {v : Value} {us : List Value} (h : w.ownsRow base e 1 v n us) (hb : Below w.heap.size w w') : w'.ownsRow base e 1 v n us := by
  refine ⟨h.1, ?_⟩
  rcases h.2 with h' | ⟨g', cap, cur, rfl, hbg, hg, hnc, hcm, hcs, htk⟩
  · exact .inl h'
  · exact .inr ⟨g', cap, cur, rfl, hbg, (hb.block g' (h.lt g' rfl).2).trans hg, hnc, hcm, hcs, htk⟩
/-- What cutQuoted answers. -/
def QuV (o : Option (List UInt8 × List UInt8)) (e : Ending) : Prop := (∃ x q, o = some (x, q) ∧ e = .returned (.tuple #[.string (ba x), .string (ba q), .bool true])) ∨ (o = none ∧ e = .returned (.tuple #[.string ⟨#[]⟩, .string ⟨#[]⟩, .bool false]))
theorem str_ne {s : ByteArray} (h : 0 < s.size) : s.toList.isEmpty = false ∧ ¬ s.toList = [] := by
  have h1 : s.toList.isEmpty = false := by
    rw [empty_iff]
    exact decide_eq_false fun e => by rw [e] at h; cases h
  exact ⟨h1, fun e => by rw [e] at h1; cases h1⟩
theorem str_nil {s : ByteArray} (h : ¬ 0 < s.size) : s = ⟨#[]⟩ := by
  refine ba_ext ?_
  have : s.data.toList.length = 0 := by rw [bsize]; omega
  rw [List.length_eq_zero_iff.1 this]
/-- Where strconv.ErrSyntax lies. -/
def SynAt (B : Nat) (w : World) : Prop := 19 < B ∧ B ≤ w.heap.size ∧ ∃ te pe, w.cell? ⟨19, 0, none⟩ = some (.iface te pe)
theorem SynAt.below {B : Nat} {w w' : World} (h : SynAt B w) (hb : Below B w w') : SynAt B w' := by
  obtain ⟨h1, h2, te, pe, h3⟩ := h
  exact ⟨h1, Nat.le_trans h2 hb.size, te, pe, (hb.cell (p := ⟨19, 0, none⟩) h1).trans h3⟩
set_option maxHeartbeats 4000000 in
set_option maxRecDepth 100000 in
theorem quot_any (s : ByteArray) (w : World) (hs : s.size ≤ 70368744177664) (hsy : SynAt w.heap.size w) :
    Calls Tryd.prog 24 #[.string s] w fun e w' => QuV (quotD [] s.data.toList) e ∧ Below w.heap.size w w' := by
  obtain ⟨i0, hi, hz0, hz1, hz2⟩ := info_parts Tryd.info5
  obtain ⟨o, ho⟩ : ∃ o, o = quotD [] s.data.toList := ⟨_, rfl⟩
  rw [← ho]
  have HO := hide ho
  have HSY := hide hsy
  clear ho hsy
  obtain ⟨Q, hQ⟩ : ∃ Q : Ending → World → Prop, Q = fun e w' => QuV o e ∧ Below w.heap.size w w' := ⟨_, rfl⟩
  rw [← hQ]
  have HQ := hide hQ
  clear hQ
  go_enter Tryd.func24, Tryd.ntmps24
  go_wp2
  go_loopw [0, 5] (fun tv v wr => ∃ (t : ByteArray) (acc : List UInt8) (va : Option Addr) (vn vc : Nat), tv = .string t ∧ v = .slice va vn vc ∧ Hid (o = quotD acc t.data.toList ∧ acc.length + t.size ≤ s.size ∧ acc.length = vn) ∧ wr.ownsRow w.heap.size 5 1 (.slice va vn vc) vn (u8s acc) ∧ Below w.heap.size w wr)
    (fun tv _ _ => match tv with | .string x => x.size | _ => 0)
  case atStart => exact ⟨s, [], none, 0, 0, rfl, rfl, ⟨HO.out, by simp, rfl⟩, World.ownsRow_nil _ _ _ _, Below.refl _ _⟩
  case round =>
    obtain ⟨t, acc, va, vn, vc, rfl, rfl, hh, hown, hnx⟩ := hrel
    by_cases h0 : 0 < t.size
    · obtain ⟨e0, e1⟩ := str_ne h0
      have h0I : (0 : Int) < (t.size : Int) := by omega
      have h1I : (1 : Int) ≤ (t.size : Int) := by omega
      have HL := hide (toList_first t h0)
      by_cases hc : t[0] = 34
      · have hcI : ((t[0].toNat : Int) != 34) = false := by rw [hc]; rfl
        have HR : Hid (QuV o (.returned (.tuple #[.string (ba acc), .string (t.extract 1 t.size), .bool true]))) := by
          refine .inl ⟨acc, t.data.toList.drop 1, ?_, by rw [ba_tail]⟩
          rw [hh.out.1]
          conv => lhs; rw [HL.out, hc]
          exact quotD_end _ _
        have hconv := run_strG (owns_at hown)
        have hconv' : ∀ k, (convert 61 9 (.slice va vn vc)).run Tryd.prog (wr.drewN k) = .ok (.string (ba acc)) (wr.drewN k) := fun k => run_strG ((owns_at hown).below (below_drewN' (Below.refl _ _) k))
        have HNX := hide hnx
        clear hc hown hnx
        go_wp2
        go_quiet (fail)
        go_wp2
        rw [HQ.out]
        go_ret3
        exact ⟨HR.out, below_drewN' HNX.out _⟩
      · have hcI : ((t[0].toNat : Int) != 34) = true := by
          rw [bne_iff_ne]
          intro e
          exact hc (UInt8.toNat_inj.1 (show _ = 34 by omega))
        have hsy := HSY.out.below hnx
        obtain ⟨_, _, te, pe, hsc⟩ := hsy
        have HB := hide (byte_any t te pe wr h0 (by have := hh.out.2.1; omega) hsc)
        have HC := hide hc
        clear hc hsc
        go_wp2_with fail
        refine HB.out.mono ?_
        rintro e w1 ⟨⟨b, q, ok, rfl, hbd⟩, hb1⟩
        have hown1 : w1.ownsRow w.heap.size 5 1 (.slice va vn vc) vn (u8s acc) := owns_below5 hown hb1
        have hnx1 : Below w.heap.size w w1 := Below.next hnx hb1
        clear hown hnx hb1 HB
        cases ok with
        | false =>
          have HR : Hid (QuV o (.returned (.tuple #[.string ⟨#[]⟩, .string ⟨#[]⟩, .bool false]))) := by
            refine .inr ⟨?_, rfl⟩
            rw [hh.out.1]
            rw [HL.out] at hbd ⊢
            exact quotD_none HC.out (by simpa using hbd)
          clear hbd
          go_wp2
          rw [HQ.out]
          go_ret3
          exact ⟨HR.out, hnx1⟩
        | true =>
          have HE : Hid (o = quotD (acc ++ [b]) q.data.toList ∧ q.size < t.size ∧ (acc ++ [b]).length + q.size ≤ s.size ∧ (acc ++ [b]).length = vn + 1) := by
            have h2 := hh.out
            rw [if_pos rfl] at hbd
            have hl := byteD_lt hbd
            rw [bsize, bsize] at hl
            refine ⟨?_, hl, by simp; omega, by simp; omega⟩
            rw [h2.1]
            rw [HL.out] at hbd ⊢
            exact quotD_some HC.out hbd
          have hvn : vn ≤ 70368744177664 := by have := hh.out; omega
          clear hbd hh
          go_wp2_with (first
            | (at_builtin; refine wpList_append_lies _ rfl _ _ 61 rfl w.heap.size 5 i0 (.int .u8 0) 1 1 Tryd.underlying61 hi hz0 hz1 hz2 rfl (by decide) _ _ _ rfl (hown1.alloc _) ⟨w1.heap.size, 0, none⟩ 1 1 [.int .u8 (b.toNat : Int)] rfl rfl ?c1 ?c2 ?c3 ?c4 ?c5 ?c6 (w1.heap.size + 1) ?c7 ?_))
          case c1 =>
            intro j u hj
            match j, hj with
            | 0, hj => simp at hj; subst hj; simp [Addr.add]
          case c2 => intro u hu; simp at hu; subst hu; rfl
          case c3 => decide
          case c4 => unfold maxLen; omega
          case c5 => omega
          case c6 => have := hnx1.size; simp; omega
          case c7 => simp
          intro g cap w2 hown' hgrow hat hlg
          have hb2 : Below w.heap.size w w2 := (hnx1.alloc (by have := hnx1.size; omega) _).grown hgrow (by have := hnx1.size; simp; omega) (fun j hj => (hown1.lt j hj).1)
          have hown2 : w2.ownsRow w.heap.size 5 1 (.slice (some ⟨g, 0, none⟩) (vn + 1) cap) (vn + 1) (u8s (acc ++ [b])) := by
            rw [u8s_append]; exact hown'
          clear hown' hgrow hown1 hat hlg hnx1
          go_wp2
          go_roundw
          case rel => exact ⟨q, acc ++ [b], some ⟨g, 0, none⟩, vn + 1, cap, rfl, rfl, ⟨HE.out.1, HE.out.2.2.1, HE.out.2.2.2⟩, hown2, hb2⟩
          case measure => exact HE.out.2.1
    · have ht := str_nil h0
      subst ht
      have HR : Hid (QuV o (.returned (.tuple #[.string ⟨#[]⟩, .string ⟨#[]⟩, .bool false]))) := .inr ⟨by rw [hh.out.1]; exact quotD_nil _, rfl⟩
      clear hh hown
      go_wp2
      rw [HQ.out]
      go_ret3
      exact ⟨HR.out, hnx⟩
end Go.Proofs.YtdkckbfamecipaaDoor
