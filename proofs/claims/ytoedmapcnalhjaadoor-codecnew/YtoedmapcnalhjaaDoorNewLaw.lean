import Derived.Test.YtoedmapcnalhjaaDoorNewInv
namespace Go.Proofs.YtoedmapcnalhjaaDoor
open Go.RowKit

theorem put_seven (w : World) : Calls Tryd.prog 12 #[.int .u64 7, .int .i64 4] w fun e w' => ∃ g c2, e = .returned (.tuple #[.slice (some ⟨g, 0, none⟩) 4 c2, .nilIface]) ∧ w'.ownsRow w.heap.size 5 1 (.slice (some ⟨g, 0, none⟩) 4 c2) 4 (u8s (beBytes 7 4)) ∧ Below w.heap.size w w' :=
  put_ok 7 4 w (by decide) (by decide) (by decide) (by decide)

theorem owns_below1 {w w' : World} {base e size n : Nat} {v : Value} {xs : List Value} (h : w.ownsRow base e size v n xs) (hb : Below w.heap.size w w') : w'.ownsRow base e size v n xs := by
  refine ⟨h.1, ?_⟩
  rcases h.2 with h' | ⟨g, cap, cur, h', h1, hg, hn, hc, h5, h6⟩
  · exact .inl h'
  · refine .inr ⟨g, cap, cur, h', h1, ?_, hn, hc, h5, h6⟩
    rw [hb.block g ?_]
    · exact hg
    · rcases Nat.lt_or_ge g w.heap.size with hlt | hge
      · exact hlt
      · rw [Array.getElem?_eq_none hge] at hg; cases hg

set_option maxHeartbeats 1000000 in
theorem new_any (A : Nat → Addr) (n : Nat) (width : Int) (w : World) (hn : n < 18446744073709551616) (hw1 : -9223372036854775808 ≤ width) (hw2 : width ≤ 9223372036854775807) (hA : ErrsAt A w) :
    Calls Tryd.prog 7 #[.agg #[.int .u64 (n : Int), .int .i64 width]] w fun e w' => e = .returned (.bool true) ∧ Below w.heap.size w w' := by
  obtain ⟨l, E, F, hl, hP, hR, hN⟩ := put_is A n width hn hw1 hw2
  have HP := (show Hid _ from hP)
  have HR := (show Hid _ from hR)
  have HN := (show Hid _ from hN)
  clear hP hR hN
  have hbx := boxed_new w #[.int .u64 (n : Int), .int .i64 width] 35
  have hb0 := below_new w (.cells #[.int .u64 (n : Int), .int .i64 width] 35)
  have HX : Hid (Boxed w.heap.size [.int .u64 (n : Int), .int .i64 width] (w.alloc (.cells #[.int .u64 (n : Int), .int .i64 width] 35))) := hbx
  have HB : Hid (Below w.heap.size w (w.alloc (.cells #[.int .u64 (n : Int), .int .i64 width] 35))) := hb0
  clear hbx hb0
  obtain ⟨i0, hi, hz0, hz1, hz2⟩ := info_parts Tryd.info5
  go_enter Tryd.func7, Tryd.ntmps7
  go_wp2_with fail
  have HAw : Hid (ErrsAt A w) := hA
  have hA0 := hA.below HB.out
  have hX := HX.out
  have hB := HB.out
  clear HX HB hA
  have hWlt := hX.1
  generalize w.alloc (.cells #[.int .u64 (n : Int), .int .i64 width] 35) = W0 at *
  -- known
  refine (put_seven _).mono ?_
  rintro e w1 ⟨gk, ck, rfl, ownK, hb1⟩
  have z1 : W0.heap.size ≤ w1.heap.size := hb1.size
  have hX1 := hX.below hb1
  have hA1 := hA0.below hb1
  have hB1 := Below.next hB hb1
  clear hX hA0 hB hb1
  have c0 : w1.cell? ⟨w.heap.size, 0, none⟩ = some (.int .u64 (n : Int)) := hX1.2 0 (by simp)
  have c1 : w1.cell? ⟨w.heap.size, 1, none⟩ = some (.int .i64 width) := hX1.2 1 (by simp)
  have hgk : gk < w1.heap.size := (ownK.lt gk rfl).2
  have OK1 : Hid (w1.ownsRow W0.heap.size 5 1 (.slice (some ⟨gk, 0, none⟩) 4 ck) 4 (u8s (beBytes 7 4))) := ownK
  clear ownK
  go_wp2_with fail
  -- a
  refine (HP.out _ hA1).mono ?_
  rintro e w2 ⟨va, rfl, ownA, hb2⟩
  have z2 : w1.heap.size ≤ w2.heap.size := hb2.size
  have hX2 := hX1.below hb2
  have hA2 := hA1.below hb2
  have hB2 := Below.next hB1 hb2
  have OK2 : Hid (w2.ownsRow W0.heap.size 5 1 (.slice (some ⟨gk, 0, none⟩) 4 ck) 4 (u8s (beBytes 7 4))) := owns_below1 OK1.out hb2
  have hga : ∀ k, va.ownBlock = some k → k < w2.heap.size := fun k hk => (ownA.lt k hk).2
  have OA2 : Hid (w2.ownsRow w1.heap.size 5 1 va l.length (u8s l)) := ownA
  clear hX1 hA1 hB1 hb2 OK1 ownA c0 c1
  have c0 : w2.cell? ⟨w.heap.size, 0, none⟩ = some (.int .u64 (n : Int)) := hX2.2 0 (by simp)
  have c1 : w2.cell? ⟨w.heap.size, 1, none⟩ = some (.int .i64 width) := hX2.2 1 (by simp)
  go_wp2_with fail
  -- b
  refine (HP.out _ hA2).mono ?_
  rintro e w3 ⟨vb, rfl, ownB, hb3⟩
  have z3 : w2.heap.size ≤ w3.heap.size := hb3.size
  have hX3 := hX2.below hb3
  have hA3 := hA2.below hb3
  have hB3 := Below.next hB2 hb3
  have OK3 : Hid (w3.ownsRow W0.heap.size 5 1 (.slice (some ⟨gk, 0, none⟩) 4 ck) 4 (u8s (beBytes 7 4))) := owns_below1 OK2.out hb3
  have OA3 : Hid (w3.ownsRow w1.heap.size 5 1 va l.length (u8s l)) := owns_below1 OA2.out hb3
  have OB3 : Hid (w3.ownsRow w2.heap.size 5 1 vb l.length (u8s l)) := ownB
  clear hX2 hA2 hB2 hb3 OK2 OA2 ownB c0 c1
  have c0 : w3.cell? ⟨w.heap.size, 0, none⟩ = some (.int .u64 (n : Int)) := hX3.2 0 (by simp)
  have c1 : w3.cell? ⟨w.heap.size, 1, none⟩ = some (.int .i64 width) := hX3.2 1 (by simp)
  go_wp2_with fail
  -- want
  refine (HR.out _).mono ?_
  rintro e w4 ⟨vw, rfl, ownW, hb4⟩
  have z4 : w3.heap.size ≤ w4.heap.size := hb4.size
  have hX4 := hX3.below hb4
  have hA4 := hA3.below hb4
  have hB4 := Below.next hB3 hb4
  have OK4 : Hid (w4.ownsRow W0.heap.size 5 1 (.slice (some ⟨gk, 0, none⟩) 4 ck) 4 (u8s (beBytes 7 4))) := owns_below1 OK3.out hb4
  have OA4 : Hid (w4.ownsRow w1.heap.size 5 1 va l.length (u8s l)) := owns_below1 OA3.out hb4
  have OB4 : Hid (w4.ownsRow w2.heap.size 5 1 vb l.length (u8s l)) := owns_below1 OB3.out hb4
  have OW4 : Hid (w4.ownsRow w3.heap.size 5 1 vw l.length (u8s l)) := ownW
  clear hX3 hA3 hB3 hb4 OK3 OA3 OB3 ownW c0 c1
  go_wp2_with fail
  refine (HN.out _ hA4).mono ?_
  rintro e w4' ⟨rfl, rfl⟩
  clear hA4
  -- where everything lies
  have pk : gk < w1.heap.size ∧ W0.heap.size ≤ gk := ⟨hgk, (OK4.out.lt gk rfl).1⟩
  have pa : ∀ k, va.ownBlock = some k → w1.heap.size ≤ k ∧ k < w2.heap.size := fun k hk => ⟨(OA4.out.lt k hk).1, hga k hk⟩
  have pb : ∀ k, vb.ownBlock = some k → w2.heap.size ≤ k := fun k hk => (OB4.out.lt k hk).1
  have pw : ∀ k, vw.ownBlock = some k → w3.heap.size ≤ k := fun k hk => (OW4.out.lt k hk).1
  obtain ⟨a0, capA, rfl⟩ : ∃ a0 cap, va = .slice a0 l.length cap := by
    rcases OA4.out.2 with ⟨h', h0⟩ | ⟨g, cap, cur, h', _⟩
    · exact ⟨none, 0, by rw [h', h0]⟩
    · exact ⟨_, cap, h'⟩
  go_wp2_with fail
  go_loopw [11] (fun i wr => ∃ k : Nat, k ≤ l.length ∧ i = .int .i64 k ∧ wr.ownsRow w1.heap.size 5 1 (.slice a0 l.length capA) l.length (u8s (List.replicate k 17 ++ l.drop k)) ∧ Fr w4 wr (fun q => some q = (Value.slice a0 l.length capA).ownBlock)) (fun i _ => l.length - (intOf i).toNat)
  case atStart => exact ⟨0, Nat.zero_le _, rfl, by simpa using OA4.out, Fr.refl _ _⟩
  case round =>
    obtain ⟨k, hk, rfl, ho, hfr⟩ := hrel
    by_cases hlt : k < l.length
    · obtain ⟨ga, cp, he, hga1, hga2⟩ := ho.form (by omega)
      cases he
      have hst := fill_step 17 k rfl hlt (show some ga = (Value.slice (some ⟨ga, 0, none⟩) l.length capA).ownBlock from rfl) ho hfr
      have hcell : wr.cell? ⟨ga, k, none⟩ = some (.int .u8 ((((List.replicate k 17 ++ l.drop k)[k]'(by simp; omega))).toNat : Int)) := by
        rw [ho.cellAt k (by omega), u8s_get _ k (by simp; omega)]
      obtain ⟨old, hold⟩ : ∃ old : Int, old = ((((List.replicate k 17 ++ l.drop k)[k]'(by simp; omega))).toNat : Int) := ⟨_, rfl⟩
      rw [← hold] at hcell
      have hfz : wr.frozen? ⟨ga, k, none⟩ = false := ho.frozenAt k
      have HST := (show Hid _ from hst)
      clear hst hold ho hfr
      go_wp2
      go_roundw
      case rel => exact ⟨k + 1, by omega, by go_num, HST.out.1, HST.out.2⟩
      case measure => simp [intOf]; omega
    · have hke : k = l.length := by omega
      subst hke
      have OA5 : Hid (wr.ownsRow w1.heap.size 5 1 (.slice a0 l.length capA) l.length (u8s (List.replicate l.length 17))) := by
        have := ho
        rw [List.drop_length, List.append_nil] at this
        exact this
      have hgkne : ¬ some gk = (Value.slice a0 l.length capA).ownBlock := fun h => by have := (pa gk h.symm).1; omega
      have OK5 : Hid (wr.ownsRow W0.heap.size 5 1 (.slice (some ⟨gk, 0, none⟩) 4 ck) 4 (u8s (beBytes 7 4))) := hfr.owns OK4.out (fun q hq => by
        have : q = gk := by simpa [Value.ownBlock] using hq.symm
        rw [this]; exact hgkne)
      have FR5 : Hid (Fr w4 wr (fun q => some q = (Value.slice a0 l.length capA).ownBlock ∨ q = gk)) := hfr.weaken (fun q h => .inl h)
      clear ho hfr
      go_wp2_with fail
      go_loopw [12] (fun i wr => ∃ k : Nat, k ≤ 4 ∧ i = .int .i64 k ∧ wr.ownsRow W0.heap.size 5 1 (.slice (some ⟨gk, 0, none⟩) 4 ck) 4 (u8s (List.replicate k 18 ++ (beBytes 7 4).drop k)) ∧ wr.ownsRow w1.heap.size 5 1 (.slice a0 l.length capA) l.length (u8s (List.replicate l.length 17)) ∧ Fr w4 wr (fun q => some q = (Value.slice a0 l.length capA).ownBlock ∨ q = gk)) (fun i _ => 4 - (intOf i).toNat)
      case atStart => exact ⟨0, Nat.zero_le _, rfl, by simpa using OK5.out, OA5.out, FR5.out⟩
      case round =>
        obtain ⟨k, hk, rfl, ho, hoA, hfr⟩ := hrel
        clear OA5 OK5 FR5
        have hbl : (beBytes 7 4).length = 4 := beBytes_len 7 4 (by decide)
        have HOA := (show Hid _ from hoA)
        clear hoA
        by_cases hlt : k < 4
        · have hst := fill_step 18 k hbl hlt (show some gk = (Value.slice a0 l.length capA).ownBlock ∨ gk = gk from .inr rfl) ho hfr
          have hcell : wr.cell? ⟨gk, k, none⟩ = some (.int .u8 ((((List.replicate k 18 ++ (beBytes 7 4).drop k)[k]'(by simp; omega))).toNat : Int)) := by
            rw [ho.cellAt k (by omega), u8s_get _ k (by simp; omega)]
          obtain ⟨old, hold⟩ : ∃ old : Int, old = ((((List.replicate k 18 ++ (beBytes 7 4).drop k)[k]'(by simp; omega))).toNat : Int) := ⟨_, rfl⟩
          rw [← hold] at hcell
          have hfz : wr.frozen? ⟨gk, k, none⟩ = false := ho.frozenAt k
          have hoA2 := World.ownsRow.kept HOA.out (ho.stored k (.int .u8 ((18 : UInt8).toNat : Int))).2 (by
            cases e : (Value.slice a0 l.length capA).ownBlock with
            | none => exact .inl rfl
            | some q => exact .inr (fun h => hgkne (by rw [e, h])))
          have HST := (show Hid _ from hst)
          have HOA2 := (show Hid _ from hoA2)
          clear hst hold ho hfr hoA2
          go_wp2
          go_roundw
          case rel => exact ⟨k + 1, by omega, by go_num, HST.out.1, HOA2.out, HST.out.2⟩
          case measure => simp [intOf]; omega
        · have hke : k = 4 := by omega
          subst hke
          rw [show ((4 : Nat) : Int) = 4 from rfl]
          have ho4 := ho
          rw [List.drop_of_length_le (by omega), List.append_nil] at ho4
          have hinv : Inv w4 wr W0.heap.size (Value.slice a0 l.length capA).ownBlock gk (.slice a0 l.length capA) (.slice (some ⟨gk, 0, none⟩) 4 ck) l.length 4 :=
            ⟨owns_base HOA.out (by have := pk.2; omega), ho4, fun q hq he => by
              have : q = gk := by simpa [Value.ownBlock] using hq.symm
              subst this; exact hgkne he.symm, .inl rfl, .inl rfl, hfr⟩
          have HI := (show Hid _ from hinv)
          generalize hoa : (Value.slice a0 l.length capA).ownBlock = oa at *
          clear ho ho4 hfr hinv HOA hbl hoa
          go_wp2_with fail
          go_loopw [13, 14, 15] (fun vL vO i wr => ∃ k : Nat, k ≤ 64 ∧ i = .int .i64 k ∧ Inv w4 wr W0.heap.size oa gk vL vO (l.length + k) (4 + k)) (fun _ _ i _ => 64 - (intOf i).toNat)
          case atStart => exact ⟨0, Nat.zero_le _, rfl, HI.out⟩
          case round =>
            obtain ⟨k, hk, rfl, hinv⟩ := hrel
            have HI2 := (show Hid _ from hinv)
            have hownL := hinv.ownL
            clear HI hinv
            by_cases hlt : k < 64
            · have hs1 : W0.heap.size ≤ wr.heap.size := by have := HI2.out.fr.size; omega
              go_wp2_with (first
                | (at_builtin; refine wpList_append_lies _ rfl (.tmp 87) (.tmp 88) 26 rfl W0.heap.size 5 i0 (.int .u8 0) 1 1 Tryd.underlying26 hi hz0 hz1 hz2 rfl (by decide) _ _ _ rfl (hownL.alloc _) ⟨wr.heap.size, 0, none⟩ 1 1 [.int .u8 17] rfl rfl ?c1 ?c2 ?c3 ?c4 ?c5 ?c6 (wr.heap.size + 1) ?c7 ?_))
              case c1 =>
                intro j u hj
                match j, hj with
                | 0, hj => simp at hj; subst hj; simp [Addr.add]
              case c2 => intro u hu; simp at hu; subst hu; rfl
              case c3 => decide
              case c4 => unfold maxLen; omega
              case c5 => omega
              case c6 => simp; omega
              case c7 => simp
              intro gL cL w6 hown6 hgrow6 hat6 hlg6
              have HI6 := (show Hid _ from HI2.out.left hgrow6 hown6 hat6)
              have hownO : w6.ownsRow W0.heap.size 5 1 u14 (4 + k) (u8s (List.replicate (4 + k) 18)) := HI6.out.ownO
              have hs6 : W0.heap.size ≤ w6.heap.size := by have := HI6.out.fr.size; omega
              clear hown6 hgrow6 hat6 hlg6 HI2 hownL
              go_wp2_with (first
                | (at_builtin; refine wpList_append_lies _ rfl (.tmp 90) (.tmp 91) 26 rfl W0.heap.size 5 i0 (.int .u8 0) 1 1 Tryd.underlying26 hi hz0 hz1 hz2 rfl (by decide) _ _ _ rfl (hownO.alloc _) ⟨w6.heap.size, 0, none⟩ 1 1 [.int .u8 18] rfl rfl ?d1 ?d2 ?d3 ?d4 ?d5 ?d6 (w6.heap.size + 1) ?d7 ?_))
              case d1 =>
                intro j u hj
                match j, hj with
                | 0, hj => simp at hj; subst hj; simp [Addr.add]
              case d2 => intro u hu; simp at hu; subst hu; rfl
              case d3 => decide
              case d4 => unfold maxLen; omega
              case d5 => omega
              case d6 => simp; omega
              case d7 => simp
              intro gO cO w7 hown7 hgrow7 hat7 hlg7
              have HI7 := (show Hid _ from HI6.out.right hgrow7 hown7 hat7)
              clear hown7 hgrow7 hat7 hlg7 HI6 hownO
              go_wp2
              go_roundw
              case rel => exact ⟨k + 1, by omega, by go_num, HI7.out⟩
              case measure => simp [intOf]; omega
            · have hke : k = 64 := by omega
              subst hke
              rw [show ((64 : Nat) : Int) = 64 from rfl]
              obtain ⟨gL, cL, rfl, _, _⟩ := hownL.form (by omega)
              obtain ⟨gO, cO, rfl, _, _⟩ := HI2.out.ownO.form (by omega)
              have hLc : ∀ j, j < l.length + 64 → wr.cell? ⟨gL, j, none⟩ = some (.int .u8 17) := fun j hj => by
                rw [hownL.cellAt j (by omega), u8s_get _ j (by rw [List.length_replicate]; exact hj), List.getElem_replicate]
                rfl
              have hOc : ∀ j, j < 68 → wr.cell? ⟨gO, j, none⟩ = some (.int .u8 18) := fun j hj => by
                rw [HI2.out.ownO.cellAt j (by omega), u8s_get _ j (by rw [List.length_replicate]; omega), List.getElem_replicate]
                rfl
              -- what the rest needs of the world
              have hfr := HI2.out.fr
              have hexB : ∀ k, vb.ownBlock = some k → ¬ (some k = oa ∨ k = gk) := fun k hk h => by
                have h1 := pb k hk
                rcases h with h | h
                · have := (pa k h.symm).2; omega
                · omega
              have hexW : ∀ k, vw.ownBlock = some k → ¬ (some k = oa ∨ k = gk) := fun k hk h => by
                have h1 := pw k hk
                rcases h with h | h
                · have := (pa k h.symm).2; omega
                · omega
              have hexLow : ∀ k, k < W0.heap.size → ¬ (some k = oa ∨ k = gk) := fun k hk h => by
                rcases h with h | h
                · have := (pa k h.symm).1; omega
                · have := pk.2; omega
              have hbw : w.heap.size < W0.heap.size := hWlt
              have RB : Hid (Rd wr vb l) := rd_of_owns (hfr.owns OB4.out hexB)
              have RW : Hid (Rd wr vw l) := rd_of_owns (hfr.owns OW4.out hexW)
              have HBr : Hid (Below w.heap.size w wr) := hfr.below hB4 (fun k hk => hexLow k (by omega))
              have HXr : Hid (Boxed w.heap.size [.int .u64 (n : Int), .int .i64 width] wr) := hfr.boxed hX4 (hexLow _ hbw)
              have HLC := (show Hid _ from hLc)
              have HOC := (show Hid _ from hOc)
              clear hLc hOc hfr hexB hexW hexLow HI2 hownL OB4 OW4 OA4 OK4 hB4 hX4 pa pb pw pk hgkne hga
              rw [show 4 + 64 = 68 from rfl]
              go_wp2_with fail
              go_loop [16] (fun i => ∃ k : Nat, k ≤ l.length + 64 ∧ i = .int .i64 k) (fun i => l.length + 64 - (intOf i).toNat)
              case atStart => exact ⟨0, Nat.zero_le _, rfl⟩
              case round =>
                obtain ⟨k, hk, rfl⟩ := hrel
                by_cases hlt : k < l.length + 64
                · have hck := HLC.out k hlt
                  go_wp2
                  go_round
                  case rel => exact ⟨k + 1, by omega, by go_num⟩
                  case measure => simp [intOf]; omega
                · go_wp2_with fail
                  go_loop [17] (fun i => ∃ k : Nat, k ≤ 68 ∧ i = .int .i64 k) (fun i => 68 - (intOf i).toNat)
                  case atStart => exact ⟨0, Nat.zero_le _, rfl⟩
                  case round =>
                    obtain ⟨k2, hk2, rfl⟩ := hrel
                    by_cases hlt2 : k2 < 68
                    · have hck := HOC.out k2 hlt2
                      go_wp2
                      go_round
                      case rel => exact ⟨k2 + 1, by omega, by go_num⟩
                      case measure => simp [intOf]; omega
                    · have c0 : wr.cell? ⟨w.heap.size, 0, none⟩ = some (.int .u64 (n : Int)) := HXr.out.2 0 (by simp)
                      have c1 : wr.cell? ⟨w.heap.size, 1, none⟩ = some (.int .i64 width) := HXr.out.2 1 (by simp)
                      have hAr := HAw.out.below HBr.out
                      go_wp2_with fail
                      refine (HP.out _ hAr).mono ?_
                      rintro e w8 ⟨vc, rfl, ownC, hb8⟩
                      have rc := rd_of_owns ownC
                      have rb := RB.out.below hb8
                      have rw8 := RW.out.below hb8
                      have hB8 := Below.next HBr.out hb8
                      clear ownC hb8 hAr c0 c1 HXr RB RW HLC HOC HBr
                      go_wp2_with fail
                      refine (same_rd _ _ l _ (by omega) rb rw8).mono ?_
                      rintro e w9 ⟨rfl, hb9⟩
                      have rc9 := rc.below hb9
                      have rw9 := rw8.below hb9
                      have hB9 := Below.next hB8 hb9
                      clear rc rb rw8 hB8 hb9
                      go_wp2_with fail
                      refine (same_rd _ _ l _ (by omega) rc9 rw9).mono ?_
                      rintro e w10 ⟨rfl, hb10⟩
                      have hB10 := Below.next hB9 hb10
                      clear rc9 rw9 hB9 hb10
                      go_wp2_with fail
                      go_ret
                      exact ⟨rfl, hB10⟩

end Go.Proofs.YtoedmapcnalhjaaDoor
