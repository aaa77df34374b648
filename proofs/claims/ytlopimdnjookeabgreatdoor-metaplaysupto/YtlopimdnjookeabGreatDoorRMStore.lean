import Derived.Test.YtlopimdnjookeabGreatDoorB4
import Derived.Test.YtlopimdnjookeabGreatDoorMEncRef
import Derived.Test.YtlopimdnjookeabGreatDoorA7
namespace Go.Proofs.YtlopimdnjookeabGreatDoor
open Go.RowKit

theorem RAll_lt {w : World} {b : Nat} {F : Nat → Prop} {d : V.Dev} {T : Nat} (h : V.RAll w b F d T) : ∀ k, F k → k < w.heap.size := by obtain ⟨_, _, _, _, h⟩ := h; exact h.body.lt
theorem RAll_size {w : World} {b : Nat} {F : Nat → Prop} {d : V.Dev} {T : Nat} (h : V.RAll w b F d T) : Calls Tryz.prog 40 #[.pointer (some ⟨b, 0, none⟩)] w fun e w' => e = .returned (.int .i64 d.size) ∧ w = w' := by obtain ⟨_, _, _, _, h⟩ := h; exact V.rsize_any b F d w ⟨_, _, _, _, h.body⟩
theorem RAll_ok {w : World} {b : Nat} {F : Nat → Prop} {d : V.Dev} {T : Nat} (h : V.RAll w b F d T) : d.Ok := by obtain ⟨_, _, _, _, h⟩ := h; exact h.ok

set_option maxRecDepth 100000 in
set_option maxHeartbeats 2000000 in
theorem rmstore_any (b : Nat) (F : Nat → Prop) (d : V.Dev) (T : Nat) (m : Mt) (w : World) (hx : m.txid < 18446744073709551616) (hd : V.RAll w b F d T)
    (hp : d.pend.length + 1 ≤ 5864062014805) (hT : T ≤ 1048576) (hA : ∀ a ∈ d.arms, a.fates.length ≤ 1048576 ∧ ∀ f ∈ a.fates, f.junk.size ≤ 1048576) :
    Calls Tryz.prog 19 #[.pointer (some ⟨b, 0, none⟩), .agg m.cells.toArray] w fun e w' => e = .returned (.int .i64 ((storeMD d m).2 : Int)) ∧ ∃ F' T', V.RAll w' b F' (storeMD d m).1 T' ∧ V.Step F F' w w' ∧ T' + V.armSum (storeMD d m).1.arms ≤ T + V.armSum d.arms := by
  have HD := hide hd
  have HFl := hide (RAll_lt hd)
  have hs0 := (RAll_ok hd).s0
  have hs1 := (RAll_ok hd).s1
  have hq : d.size.tdiv 8 = d.size / 8 := Int.tdiv_eq_ediv_of_nonneg hs0
  have hq0 : 0 ≤ d.size / 8 := by omega
  have hq1 : d.size / 8 ≤ 1048577 := by omega
  have hwr : IntKind.i64.wrap (d.size / 8) = d.size / 8 := by simp [IntKind.wrap, IntKind.bits, IntKind.signed]; omega
  have HSZ : Hid (∀ w1, Below w.heap.size w w1 → Calls Tryz.prog 40 #[.pointer (some ⟨b, 0, none⟩)] w1 fun e w' => e = .returned (.int .i64 d.size) ∧ w1 = w') := fun w1 hb => RAll_size (HD.out.below hb)
  by_cases hm : MayM m
  · have HS : Hid (∀ w, Calls Tryz.prog 48 #[.agg m.cells.toArray] w fun e w' => ∃ g cap, e = .returned (.tuple #[.slice (some ⟨g, 0, none⟩) 512 cap, .int .i64 0]) ∧ w'.ownsRow w.heap.size 5 1 (.slice (some ⟨g, 0, none⟩) 512 cap) 512 (u8s (mpage m)) ∧ Below w.heap.size w w') := fun w => renc_ok m w hm hx
    have HPL := hide (mpage_len m)
    have HSD : Hid (storeMD d m = if m.pages = d.size / 8 then d.write (((m.txid % 2 : Nat) : Int) * 8) (mpage m) else (d, 1)) := by
      show storeMD d m = _
      unfold storeMD
      by_cases h : m.pages = d.size / 8
      · rw [if_pos ⟨hm, h⟩, if_pos h]
      · rw [if_neg (fun h' => h h'.2), if_neg h]
    obtain ⟨S, hS⟩ : ∃ S : Int, S = ((m.txid % 2 : Nat) : Int) := ⟨_, rfl⟩
    have hS0 : 0 ≤ S := by omega
    have hS1 : S ≤ 1 := by omega
    have HSLOT : Hid (∀ w, Calls Tryz.prog 49 #[.int .u64 (m.txid : Int)] w fun e w' => e = .returned (.int .i64 S) ∧ w = w') := fun w => by rw [hS]; exact rslot_any m.txid w hx
    rw [← hS] at HSD
    have HPN := hide hp
    have HTT := hide hT
    have HAA := hide hA
    obtain ⟨pg, hpg⟩ : ∃ pg, pg = mpage m := ⟨_, rfl⟩
    rw [← hpg] at HS HPL HSD
    obtain ⟨dn, hdn⟩ : ∃ dn, dn = storeMD d m := ⟨_, rfl⟩
    rw [← hdn] at HSD ⊢
    clear hd hx hm hp hT hA hS hpg hdn
    obtain ⟨P, R, Tx⟩ := m
    simp only [Mt.cells] at HS HSLOT HSD ⊢
    have HX := hide (boxed_new w #[.int .i64 P, .int .i64 R, .int .u64 (Tx : Int)] 32)
    have HB := hide (below_new w (.cells #[.int .i64 P, .int .i64 R, .int .u64 (Tx : Int)] 32))
    by_cases hfit : P = d.size / 8
    · have hne : (P != d.size / 8) = false := by simpa using hfit
      have HR : Hid (dn = d.write (S * 8) pg) := by show dn = _; rw [HSD.out, if_pos hfit]
      have HWR : Hid (∀ w1 g cap, Below w.heap.size w w1 → w.heap.size < g → w1.ownsRow 0 5 1 (.slice (some ⟨g, 0, none⟩) 512 cap) 512 (u8s pg) → Calls Tryz.prog 32 #[.pointer (some ⟨b, 0, none⟩), .int .i64 (S * 8), .slice (some ⟨g, 0, none⟩) 512 cap] w1 fun e w' => e = .returned (.int .i64 (dn.2 : Int)) ∧ ∃ F' T', V.RAll w' b F' dn.1 T' ∧ V.Step F F' w1 w' ∧ T' + V.armSum dn.1.arms ≤ T + V.armSum d.arms) := fun w1 g cap hb hg hrow => by
        rw [HR.out]
        exact V.rwrite_any b F d T w1 (HD.out.below hb) (S * 8) ⟨by omega, by omega⟩ (.slice (some ⟨g, 0, none⟩) 512 cap) pg (V.bytesAt_own (by rw [HPL.out]; exact hrow) (by rw [HPL.out]; decide) (fun g' hg' hf => by
          simp only [Value.ownBlock, Option.some.injEq] at hg'
          have := HFl.out g' hf; omega)) (by rw [HPL.out]; exact HPN.out) HTT.out HAA.out
      clear HSD hne
      subst hfit
      generalize hsz : d.size / 8 = P at *
      have hne : (P != P) = false := by simp
      generalize hsy : d.size = SZ at *
      have e8 : 8 * S = S * 8 := by omega
      clear hsz hsy
      go_enter Tryz.func19, Tryz.ntmps19
      go_wp2_with fail
      refine (HS.out _).mono ?_
      rintro e w1 ⟨g, cap, rfl, hrow, hb1⟩
      have HX1 := hide (HX.out.below hb1)
      have HB1 := hide (Below.next HB.out hb1)
      have HROW : Hid (∀ w', Below w1.heap.size w1 w' → w'.ownsRow 0 5 1 (.slice (some ⟨g, 0, none⟩) 512 cap) 512 (u8s pg)) := fun w' hb' => V.owns_below ⟨hrow.1, hrow.2.imp id fun ⟨g, cap, cur, q1, _, q3⟩ => ⟨g, cap, cur, q1, Nat.zero_le _, q3⟩⟩ hb'
      have HG : Hid (w.heap.size < g) := by have h1 := (V.owns_blk hrow g rfl).1; have := HX.out.1; show _ < _; omega
      have c0 : w1.cell? ⟨w.heap.size, 0, none⟩ = some (.int .i64 P) := HX1.out.2 0 (by simp)
      have c2 : w1.cell? ⟨w.heap.size, 2, none⟩ = some (.int .u64 (Tx : Int)) := HX1.out.2 2 (by simp)
      clear hrow hb1 HX HB
      go_wp2_with fail
      go_region_held3 (fun w' => w'.cell? ⟨w.heap.size, 0, none⟩ = some (.int .i64 P)) (go_keep)
        (first
          | (go_at_call 40; refine (HSZ.out _ (by first | exact HB1.out.drew | exact HB1.out)).mono ?_; rintro e w' ⟨rfl, rfl⟩))
      obtain ⟨w5, hw5⟩ : ∃ w5, w5 = w1.drew := ⟨_, rfl⟩
      rw [← hw5]
      have c2' : w5.cell? ⟨w.heap.size, 2, none⟩ = some (.int .u64 (Tx : Int)) := by rw [hw5]; exact (HX1.out.below (Below.refl _ _).drew).2 2 (by simp)
      have HB5 : Hid (Below w.heap.size w w5) := by rw [hw5]; exact HB1.out.drew
      have HRW5 : Hid (w5.ownsRow 0 5 1 (.slice (some ⟨g, 0, none⟩) 512 cap) 512 (u8s pg)) := by rw [hw5]; exact HROW.out _ (Below.refl _ _).drew
      clear hw5 c0 c2
      go_wp2_with fail
      refine (HSLOT.out _).mono ?_
      rintro e w' ⟨rfl, rfl⟩
      go_wp2_with fail
      try rw [e8]
      refine (HWR.out _ g cap HB5.out HG.out HRW5.out).mono ?_
      rintro e w2 ⟨rfl, F', T', h2, s2, t2⟩
      have HFIN := hide (And.intro h2 (And.intro ((V.Step.of_below HB5.out).trans s2) t2))
      clear h2 s2 t2
      go_wp2_with fail
      go_ret
      exact ⟨rfl, F', T', HFIN.out⟩
    · have HNE := hide hfit
      have HR : Hid (dn = (d, 1)) := by show dn = _; rw [HSD.out, if_neg hfit]
      have hne : (P != d.size / 8) = true := by simpa using hfit
      clear HSD hfit
      generalize hsz : d.size / 8 = Q at *
      generalize hsy : d.size = SZ at *
      clear hsz hsy
      go_enter Tryz.func19, Tryz.ntmps19
      go_wp2_with fail
      refine (HS.out _).mono ?_
      rintro e w1 ⟨g, cap, rfl, hrow, hb1⟩
      have HX1 := hide (HX.out.below hb1)
      have HB1 := hide (Below.next HB.out hb1)
      have c0 : w1.cell? ⟨w.heap.size, 0, none⟩ = some (.int .i64 P) := HX1.out.2 0 (by simp)
      clear hrow hb1 HX HB
      go_wp2_with fail
      go_region_held3 (fun w' => w'.cell? ⟨w.heap.size, 0, none⟩ = some (.int .i64 P)) (go_keep)
        (first
          | (go_at_call 40; refine (HSZ.out _ (by first | exact HB1.out.drew | exact HB1.out)).mono ?_; rintro e w' ⟨rfl, rfl⟩))
      go_wp2_with fail
      go_ret
      rw [HR.out]
      exact ⟨rfl, F, T, HD.out.below (by first | exact HB1.out | exact HB1.out.drew), V.Step.of_below (by first | exact HB1.out | exact HB1.out.drew), Nat.le_refl _⟩
  · have HS : Hid (∀ w, Calls Tryz.prog 48 #[.agg m.cells.toArray] w fun e w' => e = .returned (.tuple #[.slice none 0 0, .int .i64 1]) ∧ Below w.heap.size w w') := fun w => renc_no m w hm
    have HR : Hid (storeMD d m = (d, 1)) := by show storeMD d m = _; unfold storeMD; rw [if_neg (fun h' => hm h'.1)]
    clear hd hx hm hp hT hA
    obtain ⟨P, R, Tx⟩ := m
    simp only [Mt.cells] at HS ⊢
    have HB := hide (below_new w (.cells #[.int .i64 P, .int .i64 R, .int .u64 (Tx : Int)] 32))
    have HX := hide (boxed_new w #[.int .i64 P, .int .i64 R, .int .u64 (Tx : Int)] 32)
    go_enter Tryz.func19, Tryz.ntmps19
    go_wp2_with fail
    refine (HS.out _).mono ?_
    rintro e w1 ⟨rfl, hb1⟩
    have HX1 := hide (HX.out.below hb1)
    have HB1 := hide (Below.next HB.out hb1)
    have c0 : w1.cell? ⟨w.heap.size, 0, none⟩ = some (.int .i64 P) := HX1.out.2 0 (by simp)
    clear hb1
    go_wp2_with fail
    go_quiet (fail)
    all_goals
      go_wp2_with fail
      go_ret
      rw [HR.out]
      exact ⟨rfl, F, T, HD.out.below (by first | exact HB1.out | exact HB1.out.drew | exact V.below_drewN HB1.out _), V.Step.of_below (by first | exact HB1.out | exact HB1.out.drew | exact V.below_drewN HB1.out _), Nat.le_refl _⟩

end Go.Proofs.YtlopimdnjookeabGreatDoor
