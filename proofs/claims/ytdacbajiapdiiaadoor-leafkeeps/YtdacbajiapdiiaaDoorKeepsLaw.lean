import Derived.Test.YtdacbajiapdiiaaDoorLBegun
import Derived.Test.YtdacbajiapdiiaaDoorLRise
import Derived.Test.YtdacbajiapdiiaaDoorLSet
import Derived.Test.YtdacbajiapdiiaaDoorLSame
import Derived.Test.YtdacbajiapdiiaaDoorKeepsMath
namespace Go.Proofs.YtdacbajiapdiiaaDoor
open Go.RowKit

set_option maxRecDepth 40000 in
set_option maxHeartbeats 8000000 in
theorem keeps_any (A : Nat → Addr) (l0 : List Pr) (a : Option Addr) (c : Nat) (key value : ByteArray) (root : Bool) (w : World) (hl : l0.length ≤ 4398046510976) (_hok : OkL l0) (hr : PrR w (.slice a l0.length c) l0) (hE : ErrC A w) (_hk : key.size ≤ 140737488351232) (_hv : value.size ≤ 140737488351232) :
    Calls Tryd.prog 6 #[.agg #[.slice a l0.length c, .string key, .string value, .bool root]] w fun e w' => e = .returned (.bool true) ∧ Below w.heap.size w w' := by
  have hb0 := below_new w (.cells #[.slice a l0.length c, .string key, .string value, .bool root] 24)
  have hx0 := boxed_new w #[.slice a l0.length c, .string key, .string value, .bool root] 24
  have HBG := hide (begun_any A _ (hE.below hb0))
  have HB0 := hide hb0
  have HX0 := hide hx0
  have HR0 := hide (hr.below hb0)
  clear hb0 hx0 hr hE
  go_enter Tryd.func6, Tryd.ntmps6
  go_wp2_with fail
  refine HBG.out.mono ?_
  rintro e w1 ⟨rfl, hb1⟩
  have HB1 := hide (Below.next HB0.out hb1)
  have HX1 := hide (HX0.out.below hb1)
  have HRI : Hid (Calls Tryd.prog 16 #[.slice a l0.length c, .int .i64 1099511627776] w1 fun e w' => ∃ u, e = .returned u ∧ PrO w' w1.heap.size u (risL 1099511627776 l0) ∧ Below w1.heap.size w1 w') := rising_any _ l0 1099511627776 w1 hl (by decide) (HR0.out.below hb1)
  have k0 : w1.cell? ⟨w.heap.size, 0, none⟩ = some (.slice a l0.length c) := HX1.out.2 0 (by simp)
  clear hb1 HBG HB0 HX0 HR0
  go_wp2_with fail
  refine HRI.out.mono ?_
  rintro e w2 ⟨u, rfl, hown, hb2⟩
  obtain ⟨l, hle⟩ : ∃ l, l = risL 1099511627776 l0 := ⟨_, rfl⟩
  obtain ⟨hmay, hrise, hsz, hlen⟩ := risK_ok 1099511627776 l0 l0.length
  have hrl : risK 1099511627776 l0 l0.length = l := by rw [hle]; rfl
  rw [hrl] at hrise hsz
  rw [← hle] at hown
  have hln := szL_len l
  have hll : l.length ≤ 1000000000000 := by omega
  have HX2 := hide (HX1.out.below hb2)
  have HB2 := hide (Below.next HB1.out hb2)
  have k1 : w2.cell? ⟨w.heap.size, 1, none⟩ = some (.string key) := HX2.out.2 1 (by simp)
  have k2 : w2.cell? ⟨w.heap.size, 2, none⟩ = some (.string value) := HX2.out.2 2 (by simp)
  have HO := hide hown
  obtain ⟨m, hm⟩ : ∃ m, m = setL l key value := ⟨_, rfl⟩
  obtain ⟨d, hd⟩ : ∃ d, d = dropL l key := ⟨_, rfl⟩
  obtain ⟨q, hq⟩ : ∃ q, q = findN l key := ⟨_, rfl⟩
  obtain ⟨fb, hfb⟩ : ∃ fb, fb = foundB l key := ⟨_, rfl⟩
  have hml : m.length = d.length + 1 := by rw [hm, hd, setL_len, dropL_len]; omega
  have hqb := findN_le l key
  have hbb := behindN_le l key
  have hmb : m.length ≤ 1000000000001 := by rw [hm, setL_len]; have := behindN_ge l key; omega
  obtain ⟨hqm, hat⟩ : ∃ h : q < m.length, m[q] = (key, value) := by subst hm hq; exact setL_at l key value
  have hfm : findN m key = q ∧ foundB m key = true := by subst hm hq; exact set_find l key value
  have hdm : dropL m key = d := by subst hm hd; exact set_drop l key value
  have hdd : dropL d key = d ∧ foundB d key = false := by subst hd; exact ⟨drop_drop hrise, drop_find hrise⟩
  have hrm : Rise m := by subst hm; exact set_rise hrise
  have HST : Hid (Calls Tryd.prog 22 #[u, .string key, .string value] w2 fun e w' => ∃ u, e = .returned u ∧ PrO w' w2.heap.size u m ∧ Below w2.heap.size w2 w') := by rw [hm]; exact lset_any u l key value w2 (by omega) hown.at
  have HFL : Hid (∀ W, Below w2.heap.size w2 W → Calls Tryd.prog 23 #[u, .string key] W fun e w' => e = .returned (.tuple #[.int .i64 (q : Int), .bool fb]) ∧ Below W.heap.size W w') := fun W h => by rw [hq, hfb]; exact lfind_any u l key W (by omega) (HO.out.below h).at
  have HDL : Hid (∀ W, Below w2.heap.size w2 W → Calls Tryd.prog 24 #[u, .string key] W fun e w' => ∃ u, e = .returned (.tuple #[u, .bool fb]) ∧ PrO w' W.heap.size u d ∧ Below W.heap.size W w') := fun W h => by rw [hfb, hd]; exact ldrop_any u l key W (by omega) (HO.out.below h).at
  have HFM : Hid (∀ (u : Value) (W : World), PrR W u m → Calls Tryd.prog 23 #[u, .string key] W fun e w' => e = .returned (.tuple #[.int .i64 (q : Int), .bool true]) ∧ Below W.heap.size W w') := fun u W h => by
    have := lfind_any u m key W (by omega) h
    rw [hfm.1, hfm.2] at this
    exact this
  have HDM : Hid (∀ (u : Value) (W : World), PrR W u m → Calls Tryd.prog 24 #[u, .string key] W fun e w' => ∃ u, e = .returned (.tuple #[u, .bool true]) ∧ PrO w' W.heap.size u d ∧ Below W.heap.size W w') := fun u W h => by
    have := ldrop_any u m key W (by omega) h
    rw [hfm.2, hdm] at this
    exact this
  have HDD : Hid (∀ (u : Value) (W : World), PrR W u d → Calls Tryd.prog 24 #[u, .string key] W fun e w' => ∃ u, e = .returned (.tuple #[u, .bool false]) ∧ PrO w' W.heap.size u d ∧ Below W.heap.size W w') := fun u W h => by
    have := ldrop_any u d key W (by omega) h
    rw [hdd.1, hdd.2] at this
    exact this
  have HSM : Hid (∀ (u v : Value) (W : World), PrR W u d → PrR W v d → Calls Tryd.prog 19 #[u, v] W fun e w' => e = .returned (.bool true) ∧ Below W.heap.size W w') := fun u v W h1 h2 => samep_same u v d W (by omega) h1 h2
  have HRM := hide hrm
  have HML := hide hml
  have HMB := hide hmb
  have HAT : Hid (m[q] = (key, value)) := hat
  clear hb2 HRI HX1 HB1 k0 hown hmay hrise hle hrl hlen hsz hln hll hm hd hq hfb hml hqb hbb hmb hfm hdm hdd hrm HO hat
  go_wp2_with fail
  refine HST.out.mono ?_
  rintro e w3 ⟨um, rfl, hom, hb3⟩
  have HB3 := hide hb3
  have HOM := hide hom
  have r1 : w3.cell? ⟨w.heap.size, 1, none⟩ = some (.string key) := (HX2.out.below hb3).2 1 (by simp)
  clear hb3 hom HST k1 k2
  go_wp2_with fail
  refine (HFM.out um w3 HOM.out.at).mono ?_
  rintro e w4 ⟨rfl, hb4⟩
  have HOM4 := hide (HOM.out.below hb4)
  have HB4 := hide (Below.next HB3.out hb4)
  clear hb4 HFM HOM HB3 r1
  obtain ⟨ma, mc, hme, _, _, hmc⟩ := HOM4.out.at
  obtain ⟨mg, mo, hma, mc1, mc2⟩ := hmc q hqm
  subst hma
  rw [HAT.out] at mc1 mc2
  simp only at mc1 mc2
  subst hme
  obtain ⟨n, hn⟩ : ∃ n, n = m.length := ⟨_, rfl⟩
  have HN := hide hn
  rw [← hn] at HOM4 ⊢
  have t1 : w4.cell? ⟨w.heap.size, 1, none⟩ = some (.string key) := (HX2.out.below HB4.out).2 1 (by simp)
  have t2 : w4.cell? ⟨w.heap.size, 2, none⟩ = some (.string value) := (HX2.out.below HB4.out).2 2 (by simp)
  have hne := fun w => pr_nself w key value
  have q0 : decide ((q : Int) < 0) = false := decide_eq_false (by omega)
  have q1 : decide ((n : Int) ≤ (q : Int)) = false := decide_eq_false (by omega)
  have q2 : decide (n ≤ q) = false := decide_eq_false (by omega)
  have j0 : (0 : Int) ≤ (q : Int) := by omega
  have j1 : (q : Int) < (n : Int) := by omega
  have HQM := hide hqm
  clear hmc hn HAT hqm
  go_wp2
  go_quiet (fail)
  have HB5 := hide (below_drewN' HB4.out nq)
  have HOM5 : Hid (PrO (w4.drewN nq) w2.heap.size (.slice (some ⟨mg, mo, none⟩) n mc) m) := HOM4.out.below (below_drewN' (Below.refl _ _) nq)
  have HX5 : Hid (Boxed w.heap.size [.slice a l0.length c, .string key, .string value, .bool root] (w4.drewN nq)) := HX2.out.below HB5.out
  clear HOM4 HB4 t1 t2 mc1 mc2 hne q0 q1 q2 j0 j1
  generalize w4.drewN nq = w5 at *
  have t1 : w5.cell? ⟨w.heap.size, 1, none⟩ = some (.string key) := HX5.out.2 1 (by simp)
  go_wp2_with fail
  refine (HDM.out _ w5 HOM5.out.at).mono ?_
  rintro e w6 ⟨ud, rfl, hod, hb6⟩
  have HB6 := hide (Below.next HB5.out hb6)
  have HOM6 := hide (HOM5.out.below hb6)
  have HOD6 := hide hod
  have s1 : w6.cell? ⟨w.heap.size, 1, none⟩ = some (.string key) := (HX2.out.below HB6.out).2 1 (by simp)
  clear hb6 hod HDM HOM5 HB5 t1 HX5
  go_wp2_with fail
  refine (HDD.out _ w6 HOD6.out.at).mono ?_
  rintro e w7 ⟨us, rfl, hos, hb7⟩
  have HB7 := hide (Below.next HB6.out hb7)
  have HOM7 := hide (HOM6.out.below hb7)
  have HOD7 := hide (HOD6.out.below hb7)
  have HOS7 := hide hos
  have t1 : w7.cell? ⟨w.heap.size, 1, none⟩ = some (.string key) := (HX2.out.below HB7.out).2 1 (by simp)
  clear hb7 hos HDD HOM6 HOD6 HB6 s1
  go_wp2_with fail
  refine (HFL.out w7 HB7.out).mono ?_
  rintro e w8 ⟨rfl, hb8⟩
  have HB8 := hide (Below.next HB7.out hb8)
  have HOM8 := hide (HOM7.out.below hb8)
  have HOD8 := hide (HOD7.out.below hb8)
  have HSM8 := hide (HSM.out us ud w8 (HOS7.out.below hb8).at (HOD7.out.below hb8).at)
  clear hb8 HFL HOM7 HOD7 HOS7 HB7 t1
  go_wp2_with fail
  refine HSM8.out.mono ?_
  rintro e w9 ⟨rfl, hb9⟩
  have HB9 := hide (Below.next HB8.out hb9)
  have HOM9 := hide (HOM8.out.below hb9)
  have hod9 := HOD8.out.below hb9
  have HOD9 := hide hod9
  obtain ⟨da, dc, hdf⟩ := hod9.form
  obtain ⟨dn, hdn⟩ : ∃ dn, dn = d.length := ⟨_, rfl⟩
  rw [← hdn] at hdf
  subst hdf
  have HDN := hide hdn
  have e1 : IntKind.i64.wrap ((dn : Int) + 1) = (n : Int) := by rw [IntKind.wrap_i64]; have h1 := HN.out; have h2 := HML.out; have h3 := HMB.out; omega
  have e2 : ((n : Int) != (n : Int)) = false := by simp
  have t1 : w9.cell? ⟨w.heap.size, 1, none⟩ = some (.string key) := (HX2.out.below HB9.out).2 1 (by simp)
  clear hb9 HSM8 HOM8 HOD8 HB8 hod9 hdn
  go_wp2_with fail
  refine (HDL.out w9 HB9.out).mono ?_
  rintro e w10 ⟨uw, rfl, how, hb10⟩
  have HB10 := hide (Below.next HB9.out hb10)
  have HOM10 := hide (HOM9.out.below hb10)
  have HSM10 := hide (HSM.out uw _ w10 how.at (HOD9.out.below hb10).at)
  obtain ⟨wa, wc, hwf⟩ := how.form
  rw [← HDN.out] at hwf
  subst hwf
  clear hb10 HDL HOM9 HOD9 HB9 t1 how
  go_wp2_with fail
  refine HSM10.out.mono ?_
  rintro e w11 ⟨rfl, hb11⟩
  have HB11 := hide (Below.next HB10.out hb11)
  have HOM11 := hide (HOM10.out.below hb11)
  have e3 : (fb == fb) = true := by simp
  have e4 : ((n : Int) == (n : Int)) = true := by simp
  clear hb11 HSM10 HOM10 HB10 HSM
  go_wp2
  go_loopw [18] (fun i wr => ∃ k nq : Nat, 1 ≤ k ∧ (k ≤ n ∨ k = 1) ∧ i = .int .i64 k ∧ wr = w11.drewN nq) (fun i _ => n - (intOf i).toNat)
  case atStart => exact ⟨1, 0, Nat.le_refl _, .inr rfl, rfl, rfl⟩
  case round =>
    obtain ⟨k, nq, hk1, hk2, rfl, rfl⟩ := hrel
    by_cases hlt : k < n
    · have hkm : k < m.length := by have := HN.out; omega
      have hk1m : k - 1 < m.length := by omega
      obtain ⟨ma', mc', hme', _, _, hmc⟩ := HOM11.out.at
      obtain ⟨mg', mo', hma', d1, d2⟩ := hmc k hkm
      obtain ⟨mg'', mo'', hma'', d3, d4⟩ := hmc (k - 1) hk1m
      rw [hma'] at hma''
      cases hma''
      simp only [Value.slice.injEq] at hme'
      have hme2 := hme'.1.trans hma'
      simp only [Option.some.injEq, Addr.mk.injEq, and_true] at hme2
      obtain ⟨rfl, rfl⟩ := hme2
      have hlt2 : ltK (m[k - 1]'hk1m).1 m[k].1 = true := HRM.out.lt (k - 1) k hkm (by omega)
      obtain ⟨x, hx⟩ : ∃ x, x = (m[k - 1]'hk1m).1 := ⟨_, rfl⟩
      obtain ⟨y, hy⟩ : ∃ y, y = m[k].1 := ⟨_, rfl⟩
      rw [← hx] at d3 hlt2
      rw [← hy] at d1 hlt2
      obtain ⟨k1, hkk⟩ : ∃ k1, k1 = k - 1 := ⟨_, rfl⟩
      have hw1 : IntKind.i64.wrap ((k : Int) - 1) = (k1 : Int) := by rw [IntKind.wrap_i64]; have h1 := HN.out; have h3 := HMB.out; omega
      rw [← hkk] at d3
      have hbl : Op.bytesLess x.toList y.toList = true := hlt2
      have j1 : (k1 : Int) < (n : Int) := by omega
      have j0 : (0 : Int) ≤ (k1 : Int) := by omega
      have j2 : (0 : Int) ≤ (k : Int) := by omega
      have hltI : (k : Int) < (n : Int) := by omega
      have hkb : k ≤ 1000000000001 := by have h1 := HN.out; have h3 := HMB.out; omega
      clear hx hy hmc hme' d2 d4 hkk hlt2 hma' hk1m
      go_wp2
      go_quiet (fail)
      go_wp2
      go_roundw
      case rel => exact ⟨k + 1, _, by omega, .inl (by omega), by go_num, rfl⟩
      case measure => simp [intOf]; omega
    · have hltI : ¬ (k : Int) < (n : Int) := by omega
      have HBF := hide (below_drewN' (Below.next HB2.out HB11.out) nq)
      clear HB11 HOM11 HX2
      go_wp2
      go_ret
      exact ⟨rfl, HBF.out⟩

end Go.Proofs.YtdacbajiapdiiaaDoor
