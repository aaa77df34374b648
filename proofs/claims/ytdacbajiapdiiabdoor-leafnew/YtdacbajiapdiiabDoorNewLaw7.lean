import Derived.Test.YtdacbajiapdiiabDoorNew3
import Derived.Deep.DeepCutAuto
import Derived.Test.YtdacbajiapdiiabDoorStaleLaw
import Derived.Test.YtdacbajiapdiiabDoorLBegun
import Derived.Test.YtdacbajiapdiiabDoorLRise
import Derived.Test.YtdacbajiapdiiabDoorLDecode
namespace Go.Proofs.YtdacbajiapdiiabDoor
open Go.RowKit

set_option maxRecDepth 40000 in
set_option maxHeartbeats 60000000 in
theorem new_any (A : Nat → Addr) (l : List Pr) (a : Option Addr) (c : Nat) (key value : ByteArray) (root : Bool) (w : World) (hl : l.length ≤ 4398046510976) (hok : OkL l) (hr : PrR w (.slice a l.length c) l) (hE : ErrsG 13 gAll A w) (_hk : key.size ≤ 140737488351232) (_hv : value.size ≤ 140737488351232) :
    Calls Tryd.prog 5 #[.agg #[.slice a l.length c, .string key, .string value, .bool root]] w fun e w' => e = .returned (.bool true) ∧ Below w.heap.size w w' := by
  have hb0 := below_new w (.cells #[.slice a l.length c, .string key, .string value, .bool root] 35)
  have hx0 := boxed_new w #[.slice a l.length c, .string key, .string value, .bool root] 35
  have HE0 := hide (hE.keep hb0)
  have HB0 := hide hb0
  have HX0 := hide hx0
  have HR0 := hide (hr.below hb0)
  have HBG := hide (begun_any A _ (errC_all HE0.out))
  have HST : Hid (∀ W, Below (w.alloc (.cells #[.slice a l.length c, .string key, .string value, .bool root] 35)).heap.size (w.alloc (.cells #[.slice a l.length c, .string key, .string value, .bool root] 35)) W → Calls Tryd.prog 16 #[.agg #[.slice a l.length c, .string key, .string value, .bool root]] W fun e w' => e = .returned (.bool true) ∧ Below W.heap.size W w') := fun W h => stale_any A l a c key value root W hl hok (HR0.out.below h) (HE0.out.keep h)
  obtain ⟨n, hn⟩ : ∃ n, n = l.length := ⟨_, rfl⟩
  rw [← hn] at HB0 HX0 HR0 HE0 HBG HST hl ⊢
  have HN := hide hn
  clear hb0 hx0 hr hn hE
  go_enter Tryd.func5, Tryd.ntmps5
  go_wp2_with fail
  generalize hWA : w.alloc (.cells #[.slice a n c, .string key, .string value, .bool root] 35) = WA at *
  clear hWA
  refine HBG.out.mono ?_
  rintro e w1 ⟨rfl, hb⟩
  have HB1 := hide hb
  clear hb HBG
  have HS1 := hide (lset_any (.slice none 0 0) [] ⟨#[97]⟩ ⟨#[49]⟩ w1 (by decide) (PrR.nil _))
  go_wp2_with fail
  refine HS1.out.mono ?_
  rintro e w2 ⟨u, rfl, hou, hb⟩
  have HB2 := hide (Below.next HB1.out hb)
  have h1 : setL [] ⟨#[97]⟩ ⟨#[49]⟩ = [((⟨#[97]⟩ : ByteArray), (⟨#[49]⟩ : ByteArray))] := rfl
  rw [h1] at hou
  obtain ⟨g1, c1, hu, _, _, _⟩ := hou.some (by decide)
  obtain ⟨_, _, he, _, _, hcc⟩ := hou.at
  rw [hu] at he
  obtain ⟨g', o', ha, f1, f2⟩ := hcc 0 (by decide)
  simp only [Value.slice.injEq] at he
  obtain ⟨rfl, -, -⟩ := he
  simp only [Option.some.injEq, Addr.mk.injEq, and_true] at ha
  obtain ⟨rfl, rfl⟩ := ha
  have f1 : w2.cell? ⟨g1, 0, none⟩ = some (.string ⟨#[97]⟩) := f1
  have f2 : w2.cell? ⟨g1, 1, none⟩ = some (.string ⟨#[49]⟩) := f2
  have hu : u = .slice (some ⟨g1, 0, none⟩) 1 c1 := hu
  subst hu
  have k0 : w2.cell? ⟨w.heap.size, 0, none⟩ = some (.slice a n c) := (HX0.out.below HB2.out).2 0 (by simp)
  have k1 : w2.cell? ⟨w.heap.size, 1, none⟩ = some (.string key) := (HX0.out.below HB2.out).2 1 (by simp)
  have k2 : w2.cell? ⟨w.heap.size, 2, none⟩ = some (.string value) := (HX0.out.below HB2.out).2 2 (by simp)
  have k3 : w2.cell? ⟨w.heap.size, 3, none⟩ = some (.bool root) := (HX0.out.below HB2.out).2 3 (by simp)
  clear hb HB1 HS1 hou hcc h1
  go_wp2_with fail
  refine (HST.out _ HB2.out).mono ?_
  rintro e w3 ⟨rfl, hb⟩
  have HB3 := hide (Below.next HB2.out hb)
  clear hb HB2 HST k0 k1 k2 k3 f1 f2
  have k0 : w3.cell? ⟨w.heap.size, 0, none⟩ = some (.slice a n c) := (HX0.out.below HB3.out).2 0 (by simp)
  have HRI : Hid (∀ W, Below WA.heap.size WA W → Calls Tryd.prog 17 #[.slice a n c, .int .i64 4072] W fun e w' => ∃ u, e = .returned u ∧ PrO w' W.heap.size u (risL 4072 l) ∧ Below W.heap.size W w') := fun W h => rising_any _ l 4072 W (by rw [← HN.out]; exact hl) (by decide) (HR0.out.below h)
  go_wp2_with fail
  refine (HRI.out _ HB3.out).mono ?_
  rintro e w4 ⟨ur, rfl, hour, hb⟩
  have HB4 := hide (Below.next HB3.out hb)
  obtain ⟨hmay, _, hsz, _⟩ := risK_ok 4072 l l.length
  have hrl : risK 4072 l l.length = risL 4072 l := rfl
  rw [hrl] at hmay hsz
  have hrl2 := szL_len (risL 4072 l)
  have hokr : OkL (risL 4072 l) := fun p hp => by have := may_parts' (hmay p hp); omega
  have HEN := hide (lenc_any A ur (risL 4072 l) w4 hokr (by omega) hour.at (errC_all (HE0.out.keep HB4.out)))
  clear hb HB3 k0 hour hmay hsz hrl hokr
  go_wp2_with fail
  refine HEN.out.mono ?_
  rintro e w5 ⟨hv, hb⟩
  obtain ⟨s, ev, rfl, hev⟩ : ∃ (s : ByteArray) (ev : Value), e = .returned (.tuple #[.string s, ev]) ∧ (ev = .nilIface ∨ ∃ k, ev = .iface 128 (.pointer (some (A k)))) := by
    rcases hv with ⟨_, h⟩ | ⟨k, _, h⟩
    · exact ⟨_, _, h, .inl rfl⟩
    · exact ⟨_, _, h, .inr ⟨k, rfl⟩⟩
  have HEV := hide hev
  have HB5 := hide (Below.next HB4.out hb)
  have k0 : w5.cell? ⟨w.heap.size, 0, none⟩ = some (.slice a n c) := (HX0.out.below HB5.out).2 0 (by simp)
  have HP := hide (pairs_any (.slice a n c) l w5 (by rw [← HN.out]; exact hl) (HR0.out.below HB5.out))
  clear hv hb HB4 HEN hev
  go_wp2_with fail
  refine HP.out.mono ?_
  rintro e w6 ⟨um, rfl, hom, hb⟩
  have hlen : (l ++ marks 64).length = n + 64 := by rw [List.length_append, marks_len, ← HN.out]
  obtain ⟨g, uc, hu, hg5, hg6, huc⟩ := hom.some (by rw [hlen]; omega)
  rw [hlen] at hu huc
  obtain ⟨N, hNN⟩ : ∃ N, N = n + 64 := ⟨_, rfl⟩
  rw [← hNN] at hu huc
  subst hu
  have hnN : n ≤ N := by omega
  have htk : (l ++ marks 64).take n = l := by rw [HN.out, List.take_left]
  have hml := hom.at.take (m := n) hnN
  rw [htk] at hml
  have HB6 := hide (Below.next HB5.out hb)
  have HOM := hide hom
  have HML := hide hml
  have HNN := hide hNN
  have hsl := fun W => slTo W (some ⟨g, 0, none⟩) N uc n (by omega)
  have k0 : w6.cell? ⟨w.heap.size, 0, none⟩ = some (.slice a n c) := (HX0.out.below HB6.out).2 0 (by simp)
  have k1 : w6.cell? ⟨w.heap.size, 1, none⟩ = some (.string key) := (HX0.out.below HB6.out).2 1 (by simp)
  have k2 : w6.cell? ⟨w.heap.size, 2, none⟩ = some (.string value) := (HX0.out.below HB6.out).2 2 (by simp)
  have hll : l.length ≤ 4398046510976 := by rw [← HN.out]; exact hl
  have hq1 := findN_le l key
  have hq2 := behindN_le l key
  have hq3 := behindN_ge l key
  have hqd : (dropL l key).length ≤ 4398046511000 := by unfold dropL; simp only [List.length_append, List.length_take, List.length_drop]; omega
  have hqs : (setL l key value).length ≤ 4398046511000 := by unfold setL; simp only [List.length_append, List.length_cons, List.length_take, List.length_drop]; omega
  have D1 : Hid (∀ W, Below w6.heap.size w6 W → Calls Tryd.prog 15 #[.slice (some ⟨g, 0, none⟩) n uc, .string key, .string value] W fun e w' => ∃ (ua : Option Addr) (um uk : Nat), e = .returned (.slice ua um uk) ∧ (∃ c, PrO w' W.heap.size (.slice ua um uk) c ∧ c.length ≤ 4398046511000) ∧ Below W.heap.size W w') := fun W h => (lset_any _ l key value W (by omega) (HML.out.below h)).mono fun e w' ⟨u, h1, h2, h3⟩ => by
    obtain ⟨a', k', hu⟩ := h2.form
    subst hu
    exact ⟨_, _, _, h1, ⟨_, h2, hqs⟩, h3⟩
  have D2 : Hid (∀ W, Below w6.heap.size w6 W → Calls Tryd.prog 18 #[.slice (some ⟨g, 0, none⟩) n uc, .string key] W fun e w' => ∃ (ua : Option Addr) (um uk : Nat) (b : Bool), e = .returned (.tuple #[.slice ua um uk, .bool b]) ∧ (∃ c, PrO w' W.heap.size (.slice ua um uk) c ∧ c.length ≤ 4398046511000) ∧ Below W.heap.size W w') := fun W h => (ldrop_any _ l key W (by omega) (HML.out.below h)).mono fun e w' ⟨u, h1, h2, h3⟩ => by
    obtain ⟨a', k', hu⟩ := h2.form
    subst hu
    exact ⟨_, _, _, _, h1, ⟨_, h2, hqd⟩, h3⟩
  have D3 : Hid (∀ W, Below w6.heap.size w6 W → Calls Tryd.prog 19 #[.slice (some ⟨g, 0, none⟩) n uc] W fun e w' => ∃ (ua : Option Addr) (um uk : Nat) (ta : Option Addr) (tm tk : Nat) (ev : Value), e = .returned (.tuple #[.slice ua um uk, .slice ta tm tk, ev]) ∧ (∃ c, PrO w' W.heap.size (.slice ua um uk) c ∧ c.length ≤ 4398046511000) ∧ (∃ c, PrO w' W.heap.size (.slice ta tm tk) c ∧ c.length ≤ 4398046511000) ∧ (∀ k, (Value.slice ua um uk).ownBlock = some k → (Value.slice ta tm tk).ownBlock ≠ some k) ∧ Below W.heap.size W w') := fun W h => (lcut_any A _ l W hok (by omega) (HML.out.below h) (errC_all (HE0.out.keep (Below.next HB6.out h)))).mono fun e w' ⟨⟨i, cc, u1, u2, ev, h1, _, _, h2⟩, h3⟩ => by
    rcases h2 with ⟨_, h4, h5, h6⟩ | ⟨_, rfl, rfl⟩
    · obtain ⟨a1, k1, hu1⟩ := h4.form
      obtain ⟨a2, k2, hu2⟩ := h5.form
      subst hu1 hu2
      exact ⟨_, _, _, _, _, _, _, h1, ⟨_, h4, by rw [List.length_take]; omega⟩, ⟨_, h5, by rw [List.length_drop]; omega⟩, h6, h3⟩
    · exact ⟨_, _, _, _, _, _, _, h1, ⟨[], PrO.nil _ _, by simp⟩, ⟨[], PrO.nil _ _, by simp⟩, (fun k h => by cases h), h3⟩
  have HW5 : Hid (WA.heap.size ≤ w5.heap.size) := HB5.out.size
  clear hom hml htk hb HB5 HP hlen hq1 hq2 hq3 hqd hqs HML hNN
  go_upto_region 11 with fail
  go_region_held3 (fun w' => w'.cell? ⟨w.heap.size, 1, none⟩ = some (.string key) ∧ w'.cell? ⟨w.heap.size, 2, none⟩ = some (.string value)) (go_keep)
      (first
        | (go_at_call 15; refine (D1.out _ (Below.refl _ _).drew).mono ?_; rintro e W1 ⟨u1a, u1m, u1k, rfl, ho, hb⟩; have HO := hide ho; have HB := hide (undrewC hb); have k1 : W1.cell? ⟨w.heap.size, 1, none⟩ = some (.string key) := (HX0.out.below (Below.next HB6.out HB.out)).2 1 (by simp); have k2 : W1.cell? ⟨w.heap.size, 2, none⟩ = some (.string value) := (HX0.out.below (Below.next HB6.out HB.out)).2 2 (by simp); clear ho hb))
  rename World => x1
  clear k1 k2
  obtain ⟨cS2, hoS2, hlS2⟩ := HO.out
  have OS2 := hide hoS2
  have Q1 := hide HB.out
  clear hoS2 HO HB
  have k1 : x1.cell? ⟨w.heap.size, 1, none⟩ = some (.string key) := (HX0.out.below (Below.next HB6.out Q1.out)).2 1 (by simp)
  go_upto_region 12 with fail
  go_region_held3 (fun w' => w'.cell? ⟨w.heap.size, 1, none⟩ = some (.string key)) (go_keep)
      (first
        | (go_at_call 18; refine (D2.out _ Q1.out.drew).mono ?_; rintro e W1 ⟨u2a, u2m, u2k, b2, rfl, ho, hb⟩; have HO := hide ho; have HB := hide (undrewC hb); have k1 : W1.cell? ⟨w.heap.size, 1, none⟩ = some (.string key) := (HX0.out.below (Below.next HB6.out (Below.next Q1.out HB.out))).2 1 (by simp); clear ho hb))
  rename World => x2
  clear k1
  obtain ⟨cD2, hoD2, hlD2⟩ := HO.out
  have OD2 := hide hoD2
  have R2 := hide HB.out
  have Q2 := hide (Below.next Q1.out HB.out)
  clear hoD2 HO HB
  go_wp2_with fail
  refine (D3.out _ Q2.out).mono ?_
  rintro e x3 ⟨va2a, va2m, va2k, vb2a, vb2m, vb2k, ev2, rfl, ⟨cA2, hoA2, hlA2⟩, ⟨cB2, hoB2, hlB2⟩, hap2, hb⟩
  have OA2 := hide hoA2
  have OB2 := hide hoB2
  have AP2 := hide hap2
  have R3 := hide hb
  have Q3 := hide (Below.next Q2.out hb)
  clear hoA2 hoB2 hap2 hb
  have k1 : x3.cell? ⟨w.heap.size, 1, none⟩ = some (.string key) := (HX0.out.below (Below.next HB6.out Q3.out)).2 1 (by simp)
  have k2 : x3.cell? ⟨w.heap.size, 2, none⟩ = some (.string value) := (HX0.out.below (Below.next HB6.out Q3.out)).2 2 (by simp)
  go_upto_region 14 with fail
  go_region_held3 (fun w' => w'.cell? ⟨w.heap.size, 1, none⟩ = some (.string key) ∧ w'.cell? ⟨w.heap.size, 2, none⟩ = some (.string value)) (go_keep)
      (first
        | (go_at_call 15; refine (D1.out _ Q3.out.drew).mono ?_; rintro e W1 ⟨u3a, u3m, u3k, rfl, ho, hb⟩; have HO := hide ho; have HB := hide (undrewC hb); have k1 : W1.cell? ⟨w.heap.size, 1, none⟩ = some (.string key) := (HX0.out.below (Below.next HB6.out (Below.next Q3.out HB.out))).2 1 (by simp); have k2 : W1.cell? ⟨w.heap.size, 2, none⟩ = some (.string value) := (HX0.out.below (Below.next HB6.out (Below.next Q3.out HB.out))).2 2 (by simp); clear ho hb))
  rename World => x4
  clear k1 k2
  obtain ⟨cS, hoS, hlS⟩ := HO.out
  have OS := hide hoS
  have R4 := hide HB.out
  have Q4 := hide (Below.next Q3.out HB.out)
  clear hoS HO HB
  have k1 : x4.cell? ⟨w.heap.size, 1, none⟩ = some (.string key) := (HX0.out.below (Below.next HB6.out Q4.out)).2 1 (by simp)
  go_upto_region 15 with fail
  go_region_held3 (fun w' => w'.cell? ⟨w.heap.size, 1, none⟩ = some (.string key)) (go_keep)
      (first
        | (go_at_call 18; refine (D2.out _ Q4.out.drew).mono ?_; rintro e W1 ⟨u4a, u4m, u4k, b4, rfl, ho, hb⟩; have HO := hide ho; have HB := hide (undrewC hb); have k1 : W1.cell? ⟨w.heap.size, 1, none⟩ = some (.string key) := (HX0.out.below (Below.next HB6.out (Below.next Q4.out HB.out))).2 1 (by simp); clear ho hb))
  rename World => x5
  clear k1
  obtain ⟨cD, hoD, hlD⟩ := HO.out
  have OD := hide hoD
  have R5 := hide HB.out
  have Q5 := hide (Below.next Q4.out HB.out)
  clear hoD HO HB
  go_wp2_with fail
  refine (D3.out _ Q5.out).mono ?_
  rintro e x6 ⟨vaa, vam, vak, vba, vbm, vbk, ev3, rfl, ⟨cA, hoA, hlA⟩, ⟨cB, hoB, hlB⟩, hap, hb⟩
  have OA := hide hoA
  have OB := hide hoB
  have AP := hide hap
  have R6 := hide hb
  have Q6 := hide (Below.next Q5.out hb)
  clear hoA hoB hap hb D1 D2 D3
  have HMM : Hid (PrO x6 w5.heap.size (.slice (some ⟨g, 0, none⟩) (n + 64) uc) (l ++ marks 64)) := by
    have := HOM.out.below Q6.out
    rw [HNN.out] at this
    exact this
  obtain ⟨rl, hrl⟩ : ∃ rl, rl = (risL 4072 l).length := ⟨_, rfl⟩
  rw [← hrl] at hrl2
  obtain ⟨_, _, hszr, _⟩ := risK_ok 4072 l l.length
  have hszr : szL (risL 4072 l) ≤ 4072 := hszr
  have hrb : rl ≤ 4072 := by omega
  have RI : Hid (∀ W, Below w6.heap.size w6 W → Calls Tryd.prog 17 #[.slice a n c, .int .i64 4072] W fun e w' => (∃ a' c', e = .returned (.slice a' rl c')) ∧ Below W.heap.size W w') := fun W h => (HRI.out W (Below.next HB6.out h)).mono fun e w' ⟨u, h1, h2, h3⟩ => by
    obtain ⟨a', c', hu⟩ := h2.form
    rw [← hrl] at hu
    exact ⟨⟨a', c', by rw [h1, hu]⟩, h3⟩
  have DD : Hid (∀ W, Below w6.heap.size w6 W → Calls Tryd.prog 6 #[.int .i64 (rl : Int), .string s] W fun e w' => ∃ u ev, e = .returned (.tuple #[u, ev]) ∧ (∃ c, PrO w' W.heap.size u c ∧ c.length ≤ 4398046511000) ∧ Below W.heap.size W w') := fun W h => (ldec_any A (rl : Int) s W (errC_all (HE0.out.keep (Below.next HB6.out h)))).mono fun e w' ⟨h1, h2⟩ => by
    rcases h1 with ⟨_, _, u, h3, h4⟩ | ⟨_, h3⟩
    · exact ⟨u, _, h3, ⟨_, h4, by rw [decL_len]; omega⟩, h2⟩
    · exact ⟨_, _, h3, ⟨[], PrO.nil _ _, by simp⟩, h2⟩
  have HG : Hid (w5.heap.size ≤ g ∧ g < w6.heap.size) := ⟨hg5, hg6⟩
  have k0 : x6.cell? ⟨w.heap.size, 0, none⟩ = some (.slice a n c) := (HX0.out.below (Below.next HB6.out Q6.out)).2 0 (by simp)
  have hevc := HEV.out
  have hxb : w.heap.size < WA.heap.size := HX0.out.1
  clear HRI hrl2 hszr hg5 hg6 HEV HOM hrl
  -- what the lists are, whatever c and d are
  have MK : Hid (∀ (y1 y2 : World) (vC vD : Value) (cC cD' : List Pr), Below x6.heap.size x6 y1 → Below y1.heap.size y1 y2 → PrO y1 x6.heap.size vC cC → PrO y2 y1.heap.size vD cD' →
      LS w5.heap.size g n uc [.slice (some ⟨g, 0, none⟩) n uc, .slice u3a u3m u3k, .slice u4a u4m u4k, .slice vaa vam vak, .slice vba vbm vbk, vC, vD, .slice u1a u1m u1k, .slice u2a u2m u2k, .slice va2a va2m va2k, .slice vb2a vb2m vb2k] [l, cS, cD, cA, cB, cC, cD', cS2, cD2, cA2, cB2] y2) := fun y1 y2 vC vD cC cD' hy1 hy2 hC hD => by
    have t6 := Below.next hy1 hy2
    have t5 := Below.next R6.out t6
    have t4 := Below.next R5.out t5
    have t3 := Below.next R4.out t4
    have t2 := Below.next R3.out t3
    have t1 := Below.next R2.out t2
    exact ls_new HN.out.symm (HMM.out.below t6) HG.out Q1.out.size R2.out.size R3.out.size R4.out.size R5.out.size R6.out.size hy1.size hy2.size
      (OS.out.below t4) OS.out.seg (OD.out.below t5) OD.out.seg (OA.out.below t6) OA.out.seg (OB.out.below t6) OB.out.seg AP.out
      (hC.below hy2) hC.seg hD hD.seg
      (OS2.out.below t1) OS2.out.seg (OD2.out.below t2) OD2.out.seg (OA2.out.below t3) OA2.out.seg (OB2.out.below t3) OB2.out.seg AP2.out
  have LN : Hid (cS.length ≤ 4398046511000 ∧ cD.length ≤ 4398046511000 ∧ cA.length ≤ 4398046511000 ∧ cB.length ≤ 4398046511000 ∧ cS2.length ≤ 4398046511000 ∧ cD2.length ≤ 4398046511000 ∧ cA2.length ≤ 4398046511000 ∧ cB2.length ≤ 4398046511000 ∧ l.length ≤ 4398046511000) := ⟨hlS, hlD, hlA, hlB, hlS2, hlD2, hlA2, hlB2, by omega⟩
  clear OS OD OA OB OS2 OD2 OA2 OB2 AP AP2 HMM hlS hlD hlA hlB hlS2 hlD2 hlA2 hlB2 HG R2 R3 R4 R5 R6 Q1 Q2 Q3 Q4 Q5
  obtain ⟨B, hB⟩ : ∃ B : Bool, Hid ((ev = .nilIface ∧ B = true) ∨ ∃ ke, ev = .iface 128 (.pointer (some (A ke))) ∧ B = false) := by
    rcases hevc with rfl | ⟨ke, rfl⟩
    · exact ⟨true, .inl ⟨rfl, rfl⟩⟩
    · exact ⟨false, .inr ⟨ke, rfl, rfl⟩⟩
  have HPF : Hid (∀ (v : Value) (c : List Pr) (W : World) (b : Nat), PrO W b v c → ∃ a k, v = .slice a c.length k) := fun v c W b h => h.form
  clear hevc
  go_upto_region 18 with fail
  go_cut [127] (fun x wx => x = .bool B ∧ x6 = wx)
  case first =>
    rcases hB.out with ⟨rfl, rfl⟩ | ⟨ke, rfl, rfl⟩
    · go_wp2_with fail
      go_meet
      exact ⟨rfl, rfl⟩
    · have hnn := fun W => eql_err_nil (some (A ke)) W
      go_wp2_with fail
      go_meet
      exact ⟨rfl, rfl⟩
  obtain ⟨rfl, hwc⟩ := hcut
  subst hwc
  go_upto_if 127 with fail
  go_cut [22, 23] (fun x y wx => ∃ (aC aD : Option Addr) (kC kD : Nat) (cC cDD : List Pr), x = .slice aC cC.length kC ∧ y = .slice aD cDD.length kD ∧ LS w5.heap.size g n uc [.slice (some ⟨g, 0, none⟩) n uc, .slice u3a u3m u3k, .slice u4a u4m u4k, .slice vaa vam vak, .slice vba vbm vbk, .slice aC cC.length kC, .slice aD cDD.length kD, .slice u1a u1m u1k, .slice u2a u2m u2k, .slice va2a va2m va2k, .slice vb2a vb2m vb2k] [l, cS, cD, cA, cB, cC, cDD, cS2, cD2, cA2, cB2] wx ∧ (cC.length ≤ 4398046511000 ∧ cDD.length ≤ 4398046511000) ∧ Below x6.heap.size x6 wx)
  case first =>
   as_aux_lemma =>
    clear hB
    cases B with
    | true =>
      go_wp2_with fail
      refine (RI.out _ Q6.out).mono ?_
      rintro e z1 ⟨⟨a1, d1, rfl⟩, hb⟩
      have Z1 := hide hb
      clear hb k0
      go_wp2_with fail
      refine (DD.out _ (Below.next Q6.out Z1.out)).mono ?_
      rintro e z2 ⟨vC, e2, rfl, ⟨cC, hoC, hlC⟩, hb⟩
      obtain ⟨aC, kC, hC⟩ := HPF.out _ _ _ _ hoC
      subst hC
      have OC := hide (hoC.mono Z1.out.size)
      have Z2 := hide (Below.next Z1.out hb)
      have k0 : z2.cell? ⟨w.heap.size, 0, none⟩ = some (.slice a n c) := (HX0.out.below (Below.next HB6.out (Below.next Q6.out Z2.out))).2 0 (by simp)
      clear hoC hb Z1
      go_wp2_with fail
      refine (RI.out _ (Below.next Q6.out Z2.out)).mono ?_
      rintro e z3 ⟨⟨a2, d2, rfl⟩, hb⟩
      have Z3 := hide hb
      clear hb k0
      go_wp2_with fail
      refine (DD.out _ (Below.next Q6.out (Below.next Z2.out Z3.out))).mono ?_
      rintro e z4 ⟨vD, e4, rfl, ⟨cDD, hoD, hlD'⟩, hb⟩
      obtain ⟨aD, kD, hD⟩ := HPF.out _ _ _ _ hoD
      subst hD
      have HLS := hide (MK.out z2 z4 _ _ cC cDD Z2.out (Below.next Z3.out hb) OC.out (hoD.mono Z3.out.size))
      have HBL := hide (Below.next Z2.out (Below.next Z3.out hb))
      have HLN : Hid (cC.length ≤ 4398046511000 ∧ cDD.length ≤ 4398046511000) := ⟨hlC, hlD'⟩
      clear hoD hb Z2 Z3 OC MK RI DD hlC hlD'
      go_wp2_with fail
      go_meet
      exact ⟨aC, aD, kC, kD, cC, cDD, rfl, rfl, HLS.out, HLN.out, HBL.out⟩
    | false =>
      have HLS := hide (MK.out x6 x6 (.slice none 0 0) (.slice none 0 0) [] [] (Below.refl _ _) (Below.refl _ _) (PrO.nil _ _) (PrO.nil _ _))
      clear MK RI DD k0
      go_wp2_with fail
      go_meet
      exact ⟨none, none, 0, 0, [], [], rfl, rfl, HLS.out, ⟨by simp, by simp⟩, Below.refl _ _⟩
  case rest =>
    obtain ⟨aC, aD, kC, kD, cC, cDD, hxe, hye, hls, hln, hbx⟩ := hcut
    subst hxe hye
    obtain ⟨W7, hW7⟩ : ∃ W, W = wc := ⟨_, rfl⟩
    subst hW7
    have HLS := hide hls
    have HLN2 := hide hln
    have HB7 := hide (Below.next HB6.out (Below.next Q6.out hbx))
    have HB56 : Hid (WA.heap.size ≤ w5.heap.size) := HW5.out
    clear hls hln hbx MK RI DD k0 HPF hB Q6
    have hbn := below_new W7 (.cells #[.slice (some ⟨g, 0, none⟩) n uc, .slice u3a u3m u3k, .slice u4a u4m u4k, .slice vaa vam vak, .slice vba vbm vbk, .slice aC cC.length kC, .slice aD cDD.length kD, .slice u1a u1m u1k, .slice u2a u2m u2k, .slice va2a va2m va2k, .slice vb2a vb2m vb2k] 24)
    have hbx := boxed_new W7 #[.slice (some ⟨g, 0, none⟩) n uc, .slice u3a u3m u3k, .slice u4a u4m u4k, .slice vaa vam vak, .slice vba vbm vbk, .slice aC cC.length kC, .slice aD cDD.length kD, .slice u1a u1m u1k, .slice u2a u2m u2k, .slice va2a va2m va2k, .slice vb2a vb2m vb2k] 24
    have hsz : (W7.alloc (.cells #[.slice (some ⟨g, 0, none⟩) n uc, .slice u3a u3m u3k, .slice u4a u4m u4k, .slice vaa vam vak, .slice vba vbm vbk, .slice aC cC.length kC, .slice aD cDD.length kD, .slice u1a u1m u1k, .slice u2a u2m u2k, .slice va2a va2m va2k, .slice vb2a vb2m vb2k] 24)).heap.size = W7.heap.size + 1 := by simp
    have FL := hide (HLS.out.below hbn)
    have FF : Hid (∀ (i k : Nat) (v : Value), ([.slice (some ⟨g, 0, none⟩) n uc, .slice u3a u3m u3k, .slice u4a u4m u4k, .slice vaa vam vak, .slice vba vbm vbk, .slice aC cC.length kC, .slice aD cDD.length kD, .slice u1a u1m u1k, .slice u2a u2m u2k, .slice va2a va2m va2k, .slice vb2a vb2m vb2k] : List Value)[i]? = some v → v.ownBlock = some k → k < W7.heap.size) := fun i k v h1 h2 => (HLS.out.lt h1 h2).2
    have FW := hide (Below.next HB7.out hbn)
    have FN : Hid (∀ c ∈ [l, cS, cD, cA, cB, cC, cDD, cS2, cD2, cA2, cB2], c.length ≤ 4398046511000) := by
      obtain ⟨h1, h2, h3, h4, h5, h6, h7, h8, h9⟩ := LN.out
      obtain ⟨h10, h11⟩ := HLN2.out
      intro c hc
      simp only [List.mem_cons, List.not_mem_nil, or_false] at hc
      rcases hc with rfl | rfl | rfl | rfl | rfl | rfl | rfl | rfl | rfl | rfl | rfl <;> assumption
    have FB := hide hbx
    have FS := hide hsz
    clear hbn hbx hsz HLS HB7 LN HLN2
    go_upto_region 22 with fail
    generalize W7.alloc (.cells #[.slice (some ⟨g, 0, none⟩) n uc, .slice u3a u3m u3k, .slice u4a u4m u4k, .slice vaa vam vak, .slice vba vbm vbk, .slice aC cC.length kC, .slice aD cDD.length kD, .slice u1a u1m u1k, .slice u2a u2m u2k, .slice va2a va2m va2k, .slice vb2a vb2m vb2k] 24) = WL at *
    generalize W7.heap.size = L at *
    obtain ⟨vs, hvs⟩ : ∃ vs : List Value, vs = [.slice (some ⟨g, 0, none⟩) n uc, .slice u3a u3m u3k, .slice u4a u4m u4k, .slice vaa vam vak, .slice vba vbm vbk, .slice aC cC.length kC, .slice aD cDD.length kD, .slice u1a u1m u1k, .slice u2a u2m u2k, .slice va2a va2m va2k, .slice vb2a vb2m vb2k] := ⟨_, rfl⟩
    obtain ⟨cs, hcs⟩ : ∃ cs : List (List Pr), cs = [l, cS, cD, cA, cB, cC, cDD, cS2, cD2, cA2, cB2] := ⟨_, rfl⟩
    rw [← hcs] at FN FL
    rw [← hvs] at FL FF
    have FB2 : Hid (Boxed L vs WL) := by rw [hvs]; exact FB.out
    clear FB hcs hvs
    obtain ⟨B0, hB0⟩ : ∃ B, B = WL.heap.size := ⟨_, rfl⟩
    have HB0L : Hid (L < B0) := by have := FS.out; show L < B0; omega
    have HB0W : Hid (B0 ≤ WL.heap.size) := by show B0 ≤ _; omega
    have HW5B : Hid (w5.heap.size ≤ B0) := by
      have h1 := FL.out.lt FL.out.v0 rfl
      show w5.heap.size ≤ B0
      omega
    clear hB0 FS
    have OW : Hid (∀ (k : Nat) W, k < 14 → Calls Tryd.prog 20 #[.int .i64 (k : Int)] W fun e w' => e = .returned (.agg #[.string (ownN k).1, .string (ownN k).2]) ∧ Below W.heap.size W w') := fun k W h => own_any k W h
    go_wp2_with fail
    go_loopw [25] (fun i wr => ∃ (q : Nat) (cs : List (List Pr)), q ≤ 11 ∧ i = .int .i64 q ∧ LS w5.heap.size g n uc vs cs wr ∧ Done cs q 0 ∧ (∀ c ∈ cs, c.length ≤ 4398046511000) ∧ Boxed L vs wr ∧ Below WA.heap.size WA wr ∧ B0 ≤ wr.heap.size) (fun i _ => 11 - (intOf i).toNat)
    case atStart => exact ⟨0, cs, Nat.zero_le _, rfl, FL.out, done_zero _, FN.out, FB2.out, FW.out, HB0W.out⟩
    case round =>
     as_aux_lemma =>
      obtain ⟨q, cs, hq, rfl, hLS, hDn, hln, hBx, hBl, hB0⟩ := hrel
      clear FL FN FB2 FW
      by_cases hlt : q < 11
      · obtain ⟨av, cv, c0, hv, hc⟩ := hLS.form hlt
        have hqv : q < vs.length := by rw [hLS.vl]; exact hlt
        have kq : wr.cell? ⟨L, q, none⟩ = some (.slice av c0.length cv) := by
          have h1 := hBx.2 q hqv
          have h2 := List.getElem?_eq_getElem hqv
          rw [hv] at h2
          rw [h1, ← h2]
        obtain ⟨m, hm⟩ : ∃ m, m = c0.length := ⟨_, rfl⟩
        have hmb : m ≤ 4398046511000 := by rw [hm]; exact hln _ (List.mem_of_getElem? hc)
        rw [← hm] at kq hv
        have hltI : (q : Int) < 11 := by omega
        have j0 : (0 : Int) ≤ (q : Int) := by omega
        have FR : Hid (LS w5.heap.size g n uc vs cs wr ∧ Done cs q 0 ∧ (∀ c ∈ cs, c.length ≤ 4398046511000) ∧ Boxed L vs wr ∧ Below WA.heap.size WA wr ∧ B0 ≤ wr.heap.size) := ⟨hLS, hDn, hln, hBx, hBl, hB0⟩
        have FV := hide hv
        have FC : Hid (∃ c, cs[q]? = some c ∧ c.length = m) := ⟨c0, hc, hm.symm⟩
        clear hLS hDn hln hBx hBl hB0 hv hc hm hqv
        go_wp2_with fail
        go_loopw [26] (fun x wr => ∃ (k : Nat) (cs : List (List Pr)), k ≤ m ∧ x = .int .i64 k ∧ LS w5.heap.size g n uc vs cs wr ∧ Done cs q k ∧ (∀ c ∈ cs, c.length ≤ 4398046511000) ∧ Boxed L vs wr ∧ Below WA.heap.size WA wr ∧ B0 ≤ wr.heap.size ∧ (∃ c, cs[q]? = some c ∧ c.length = m)) (fun x _ => m - (intOf x).toNat)
        case atStart => exact ⟨0, cs, Nat.zero_le _, rfl, FR.out.1, FR.out.2.1, FR.out.2.2.1, FR.out.2.2.2.1, FR.out.2.2.2.2.1, FR.out.2.2.2.2.2, FC.out⟩
        case round =>
         as_aux_lemma =>
          clear FR FC kq
          obtain ⟨k, cs, hkm, rfl, hLS, hDn, hln, hBx, hBl, hB0, c0, hc, hm⟩ := hrel
          have hv := FV.out
          have kq : wr.cell? ⟨L, q, none⟩ = some (.slice av m cv) := by
            have hqv : q < vs.length := (List.getElem?_eq_some_iff.1 hv).1
            have h1 := hBx.2 q hqv
            have h2 := List.getElem?_eq_getElem hqv
            rw [hv] at h2
            rw [h1, ← h2]
          by_cases hk : k < m
          · obtain ⟨b, cap, he, hb1, hb2, _, _, _, _⟩ := hLS.spot hv hc (show k < c0.length by omega)
            simp only [Value.slice.injEq] at he
            obtain ⟨rfl, -, rfl⟩ := he
            have hne : ¬ b = L := fun e => by
              have := FF.out q b _ hv rfl
              omega
            have hne2 : ¬ L = b := fun e => hne e.symm
            have FST : Hid (∀ W1, Below wr.heap.size wr W1 → LS w5.heap.size g n uc vs (cs.set q (c0.set k (ownN q))) ((W1.setCell ⟨b, k * 2, none⟩ (.string (ownN q).1)).setCell ⟨b, k * 2 + 1, none⟩ (.string (ownN q).2)) ∧ Boxed L vs ((W1.setCell ⟨b, k * 2, none⟩ (.string (ownN q).1)).setCell ⟨b, k * 2 + 1, none⟩ (.string (ownN q).2)) ∧ Below WA.heap.size WA ((W1.setCell ⟨b, k * 2, none⟩ (.string (ownN q).1)).setCell ⟨b, k * 2 + 1, none⟩ (.string (ownN q).2)) ∧ B0 ≤ ((W1.setCell ⟨b, k * 2, none⟩ (.string (ownN q).1)).setCell ⟨b, k * 2 + 1, none⟩ (.string (ownN q).2)).heap.size) := fun W1 h => by
              have hsz := h.size
              exact ⟨(hLS.below h).fill hv hc (by omega) (ownN q), (((hBx.below h).put hne2 _).put hne2 _), ((Below.next hBl h).setCell (Nat.le_trans HB56.out hb1) _).setCell (Nat.le_trans HB56.out hb1) _, by have h9 : B0 ≤ W1.heap.size := Nat.le_trans hB0 h.size; simpa using h9⟩
            have FSP : Hid (∀ W1, Below wr.heap.size wr W1 → (∃ u, W1.cell? ⟨b, k * 2, none⟩ = some u) ∧ (∃ u, W1.cell? ⟨b, k * 2 + 1, none⟩ = some u) ∧ W1.frozen? ⟨b, k * 2, none⟩ = false ∧ W1.frozen? ⟨b, k * 2 + 1, none⟩ = false ∧ W1.cell? ⟨L, q, none⟩ = some (.slice (some ⟨b, 0, none⟩) m cv)) := fun W1 h => by
              obtain ⟨b2, cap2, he2, _, _, s1, s2, s3, s4⟩ := (hLS.below h).spot hv hc (show k < c0.length by omega)
              simp only [Value.slice.injEq, Option.some.injEq, Addr.mk.injEq, and_true] at he2
              obtain ⟨rfl, -, -⟩ := he2
              exact ⟨s1, s2, s3, s4, (h.cell (p := ⟨L, q, none⟩) hBx.1).trans kq⟩
            have FD2 : Hid (Done (cs.set q (c0.set k (ownN q))) q (k + 1) ∧ (∀ c ∈ cs.set q (c0.set k (ownN q)), c.length ≤ 4398046511000) ∧ ∃ c, (cs.set q (c0.set k (ownN q)))[q]? = some c ∧ c.length = m) := ⟨hDn.step hc, lens_set hln hc, _, List.getElem?_set_self (List.getElem?_eq_some_iff.1 hc).1, by rw [List.length_set]; exact hm⟩
            have hkI : (k : Int) < (m : Int) := by omega
            have k0 : (0 : Int) ≤ (k : Int) := by omega
            clear hLS hDn hln hBx hBl hB0 hc hm hv hb1 hb2
            go_wp2_with fail
            go_region_held3 (fun w' => w'.cell? ⟨L, q, none⟩ = some (.slice (some ⟨b, 0, none⟩) m cv)) (go_keep)
              (first | (go_at_call 20; refine (OW.out q _ (by omega)).mono ?_; rintro e W1 ⟨rfl, hb⟩; have HB := hide (undrewC hb); obtain ⟨⟨o1, z1⟩, ⟨o2, z2⟩, z3, z4, z5⟩ := FSP.out W1 HB.out; have FT := hide (FST.out W1 HB.out); clear hb))
            all_goals (
              go_wp2
              go_roundw
              case rel => exact ⟨k + 1, _, by omega, by go_num, FT.out.1, FD2.out.1, FD2.out.2.1, FT.out.2.1, FT.out.2.2.1, FT.out.2.2.2, FD2.out.2.2⟩
              case measure => simp [intOf]; omega)
          · have hke : k = m := by omega
            have hkI : ¬ (k : Int) < (m : Int) := by omega
            have FR : Hid (LS w5.heap.size g n uc vs cs wr ∧ Done cs (q + 1) 0 ∧ (∀ c ∈ cs, c.length ≤ 4398046511000) ∧ Boxed L vs wr ∧ Below WA.heap.size WA wr ∧ B0 ≤ wr.heap.size) := ⟨hLS, hDn.next hc (by omega), hln, hBx, hBl, hB0⟩
            clear hLS hDn hln hBx hBl hB0 hc hm hv hke
            go_wp2
            go_roundw
            case rel => exact ⟨q + 1, cs, by omega, by go_num, FR.out.1, FR.out.2.1, FR.out.2.2.1, FR.out.2.2.2.1, FR.out.2.2.2.2.1, FR.out.2.2.2.2.2⟩
            case measure => simp [intOf]; omega
      · have hq11 : q = 11 := by omega
        subst hq11
        have hltI : ¬ ((11 : Nat) : Int) < 11 := by omega
        obtain ⟨C, hC⟩ : ∃ C, C = cs := ⟨_, rfl⟩
        subst hC
        obtain ⟨ln, hlnf⟩ : ∃ ln : Nat → Nat, ln = fun j => (C.getD j []).length := ⟨_, rfl⟩
        have HDN := hide hDn
        have HLC := hide hln
        have HLNF : Hid (∀ i c, C[i]? = some c → ln i = c.length) := fun i c h => by rw [hlnf]; simp [List.getD_eq_getElem?_getD, h]
        have FR : Hid (LS w5.heap.size g n uc vs C wr ∧ Boxed L vs wr ∧ Below WA.heap.size WA wr ∧ B0 ≤ wr.heap.size) := ⟨hLS, hBx, hBl, hB0⟩
        clear hLS hDn hln hBx hBl hB0 hlnf
        have FR2 : Hid (∀ i, i < 11 → ln i ≤ 4398046511000) := fun i hi => by
          obtain ⟨_, _, c, _, hc⟩ := FR.out.1.form hi
          rw [HLNF.out i c hc]; exact HLC.out _ (List.mem_of_getElem? hc)
        go_wp2_with fail
        go_loopw [27, 28] (fun x y wr => ∃ (i k lc : Nat) (la : Option Addr) (us : List Value), Hid (i = k + 1) ∧ i ≤ 11 ∧ x = .slice la k lc ∧ y = .int .i64 (i : Int) ∧ LongP w5.heap.size vs ln B0 wr (.slice la k lc) us k ∧ LS w5.heap.size g n uc vs C wr ∧ Boxed L vs wr ∧ Below WA.heap.size WA wr ∧ B0 ≤ wr.heap.size) (fun _ y _ => 11 - (intOf y).toNat)
        case atStart => exact ⟨1, 0, 0, none, [], rfl, by decide, rfl, rfl, LongP.nil _ _ _ _ _, FR.out.1, FR.out.2.1, FR.out.2.2.1, FR.out.2.2.2⟩
        case round =>
         as_aux_lemma =>
          clear FR
          obtain ⟨i, k, lc, la, us, hik, hi11, rfl, rfl, hLP, hLS, hBx, hBl, hB0⟩ := hrel
          by_cases hlt : i < 11
          · obtain ⟨av, cv, c0, hv, hc⟩ := hLS.form hlt
            have hqv : i < vs.length := by rw [hLS.vl]; exact hlt
            have kq : wr.cell? ⟨L, i, none⟩ = some (.slice av c0.length cv) := by
              have h1 := hBx.2 i hqv
              have h2 := List.getElem?_eq_getElem hqv
              rw [hv] at h2
              rw [h1, ← h2]
            obtain ⟨m, hm⟩ : ∃ m, m = c0.length := ⟨_, rfl⟩
            have hmb : m ≤ 4398046511000 := by rw [hm]; exact HLC.out _ (List.mem_of_getElem? hc)
            rw [← hm] at kq hv
            have hltI : (i : Int) < 11 := by omega
            have j0 : (0 : Int) ≤ (i : Int) := by omega
            have hi1 : 1 ≤ i := by have := hik.out; omega
            obtain ⟨Wi, hWi⟩ : ∃ W, W = wr := ⟨_, rfl⟩
            subst hWi
            have HG0 := hide (GrowP.init hLS hi1 hv hc)
            have FV := hide hv
            have FC := hide hc
            have FM : Hid (c0.length = m) := hm.symm
            have FST : Hid (∀ (wq : World) (a : Option Addr) (c : Nat), GrowP w5.heap.size g n uc vs C Wi wq i m 64 (.slice av m cv) a c c0 → ∃ a' c' w' us', (Builtin.append_ #[51, 51] 51 #[.slice la k lc, .slice (some ⟨wq.heap.size, 0, none⟩) 1 1]).run Tryd.prog (wq.alloc (.cells #[.slice a (m + 64) c] 24)) = .ok (.slice a' i c') w' ∧ LongP w5.heap.size vs ln B0 w' (.slice a' i c') us' i ∧ LS w5.heap.size g n uc vs C w' ∧ Boxed L vs w' ∧ Below WA.heap.size WA w' ∧ B0 ≤ w'.heap.size) := fun wq a c hg =>
              long_step hik.out (by have := hik.out; omega) hLP hg hv (by rw [HLNF.out i c0 hc, hm]) (by rw [hm]; exact done_all HDN.out hlt hc) hBx hBl hB0 HB0L.out FF.out HB56.out (Nat.le_trans HB56.out HW5B.out)
            clear hLS hBx hBl hB0 hLP hv hc hm hqv
            go_wp2_with fail
            go_loopw [29, 30] (fun x y wq => ∃ (q c : Nat) (a : Option Addr), q ≤ 64 ∧ x = .slice a (m + q) c ∧ y = .int .i64 (q : Int) ∧ GrowP w5.heap.size g n uc vs C Wi wq i m q (.slice av m cv) a c c0) (fun _ y _ => 64 - (intOf y).toNat)
            case atStart => exact ⟨0, cv, av, by omega, rfl, rfl, HG0.out⟩
            case round =>
             as_aux_lemma =>
              obtain ⟨q, c, a, hq, rfl, rfl, hgr⟩ := hrel
              clear HG0 kq
              by_cases hq6 : q < 64
              · have hqI : (q : Int) < 64 := by omega
                have HG := hide hgr
                clear hgr
                go_wp2_with fail
                refine (OW.out i _ (by omega)).mono ?_
                rintro e w1 ⟨rfl, hb⟩
                obtain ⟨a2, c2, w2, hrun, hgr2⟩ := (HG.out.below hb).step 45 hi1 FV.out FC.out FM.out (by omega) (HG.out.below hb).room
                have HG2 := hide hgr2
                clear hb hgr2 HG
                go_wp2_with (first | (at_builtin; refine wpList_append_run 24 rfl (.tmp 197) (.tmp 200) rfl rfl _ _ rfl rfl _ _ hrun ?_))
                clear hrun
                go_wp2
                go_roundw
                case rel => exact ⟨q + 1, c2, a2, by omega, by rw [← Nat.add_assoc], by go_num, HG2.out⟩
                case measure => simp [intOf]; omega
              · have hq64 : q = 64 := by omega
                subst hq64
                have hqI : ¬ ((64 : Nat) : Int) < 64 := by omega
                obtain ⟨a2, c2, w2, us2, hrun, h1, h2, h3, h4, h5⟩ := FST.out wr a c hgr
                have HR : Hid (LongP w5.heap.size vs ln B0 w2 (.slice a2 i c2) us2 i ∧ LS w5.heap.size g n uc vs C w2 ∧ Boxed L vs w2 ∧ Below WA.heap.size WA w2 ∧ B0 ≤ w2.heap.size) := ⟨h1, h2, h3, h4, h5⟩
                clear h1 h2 h3 h4 h5 hgr FST
                go_wp2_with (first | (at_builtin; refine wpList_append_run 51 rfl (.tmp 202) (.tmp 204) rfl rfl _ _ rfl rfl _ _ hrun ?_))
                clear hrun
                go_wp2
                go_roundw
                case rel => exact ⟨i + 1, i, c2, a2, us2, rfl, by omega, rfl, by go_num, HR.out.1, HR.out.2.1, HR.out.2.2.1, HR.out.2.2.2.1, HR.out.2.2.2.2⟩
                case measure => simp [intOf]; omega
          · have hi : i = 11 := by omega
            have hk : k = 10 := by have := hik.out; omega
            subst hi hk
            have hltI : ¬ ((11 : Nat) : Int) < 11 := by omega
            obtain ⟨Wg, hWg⟩ : ∃ W, W = wr := ⟨_, rfl⟩
            subst hWg
            obtain ⟨gl, hla, hlr⟩ := long_read hLP FR2.out
            subst hla
            have CK1 : Hid (∀ i, i < 11 → ∃ (a : Option Addr) (m cap : Nat), m ≤ 4398046511000 ∧ (∀ W, Below Wg.heap.size Wg W → W.cell? ⟨L, i, none⟩ = some (.slice a m cap)) ∧ ∀ k, k < m → ∃ b, a = some ⟨b, 0, none⟩ ∧ ∀ W, Below Wg.heap.size Wg W → W.cell? ⟨b, k * 2, none⟩ = some (.string (ownN i).1) ∧ W.cell? ⟨b, k * 2 + 1, none⟩ = some (.string (ownN i).2)) := fun i hi => lists_read hLS hBx HDN.out HLC.out i hi
            have CK2 := hide hlr
            have CK3 : Hid (∀ k, n ≤ k → k < N → ∀ W, Below Wg.heap.size Wg W → W.cell? ⟨g, k * 2, none⟩ = some (.string (markN (k - n)).1) ∧ W.cell? ⟨g, k * 2 + 1, none⟩ = some (.string (markN (k - n)).2)) := fun k h1 h2 W hb => marks_read hLS HNN.out k h1 h2 W hb
            have HOUT := hide (Below.next HB0.out hBl)
            clear hlr hLP hLS hBx hBl hB0 hik FF HDN HLC HLNF FR2 HB0L HB56 hi11 hlt
            go_wp2_with fail
            go_loopw [31] (fun x wq => ∃ i : Nat, i ≤ 11 ∧ x = .int .i64 (i : Int) ∧ Below Wg.heap.size Wg wq) (fun x _ => 11 - (intOf x).toNat)
            case atStart => exact ⟨0, Nat.zero_le _, rfl, Below.refl _ _⟩
            case round =>
             as_aux_lemma =>
              obtain ⟨i, hi, rfl, hbq⟩ := hrel
              by_cases hlt : i < 11
              · obtain ⟨a, m, cap, hmb, h1, h2⟩ := CK1.out i hlt
                have kq := h1 wr hbq
                have H1 := hide h1
                have H2 := hide h2
                have HBQ := hide hbq
                have hltI : (i : Int) < 11 := by omega
                have j0 : (0 : Int) ≤ (i : Int) := by omega
                clear h1 h2 hbq
                go_wp2_with fail
                go_loopw [32] (fun x wq => ∃ k : Nat, k ≤ m ∧ x = .int .i64 (k : Int) ∧ Below Wg.heap.size Wg wq) (fun x _ => m - (intOf x).toNat)
                case atStart => exact ⟨0, Nat.zero_le _, rfl, HBQ.out⟩
                case round =>
                 as_aux_lemma =>
                  clear kq HBQ
                  obtain ⟨k, hkm, rfl, hbq⟩ := hrel
                  have kq := H1.out wr hbq
                  by_cases hk : k < m
                  · obtain ⟨b, hab, h3⟩ := H2.out k hk
                    subst hab
                    obtain ⟨c1, c2⟩ := h3 wr hbq
                    have H3 := hide h3
                    have HBQ := hide hbq
                    have hkI : (k : Int) < (m : Int) := by omega
                    have k0 : (0 : Int) ≤ (k : Int) := by omega
                    have hne := fun W => pr_nself W (ownN (i)).1 (ownN (i)).2
                    clear h3 hbq
                    go_wp2_with fail
                    go_region_held3 (fun w' => w'.cell? ⟨L, i, none⟩ = some (.slice (some ⟨b, 0, none⟩) m cap) ∧ w'.cell? ⟨b, k * 2, none⟩ = some (.string (ownN (i)).1) ∧ w'.cell? ⟨b, k * 2 + 1, none⟩ = some (.string (ownN (i)).2)) (go_keep)
                      (first | (go_at_call 20; refine (OW.out (i) _ (by omega)).mono ?_; rintro e W1 ⟨rfl, hb⟩; have HB := hide (Below.next HBQ.out (undrewC hb)); have m0 := H1.out W1 HB.out; obtain ⟨m1, m2⟩ := H3.out W1 HB.out; clear hb))
                    all_goals (
                      go_wp2
                      go_roundw
                      case rel => exact ⟨k + 1, by omega, by go_num, HB.out⟩
                      case measure => simp [intOf]; omega)
                  · have hkI : ¬ (k : Int) < (m : Int) := by omega
                    have HBQ := hide hbq
                    clear hbq
                    go_wp2
                    go_roundw
                    case rel => exact ⟨i + 1, by omega, by go_num, HBQ.out⟩
                    case measure => simp [intOf]; omega
              · have hie : i = 11 := by omega
                subst hie
                have hltI : ¬ ((11 : Nat) : Int) < 11 := by omega
                have HBQ := hide hbq
                clear hbq
                go_wp2_with fail
                go_loopw [33] (fun x wq => ∃ i : Nat, i ≤ 10 ∧ x = .int .i64 (i : Int) ∧ Below Wg.heap.size Wg wq) (fun x _ => 10 - (intOf x).toNat)
                case atStart => exact ⟨0, Nat.zero_le _, rfl, HBQ.out⟩
                case round =>
                 as_aux_lemma =>
                  obtain ⟨i, hi, rfl, hbq⟩ := hrel
                  by_cases hlt : i < 10
                  · obtain ⟨a, m, cap, hmb, h1, h2⟩ := CK2.out i hlt
                    have kq := h1 wr hbq
                    have H1 := hide h1
                    have H2 := hide h2
                    have HBQ := hide hbq
                    have hltI : (i : Int) < 10 := by omega
                    have j0 : (0 : Int) ≤ (i : Int) := by omega
                    clear h1 h2 hbq
                    go_wp2_with fail
                    go_loopw [34] (fun x wq => ∃ k : Nat, k ≤ m ∧ x = .int .i64 (k : Int) ∧ Below Wg.heap.size Wg wq) (fun x _ => m - (intOf x).toNat)
                    case atStart => exact ⟨0, Nat.zero_le _, rfl, HBQ.out⟩
                    case round =>
                     as_aux_lemma =>
                      clear kq HBQ
                      obtain ⟨k, hkm, rfl, hbq⟩ := hrel
                      have kq := H1.out wr hbq
                      by_cases hk : k < m
                      · obtain ⟨b, hab, h3⟩ := H2.out k hk
                        subst hab
                        obtain ⟨c1, c2⟩ := h3 wr hbq
                        have H3 := hide h3
                        have HBQ := hide hbq
                        have hkI : (k : Int) < (m : Int) := by omega
                        have k0 : (0 : Int) ≤ (k : Int) := by omega
                        have hne := fun W => pr_nself W (ownN (i + 1)).1 (ownN (i + 1)).2
                        have hwi : IntKind.i64.wrap ((i : Int) + 1) = ((i + 1 : Nat) : Int) := by rw [IntKind.wrap_i64]; omega
                        clear h3 hbq
                        go_wp2_with fail
                        go_region_held3 (fun w' => w'.cell? ⟨gl, i, none⟩ = some (.slice (some ⟨b, 0, none⟩) m cap) ∧ w'.cell? ⟨b, k * 2, none⟩ = some (.string (ownN (i + 1)).1) ∧ w'.cell? ⟨b, k * 2 + 1, none⟩ = some (.string (ownN (i + 1)).2)) (go_keep)
                          (first | (go_at_call 20; refine (OW.out (i + 1) _ (by omega)).mono ?_; rintro e W1 ⟨rfl, hb⟩; have HB := hide (Below.next HBQ.out (undrewC hb)); have m0 := H1.out W1 HB.out; obtain ⟨m1, m2⟩ := H3.out W1 HB.out; clear hb))
                        all_goals (
                          go_wp2
                          go_roundw
                          case rel => exact ⟨k + 1, by omega, by go_num, HB.out⟩
                          case measure => simp [intOf]; omega)
                      · have hkI : ¬ (k : Int) < (m : Int) := by omega
                        have HBQ := hide hbq
                        clear hbq
                        go_wp2
                        go_roundw
                        case rel => exact ⟨i + 1, by omega, by go_num, HBQ.out⟩
                        case measure => simp [intOf]; omega
                  · have hie : i = 10 := by omega
                    subst hie
                    have hltI : ¬ ((10 : Nat) : Int) < 10 := by omega
                    have HBQ := hide hbq
                    clear hbq
                    have hnN := HNN.out
                    have HNb : Hid (n ≤ N ∧ N ≤ 4398046511100) := ⟨by omega, by omega⟩
                    clear hnN
                    go_wp2_with fail
                    go_loopw [35] (fun x wq => ∃ k : Nat, (n ≤ k ∧ k ≤ N) ∧ x = .int .i64 (k : Int) ∧ Below Wg.heap.size Wg wq) (fun x _ => N - (intOf x).toNat)
                    case atStart => exact ⟨n, ⟨Nat.le_refl _, HNb.out.1⟩, rfl, HBQ.out⟩
                    case round =>
                     as_aux_lemma =>
                      clear HBQ
                      obtain ⟨k, hkn, rfl, hbq⟩ := hrel
                      by_cases hk : k < N
                      · obtain ⟨c1, c2⟩ := CK3.out k hkn.1 hk wr hbq
                        have HBQ := hide hbq
                        have HKK : Hid (n ≤ k ∧ k < N) := ⟨hkn.1, hk⟩
                        have hkb2 : k ≤ 4398046511100 := by have := HNb.out; omega
                        have hkI : (k : Int) < (N : Int) := by omega
                        have k0 : (0 : Int) ≤ (k : Int) := by omega
                        have hne := fun W => pr_nself W (markN (k - n)).1 (markN (k - n)).2
                        have hwk : IntKind.i64.wrap ((k : Int) - (n : Int)) = ((k - n : Nat) : Int) := by have := HNb.out; rw [IntKind.wrap_i64]; omega
                        have hkb : k - n ≤ 1152921504606846976 := by have := HNb.out; omega
                        have MKC : Hid (∀ W, Calls Tryd.prog 21 #[.int .i64 ((k - n : Nat) : Int)] W fun e w' => e = .returned (.agg #[.string (markN (k - n)).1, .string (markN (k - n)).2]) ∧ Below W.heap.size W w') := fun W => mark_any (k - n) W hkb
                        obtain ⟨kd, hkd⟩ : ∃ d, d = k - n := ⟨_, rfl⟩
                        rw [← hkd] at c1 c2 hne hwk MKC
                        have HC3 : Hid (∀ W, Below Wg.heap.size Wg W → W.cell? ⟨g, k * 2, none⟩ = some (.string (markN kd).1) ∧ W.cell? ⟨g, k * 2 + 1, none⟩ = some (.string (markN kd).2)) := fun W h => by rw [hkd]; exact CK3.out k hkn.1 hk W h
                        clear hbq hkd hkb
                        go_wp2_with fail
                        go_region_held3 (fun w' => w'.cell? ⟨g, k * 2, none⟩ = some (.string (markN kd).1) ∧ w'.cell? ⟨g, k * 2 + 1, none⟩ = some (.string (markN kd).2)) (go_keep)
                          (first | (go_at_call 21; refine (MKC.out _).mono ?_; rintro e W1 ⟨rfl, hb⟩; have HB := hide (Below.next HBQ.out (undrewC hb)); obtain ⟨m1, m2⟩ := HC3.out W1 HB.out; clear hb))
                        all_goals (
                          go_wp2
                          go_roundw
                          case rel => exact ⟨k + 1, ⟨by have := HKK.out; omega, by have := HKK.out; omega⟩, by go_num, HB.out⟩
                          case measure => have := HKK.out; simp [intOf]; omega)
                      · have hkI : ¬ (k : Int) < (N : Int) := by omega
                        have HBQ := hide hbq
                        clear hbq
                        go_wp2
                        go_ret
                        exact ⟨rfl, Below.next HOUT.out HBQ.out⟩

end Go.Proofs.YtdacbajiapdiiabDoor
