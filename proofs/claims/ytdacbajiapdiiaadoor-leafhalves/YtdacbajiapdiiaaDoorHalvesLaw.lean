import Derived.Test.YtdacbajiapdiiaaDoorLBegun
import Derived.Test.YtdacbajiapdiiaaDoorLRise
import Derived.Test.YtdacbajiapdiiaaDoorLCut
import Derived.Test.YtdacbajiapdiiaaDoorLSame
namespace Go.Proofs.YtdacbajiapdiiaaDoor
open Go.RowKit

theorem pre_szs (l : List Pr) (i : Nat) : pre (szs l) i = (szL (l.take i) : Int) := by
  unfold pre szs szL
  rw [← List.map_take]
  induction l.take i with
  | nil => rfl
  | cons p r ih => simp only [List.map_cons, List.sum_cons, ih]; omega
theorem halves_math {l : List Pr} {i c : Nat} (hmay : ∀ p ∈ l, mayP p = true) (hrise : Rise l) (h1 : 4072 < szL l) (h2 : szL l ≤ 5627) (hc : CutN 2 (gapC (szs l)) (szs l) i c) :
    c = 0 ∧ chk (l.take i) false = none ∧ chk (l.drop i) false = none := by
  have hall : l.all mayP = true := List.all_eq_true.2 hmay
  have hlen := may_size hall
  have hfine : FineL (szs l) := fun j hj => by
    rw [szs_get]
    rw [szs_len] at hj
    have := may_parts' (hmay l[j] (List.getElem_mem _))
    unfold szP; omega
  have hcap : ∀ k (h : k < (szs l).length), (szs l)[k] ≤ 960 := fun j hj => by
    rw [szs_get]
    rw [szs_len] at hj
    have := may_parts' (hmay l[j] (List.getElem_mem _))
    unfold szP; omega
  have hl2 : 2 ≤ (szs l).length := by rw [szs_len]; omega
  rcases hc with ⟨h, _, _⟩ | ⟨_, h, _⟩ | ⟨_, _, hb, hc0⟩
  · omega
  · exact absurd hfine h
  · have hev := cut_even hfine hl2 hcap hb
    have hib := hb.1
    rw [szs_len] at hib
    unfold gapC at hev
    rw [szs_len, pre_szs, pre_szs, List.take_length] at hev
    have hsum : szL l = szL (l.take i) + szL (l.drop i) := by rw [← szL_append, List.take_append_drop]
    refine ⟨hc0, chk_of (fun p hp => hmay p (List.mem_of_mem_take hp)) (hrise.take i) (by omega) (fun h => ?_) (fun _ => by omega), chk_of (fun p hp => hmay p (List.mem_of_mem_drop hp)) (hrise.drop i) (by omega) (fun h => ?_) (fun _ => by omega)⟩
    · have := congrArg List.length h
      rw [List.length_take, List.length_nil] at this; rw [szs_len] at hl2; omega
    · have := congrArg List.length h
      rw [List.length_drop, List.length_nil] at this; rw [szs_len] at hl2; omega
theorem ok_of_may {l : List Pr} (hmay : ∀ p ∈ l, mayP p = true) : OkL l := fun p hp => by
  have := may_parts' (hmay p hp); omega

set_option maxRecDepth 20000 in
set_option maxHeartbeats 4000000 in
theorem halves_any (A : Nat → Addr) (l0 : List Pr) (a : Option Addr) (c : Nat) (key value : ByteArray) (root : Bool) (w : World) (hl : l0.length ≤ 4398046510976) (_hok : OkL l0) (hr : PrR w (.slice a l0.length c) l0) (hE : ErrC A w) :
    Calls Tryd.prog 7 #[.agg #[.slice a l0.length c, .string key, .string value, .bool root]] w fun e w' => e = .returned (.bool true) ∧ Below w.heap.size w w' := by
  have hb0 := below_new w (.cells #[.slice a l0.length c, .string key, .string value, .bool root] 24)
  have hx0 := boxed_new w #[.slice a l0.length c, .string key, .string value, .bool root] 24
  have HBG := hide (begun_any A _ (hE.below hb0))
  have HE0 := hide (hE.below hb0)
  have HB0 := hide hb0
  have HX0 := hide hx0
  have HR0 := hide (hr.below hb0)
  clear hb0 hx0 hr hE
  go_enter Tryd.func7, Tryd.ntmps7
  go_wp2_with fail
  refine HBG.out.mono ?_
  rintro e w1 ⟨rfl, hb1⟩
  have HE1 := hide (HE0.out.below hb1)
  have HB1 := hide (Below.next HB0.out hb1)
  have HRI : Hid (Calls Tryd.prog 16 #[.slice a l0.length c, .int .i64 5627] w1 fun e w' => ∃ u, e = .returned u ∧ PrO w' w1.heap.size u (risL 5627 l0) ∧ Below w1.heap.size w1 w') := rising_any _ l0 5627 w1 hl (by decide) (HR0.out.below hb1)
  have k0 : w1.cell? ⟨w.heap.size, 0, none⟩ = some (.slice a l0.length c) := (HX0.out.below hb1).2 0 (by simp)
  clear hb1 HBG HE0 HB0 HX0 HR0
  go_wp2_with fail
  refine HRI.out.mono ?_
  rintro e w2 ⟨u, rfl, hown, hb2⟩
  obtain ⟨l, hle⟩ : ∃ l, l = risL 5627 l0 := ⟨_, rfl⟩
  obtain ⟨hmay, hrise, hsz, hlen⟩ := risK_ok 5627 l0 l0.length
  have hrl : risK 5627 l0 l0.length = l := by rw [hle]; rfl
  rw [hrl] at hmay hrise hsz hlen
  rw [← hle] at hown
  have hln := szL_len l
  have HE2 := hide (HE1.out.below hb2)
  have HB2 := hide (Below.next HB1.out hb2)
  have HLS : Hid (Calls Tryd.prog 9 #[u] w2 fun e w' => e = .returned (.int .i64 (szL l : Int)) ∧ Below w2.heap.size w2 w') := by
    have := lsize_any u l w2 (ok_of_may hmay) (by omega) hown.at
    rw [wsz_small (by omega)] at this
    exact this
  have HO := hide hown
  have HMAY := hide hmay
  have HRIS := hide hrise
  have HSZ := hide hsz
  clear hb2 HRI HE1 HB1 k0 hown hmay hrise hle hrl hlen
  go_wp2_with fail
  refine HLS.out.mono ?_
  rintro e w3 ⟨rfl, hb3⟩
  have HE3 := hide (HE2.out.below hb3)
  have HB3 := hide (Below.next HB2.out hb3)
  have HO3 := hide (HO.out.below hb3)
  clear hb3 HLS HE2 HB2 HO
  by_cases hbig : 4072 < szL l
  · have hbI : ¬ (szL l : Int) ≤ 4072 := by omega
    have HCU := hide (lcut_any A u l w3 (ok_of_may HMAY.out) (by have := HSZ.out; omega) HO3.out.at HE3.out)
    obtain ⟨S, hS⟩ : ∃ S, S = szL l := ⟨_, rfl⟩
    rw [← hS] at hbI ⊢
    have HBIG := hide hbig
    clear hS hbig
    go_wp2_with fail
    refine HCU.out.mono ?_
    rintro e w4 ⟨⟨i, cc, u1, u2, ev, rfl, hcn, hno, hlists⟩, hb4⟩
    obtain ⟨rfl, hck1, hck2⟩ := halves_math HMAY.out HRIS.out HBIG.out HSZ.out hcn
    have hev := numOf_nil hno
    subst hev
    obtain ⟨ho1, ho2⟩ : PrO w4 w3.heap.size u1 (l.take i) ∧ PrO w4 w3.heap.size u2 (l.drop i) := by
      rcases hlists with ⟨_, h1, h2, _⟩ | ⟨h, _⟩
      · exact ⟨h1, h2⟩
      · exact absurd rfl h
    have hsz := HSZ.out
    have hll : (l.take i).length + (l.drop i).length = l.length := by rw [← List.length_append, List.take_append_drop]
    obtain ⟨a1, c1, w5, hrun1, hown5, hg5⟩ := append_prs w4.heap.size _ u1 [] (l.take i) w4 (PrO.nil _ _) ho1.at (by simp; omega) (Nat.le_refl _)
    have hb5 : Below w4.heap.size w4 w5 := (Below.refl _ _).grown hg5 (Nat.le_refl _) (fun k hk => by cases hk)
    rw [List.nil_append, List.length_nil, Nat.zero_add] at hown5
    rw [List.length_nil, Nat.zero_add] at hrun1
    obtain ⟨a2, c2, w6, hrun2, hown6, hg6⟩ := append_prs w4.heap.size _ u2 (l.take i) (l.drop i) w5 hown5 (ho2.below hb5).at (by omega) hb5.size
    have hb6 : Below w4.heap.size w4 w6 := hb5.grown hg6 hb5.size (fun k hk => (hown5.blk k hk).1)
    rw [List.take_append_drop] at hown6
    obtain ⟨b1, d1, hu1⟩ := ho1.form
    obtain ⟨b2, d2, hu2⟩ := ho2.form
    rw [hu1] at hrun1
    rw [hu2] at hrun2
    have HSM := hide (samep_same _ u l w6 (by omega) hown6.at ((HO3.out.below hb4).below hb6).at)
    have HC1 : Hid (∀ W, Below w4.heap.size w4 W → Calls Tryd.prog 10 #[u1, .bool false] W fun e w' => e = .returned .nilIface ∧ Below W.heap.size W w') := fun W h => by
      have := lcheck_any A u1 (l.take i) false W (ok_of_may (chk_none hck1).1) (by omega) (ho1.below h).at ((HE3.out.below hb4).below h)
      rw [hck1] at this
      exact this
    have HC2 : Hid (∀ W, Below w4.heap.size w4 W → Calls Tryd.prog 10 #[u2, .bool false] W fun e w' => e = .returned .nilIface ∧ Below W.heap.size W w') := fun W h => by
      have := lcheck_any A u2 (l.drop i) false W (ok_of_may (chk_none hck2).1) (by omega) (ho2.below h).at ((HE3.out.below hb4).below h)
      rw [hck2] at this
      exact this
    have HB4 := hide (Below.next HB3.out hb4)
    have HB6 := hide hb6
    obtain ⟨ua, uc, hu⟩ := HO3.out.form
    rw [hu1] at HC1
    rw [hu2] at HC2
    rw [hu] at HSM
    subst hu1 hu2 hu
    generalize (l.take i).length = n1 at *
    generalize (l.drop i).length = n2 at *
    generalize l.length = n at *
    rw [hll] at hrun2 HSM
    clear hcn hno hlists ho1 ho2 hck1 hck2 hb4 hb5 hb6 hg5 hg6 hown5 hown6 HCU HE3 HB3 HO3 hsz hln HMAY HRIS HSZ HBIG
    go_wp2_with (first
      | (at_builtin; refine wpList_append_run 22 rfl (.tmp 30) (.tmp 31) rfl rfl _ _ rfl rfl _ _ hrun1 ?_)
      | (at_builtin; refine wpList_append_run 22 rfl (.tmp 33) (.tmp 34) rfl rfl _ _ rfl rfl _ _ hrun2 ?_))
    refine HSM.out.mono ?_
    rintro e w7 ⟨rfl, hb7⟩
    have HB7 := hide (Below.next HB6.out hb7)
    clear hb7 hrun1 hrun2 HSM HB6
    go_wp2_with fail
    refine (HC1.out _ HB7.out).mono ?_
    rintro e w8 ⟨rfl, hb8⟩
    have HB8 := hide (Below.next HB7.out hb8)
    clear hb8 HB7 HC1
    go_wp2_with fail
    refine (HC2.out _ HB8.out).mono ?_
    rintro e w9 ⟨rfl, hb9⟩
    have HB9 := hide (Below.next HB4.out (Below.next HB8.out hb9))
    clear hb9 HB8 HC2 HB4
    go_wp2
    go_ret
    exact ⟨rfl, HB9.out⟩
  · have hbI : (szL l : Int) ≤ 4072 := by omega
    obtain ⟨S, hS⟩ : ∃ S, S = szL l := ⟨_, rfl⟩
    rw [← hS] at hbI ⊢
    clear hS hbig
    go_wp2
    go_ret
    exact ⟨rfl, HB3.out⟩

end Go.Proofs.YtdacbajiapdiiaaDoor
