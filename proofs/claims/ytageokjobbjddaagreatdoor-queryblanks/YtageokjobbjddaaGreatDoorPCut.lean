import Derived.Test.YtageokjobbjddaaGreatDoorGRJ
import Derived.Test.YtageokjobbjddaaGreatDoorPTok2
namespace Go.Proofs.YtageokjobbjddaaGreatDoor
open Go.RowKit

/-! One token, cut off. -/
structure TokEnv (w : World) : Prop where
  syn : SynAt w
  ito : ItoAt w
  max : ∃ m : Int, w.cell? ⟨14, 0, none⟩ = some (.int .i64 m)
theorem TokEnv.keep {w w' : World} (h : TokEnv w) (hb : Below w.heap.size w w') : TokEnv w' := by
  obtain ⟨h1, h2, m, h3⟩ := h
  exact ⟨h1.keep hb, h2.keep hb, m, (hb.cell (p := ⟨14, 0, none⟩) (World.block_lt_of_cell? w _ h3)).trans h3⟩
def markB (c : UInt8) : Bool := decide (c = 91 ∨ c = 93 ∨ c = 44)
theorem mark_has : ∀ c : Fin 256, Lib.contains [91, 93, 44] [UInt8.ofNat c.1] = markB (UInt8.ofNat c.1) := by decide +kernel
theorem mark_any (c : UInt8) : Lib.contains [91, 93, 44] [c] = markB c := by
  have h := mark_has ⟨c.toNat, c.toNat_lt⟩
  simpa using h
def cutD (s : ByteArray) : Pt × ByteArray :=
  match s.data.toList with
  | [] => (pt0, ⟨#[]⟩)
  | c :: r => if letterB c = true then (wordD s (leadN inwB s), s.extract (leadN inwB s) s.size)
    else if c = 96 then ((quotD r).1, ⟨(quotD r).2.toArray⟩)
    else if c = 45 ∨ digitB c = true then numD s (numN s)
    else if c = 34 then ((textD r).1, ⟨(textD r).2.toArray⟩)
    else if markB c = true then (⟨7, ⟨#[c]⟩, 0⟩, s.extract 1 s.size)
    else signD s
theorem store_pt (w : World) (H : Nat) (a b c : Value) (t : Pt) (hr : RowAt w H #[a, b, c] 67) : (Instr.storeAt 67 (.pointer (some ⟨H, 0, none⟩)) (.agg (ptV t))).run Tryz.prog w = .ok () (w.setRow H (ptV t)) := store_row w H 67 _ _ hr (by kernel_rfl) rfl (by simp [Value.oneCell'])
set_option maxHeartbeats 8000000 in
set_option maxRecDepth 100000 in
theorem pcuttok_any (s : ByteArray) (w : World) (hs : s.size ≤ 1000000) (hv : TokEnv w) :
    Calls Tryz.prog 45 #[.string s] w fun e w' => e = .returned (.tuple #[.agg (ptV (cutD s).1), .string (cutD s).2]) ∧ Below w.heap.size w w' := by
  have q1 := below_new w (.cells (ptV pt0) 67)
  have x1 := RowAt.new w (ptV pt0) 67
  unfold pt0 ptV at q1 x1
  obtain ⟨W1, hW1⟩ : ∃ W1, w.alloc (.cells #[.int .i64 0, .string ⟨#[]⟩, .int .i64 0] 67) = W1 := ⟨_, rfl⟩
  rw [hW1] at q1 x1
  have HW := hide hW1
  have HX := hide x1
  have HB := hide q1
  have hv1 := hv.keep q1
  obtain ⟨r, hr⟩ : ∃ r, r = cutD s := ⟨_, rfl⟩
  rw [← hr]
  by_cases h0 : s = ⟨#[]⟩
  · subst h0
    have hqe : ((⟨#[]⟩ : ByteArray).toList == (⟨#[]⟩ : ByteArray).toList) = true := str_eq _
    have HE : Hid (r = (pt0, ⟨#[]⟩)) := hr
    clear hr hv hv1 hW1 q1 x1
    go_enter Tryz.func45, Tryz.ntmps45
    go_wp2_with fail
    rw [HW.out]
    go_wp2_with fail
    refine bodyPost_ret (results_row_tmp rfl _ _ w.heap.size 67 _ (0, 0) _ rfl HX.out Tryz.underlying67 rfl (by kernel_rfl)) rfl ?_
    exact ⟨by rw [HE.out]; rfl, HB.out⟩
  · obtain ⟨hqe, hq2⟩ := ne_nil h0
    have h01 : 0 < s.size := by
      rcases Nat.eq_zero_or_pos s.size with h | h
      · exact absurd (nil_size h) h0
      · exact h
    have h0I : (0 : Int) < (s.size : Int) := by omega
    have h1I : (1 : Int) ≤ (s.size : Int) := by omega
    have hl0 : s.data.toList = s[0] :: s.data.toList.drop 1 := by
      have := q_drop s 0 h01
      rwa [List.drop_zero] at this
    have hr2 : r = (if letterB s[0] = true then (wordD s (leadN inwB s), s.extract (leadN inwB s) s.size)
        else if s[0] = 96 then ((quotD (s.data.toList.drop 1)).1, ⟨(quotD (s.data.toList.drop 1)).2.toArray⟩)
        else if s[0] = 45 ∨ digitB s[0] = true then numD s (numN s)
        else if s[0] = 34 then ((textD (s.data.toList.drop 1)).1, ⟨(textD (s.data.toList.drop 1)).2.toArray⟩)
        else if markB s[0] = true then (⟨7, ⟨#[s[0]]⟩, 0⟩, s.extract 1 s.size)
        else signD s) := by
      rw [hr, cutD]
      generalize hgl : s.data.toList = gl at *
      rw [hl0]
      rfl
    have HR := hide hr2
    have HLE := hide (pbeg_any s[0] W1)
    have HDG := hide (pdigit_any s[0] W1)
    have HWD := hide (pcutword_any s W1 hs)
    obtain ⟨m, hm⟩ := hv1.max
    obtain ⟨⟨te, pe, hsyn⟩, _⟩ := hv1.syn
    have hz1 : (s.extract 1 s.size).size ≤ 1000000 := by rw [ByteArray.size_extract]; omega
    have HQU := hide (pcutq_any (s.extract 1 s.size) m W1 hz1 hm)
    have HTX := hide (pcuttext_any (s.extract 1 s.size) te pe W1 hz1 hsyn)
    rw [ex_drop] at HQU HTX
    have HNU := hide (pcutnum_any s W1 h01 hs hv1.syn hv1.ito)
    have HSI := hide (pcutsign_any s W1)
    have hx0 : s.extract 0 1 = ⟨#[s[0]]⟩ := by
      have := ex_sub s 0 1
      rw [this, List.drop_zero, hl0]; rfl
    have HCO := hide (scont_any ⟨#[91, 93, 44]⟩ ⟨#[s[0]]⟩ m W1 (by decide) hm)
    rw [show (⟨#[91, 93, 44]⟩ : ByteArray).data.toList = [91, 93, 44] from rfl, show (⟨#[s[0]]⟩ : ByteArray).data.toList = [s[0]] from rfl, mark_any] at HCO
    obtain ⟨x, hx⟩ : ∃ x : UInt8, x = s[0] := ⟨_, rfl⟩
    have hxx : s[0] = x := hx.symm
    rw [← hx] at HR HLE HDG HCO hx0
    clear hr hr2 hl0 h0 hv hv1 hW1 q1 x1 hm hsyn hx hz1
    go_enter Tryz.func45, Tryz.ntmps45
    go_wp2_with fail
    rw [HW.out]
    go_wp2_with fail
    refine HLE.out.mono ?_
    rintro e w' ⟨rfl, rfl⟩
    clear HLE
    cases hlb : letterB x with
    | true =>
      rw [hlb, if_pos rfl] at HR
      clear hlb HDG HQU HTX HNU HSI HCO hx0
      generalize leadN inwB s = n at *
      generalize wordD s n = u at *
      obtain ⟨uk, ut, un⟩ := u
      go_wp2_with fail
      refine HWD.out.mono ?_
      rintro e w2 ⟨rfl, hb2⟩
      have HX2 := hide (HX.out.below hb2)
      have HST := hide (store_pt w2 w.heap.size _ _ _ ⟨uk, ut, un⟩ HX2.out)
      have HB2 := hide (Below.next HB.out hb2)
      clear HWD hb2
      go_wp2_with (refine wpList_store_eq rfl 67 _ _ rfl _ _ rfl rfl HST.out ?_)
      refine bodyPost_ret (results_row_tmp rfl _ _ w.heap.size 67 _ (0, 0) _ rfl (row_set _ _ _ _ _ HX2.out) Tryz.underlying67 rfl (by kernel_rfl)) rfl ?_
      exact ⟨by rw [HR.out]; rfl, below_row HB2.out (Nat.le_refl _) _⟩
    | false =>
      rw [hlb, if_neg (by simp)] at HR
      clear hlb HWD
      by_cases h96 : x = 96
      · rw [if_pos h96] at HR
        subst h96
        clear HDG HTX HNU HSI HCO hx0
        generalize quotD (s.data.toList.drop 1) = u at *
        obtain ⟨⟨uk, ut, un⟩, ur⟩ := u
        simp only at HR HQU
        go_wp2_with fail
        refine HQU.out.mono ?_
        rintro e w2 ⟨rfl, hb2⟩
        have HX2 := hide (HX.out.below hb2)
        have HST := hide (store_pt w2 w.heap.size _ _ _ ⟨uk, ut, un⟩ HX2.out)
        have HB2 := hide (Below.next HB.out hb2)
        clear HQU hb2
        go_wp2_with (refine wpList_store_eq rfl 67 _ _ rfl _ _ rfl rfl HST.out ?_)
        refine bodyPost_ret (results_row_tmp rfl _ _ w.heap.size 67 _ (0, 0) _ rfl (row_set _ _ _ _ _ HX2.out) Tryz.underlying67 rfl (by kernel_rfl)) rfl ?_
        exact ⟨by rw [HR.out]; rfl, below_row HB2.out (Nat.le_refl _) _⟩
      · rw [if_neg h96] at HR
        have g96 : ((x.toNat : Int) == 96) = false := u8_ne (k := 96) (by decide) h96
        clear h96 HQU
        by_cases hnu : x = 45 ∨ digitB x = true
        · rw [if_pos hnu] at HR
          clear HTX HSI HCO hx0
          generalize numD s (numN s) = u at *
          obtain ⟨⟨uk, ut, un⟩, ur⟩ := u
          simp only at HR HNU
          have hcs : ((x.toNat : Int) == 45) = true ∨ (((x.toNat : Int) == 45) = false ∧ digitB x = true) := by
            by_cases h45 : x = 45
            · left; subst h45; rfl
            · right
              exact ⟨u8_ne (k := 45) (by decide) h45, hnu.resolve_left h45⟩
          clear hnu
          rcases hcs with h45 | ⟨h45, hd⟩
          · clear HDG
            go_wp2_with fail
            refine HNU.out.mono ?_
            rintro e w2 ⟨rfl, hb2⟩
            have HX2 := hide (HX.out.below hb2)
            have HST := hide (store_pt w2 w.heap.size _ _ _ ⟨uk, ut, un⟩ HX2.out)
            have HB2 := hide (Below.next HB.out hb2)
            clear HNU hb2
            go_wp2_with (refine wpList_store_eq rfl 67 _ _ rfl _ _ rfl rfl HST.out ?_)
            refine bodyPost_ret (results_row_tmp rfl _ _ w.heap.size 67 _ (0, 0) _ rfl (row_set _ _ _ _ _ HX2.out) Tryz.underlying67 rfl (by kernel_rfl)) rfl ?_
            exact ⟨by rw [HR.out]; rfl, below_row HB2.out (Nat.le_refl _) _⟩
          · rw [hd] at HDG
            clear hd
            go_wp2_with fail
            refine HDG.out.mono ?_
            rintro e w' ⟨rfl, rfl⟩
            clear HDG
            go_wp2_with fail
            refine HNU.out.mono ?_
            rintro e w2 ⟨rfl, hb2⟩
            have HX2 := hide (HX.out.below hb2)
            have HST := hide (store_pt w2 w.heap.size _ _ _ ⟨uk, ut, un⟩ HX2.out)
            have HB2 := hide (Below.next HB.out hb2)
            clear HNU hb2
            go_wp2_with (refine wpList_store_eq rfl 67 _ _ rfl _ _ rfl rfl HST.out ?_)
            refine bodyPost_ret (results_row_tmp rfl _ _ w.heap.size 67 _ (0, 0) _ rfl (row_set _ _ _ _ _ HX2.out) Tryz.underlying67 rfl (by kernel_rfl)) rfl ?_
            exact ⟨by rw [HR.out]; rfl, below_row HB2.out (Nat.le_refl _) _⟩
        · rw [if_neg hnu] at HR
          have h45 : ((x.toNat : Int) == 45) = false := u8_ne (k := 45) (by decide) fun e => hnu (.inl e)
          have hd : digitB x = false := by simpa using fun e => hnu (.inr e)
          rw [hd] at HDG
          clear hnu hd HNU
          go_wp2_with fail
          refine HDG.out.mono ?_
          rintro e w' ⟨rfl, rfl⟩
          clear HDG
          by_cases h34 : x = 34
          · rw [if_pos h34] at HR
            subst h34
            clear HSI HCO hx0
            generalize textD (s.data.toList.drop 1) = u at *
            obtain ⟨⟨uk, ut, un⟩, ur⟩ := u
            simp only at HR HTX
            go_wp2_with fail
            refine HTX.out.mono ?_
            rintro e w2 ⟨rfl, hb2⟩
            have HX2 := hide (HX.out.below hb2)
            have HST := hide (store_pt w2 w.heap.size _ _ _ ⟨uk, ut, un⟩ HX2.out)
            have HB2 := hide (Below.next HB.out hb2)
            clear HTX hb2
            go_wp2_with (refine wpList_store_eq rfl 67 _ _ rfl _ _ rfl rfl HST.out ?_)
            refine bodyPost_ret (results_row_tmp rfl _ _ w.heap.size 67 _ (0, 0) _ rfl (row_set _ _ _ _ _ HX2.out) Tryz.underlying67 rfl (by kernel_rfl)) rfl ?_
            exact ⟨by rw [HR.out]; rfl, below_row HB2.out (Nat.le_refl _) _⟩
          · rw [if_neg h34] at HR
            have g34 : ((x.toNat : Int) == 34) = false := u8_ne (k := 34) (by decide) h34
            clear h34 HTX
            go_wp2_with fail
            refine HCO.out.mono ?_
            rintro e w' ⟨rfl, rfl⟩
            clear HCO
            cases hmk : markB x with
            | true =>
              rw [hmk, if_pos rfl] at HR
              obtain ⟨⟨m0, m1, m2⟩, o0, o1, o2⟩ := pt_cells HX.out
              clear hmk HSI
              go_wp2_with fail
              go_region
              go_wp2_with fail
              refine bodyPost_ret (results_row_tmp rfl _ _ w.heap.size 67 _ (0, 0) _ rfl (pt_put HX.out _ _ _) Tryz.underlying67 rfl (by kernel_rfl)) rfl ?_
              exact ⟨by rw [HR.out]; rfl, (pt_below HB.out (Nat.le_refl _) _ _ _).drew⟩
            | false =>
              rw [hmk, if_neg (by simp)] at HR
              clear hmk hx0
              generalize signD s = u at *
              obtain ⟨⟨uk, ut, un⟩, ur⟩ := u
              simp only at HR HSI
              go_wp2_with fail
              refine HSI.out.mono ?_
              rintro e w2 ⟨rfl, hb2⟩
              have HX2 := hide (HX.out.below hb2)
              have HST := hide (store_pt w2 w.heap.size _ _ _ ⟨uk, ut, un⟩ HX2.out)
              have HB2 := hide (Below.next HB.out hb2)
              clear HSI hb2
              go_wp2_with (refine wpList_store_eq rfl 67 _ _ rfl _ _ rfl rfl HST.out ?_)
              refine bodyPost_ret (results_row_tmp rfl _ _ w.heap.size 67 _ (0, 0) _ rfl (row_set _ _ _ _ _ HX2.out) Tryz.underlying67 rfl (by kernel_rfl)) rfl ?_
              exact ⟨by rw [HR.out]; rfl, below_row HB2.out (Nat.le_refl _) _⟩
end Go.Proofs.YtageokjobbjddaaGreatDoor
