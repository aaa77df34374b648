import Derived.Test.YtnggkkfncaidnaaGreatDoorPBk7
namespace Go.Proofs.YtnggkkfncaidnaaGreatDoor
open Go.RowKit

/-! The question that must be read and written (data). -/
def FQ : Qd := ⟨⟨#[84]⟩, [⟨⟨#[102]⟩, 1, .mk 3 1 ⟨#[]⟩ []⟩, ⟨⟨#[103]⟩, 5, .mk 4 0 ⟨#[120]⟩ []⟩], ⟨#[103]⟩, true, 5⟩
def FT1 : ByteArray := ⟨#[102, 114, 111, 109, 32, 84, 32, 119, 104, 101, 114, 101, 32, 102, 61, 49, 32, 97, 110, 100, 32, 103, 32, 62, 61, 32, 34, 120, 34, 32, 111, 114, 100, 101, 114, 32, 98, 121, 32, 103, 32, 102, 97, 108, 108, 105, 110, 103, 32, 108, 105, 109, 105, 116, 32, 53]⟩
def FT2 : ByteArray := ⟨#[102, 114, 111, 109, 32, 84, 32, 119, 104, 101, 114, 101, 32, 102, 32, 61, 32, 49, 32, 97, 110, 100, 32, 103, 32, 62, 61, 32, 34, 120, 34, 32, 111, 114, 100, 101, 114, 32, 98, 121, 32, 103, 32, 102, 97, 108, 108, 105, 110, 103, 32, 108, 105, 109, 105, 116, 32, 53]⟩
theorem itoa1 : Lib.itoa 1 = [49] := by
  unfold Lib.itoa
  rw [if_neg (by decide)]
  exact Lib.decDigits_one (i := 1) (by decide)
theorem itoa5 : Lib.itoa 5 = [53] := by
  unfold Lib.itoa
  rw [if_neg (by decide)]
  exact Lib.decDigits_one (i := 5) (by decide)
theorem fq_item1 : itemL (.mk 3 1 ⟨#[]⟩ []) = [49] := by
  rw [itemL]
  simp [itoa1]
theorem fq_item2 : itemL (.mk 4 0 ⟨#[120]⟩ []) = [34, 120, 34] := by
  rw [itemL]
  decide
theorem fq_name (c : UInt8) (h : plainB ⟨#[c]⟩ = true) : nameL ⟨#[c]⟩ = [c] := by
  unfold nameL
  rw [if_pos h]
theorem fq_text : textL FQ = FT2.data.toList := by
  unfold textL FQ
  simp only [condsL, condT, condL, orderL, fallL, limitL]
  rw [fq_name 84 (by decide), fq_name 102 (by decide), fq_name 103 (by decide), fq_item1, fq_item2, itoa5]
  decide
theorem fq_fault : qfaultD FQ = 0 := by
  have h1 : condF ⟨⟨#[102]⟩, 1, .mk 3 1 ⟨#[]⟩ []⟩ = 0 := by
    unfold condF
    rw [if_pos (by decide)]
    unfold packF
    have e : faultR 4 [It.mk 3 1 ⟨#[]⟩ []] = 0 := by
      rw [faultR, if_neg (by decide), firstF, firstF]
      simp [oneF, fits, fitB, It.kind, It.text, It.list, ByteArray.toList_eq]
    rw [if_pos e, if_neg]
    simp [encL, It.enc_eq, bodyOf, It.kind, It.num]
    decide
  have h2 : condF ⟨⟨#[103]⟩, 5, .mk 4 0 ⟨#[120]⟩ []⟩ = 0 := by
    unfold condF
    rw [if_pos (by decide)]
    unfold packF
    have e : faultR 4 [It.mk 4 0 ⟨#[120]⟩ []] = 0 := by
      rw [faultR, if_neg (by decide), firstF, firstF]
      simp [oneF, fits, fitB, It.kind, It.num, It.list]
    rw [if_pos e, if_neg]
    simp [encL, It.enc_eq, bodyOf, It.kind, It.text]
    decide
  have hf : firstN condF FQ.cs = 0 := firstN_all _ fun c hc => by
    rcases List.mem_cons.1 hc with rfl | hc
    · exact h1
    · rcases List.mem_cons.1 hc with rfl | hc
      · exact h2
      · cases hc
  unfold qfaultD
  rw [if_pos (show isNameD FQ.table = true by decide), if_pos hf]
  decide
theorem fq_print : printF FQ = 0 ∧ printT FQ = FT2 := by
  have h : printF FQ = 0 := by
    unfold printF
    rw [if_pos fq_fault, if_neg (by rw [fq_text]; decide)]
  refine ⟨h, ?_⟩
  unfold printT
  rw [if_pos h, fq_text]
theorem fq_nums : QNums FQ := by
  refine ⟨fun c hc => ?_, by decide⟩
  rcases List.mem_cons.1 hc with rfl | hc
  · exact ⟨by decide, by decide, trivial⟩
  · rcases List.mem_cons.1 hc with rfl | hc
    · exact ⟨by decide, by decide, trivial⟩
    · cases hc
theorem fq_fine : QFine FQ := qfine_of fq_fault fq_nums
theorem fq_toks : toksD FT1.data.toList = some (queryT FQ) := by
  have h := fq_fine
  have e : FT1.data.toList = [102, 114, 111, 109] ++ 32 :: ([84] ++ 32 :: ([119, 104, 101, 114, 101] ++ 32 :: ([102] ++ (signL 1 ++ (Lib.itoa 1 ++ 32 :: ([97, 110, 100] ++ 32 :: (condL ⟨⟨#[103]⟩, 5, .mk 4 0 ⟨#[120]⟩ []⟩ ++ (orderL FQ ++ (fallL FQ ++ limitL FQ))))))))) := by
    have e1 : condL ⟨⟨#[103]⟩, 5, .mk 4 0 ⟨#[120]⟩ []⟩ = [103, 32, 62, 61, 32, 34, 120, 34] := by
      simp only [condL]
      rw [fq_name 103 (by decide), fq_item2]
      decide
    have e2 : limitL FQ = [32, 108, 105, 109, 105, 116, 32, 53] := by
      unfold limitL FQ
      simp only
      rw [itoa5]
      decide
    rw [itoa1, e1, e2]
    decide
  rw [e, toks_kw _ _ (by simp) (by decide) (Stops.of (.inl rfl)), toksD_blank, toks_kw _ _ (by simp) (by decide) (Stops.of (.inl rfl)), toksD_blank, toks_kw _ _ (by simp) (by decide) (Stops.of (.inl rfl)), toksD_blank,
    toks_word [102] _ (by simp) (by decide) (by show wfrom false (61 :: _) = 0; rw [wfrom, if_neg (by decide)]), toks_sign 1 _ (by rw [itoa1]; simp), toks_num 1 _ (by decide) (by decide) (by rw [dcount, if_neg (by decide)]), toksD_blank, toks_kw _ _ (by simp) (by decide) (Stops.of (.inl rfl)), toksD_blank,
    toks_cond _ _ (h.c _ (by simp [FQ])) (stop_order FQ), toks_order FQ _ h (stop_fall FQ), toks_fall FQ _ (stop_limit FQ), toks_limit FQ h]
  rfl
theorem fq_parse : parD FT1 = some FQ := parse_back FQ fq_fault FT1 fq_toks (by decide)
end Go.Proofs.YtnggkkfncaidnaaGreatDoor
