import Derived.Test.YtddhjnfcbpookaaDoorPack
import Derived.Test.YtddhjnfcbpookaaDoorROne
import Derived.Test.YtddhjnfcbpookaaDoorRFault
import Derived.Test.YtddhjnfcbpookaaDoorLeft
namespace Go.Proofs.YtddhjnfcbpookaaDoor
open Go.RowKit

theorem faultR_kinds (r : Nat) : ∀ l, faultR r l = 0 ∨ faultR r l = 1 ∨ faultR r l = 3 := by
  have first : ∀ (f : It → Nat), (∀ x, f x = 0 ∨ f x = 1 ∨ f x = 3) → ∀ l, firstF f l = 0 ∨ firstF f l = 1 ∨ firstF f l = 3 := by
    intro f hf l
    induction l with
    | nil => exact .inl rfl
    | cons x r ih =>
      simp only [firstF]
      split
      · exact ih
      · exact hf x
  have one : ∀ (rec : List It → Nat), (∀ l, rec l = 0 ∨ rec l = 1 ∨ rec l = 3) → ∀ x, oneF rec x = 0 ∨ oneF rec x = 1 ∨ oneF rec x = 3 := by
    intro rec hr x
    unfold oneF
    split
    · exact .inr (.inl rfl)
    · split
      · exact hr _
      · exact .inl rfl
  induction r with
  | zero =>
    intro l
    simp only [faultR]
    split
    · exact .inr (.inr rfl)
    · exact first _ (one _ fun _ => .inr (.inr rfl)) l
  | succ r ih =>
    intro l
    simp only [faultR]
    split
    · exact .inr (.inr rfl)
    · exact first _ (one _ ih) l
theorem packF_kinds (l : List It) : packF l = 0 ∨ packF l = 1 ∨ packF l = 3 := by
  unfold packF
  split
  · split
    · exact .inr (.inr rfl)
    · exact .inl rfl
  · exact faultR_kinds 4 l

set_option maxHeartbeats 1000000 in
set_option maxRecDepth 100000 in
theorem rpack_any (l : List It) (v : Value) (w : World) (hv : ItsAt w anyB v l) (hsz : faultR 4 l = 0 → (encL l).length ≤ 100000000000000) :
    Calls Tryd.prog 29 #[v] w fun e w' => e = .returned (.tuple #[.string (packT l), .int .i64 (packF l : Nat)]) ∧ Below w.heap.size w w' := by
  go_enter Tryd.func29, Tryd.ntmps29
  go_wp2_with fail
  refine (rfaults_any 4 l _ v w (by omega) (by rfl) hv).mono ?_
  rintro e w1 ⟨rfl, hb1⟩
  by_cases hf : faultR 4 l = 0
  · have hs := hsz hf
    have RA : Hid (Calls Tryd.prog 45 #[v] w1 fun e w' => ∃ v', e = .returned v' ∧ (l = [] → v' = .slice none 0 0) ∧ w'.ownsRow w1.heap.size 5 1 v' (encL l).length (u8s (encL l)) ∧ Below w1.heap.size w1 w') :=
      rall_any _ l v w1 (Nat.le_refl _) (hv.keep hb1) hs
    have HF : Hid (faultR 4 l = 0) := hf
    rw [HF.out]
    clear hf hsz hv
    go_wp2_with fail
    refine RA.out.mono ?_
    rintro e w2 ⟨v2, rfl, -, hown2, hb2⟩
    have hb3 : Below w.heap.size w w2 := Below.next hb1 hb2
    have hcv := conv_back hown2
    obtain ⟨a2, c2, rfl⟩ := owns_form hown2
    clear RA hown2 hb2 hb1
    by_cases hlen : (encL l).length ≤ 65536
    · have HP : Hid (packF l = 0 ∧ packT l = ⟨(encL l).toArray⟩) := by
        have h1 : packF l = 0 := by unfold packF; rw [if_pos HF.out, if_neg (by omega)]
        exact ⟨h1, by unfold packT; rw [if_pos h1]⟩
      clear HF hs
      generalize encL l = B at *
      go_wp2_with fail
      go_ret2
      exact ⟨by rw [HP.out.1, HP.out.2]; rfl, hb3⟩
    · have HP : Hid (packF l = 3 ∧ packT l = ⟨#[]⟩) := by
        have h1 : packF l = 3 := by unfold packF; rw [if_pos HF.out, if_pos (by omega)]
        exact ⟨h1, by unfold packT; rw [if_neg (by omega)]⟩
      have hlt : 65536 < (encL l).length := by omega
      clear HF hcv hs hlen
      generalize encL l = B at *
      go_wp2_with fail
      first | go_ret2 | (go_quiet (fail); go_wp2_with fail; go_ret2)
      exact ⟨by rw [HP.out.1, HP.out.2]; rfl, by first | exact hb3 | exact below_drewN hb3 _⟩
  · have HP : Hid (packF l = faultR 4 l ∧ packT l = ⟨#[]⟩) := by
      have h1 : packF l = faultR 4 l := by unfold packF; rw [if_neg hf]
      exact ⟨h1, by unfold packT; rw [if_neg (by rw [h1]; exact hf)]⟩
    have hne : ((faultR 4 l : Int) != 0) = true := by rw [bne_iff_ne]; omega
    clear hsz hv
    generalize faultR 4 l = F at *
    go_wp2_with fail
    go_ret2
    exact ⟨by rw [HP.out.1, HP.out.2]; rfl, hb1⟩

/-- A list that may be, but for its text, has a text that a machine can hold if its parts were counted. -/
theorem enc_le (k : Nat) : ∀ l : List It, SizeOf.sizeOf l ≤ k → (encL l).length ≤ 12 * cntL l := by
  induction k with
  | zero => intro l h; cases l <;> simp at h
  | succ k ih =>
    intro l
    induction l with
    | nil => intro _; simp [encL]
    | cons x r ihr =>
      intro h
      have h1 : SizeOf.sizeOf (x :: r) = 1 + SizeOf.sizeOf x + SizeOf.sizeOf r := rfl
      have h2 := It.list_lt x
      have hx := ih x.list (by omega)
      have hr := ihr (by omega)
      simp only [encL, cntL, List.length_append, It.cnt_eq, It.enc_eq, List.length_cons]
      have hesc : (encT x.text.data.toList).length ≤ 2 * x.text.size + 2 := by
        have : ∀ t : List UInt8, (escL t).length ≤ 2 * t.length := by
          intro t
          induction t with
          | nil => simp [escL]
          | cons c r ih =>
            have e : escL (c :: r) = (if c = 0 then [0, 255] else [c]) ++ escL r := by simp [escL]
            rw [e, List.length_append, List.length_cons]
            split <;> simp <;> omega
        have h := this x.text.data.toList
        unfold encT
        rw [List.length_append]
        simp only [List.length_cons, List.length_nil]
        have e : x.text.data.toList.length = x.text.size := by simp
        omega
      have hb : (bodyOf x.kind x.num x.text.data.toList (encL x.list)).length ≤ 8 + (2 * x.text.size + 2) + ((encL x.list).length + 1) := by
        unfold bodyOf
        split
        · simp only [List.length_cons, List.length_nil]; omega
        · split
          · simp [num8, be8]; omega
          · split
            · omega
            · split
              · rw [List.length_append]; simp only [List.length_cons, List.length_nil]; omega
              · simp
      omega

end Go.Proofs.YtddhjnfcbpookaaDoor
