import Derived.Test.YtdacbajiapdiiabDoorCStr
import Derived.BigQuiet
import Derived.Deep.QuietTactic
namespace Go.Proofs.YtdacbajiapdiiabDoor
open Go.RowKit

def isZ (c : UInt8) : Bool := c == 0
def dropZ (l : List UInt8) : List UInt8 := l.dropWhile isZ
def trL (s : ByteArray) : ByteArray := ⟨(dropZ s.data.toList).toArray⟩
def trR (s : ByteArray) : ByteArray := ⟨(dropZ s.data.toList.reverse).reverse.toArray⟩
theorem ext_toList (s : ByteArray) (a b : Nat) : (s.extract a b).data.toList = (s.data.toList.drop a).take (b - a) := by
  rw [ByteArray.data_extract, Array.toList_extract]
theorem ba_ext {x y : ByteArray} (h : x.data.toList = y.data.toList) : x = y := by
  have h2 : x.data = y.data := Array.toList_inj.1 h
  cases x; exact congrArg ByteArray.mk h2
theorem toList_last (x : ByteArray) (k : Nat) (hk : k = x.size - 1) (h : k < x.size) : x.data.toList = x.data.toList.take k ++ [x[k]] := by
  have h1 : k < x.data.toList.length := by rw [bsize]; exact h
  have := List.take_succ_eq_append_getElem h1
  rw [List.take_of_length_le (by rw [bsize]; omega)] at this
  exact this
theorem toList_first (x : ByteArray) (h : 0 < x.size) : x.data.toList = x[0] :: x.data.toList.drop 1 := by
  have h1 : 0 < x.data.toList.length := by rw [bsize]; exact h
  have := List.drop_eq_getElem_cons h1
  rw [List.drop_zero] at this
  exact this
theorem trR_size (s : ByteArray) : (trR s).size ≤ s.size := by
  have h := (List.dropWhile_sublist isZ (l := s.data.toList.reverse)).length_le
  rw [List.length_reverse, bsize] at h
  show (dropZ s.data.toList.reverse).reverse.toArray.size ≤ _
  simpa [dropZ] using h

set_option maxHeartbeats 400000 in
theorem trimR_any (s : ByteArray) (w : World) (hs : s.size ≤ 140737488355328) :
    Calls Tryd.prog 72 #[.string s, .int .u8 0] w fun e w' => e = .returned (.string (trR s)) ∧ w' = w := by
  obtain ⟨t, ht⟩ : ∃ t, t = trR s := ⟨_, rfl⟩
  rw [← ht]
  have HT := hide ht
  clear ht
  go_enter Tryd.func72, Tryd.ntmps72
  go_wp2
  go_loop [0] (fun v => ∃ (x : ByteArray), v = .string x ∧ dropZ x.data.toList.reverse = dropZ s.data.toList.reverse ∧ x.size ≤ s.size) (fun v => match v with | .string x => x.size | _ => 0)
  case atStart => exact ⟨s, rfl, rfl, Nat.le_refl _⟩
  case round =>
    obtain ⟨x, rfl, he, hle⟩ := hrel
    have HE := hide he
    clear he
    by_cases h0 : 0 < x.size
    · have h0I : (0 : Int) < (x.size : Int) := by omega
      obtain ⟨k, hk⟩ : ∃ k, k = x.size - 1 := ⟨_, rfl⟩
      have hw : IntKind.i64.wrap ((x.size : Int) - 1) = (k : Int) := by rw [IntKind.wrap_i64]; omega
      have hlt : k < x.size := by omega
      have hltI : (k : Int) < (x.size : Int) := by omega
      have hk0 : (0 : Int) ≤ (k : Int) := by omega
      have hkle : (k : Int) ≤ (x.size : Int) := by omega
      have HK := hide hk
      have HL := hide (toList_last x k hk hlt)
      clear hk
      by_cases hz : x[k] = 0
      · have hz' : ((x[k].toNat : Int) == 0) = true := by rw [hz]; rfl
        have HZ := hide hz
        clear hz
        go_wp2
        go_round
        case rel =>
          refine ⟨_, rfl, ?_, ?_⟩
          · rw [← HE.out, ext_toList, List.drop_zero, Nat.sub_zero]
            conv => rhs; rw [HL.out, HZ.out, List.reverse_append]
            rfl
          · rw [ByteArray.size_extract]; omega
        case measure => simp [ByteArray.size_extract]; omega
      · have hz' : ((x[k].toNat : Int) == 0) = false := by
          rw [beq_eq_false_iff_ne]
          intro h
          exact hz (UInt8.toNat_inj.1 (by simpa using h))
        have HX : Hid (x = t) := by
          have hb : isZ x[k] = false := by simpa [isZ] using hz
          refine ba_ext ?_
          rw [HT.out]
          show _ = (dropZ s.data.toList.reverse).reverse.toArray.toList
          rw [← HE.out, HL.out, List.reverse_append]
          show _ = (List.dropWhile isZ (x[k] :: _)).reverse.toArray.toList
          rw [List.dropWhile_cons_of_neg (by rw [hb]; decide)]
          simp
        clear hz
        go_wp2
        go_ret
        exact ⟨by rw [← HX.out]; rfl, rfl⟩
    · have h0I : ¬ (0 : Int) < (x.size : Int) := by omega
      have HX : Hid (x = t) := by
        refine ba_ext ?_
        rw [HT.out]
        show _ = (dropZ s.data.toList.reverse).reverse.toArray.toList
        have hn : x.data.toList = [] := List.length_eq_zero_iff.1 (by rw [bsize]; omega)
        rw [← HE.out, hn]; rfl
      go_wp2
      go_ret
      exact ⟨by rw [← HX.out]; rfl, rfl⟩

set_option maxHeartbeats 400000 in
theorem trimL_any (s : ByteArray) (w : World) :
    Calls Tryd.prog 71 #[.string s, .int .u8 0] w fun e w' => e = .returned (.string (trL s)) ∧ w' = w := by
  obtain ⟨t, ht⟩ : ∃ t, t = trL s := ⟨_, rfl⟩
  rw [← ht]
  have HT := hide ht
  clear ht
  go_enter Tryd.func71, Tryd.ntmps71
  go_wp2
  go_loop [0] (fun v => ∃ (x : ByteArray), v = .string x ∧ dropZ x.data.toList = dropZ s.data.toList ∧ x.size ≤ s.size) (fun v => match v with | .string x => x.size | _ => 0)
  case atStart => exact ⟨s, rfl, rfl, Nat.le_refl _⟩
  case round =>
    obtain ⟨x, rfl, he, hle⟩ := hrel
    have HE := hide he
    clear he
    by_cases h0 : 0 < x.size
    · have h0I : (0 : Int) < (x.size : Int) := by omega
      have h1I : (1 : Int) ≤ (x.size : Int) := by omega
      have HL := hide (toList_first x h0)
      by_cases hz : x[0] = 0
      · have hz' : ((x[0].toNat : Int) == 0) = true := by rw [hz]; rfl
        have HZ := hide hz
        clear hz
        go_wp2
        go_round
        case rel =>
          refine ⟨_, rfl, ?_, ?_⟩
          · rw [← HE.out, ext_toList, List.take_of_length_le (by rw [List.length_drop, bsize]; omega)]
            conv => rhs; rw [HL.out, HZ.out]
            rfl
          · rw [ByteArray.size_extract]; omega
        case measure => simp [ByteArray.size_extract]; omega
      · have hz' : ((x[0].toNat : Int) == 0) = false := by
          rw [beq_eq_false_iff_ne]
          intro h
          exact hz (UInt8.toNat_inj.1 (by simpa using h))
        have HX : Hid (x = t) := by
          have hb : isZ x[0] = false := by simpa [isZ] using hz
          refine ba_ext ?_
          rw [HT.out]
          show _ = (dropZ s.data.toList).toArray.toList
          rw [← HE.out]
          conv => rhs; rw [HL.out]
          show _ = (List.dropWhile isZ (x[0] :: _)).toArray.toList
          rw [List.dropWhile_cons_of_neg (by rw [hb]; decide)]
          exact HL.out
        clear hz
        go_wp2
        go_ret
        exact ⟨by rw [← HX.out]; rfl, rfl⟩
    · have h0I : ¬ (0 : Int) < (x.size : Int) := by omega
      have HX : Hid (x = t) := by
        refine ba_ext ?_
        rw [HT.out]
        show _ = (dropZ s.data.toList).toArray.toList
        have hn : x.data.toList = [] := List.length_eq_zero_iff.1 (by rw [bsize]; omega)
        rw [← HE.out, hn]; rfl
      go_wp2
      go_ret
      exact ⟨by rw [← HX.out]; rfl, rfl⟩

theorem dropZ_nil (l : List UInt8) : dropZ l = [] ↔ ∀ x ∈ l, isZ x = true := by
  induction l with
  | nil => simp [dropZ]
  | cons a r ih =>
    unfold dropZ at ih ⊢
    cases ha : isZ a with
    | true => rw [List.dropWhile_cons_of_pos ha, ih]; simp [ha]
    | false => rw [List.dropWhile_cons_of_neg (by rw [ha]; decide)]; simp [ha]
theorem dropZ_head (l : List UInt8) (a : UInt8) (r : List UInt8) (h : dropZ l = a :: r) : isZ a = false := by
  induction l with
  | nil => simp [dropZ] at h
  | cons b q ih =>
    unfold dropZ at ih h
    cases hb : isZ b with
    | true => rw [List.dropWhile_cons_of_pos hb] at h; exact ih h
    | false =>
      rw [List.dropWhile_cons_of_neg (by rw [hb]; decide)] at h
      cases h; exact hb
/-- Nothing is left but where a byte is not zero. -/
theorem trim_nil (s : ByteArray) : trL (trR s) = ByteArray.empty ↔ ∀ j, j < s.size → s.data.toList.getD j 0 = 0 := by
  have h1 : trL (trR s) = ByteArray.empty ↔ dropZ (dropZ s.data.toList.reverse).reverse = [] := by
    constructor
    · intro h
      have := congrArg (fun x => x.data.toList) h
      simpa [trL, trR] using this
    · intro h
      refine ba_ext ?_
      simpa [trL, trR] using h
  rw [h1]
  rw [dropZ_nil]
  constructor
  · intro h j hj
    have hz : dropZ s.data.toList.reverse = [] := by
      cases hd : dropZ s.data.toList.reverse with
      | nil => rfl
      | cons a r =>
        exfalso
        have hp := h a (by rw [hd]; simp)
        rw [dropZ_head _ a r hd] at hp; cases hp
    rw [dropZ_nil] at hz
    rw [ba_get s j hj]
    have := hz s[j] (by rw [List.mem_reverse]; show s.data[j] ∈ _; simp)
    simpa [isZ] using this
  · intro h x hx
    rw [List.mem_reverse] at hx
    have hx2 := (List.dropWhile_sublist isZ (l := s.data.toList.reverse)).mem hx
    rw [List.mem_reverse] at hx2
    obtain ⟨j, hj, rfl⟩ := List.getElem_of_mem hx2
    have := h j (by rw [bsize] at hj; exact hj)
    rw [List.getD_eq_getElem?_getD, List.getElem?_eq_getElem hj] at this
    simpa [isZ] using this

theorem empty_iff (s : ByteArray) : s.toList.isEmpty = decide (s = ByteArray.empty) := (decide_eq_emptyBytes s).symm
set_option maxRecDepth 100000 in
set_option maxHeartbeats 1000000 in
theorem trim_any (s : ByteArray) (w : World) (hs : s.size ≤ 140737488355328) :
    Calls Tryd.prog 65 #[.string s, .string ⟨#[0]⟩] w fun e w' => e = .returned (.string (trL (trR s))) ∧ Below w.heap.size w w' := by
  by_cases h0 : s = ⟨#[]⟩
  · subst h0
    have HT : Hid (trL (trR ⟨#[]⟩) = ⟨#[]⟩) := rfl
    rw [HT.out]
    go_enter Tryd.func65, Tryd.ntmps65
    go_wp2
    go_ret
    exact ⟨rfl, Below.refl _ _⟩
  · have hne : s.toList.isEmpty = false := by rw [empty_iff]; exact decide_eq_false h0
    have hne2 : ¬ s.toList = [] := fun h => by rw [h] at hne; cases hne
    have hc0 : (((({ data := #[0] } : ByteArray)[0]).toNat : Nat) : Int) = 0 := rfl
    have HR := hide (fun w => trimR_any s w hs)
    have HL := hide (fun w => trimL_any (trR s) w)
    generalize trL (trR s) = t at *
    generalize trR s = r at *
    go_enter Tryd.func65, Tryd.ntmps65
    go_wp2_with fail
    go_quiet ((first | (go_at_call 72; exact Calls.quiet_of_same (HR.out _)) | (go_at_call 71; exact Calls.quiet_of_same (HL.out _))))
    go_wp2
    go_ret
    exact ⟨rfl, below_drewN' (Below.refl _ _) _⟩

end Go.Proofs.YtdacbajiapdiiabDoor
