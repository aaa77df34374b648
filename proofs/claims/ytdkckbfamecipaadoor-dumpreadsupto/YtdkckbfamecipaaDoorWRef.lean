import Derived.Test.YtdkckbfamecipaaDoorWWord
namespace Go.Proofs.YtdkckbfamecipaaDoor
open Go.RowKit

def hexV : Option Nat → Int
  | some n => (n : Int)
  | none => -1
set_option maxHeartbeats 400000 in
theorem rhex_any (c : UInt8) (w : World) : Calls Tryd.prog 39 #[.int .u8 (c.toNat : Int)] w fun e w' => e = .returned (.int .i64 (hexV (hexN c))) ∧ w = w' := by
  have hc := c.toNat_lt
  obtain ⟨o, ho⟩ : ∃ o, o = hexV (hexN c) := ⟨_, rfl⟩
  rw [← ho]
  unfold hexN at ho
  by_cases h1 : 48 ≤ c.toNat ∧ c.toNat ≤ 57
  · rw [if_pos h1] at ho
    have a1 : (48 : Int) ≤ (c.toNat : Int) := by omega
    have a2 : (c.toNat : Int) ≤ 57 := by omega
    have HO : Hid (o = (c.toNat : Int) - 48) := by show _ = _; rw [ho]; show ((c.toNat - 48 : Nat) : Int) = _; omega
    clear ho h1
    go_enter Tryd.func39, Tryd.ntmps39
    go_wp2
    go_ret
    exact ⟨by rw [HO.out]; first | rfl | (congr 2; omega), rfl⟩
  · rw [if_neg h1] at ho
    have d1 : ¬ ((48 : Int) ≤ (c.toNat : Int)) ∨ ((48 : Int) ≤ (c.toNat : Int) ∧ ¬ (c.toNat : Int) ≤ 57) := by omega
    by_cases h2 : 97 ≤ c.toNat ∧ c.toNat ≤ 102
    · rw [if_pos h2] at ho
      have a1 : (97 : Int) ≤ (c.toNat : Int) := by omega
      have a2 : (c.toNat : Int) ≤ 102 := by omega
      have HO : Hid (o = (c.toNat : Int) - 97 + 10) := by show _ = _; rw [ho]; show ((c.toNat - 87 : Nat) : Int) = _; omega
      clear ho h1 h2
      rcases d1 with d1 | ⟨d1, d2⟩
      all_goals
        go_enter Tryd.func39, Tryd.ntmps39
        go_wp2
        go_ret
        exact ⟨by rw [HO.out]; first | rfl | (congr 2; omega), rfl⟩
    · rw [if_neg h2] at ho
      have d2 : ¬ ((97 : Int) ≤ (c.toNat : Int)) ∨ ((97 : Int) ≤ (c.toNat : Int) ∧ ¬ (c.toNat : Int) ≤ 102) := by omega
      by_cases h3 : 65 ≤ c.toNat ∧ c.toNat ≤ 70
      · rw [if_pos h3] at ho
        have a1 : (65 : Int) ≤ (c.toNat : Int) := by omega
        have a2 : (c.toNat : Int) ≤ 70 := by omega
        have a3 : ¬ (97 : Int) ≤ (c.toNat : Int) := by omega
        have a4 : ¬ (c.toNat : Int) ≤ 57 := by omega
        have a5 : (48 : Int) ≤ (c.toNat : Int) := by omega
        have HO : Hid (o = (c.toNat : Int) - 65 + 10) := by show _ = _; rw [ho]; show ((c.toNat - 55 : Nat) : Int) = _; omega
        clear ho h1 h2 h3 d1 d2
        go_enter Tryd.func39, Tryd.ntmps39
        go_wp2
        go_ret
        exact ⟨by rw [HO.out]; first | rfl | (congr 2; omega), rfl⟩
      · rw [if_neg h3] at ho
        have d3 : ¬ ((65 : Int) ≤ (c.toNat : Int)) ∨ ((65 : Int) ≤ (c.toNat : Int) ∧ ¬ (c.toNat : Int) ≤ 70) := by omega
        have HO : Hid (o = -1) := ho
        clear ho h1 h2 h3
        rcases d1 with d1 | ⟨d1, d1'⟩ <;> rcases d2 with d2 | ⟨d2, d2'⟩ <;> rcases d3 with d3 | ⟨d3, d3'⟩
        all_goals
          first
          | omega
          | (go_enter Tryd.func39, Tryd.ntmps39
             go_wp2
             go_ret
             exact ⟨by rw [HO.out]; rfl, rfl⟩)
/-- What the document's readers answer. -/
def ReV (l : List UInt8) (o : Option (List UInt8 × List UInt8)) (e : Ending) : Prop := (∃ x j, j ≤ l.length ∧ o = some (x, l.drop j) ∧ e = .returned (.tuple #[.string (ba x), .int .i64 ((j : Nat) : Int)])) ∨ (o = none ∧ e = .returned (.tuple #[.string ⟨#[]⟩, .int .i64 (-1)]))
def plainD (t : List UInt8) : Option (List UInt8 × List UInt8) := if (t.takeWhile wordB).all bareB = true then some (t.takeWhile wordB, t.dropWhile wordB) else none
theorem drop_all {p : UInt8 → Bool} {l : List UInt8} {k j : Nat} (hk : k ≤ j) (h : ((l.drop k).take (j - k)).all p = true) (he : ∀ c q, l.drop j = c :: q → p c = false) : (l.drop k).takeWhile p = (l.drop k).take (j - k) ∧ (l.drop k).dropWhile p = l.drop j := by
  have := take_end (l := l.drop k) (k := j - k) h (by rw [List.drop_drop, show k + (j - k) = j by omega]; exact he)
  rw [List.drop_drop, show k + (j - k) = j by omega] at this
  exact this
theorem all_mono {p q : UInt8 → Bool} (h : ∀ c, p c = true → q c = true) {l : List UInt8} (hl : l.all p = true) : l.all q = true := by
  rw [List.all_eq_true] at hl ⊢
  exact fun x hx => h x (hl x hx)
theorem plain_bad : ∀ {t : List UInt8} {k : Nat} {c : UInt8}, (t.take k).all bareB = true → t[k]? = some c → wordB c = true → bareB c = false → (t.takeWhile wordB).all bareB = false
  | [], k, c, _, h, _, _ => by simp at h
  | a :: r, 0, c, _, h, hw, hb => by
    simp at h; subst h
    rw [List.takeWhile_cons_of_pos hw, List.all_cons, hb]; rfl
  | a :: r, k + 1, c, ha, h, hw, hb => by
    rw [List.take_succ_cons, List.all_cons, Bool.and_eq_true] at ha
    rw [List.takeWhile_cons_of_pos (bare_word ha.1), List.all_cons, ha.1, Bool.true_and]
    exact plain_bad ha.2 (by simpa using h) hw hb
theorem drop_get (s : ByteArray) {a k : Nat} (h : a ≤ k) (hk : k < s.size) : (s.data.toList.drop a)[k - a]? = some s[k] := by
  rw [List.getElem?_drop, show a + (k - a) = k by omega, List.getElem?_eq_getElem (by rw [bsize]; exact hk)]
  rfl
set_option maxHeartbeats 4000000 in
set_option maxRecDepth 100000 in
theorem rplain_any (s : ByteArray) (at' : Nat) (w : World) (hat : at' ≤ s.size) (hs : s.size ≤ 70368744177664) :
    Calls Tryd.prog 22 #[.string s, .int .i64 (at' : Int)] w fun e w' => ReV s.data.toList (plainD (s.data.toList.drop at')) e ∧ w = w' := by
  have at0 : (0 : Int) ≤ (at' : Int) := by omega
  obtain ⟨Q, hQ⟩ : ∃ Q : Ending → Prop, Q = ReV s.data.toList (plainD (s.data.toList.drop at')) := ⟨_, rfl⟩
  rw [← hQ]
  have HQ := hide hQ
  clear hQ
  go_enter Tryd.func22, Tryd.ntmps22
  go_wp2
  go_loop [6] (fun v => ∃ k : Nat, v = .int .i64 (k : Int) ∧ at' ≤ k ∧ k ≤ s.size ∧ Hid (((s.data.toList.drop at').take (k - at')).all bareB = true)) (fun v => s.size - (intOf v).toNat)
  case atStart => exact ⟨at', rfl, Nat.le_refl _, hat, by show _ = _; rw [Nat.sub_self]; rfl⟩
  case round =>
    obtain ⟨k, rfl, hak, hk, hall⟩ := hrel
    have k0 : (0 : Int) ≤ (k : Int) := by omega
    have kI : (k : Int) ≤ (s.size : Int) := by omega
    have akI : (at' : Int) ≤ (k : Int) := by omega
    have fin : (∀ c q, s.data.toList.drop k = c :: q → wordB c = false) → Q (.returned (.tuple #[.string (s.extract at' k), .int .i64 (k : Int)])) := fun h => by
      obtain ⟨h1, h2⟩ := drop_all hak (all_mono (fun c => bare_word) hall.out) h
      rw [HQ.out]
      refine .inl ⟨(s.data.toList.drop at').take (k - at'), k, by rw [bsize]; exact hk, ?_, ?_⟩
      · unfold plainD
        rw [h1, h2, if_pos hall.out]
      · rw [show s.extract at' k = ba ((s.data.toList.drop at').take (k - at')) from ba_ext (by rw [ext_toList, ba_list])]
    by_cases hlt : k < s.size
    · have hltI : (k : Int) < (s.size : Int) := by omega
      have hd := drop_cons s k hlt
      by_cases hb : s[k] = 32
      · have hbI : ((s[k].toNat : Int) != 32) = false := by rw [hb]; rfl
        have HF := hide (fin (fun c q h => by rw [hd] at h; cases h; rw [hb]; rfl))
        clear hb fin hd hall
        go_wp2
        go_ret2
        exact ⟨HF.out, rfl⟩
      · have hbI : ((s[k].toNat : Int) != 32) = true := by
          rw [bne_iff_ne]
          intro e
          exact hb (UInt8.toNat_inj.1 (show _ = 32 by omega))
        have hwb : wordB s[k] = true := by unfold wordB; simpa using hb
        cases hba : bareB s[k] with
        | true =>
          have HA : Hid (((s.data.toList.drop at').take (k + 1 - at')).all bareB = true) := by
            show _ = _
            have hg : k - at' < (s.data.toList.drop at').length := by rw [List.length_drop, bsize]; omega
            rw [show k + 1 - at' = (k - at') + 1 by omega, List.take_succ_eq_append_getElem hg, List.all_append, hall.out]
            have h9 := drop_get s hak hlt
            rw [List.getElem?_eq_getElem hg] at h9
            have : (s.data.toList.drop at')[k - at'] = s[k] := Option.some.inj h9
            rw [this]; simp [hba]
          have hbb := hba
          unfold bareB at hbb
          simp only [Bool.and_eq_true, decide_eq_true_eq] at hbb
          have b1 : ¬ (s[k].toNat : Int) < 33 := by omega
          have b2 : ¬ (126 : Int) < (s[k].toNat : Int) := by omega
          have b3 : ((s[k].toNat : Int) == 34) = false := by rw [beq_eq_false_iff_ne]; omega
          clear hb fin hd hall hba hbb hwb
          go_wp2
          go_round
          case rel => exact ⟨k + 1, by go_num, by omega, by omega, HA⟩
          case measure => simp [intOf]; omega
        | false =>
          have HF : Hid (Q (.returned (.tuple #[.string ⟨#[]⟩, .int .i64 (-1)]))) := by
            show Q _
            rw [HQ.out]
            refine .inr ⟨?_, rfl⟩
            unfold plainD
            rw [plain_bad hall.out (drop_get s hak hlt) hwb hba]
            rfl
          have hcs : (s[k].toNat : Int) < 33 ∨ (¬ (s[k].toNat : Int) < 33 ∧ (126 : Int) < (s[k].toNat : Int)) ∨ (¬ (s[k].toNat : Int) < 33 ∧ ¬ (126 : Int) < (s[k].toNat : Int) ∧ ((s[k].toNat : Int) == 34) = true) := by
            unfold bareB at hba
            simp only [Bool.and_eq_false_iff, decide_eq_false_iff_not] at hba
            simp only [beq_iff_eq]
            omega
          clear hb fin hd hall hba hwb
          rcases hcs with b1 | ⟨b1, b2⟩ | ⟨b1, b2, b3⟩
          all_goals
            go_wp2
            go_ret2
            exact ⟨HF.out, rfl⟩
    · have hltI : ¬ (k : Int) < (s.size : Int) := by omega
      have HF := hide (fin (fun c q h => by rw [List.drop_eq_nil_of_le (by rw [bsize]; omega)] at h; cases h))
      clear fin hall
      go_wp2
      go_ret2
      exact ⟨HF.out, rfl⟩
end Go.Proofs.YtdkckbfamecipaaDoor
