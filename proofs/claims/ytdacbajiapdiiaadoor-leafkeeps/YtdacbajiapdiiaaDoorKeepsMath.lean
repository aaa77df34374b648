import Derived.Test.YtdacbajiapdiiaaDoorLfMath
namespace Go.Proofs.YtdacbajiapdiiaaDoor

theorem found_eq {l : List Pr} {key : ByteArray} (h : foundB l key = true) : (l[findN l key]'(foundB_lt h)).1 = key := by
  have := foundB_at (foundB_lt h)
  rw [h] at this
  exact of_decide_eq_true this.symm
theorem found_not {l : List Pr} {key : ByteArray} (h : foundB l key = false) (hl : findN l key < l.length) : ¬ (l[findN l key]).1 = key := by
  have := foundB_at hl
  rw [h] at this
  exact of_decide_eq_false this.symm
theorem behind_eq (l : List Pr) (key : ByteArray) : behindN l key = findN l key + (if foundB l key then 1 else 0) := by
  unfold behindN; split <;> rfl
/-- Behind the place all keys are above. -/
theorem behind_above {l : List Pr} {key : ByteArray} (hr : Rise l) (j : Nat) (hj : j < l.length) (hb : behindN l key ≤ j) : ltK key l[j].1 = true := by
  have hq : findN l key < l.length := by have := behindN_ge l key; omega
  cases hf : foundB l key with
  | true =>
    have he := found_eq hf
    have hlt : findN l key < j := by rw [behind_eq, hf] at hb; simp at hb; omega
    have := hr.lt (findN l key) j hj hlt
    rw [he] at this
    exact this
  | false =>
    have hne := found_not hf hq
    have hge := findN_at l key hq
    have hlt : ltK key (l[findN l key]).1 = true := by
      cases h : ltK key (l[findN l key]).1 with
      | true => rfl
      | false => exact absurd (ltK_total hge h) hne
    by_cases he : j = findN l key
    · subst he; exact hlt
    · have : findN l key < j := by have := behindN_ge l key; omega
      exact ltK_trans hlt (hr.lt (findN l key) j hj this)
theorem setL_len (l : List Pr) (key value : ByteArray) : (setL l key value).length = findN l key + 1 + (l.length - behindN l key) := by
  have := findN_le l key
  simp only [setL, List.length_append, List.length_cons, List.length_take, List.length_drop]; omega
theorem dropL_len (l : List Pr) (key : ByteArray) : (dropL l key).length = findN l key + (l.length - behindN l key) := by
  have := findN_le l key
  simp only [dropL, List.length_append, List.length_take, List.length_drop]; omega
theorem setL_at (l : List Pr) (key value : ByteArray) : ∃ h : findN l key < (setL l key value).length, (setL l key value)[findN l key] = (key, value) := by
  have hq := findN_le l key
  refine ⟨by rw [setL_len]; omega, ?_⟩
  have : (setL l key value)[findN l key]? = some (key, value) := by
    unfold setL
    rw [List.getElem?_append_right (by rw [List.length_take]; omega), List.length_take, show findN l key - min (findN l key) l.length = 0 by omega]
    rfl
  rw [List.getElem?_eq_getElem (by rw [setL_len]; omega)] at this
  exact Option.some.inj this
theorem setL_below (l : List Pr) (key value : ByteArray) (j : Nat) (hj : j < findN l key) (h : j < (setL l key value).length) : ltK ((setL l key value)[j]).1 key = true := by
  have hq := findN_le l key
  have : (setL l key value)[j]? = some (l[j]'(by omega)) := by
    unfold setL
    rw [List.getElem?_append_left (by rw [List.length_take]; omega), List.getElem?_take, if_pos hj, List.getElem?_eq_getElem]
  rw [List.getElem?_eq_getElem h] at this
  rw [Option.some.inj this]
  exact findN_below l key j hj (by omega)
theorem set_find (l : List Pr) (key value : ByteArray) : findN (setL l key value) key = findN l key ∧ foundB (setL l key value) key = true := by
  obtain ⟨h, he⟩ := setL_at l key value
  have e : findN (setL l key value) key = findN l key := findN_eq h (fun j hj => setL_below l key value j hj (by omega)) (by rw [he]; exact ltK_irrefl key)
  refine ⟨e, ?_⟩
  rw [foundB_at (by rw [e]; exact h)]
  simp only [e, he]
  simp
theorem set_drop (l : List Pr) (key value : ByteArray) : dropL (setL l key value) key = dropL l key := by
  obtain ⟨h1, h2⟩ := set_find l key value
  have hb : behindN (setL l key value) key = findN l key + 1 := by rw [behind_eq, h1, h2]; rfl
  have hq := findN_le l key
  unfold dropL
  rw [h1, hb]
  have ht : (setL l key value).take (findN l key) = l.take (findN l key) := by
    unfold setL
    rw [List.take_append_of_le_length (by rw [List.length_take]; omega), List.take_take, Nat.min_self]
  have hd : (setL l key value).drop (findN l key + 1) = l.drop (behindN l key) := by
    unfold setL
    have hl : (l.take (findN l key)).length = findN l key := by rw [List.length_take]; omega
    rw [← List.drop_drop, List.drop_left' hl]
    rfl
  rw [ht, hd]
theorem dropL_get {l : List Pr} {key : ByteArray} (j : Nat) (h : j < (dropL l key).length) : (j < findN l key ∧ ∃ hj : j < l.length, (dropL l key)[j] = l[j]) ∨ (findN l key ≤ j ∧ ∃ hj : behindN l key + (j - findN l key) < l.length, (dropL l key)[j] = l[behindN l key + (j - findN l key)]) := by
  have hq := findN_le l key
  have hln := dropL_len l key
  by_cases hj : j < findN l key
  · refine .inl ⟨hj, by omega, ?_⟩
    have : (dropL l key)[j]? = some (l[j]'(by omega)) := by
      unfold dropL
      rw [List.getElem?_append_left (by rw [List.length_take]; omega), List.getElem?_take, if_pos hj, List.getElem?_eq_getElem]
    rw [List.getElem?_eq_getElem h] at this
    exact Option.some.inj this
  · have hb : behindN l key + (j - findN l key) < l.length := by omega
    refine .inr ⟨by omega, hb, ?_⟩
    have : (dropL l key)[j]? = some l[behindN l key + (j - findN l key)] := by
      unfold dropL
      rw [List.getElem?_append_right (by rw [List.length_take]; omega), List.length_take, show min (findN l key) l.length = findN l key by omega, List.getElem?_drop, List.getElem?_eq_getElem]
    rw [List.getElem?_eq_getElem h] at this
    exact Option.some.inj this
/-- The key is not in what is left. -/
theorem drop_find {l : List Pr} {key : ByteArray} (hr : Rise l) : foundB (dropL l key) key = false := by
  cases hf : foundB (dropL l key) key with
  | false => rfl
  | true =>
    exfalso
    have he := found_eq hf
    rcases dropL_get _ (foundB_lt hf) with ⟨h1, h2, h3⟩ | ⟨h1, h2, h3⟩
    · rw [h3] at he
      have := findN_below l key _ h1 h2
      rw [he, ltK_irrefl] at this; cases this
    · rw [h3] at he
      have := behind_above (key := key) hr _ h2 (by omega)
      rw [he, ltK_irrefl] at this; cases this
theorem drop_drop {l : List Pr} {key : ByteArray} (hr : Rise l) : dropL (dropL l key) key = dropL l key := by
  have h := drop_find (l := l) (key := key) hr
  have hb : behindN (dropL l key) key = findN (dropL l key) key := by rw [behind_eq, h]; rfl
  have e : ∀ m : List Pr, dropL m key = m.take (findN m key) ++ m.drop (behindN m key) := fun _ => rfl
  rw [e (dropL l key), hb, List.take_append_drop]
theorem set_rise {l : List Pr} {key value : ByteArray} (hr : Rise l) : Rise (setL l key value) := by
  obtain ⟨hat, he⟩ := setL_at l key value
  have hq := findN_le l key
  have hln := setL_len l key value
  intro i hi
  have get : ∀ j (hj : j < (setL l key value).length), findN l key < j → ∃ hb : behindN l key + (j - (findN l key + 1)) < l.length, (setL l key value)[j] = l[behindN l key + (j - (findN l key + 1))] := fun j hj hlt => by
    have hb : behindN l key + (j - (findN l key + 1)) < l.length := by omega
    refine ⟨hb, ?_⟩
    have : (setL l key value)[j]? = some l[behindN l key + (j - (findN l key + 1))] := by
      unfold setL
      rw [List.getElem?_append_right (by rw [List.length_take]; omega), List.length_take, show min (findN l key) l.length = findN l key by omega, show j - findN l key = (j - (findN l key + 1)) + 1 by omega, List.getElem?_cons_succ, List.getElem?_drop, List.getElem?_eq_getElem]
    rw [List.getElem?_eq_getElem hj] at this
    exact Option.some.inj this
  rcases Nat.lt_trichotomy (i + 1) (findN l key) with h | h | h
  · have g : ∀ j (hj : j < findN l key) (hj2 : j < (setL l key value).length), (setL l key value)[j] = l[j]'(by omega) := fun j hj hj2 => by
      have : (setL l key value)[j]? = some (l[j]'(by omega)) := by
        unfold setL
        rw [List.getElem?_append_left (by rw [List.length_take]; omega), List.getElem?_take, if_pos hj, List.getElem?_eq_getElem]
      rw [List.getElem?_eq_getElem hj2] at this
      exact Option.some.inj this
    rw [g i (by omega) (by omega), g (i + 1) h hi]
    exact hr i (by omega)
  · have h2 := setL_below l key value i (by omega) (by omega)
    have : ((setL l key value)[i + 1]).1 = key := by simp only [h, he]
    rw [this]; exact h2
  · by_cases hi2 : i = findN l key
    · have : ((setL l key value)[i]).1 = key := by simp only [hi2, he]
      obtain ⟨hb, hg⟩ := get (i + 1) hi h
      rw [this, hg]
      exact behind_above hr _ hb (by omega)
    · obtain ⟨hb1, hg1⟩ := get i (by omega) (by omega)
      obtain ⟨hb2, hg2⟩ := get (i + 1) hi h
      rw [hg1, hg2]
      exact hr.lt _ _ hb2 (by omega)

end Go.Proofs.YtdacbajiapdiiaaDoor
