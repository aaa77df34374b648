import Derived.Test.YtddhjnfcbpookaaDoorQItem
import Derived.Test.YtddhjnfcbpookaaDoorQMatch2
namespace Go.Proofs.YtddhjnfcbpookaaDoor
open Go.RowKit

theorem ba_app (x y : List UInt8) : (⟨x.toArray⟩ : ByteArray) ++ ⟨y.toArray⟩ = ⟨(x ++ y).toArray⟩ := by
  apply ByteArray.ext
  rw [ByteArray.data_append]
  simp
theorem itemL_eq (x : It) : itemL x = if x.kind = 2 then (if x.num = 1 then [116, 114, 117, 101] else [102, 97, 108, 115, 101]) else if x.kind = 3 then Lib.itoa x.num else if x.kind = 4 then quotedL x.text else if x.kind = 5 then 91 :: (listL x.list ++ [93]) else [110, 117, 108, 108] := by
  cases x
  rw [itemL]
  rfl
theorem listL_len : ∀ (l : List It), (∀ y ∈ l, (itemL y).length + 2 ≤ 27 * y.cnt) → (listL l).length ≤ 27 * cntL l
  | [], _ => by simp [listL]
  | x :: l, h => by
    have hx := h x (by simp)
    have ht : ∀ (l : List It), (∀ y ∈ l, (itemL y).length + 2 ≤ 27 * y.cnt) → (tailL l).length ≤ 27 * cntL l := by
      intro l
      induction l with
      | nil => intro _; simp [tailL]
      | cons z l ih =>
        intro h
        have h1 := h z (by simp)
        have h2 := ih fun y hy => h y (by simp [hy])
        have e : cntL (z :: l) = cntL [z] + cntL l := by rw [← cntL_append]; rfl
        rw [e, cnt_one, tailL]
        simp only [List.length_cons, List.length_append]
        omega
    have h2 := ht l fun y hy => h y (by simp [hy])
    have e : cntL (x :: l) = cntL [x] + cntL l := by rw [← cntL_append]; rfl
    rw [e, cnt_one, listL, List.length_append]
    omega
theorem item_len (x : It) (hok : x.Ok) (h : ∀ y ∈ x.list, (itemL y).length + 2 ≤ 27 * y.cnt) : (itemL x).length + 2 ≤ 27 * x.cnt := by
  have hl := listL_len x.list h
  have hc := It.cnt_eq x
  have hi := Lib.itoa_length_le x.num hok.n1 hok.n2
  have hq : (quotedL x.text).length ≤ 4 * x.text.size + 2 := by
    have := quoL_len x.text.data.toList
    rw [q_len] at this
    unfold quotedL
    simp only [List.length_cons, List.length_append, List.length_nil]; omega
  rw [itemL_eq]
  split
  · split <;> (simp only [List.length_cons, List.length_nil]; omega)
  split
  · omega
  split
  · omega
  split
  · simp only [List.length_cons, List.length_append, List.length_nil]; omega
  · simp only [List.length_cons, List.length_nil]; omega
theorem its_len {w : World} {F : Nat → Prop} {v : Value} {l : List It} (h : ItsAt w F v l) : ∀ y ∈ l, (itemL y).length + 2 ≤ 27 * y.cnt := by
  induction h with
  | mk a g off cap l vs hlen ha hok h0 h1 h2 h3 hin ih =>
    intro y hy
    obtain ⟨i, hi, rfl⟩ := List.getElem_of_mem hy
    exact item_len _ (hok i hi) (ih i hi)
theorem cnt_take (l : List It) (j : Nat) : cntL (l.take j) ≤ cntL l := cntL_take_le l j
set_option maxHeartbeats 8000000 in
set_option maxRecDepth 100000 in
theorem item_any (k : Nat) : ∀ (x : It) (u : Value) (w : World), SizeOf.sizeOf x.list ≤ k → x.Ok → ItsAt w anyB u x.list → x.cnt ≤ 16777216 → ItoAt w →
    Calls Tryd.prog 33 #[.agg #[.int .i64 x.kind, .int .i64 x.num, .string x.text, u]] w fun e w' => e = .returned (.string ⟨(itemL x).toArray⟩) ∧ Below w.heap.size w w' := by
  induction k with
  | zero => intro x u w hk; cases hx : x.list <;> rw [hx] at hk <;> simp at hk
  | succ k ih =>
    intro x u w hk hok hu hcnt hI
    obtain ⟨r, hr⟩ : ∃ r : ByteArray, r = ⟨(itemL x).toArray⟩ := ⟨_, rfl⟩
    rw [← hr]
    have HR : Hid (r = ⟨(if x.kind = 2 then (if x.num = 1 then [116, 114, 117, 101] else [102, 97, 108, 115, 101]) else if x.kind = 3 then Lib.itoa x.num else if x.kind = 4 then quotedL x.text else if x.kind = 5 then 91 :: (listL x.list ++ [93]) else [110, 117, 108, 108]).toArray⟩) := by show _ = _; rw [hr, itemL_eq]
    have IH : Hid (∀ (x : It) (u : Value) (w : World), SizeOf.sizeOf x.list ≤ k → x.Ok → ItsAt w anyB u x.list → x.cnt ≤ 16777216 → ItoAt w → Calls Tryd.prog 33 #[.agg #[.int .i64 x.kind, .int .i64 x.num, .string x.text, u]] w fun e w' => e = .returned (.string ⟨(itemL x).toArray⟩) ∧ Below w.heap.size w w') := ih
    obtain ⟨ua, uc, huf⟩ := hu.form
    subst huf
    have q1 := below_new w (.cells #[.int .i64 x.kind, .int .i64 x.num, .string x.text, .slice ua x.list.length uc] 59)
    have x1 := RowAt.new w #[.int .i64 x.kind, .int .i64 x.num, .string x.text, .slice ua x.list.length uc] 59
    have hce := It.cnt_eq x
    have hlb := hu.len_le
    generalize hW1 : w.alloc (.cells #[.int .i64 x.kind, .int .i64 x.num, .string x.text, .slice ua x.list.length uc] 59) = W1 at q1 x1
    have HW := hide hW1
    have HX := hide x1
    have HU := hide (hu.keep q1)
    have HB := hide q1
    have HI := hide (hI.keep q1)
    have HIT := hide (HI.out W1 x.num (Below.refl _ _) hok.n1 hok.n2)
    have HQT := hide (quoted_any x.text W1 (by omega))
    have HCN : Hid (cntL x.list ≤ 16777216) := by show _ ≤ _; omega
    have HKS : Hid (SizeOf.sizeOf x.list ≤ k + 1) := hk
    have c0 := x1.cell 0 (by simp)
    have c1 := x1.cell 1 (by simp)
    have c2 := x1.cell 2 (by simp)
    have c3 := x1.cell 3 (by simp)
    simp only [List.getElem_toArray, List.getElem_cons_zero, List.getElem_cons_succ] at c0 c1 c2 c3
    rw [← hW1] at c0 c1 c2 c3
    generalize x.kind = xk at *
    generalize x.num = xn at *
    generalize x.text = xt at *
    generalize x.list = xl at *
    clear hr ih hu hI q1 x1 hW1 hce hcnt hok hk
    go_enter Tryd.func33, Tryd.ntmps33
    by_cases k2 : xk = 2
    · subst k2
      by_cases n1 : xn = 1
      · have e1 : (xn == 1) = true := by simp [n1]
        have HE : Hid (r = ⟨#[116, 114, 117, 101]⟩) := by show _ = _; rw [HR.out, if_pos rfl, if_pos n1]
        clear HR n1
        go_wp2
        go_ret
        exact ⟨by rw [HE.out]; rfl, by rw [HW.out]; exact HB.out⟩
      · have e1 : (xn == 1) = false := by simp [n1]
        have HE : Hid (r = ⟨#[102, 97, 108, 115, 101]⟩) := by show _ = _; rw [HR.out, if_pos rfl, if_neg n1]
        clear HR n1
        go_wp2
        go_ret
        exact ⟨by rw [HE.out]; rfl, by rw [HW.out]; exact HB.out⟩
    have b2 : (xk == 2) = false := by simp [k2]
    by_cases k3 : xk = 3
    · subst k3
      have HE : Hid (r = itoaB xn) := by show _ = _; rw [HR.out, if_neg k2, if_pos rfl]; rfl
      clear HR
      go_wp2_with fail
      rw [HW.out]
      refine HIT.out.mono ?_
      rintro e w2 ⟨rfl, hb⟩
      have HB2 := hide (Below.next HB.out hb)
      clear hb HIT
      go_wp2
      go_ret
      exact ⟨by rw [HE.out]; rfl, HB2.out⟩
    have b3 : (xk == 3) = false := by simp [k3]
    by_cases k4 : xk = 4
    · subst k4
      have HE : Hid (r = ⟨(quotedL xt).toArray⟩) := by show _ = _; rw [HR.out, if_neg k2, if_neg k3, if_pos rfl]
      clear HR
      go_wp2_with fail
      rw [HW.out]
      refine HQT.out.mono ?_
      rintro e w2 ⟨rfl, hb⟩
      have HB2 := hide (Below.next HB.out hb)
      clear hb HQT
      go_wp2
      go_ret
      exact ⟨by rw [HE.out]; rfl, HB2.out⟩
    have b4 : (xk == 4) = false := by simp [k4]
    by_cases k5 : xk = 5
    · subst k5
      have HE : Hid (r = ⟨(91 :: (listL xl ++ [93])).toArray⟩) := by show _ = _; rw [HR.out, if_neg k2, if_neg k3, if_neg k4, if_pos rfl]
      clear HR HIT HQT
      go_wp2_with fail
      rw [HW.out] at c0 c1 c2 c3 ⊢
      go_loopw [3, 4] (fun sv iv wr => ∃ (j : Nat) (b : ByteArray), sv = .string b ∧ iv = .int .i64 (j : Int) ∧ j ≤ xl.length ∧ Hid (b = ⟨(91 :: listL (xl.take j)).toArray⟩) ∧ Below W1.heap.size W1 wr) (fun _ iv _ => xl.length - (intOf iv).toNat)
      case atStart => exact ⟨0, ⟨#[91]⟩, rfl, rfl, Nat.zero_le _, by show _ = _; simp [listL], Below.refl _ _⟩
      case round =>
        obtain ⟨j, b, rfl, rfl, hj, hb, hbl⟩ := hrel
        have d3 := cell_below hbl c3
        have HBL := hide hbl
        have hbs : b.size ≤ 500000000 := by
          have h1 := listL_len (xl.take j) fun y hy => its_len HU.out y (List.mem_of_mem_take hy)
          have h2 := cnt_take xl j
          have h3 := HCN.out
          have h4 : b.size = (91 :: listL (xl.take j)).length := by rw [hb.out]; rfl
          rw [h4, List.length_cons]; omega
        by_cases hlt : j < xl.length
        · have hltI : (j : Int) < (xl.length : Int) := by omega
          have e0 : (0 : Int) ≤ (j : Int) := by omega
          obtain ⟨g, off, v, hua, hyok, s0, s1, s2, s3, hin⟩ := (HU.out.keep hbl).get j hlt
          have hsz := list_lt_of_get hlt
          have hcm := cntL_mem (List.getElem_mem hlt)
          have HTK : Hid (listL (xl.take (j + 1)) = listL (xl.take j) ++ (if xl.take j = [] then [] else [44, 32]) ++ itemL (xl[j]'hlt)) := by
            show _ = _
            rw [List.take_succ_eq_append_getElem hlt, listL_snoc]
          obtain ⟨y, hy⟩ : ∃ y, y = xl[j]'hlt := ⟨_, rfl⟩
          rw [← hy] at s0 s1 s2 hin hsz hcm HTK hyok
          have HJ : Hid (j + 1 ≤ xl.length) := by show _ ≤ _; omega
          subst hua
          have HY := hide (fun W (hW : Below wr.heap.size wr W) => IH.out y v W (by have := HKS.out; omega) hyok (hin.keep hW) (by have := HCN.out; omega) ((HI.out.keep hbl).keep hW))
          obtain ⟨va, vc, hvf⟩ := hin.form
          subst hvf
          have hyl : (itemL y).length ≤ 500000000 := by
            have h1 := item_len y hyok (its_len hin)
            have h3 := HCN.out
            omega
          obtain ⟨iy, hiy⟩ : ∃ iy : ByteArray, iy = ⟨(itemL y).toArray⟩ := ⟨_, rfl⟩
          have hiys : iy.size ≤ 500000000 := by rw [hiy]; exact hyl
          rw [← hiy] at HY
          have HNB : Hid ((if j = 0 then b else b ++ ⟨#[44, 32]⟩) ++ iy = ⟨(91 :: listL (xl.take (j + 1))).toArray⟩) := by
            show _ = _
            rw [HTK.out, hb.out, hiy]
            by_cases hj0 : j = 0
            · subst hj0
              rw [if_pos rfl, ba_app]; simp
            · have hne : ¬ xl.take j = [] := fun e => by
                have := congrArg List.length e
                rw [List.length_take, List.length_nil] at this; omega
              rw [if_neg hj0, if_neg hne, show (⟨#[44, 32]⟩ : ByteArray) = ⟨[(44 : UInt8), 32].toArray⟩ from rfl, ba_app, ba_app]; simp
          clear hin hsz hcm hyok hbl c0 c1 c2 c3 HB hiy hyl HTK hb hy
          by_cases hj0 : j = 0
          · have hjI : ¬ (0 : Int) < (j : Int) := by omega
            rw [if_pos hj0] at HNB
            clear hj0
            go_wp2_with fail
            refine (HY.out wr (Below.refl _ _)).mono ?_
            rintro e w5 ⟨rfl, hb5⟩
            have HB5 := hide (Below.next HBL.out hb5)
            clear hb5 HY d3 s0 s1 s2 s3
            go_wp2
            go_roundw
            case rel => exact ⟨j + 1, b ++ iy, rfl, by go_num, HJ.out, HNB.out, HB5.out⟩
            case measure => simp [intOf]; omega
          · have hjI : (0 : Int) < (j : Int) := by omega
            rw [if_neg hj0] at HNB
            have hbs2 : (b ++ ⟨#[44, 32]⟩ : ByteArray).size = b.size + 2 := by rw [ByteArray.size_append]; rfl
            go_wp2_with fail
            refine (HY.out wr (Below.refl _ _)).mono ?_
            rintro e w5 ⟨rfl, hb5⟩
            have HB5 := hide (Below.next HBL.out hb5)
            clear hb5 HY d3 s0 s1 s2 s3
            go_wp2
            go_roundw
            case rel => exact ⟨j + 1, b ++ (⟨#[44, 32]⟩ : ByteArray) ++ iy, rfl, by go_num, HJ.out, HNB.out, HB5.out⟩
            case measure => simp [intOf]; omega
        · have hltI : ¬ (j : Int) < (xl.length : Int) := by omega
          have HF : Hid (r = b ++ ⟨#[93]⟩) := by
            show _ = _
            rw [HE.out, hb.out, List.take_of_length_le (by omega), show (⟨#[93]⟩ : ByteArray) = ⟨[(93 : UInt8)].toArray⟩ from rfl, ba_app]
            rfl
          have HBE := hide (Below.next HB.out hbl)
          clear hb hbl HE c0 c1 c2 c3
          go_wp2
          go_ret
          exact ⟨by rw [HF.out]; rfl, HBE.out⟩
    have b5 : (xk == 5) = false := by simp [k5]
    have HE : Hid (r = ⟨#[110, 117, 108, 108]⟩) := by show _ = _; rw [HR.out, if_neg k2, if_neg k3, if_neg k4, if_neg k5]
    clear HR
    go_wp2
    go_ret
    exact ⟨by rw [HE.out]; rfl, by rw [HW.out]; exact HB.out⟩
end Go.Proofs.YtddhjnfcbpookaaDoor
