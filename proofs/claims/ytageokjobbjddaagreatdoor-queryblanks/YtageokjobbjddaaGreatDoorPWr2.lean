import Derived.Test.YtageokjobbjddaaGreatDoorGRG
namespace Go.Proofs.YtageokjobbjddaaGreatDoor
open Go.RowKit

set_option maxHeartbeats 2000000 in
theorem pbeg_any (c : UInt8) (w : World) : Calls Tryz.prog 52 #[.int .u8 (c.toNat : Int)] w fun e w' => e = .returned (.bool (letterB c)) ∧ w = w' := by
  obtain ⟨r, hr⟩ : ∃ r, r = letterB c := ⟨_, rfl⟩
  rw [← hr]
  unfold letterB at hr
  have HR := hide hr
  clear hr
  obtain ⟨n, hn⟩ : ∃ n, n = c.toNat := ⟨_, rfl⟩
  rw [← hn] at HR ⊢
  clear hn
  by_cases h1 : 97 ≤ n
  · have h1I : (97 : Int) ≤ (n : Int) := by omega
    by_cases h2 : n ≤ 122
    · have h2I : (n : Int) ≤ 122 := by omega
      have HE : Hid (r = true) := by show _ = _; rw [HR.out]; simp [h1, h2]
      clear HR
      go_enter Tryz.func52, Tryz.ntmps52
      go_wp2
      go_ret
      exact ⟨by rw [HE.out]; rfl, rfl⟩
    · have h2I : ¬ (n : Int) ≤ 122 := by omega
      have h3I : (65 : Int) ≤ (n : Int) := by omega
      have h4I : ¬ (n : Int) ≤ 90 := by omega
      have h5I : ((n : Int) == 95) = false := by rw [beq_eq_false_iff_ne]; omega
      have HE : Hid (r = false) := by show _ = _; rw [HR.out, decide_eq_false_iff_not]; omega
      clear HR
      go_enter Tryz.func52, Tryz.ntmps52
      go_wp2
      go_ret
      exact ⟨by rw [HE.out]; rfl, rfl⟩
  · have h1I : ¬ (97 : Int) ≤ (n : Int) := by omega
    by_cases h3 : 65 ≤ n
    · have h3I : (65 : Int) ≤ (n : Int) := by omega
      by_cases h4 : n ≤ 90
      · have h4I : (n : Int) ≤ 90 := by omega
        have HE : Hid (r = true) := by show _ = _; rw [HR.out]; simp [h3, h4]
        clear HR
        go_enter Tryz.func52, Tryz.ntmps52
        go_wp2
        go_ret
        exact ⟨by rw [HE.out]; rfl, rfl⟩
      · have h4I : ¬ (n : Int) ≤ 90 := by omega
        by_cases h5 : n = 95
        · have h5I : ((n : Int) == 95) = true := by rw [h5]; rfl
          have HE : Hid (r = true) := by show _ = _; rw [HR.out]; simp [h5]
          clear HR
          go_enter Tryz.func52, Tryz.ntmps52
          go_wp2
          go_ret
          exact ⟨by rw [HE.out]; rfl, rfl⟩
        · have h5I : ((n : Int) == 95) = false := by rw [beq_eq_false_iff_ne]; omega
          have HE : Hid (r = false) := by show _ = _; rw [HR.out, decide_eq_false_iff_not]; omega
          clear HR
          go_enter Tryz.func52, Tryz.ntmps52
          go_wp2
          go_ret
          exact ⟨by rw [HE.out]; rfl, rfl⟩
    · have h3I : ¬ (65 : Int) ≤ (n : Int) := by omega
      have h5I : ((n : Int) == 95) = false := by rw [beq_eq_false_iff_ne]; omega
      have HE : Hid (r = false) := by show _ = _; rw [HR.out, decide_eq_false_iff_not]; omega
      clear HR
      go_enter Tryz.func52, Tryz.ntmps52
      go_wp2
      go_ret
      exact ⟨by rw [HE.out]; rfl, rfl⟩
set_option maxHeartbeats 4000000 in
set_option maxRecDepth 100000 in
theorem pres_any (s : ByteArray) (w : World) : Calls Tryz.prog 54 #[.string s] w fun e w' => e = .returned (.bool (resB s)) ∧ w = w' := by
  obtain ⟨r, hr⟩ : ∃ r, r = resB s := ⟨_, rfl⟩
  rw [← hr]
  have HT : Hid (∀ x ∈ resL, x = s → r = true) := fun x hx h => by
    rw [hr, resB, List.any_eq_true]
    exact ⟨x, hx, decide_eq_true h⟩
  have HN : Hid ((∀ x ∈ resL, x ≠ s) → r = false) := fun h => by
    rw [hr, resB, List.any_eq_false]
    intro x hx
    simp [h x hx]
  clear hr
  by_cases h0 : s = ⟨#[102, 114, 111, 109]⟩
  · have HE : Hid (r = true) := HT.out ⟨#[102, 114, 111, 109]⟩ (by simp [resL]) h0.symm
    clear HT HN
    subst h0
    go_enter Tryz.func54, Tryz.ntmps54
    go_wp2
    go_ret
    exact ⟨by rw [HE.out]; rfl, rfl⟩
  by_cases h1 : s = ⟨#[119, 104, 101, 114, 101]⟩
  · have HE : Hid (r = true) := HT.out ⟨#[119, 104, 101, 114, 101]⟩ (by simp [resL]) h1.symm
    clear HT HN
    subst h1
    go_enter Tryz.func54, Tryz.ntmps54
    go_wp2
    go_ret
    exact ⟨by rw [HE.out]; rfl, rfl⟩
  by_cases h2 : s = ⟨#[97, 110, 100]⟩
  · have HE : Hid (r = true) := HT.out ⟨#[97, 110, 100]⟩ (by simp [resL]) h2.symm
    clear HT HN
    subst h2
    go_enter Tryz.func54, Tryz.ntmps54
    go_wp2
    go_ret
    exact ⟨by rw [HE.out]; rfl, rfl⟩
  by_cases h3 : s = ⟨#[111, 114, 100, 101, 114]⟩
  · have HE : Hid (r = true) := HT.out ⟨#[111, 114, 100, 101, 114]⟩ (by simp [resL]) h3.symm
    clear HT HN
    subst h3
    go_enter Tryz.func54, Tryz.ntmps54
    go_wp2
    go_ret
    exact ⟨by rw [HE.out]; rfl, rfl⟩
  by_cases h4 : s = ⟨#[98, 121]⟩
  · have HE : Hid (r = true) := HT.out ⟨#[98, 121]⟩ (by simp [resL]) h4.symm
    clear HT HN
    subst h4
    go_enter Tryz.func54, Tryz.ntmps54
    go_wp2
    go_ret
    exact ⟨by rw [HE.out]; rfl, rfl⟩
  by_cases h5 : s = ⟨#[102, 97, 108, 108, 105, 110, 103]⟩
  · have HE : Hid (r = true) := HT.out ⟨#[102, 97, 108, 108, 105, 110, 103]⟩ (by simp [resL]) h5.symm
    clear HT HN
    subst h5
    go_enter Tryz.func54, Tryz.ntmps54
    go_wp2
    go_ret
    exact ⟨by rw [HE.out]; rfl, rfl⟩
  by_cases h6 : s = ⟨#[108, 105, 109, 105, 116]⟩
  · have HE : Hid (r = true) := HT.out ⟨#[108, 105, 109, 105, 116]⟩ (by simp [resL]) h6.symm
    clear HT HN
    subst h6
    go_enter Tryz.func54, Tryz.ntmps54
    go_wp2
    go_ret
    exact ⟨by rw [HE.out]; rfl, rfl⟩
  by_cases h7 : s = ⟨#[110, 117, 108, 108]⟩
  · have HE : Hid (r = true) := HT.out ⟨#[110, 117, 108, 108]⟩ (by simp [resL]) h7.symm
    clear HT HN
    subst h7
    go_enter Tryz.func54, Tryz.ntmps54
    go_wp2
    go_ret
    exact ⟨by rw [HE.out]; rfl, rfl⟩
  by_cases h8 : s = ⟨#[116, 114, 117, 101]⟩
  · have HE : Hid (r = true) := HT.out ⟨#[116, 114, 117, 101]⟩ (by simp [resL]) h8.symm
    clear HT HN
    subst h8
    go_enter Tryz.func54, Tryz.ntmps54
    go_wp2
    go_ret
    exact ⟨by rw [HE.out]; rfl, rfl⟩
  by_cases h9 : s = ⟨#[102, 97, 108, 115, 101]⟩
  · have HE : Hid (r = true) := HT.out ⟨#[102, 97, 108, 115, 101]⟩ (by simp [resL]) h9.symm
    clear HT HN
    subst h9
    go_enter Tryz.func54, Tryz.ntmps54
    go_wp2
    go_ret
    exact ⟨by rw [HE.out]; rfl, rfl⟩
  have HE : Hid (r = false) := HN.out (by
    intro x hx e
    simp only [resL, List.mem_cons, List.not_mem_nil, or_false] at hx
    rcases hx with rfl | rfl | rfl | rfl | rfl | rfl | rfl | rfl | rfl | rfl
    · exact h0 e.symm
    · exact h1 e.symm
    · exact h2 e.symm
    · exact h3 e.symm
    · exact h4 e.symm
    · exact h5 e.symm
    · exact h6 e.symm
    · exact h7 e.symm
    · exact h8 e.symm
    · exact h9 e.symm)
  have g0 : (s.toList == [102, 114, 111, 109]) = false := by have h := str_ne h0; rwa [ByteArray.toList_eq ⟨#[102, 114, 111, 109]⟩] at h
  have g1 : (s.toList == [119, 104, 101, 114, 101]) = false := by have h := str_ne h1; rwa [ByteArray.toList_eq ⟨#[119, 104, 101, 114, 101]⟩] at h
  have g2 : (s.toList == [97, 110, 100]) = false := by have h := str_ne h2; rwa [ByteArray.toList_eq ⟨#[97, 110, 100]⟩] at h
  have g3 : (s.toList == [111, 114, 100, 101, 114]) = false := by have h := str_ne h3; rwa [ByteArray.toList_eq ⟨#[111, 114, 100, 101, 114]⟩] at h
  have g4 : (s.toList == [98, 121]) = false := by have h := str_ne h4; rwa [ByteArray.toList_eq ⟨#[98, 121]⟩] at h
  have g5 : (s.toList == [102, 97, 108, 108, 105, 110, 103]) = false := by have h := str_ne h5; rwa [ByteArray.toList_eq ⟨#[102, 97, 108, 108, 105, 110, 103]⟩] at h
  have g6 : (s.toList == [108, 105, 109, 105, 116]) = false := by have h := str_ne h6; rwa [ByteArray.toList_eq ⟨#[108, 105, 109, 105, 116]⟩] at h
  have g7 : (s.toList == [110, 117, 108, 108]) = false := by have h := str_ne h7; rwa [ByteArray.toList_eq ⟨#[110, 117, 108, 108]⟩] at h
  have g8 : (s.toList == [116, 114, 117, 101]) = false := by have h := str_ne h8; rwa [ByteArray.toList_eq ⟨#[116, 114, 117, 101]⟩] at h
  have g9 : (s.toList == [102, 97, 108, 115, 101]) = false := by have h := str_ne h9; rwa [ByteArray.toList_eq ⟨#[102, 97, 108, 115, 101]⟩] at h
  clear HT HN h0 h1 h2 h3 h4 h5 h6 h7 h8 h9
  go_enter Tryz.func54, Tryz.ntmps54
  go_wp2
  go_ret
  exact ⟨by rw [HE.out]; rfl, rfl⟩
set_option maxHeartbeats 2000000 in
set_option maxRecDepth 100000 in
theorem pinw_any (c : UInt8) (w : World) : Calls Tryz.prog 53 #[.int .u8 (c.toNat : Int)] w fun e w' => e = .returned (.bool (inwB c)) ∧ w = w' := by
  have HL := hide (pbeg_any c w)
  have HD := hide (pdigit_any c w)
  obtain ⟨r, hr⟩ : ∃ r, r = inwB c := ⟨_, rfl⟩
  rw [← hr]
  unfold inwB at hr
  have HR := hide hr
  generalize letterB c = a at HL HR
  generalize digitB c = b at HD HR
  clear hr
  go_enter Tryz.func53, Tryz.ntmps53
  go_wp2_with fail
  refine HL.out.mono ?_
  rintro e w' ⟨rfl, rfl⟩
  cases a with
  | true =>
    go_wp2_with fail
    go_ret
    exact ⟨by rw [HR.out]; rfl, rfl⟩
  | false =>
    go_wp2_with fail
    refine HD.out.mono ?_
    rintro e w' ⟨rfl, rfl⟩
    go_wp2
    go_ret
    exact ⟨by rw [HR.out]; rfl, rfl⟩
set_option maxHeartbeats 2000000 in
set_option maxRecDepth 100000 in
theorem pplain_any (s : ByteArray) (w : World) (h0 : 0 < s.size) (hs : s.size ≤ 1000000) : Calls Tryz.prog 40 #[.string s] w fun e w' => e = .returned (.bool (plainB s)) ∧ w = w' := by
  obtain ⟨r, hr⟩ : ∃ r, r = plainB s := ⟨_, rfl⟩
  rw [← hr]
  rw [plain_first s h0, ← leadN_all] at hr
  have HL := hide (pbeg_any s[0] w)
  have HN := hide (lenof_any 53 inwB Tryz.call53 (fun c W => pinw_any c W) s w (by omega))
  have HRS := hide (pres_any s w)
  have HLE := leadN_le inwB s
  generalize leadN inwB s = m at HN hr HLE
  generalize letterB s[0] = a at HL hr
  generalize resB s = b at HRS hr
  have HR := hide hr
  clear hr
  have z0 : (0 : Int) < (s.size : Int) := by omega
  go_enter Tryz.func40, Tryz.ntmps40
  go_wp2_with fail
  refine HL.out.mono ?_
  rintro e w' ⟨rfl, rfl⟩
  cases a with
  | false =>
    go_wp2_with fail
    go_ret
    exact ⟨by rw [HR.out]; rfl, rfl⟩
  | true =>
    go_wp2_with fail
    refine HN.out.mono ?_
    rintro e w' ⟨rfl, rfl⟩
    by_cases hm : m = s.size
    · have hmI : ((m : Int) == (s.size : Int)) = true := by simp; omega
      have HF : Hid (r = !b) := by show _ = _; rw [HR.out, decide_eq_true hm]; simp
      clear HR hm
      go_wp2_with fail
      refine HRS.out.mono ?_
      rintro e w' ⟨rfl, rfl⟩
      go_wp2
      go_ret
      exact ⟨by rw [HF.out]; rfl, rfl⟩
    · have hmI : ((m : Int) == (s.size : Int)) = false := by simp; omega
      have HF : Hid (r = false) := by show _ = _; rw [HR.out, decide_eq_false hm]; simp
      clear HR hm
      go_wp2_with fail
      go_ret
      exact ⟨by rw [HF.out]; rfl, rfl⟩
/-- What a writer answers: the bytes with t behind them. -/
def WrP (w : World) (base : Nat) (t : List UInt8) (e : Ending) (w' : World) : Prop := ∃ a c, e = .returned (.slice a t.length c) ∧ Byt w' base (.slice a t.length c) t ∧ Gr base w w'
theorem nameL_le (s : ByteArray) : (nameL s).length ≤ 2 * s.size + 2 := by
  unfold nameL
  split
  · rw [q_len]; omega
  · have := qescL_len s.data.toList
    rw [q_len] at this
    simp only [List.length_cons, List.length_append, List.length_nil]
    omega
set_option maxHeartbeats 4000000 in
set_option maxRecDepth 100000 in
theorem papn_any (s : ByteArray) (o : List UInt8) (v : Value) (base : Nat) (w : World) (h0 : 0 < s.size) (hs : s.size ≤ 1000000) (hv : Byt w base v o) (hbase : base ≤ w.heap.size) (hlen : o.length ≤ 99999990000000) :
    Calls Tryz.prog 26 #[v, .string s] w fun e w' => WrP w base (o ++ nameL s) e w' := by
  have HPL := hide (pplain_any s w h0 hs)
  obtain ⟨va, vc, hf⟩ := hv.form
  subst hf
  by_cases hp : plainB s = true
  · have hn : nameL s = s.data.toList := by unfold nameL; rw [if_pos hp]
    rw [hn]
    rw [hp] at HPL
    obtain ⟨a, c, w2, hr, hb, hbl⟩ := byt_str hv s s.data.toList rfl (by rw [q_len]; omega) hbase
    generalize o ++ s.data.toList = t at *
    have HRUN := hide hr
    have HB := hide hb
    have HBL := hide hbl
    clear hr hb hbl hn hp hv
    go_enter Tryz.func26, Tryz.ntmps26
    go_wp2_with (first
      | (go_at_call 40; refine HPL.out.mono ?_; rintro e w' ⟨rfl, rfl⟩)
      | (at_builtin; refine wpList_append_run2 48 9 rfl _ _ rfl rfl _ _ rfl rfl _ _ HRUN.out ?_)
      | fail)
    go_ret
    exact ⟨a, c, rfl, HB.out, HBL.out⟩
  · have hp' : plainB s = false := by simpa using hp
    rw [hp'] at HPL
    have hn : nameL s = 96 :: (qescL s.data.toList ++ [96]) := by unfold nameL; rw [if_neg hp]
    rw [hn]
    obtain ⟨T, hT⟩ : ∃ T, T = o ++ 96 :: (qescL s.data.toList ++ [96]) := ⟨_, rfl⟩
    rw [← hT]
    have HT := hide hT
    obtain ⟨a1, c1, w1, hr1, hb1, hbl1⟩ := byt_push hv [96] #[.int .u8 96] 1 rfl rfl (by decide) (by omega) hbase w.heap.size rfl
    have HRUN := hide hr1
    have HB1 := hide hb1
    have HBL1 := hide hbl1
    obtain ⟨o1, ho1⟩ : ∃ o1, o1 = o ++ [96] := ⟨_, rfl⟩
    rw [← ho1] at HRUN HB1
    have HO1 := hide ho1
    have HOL : Hid (o1.length ≤ 99999990000001) := by show _ ≤ _; rw [ho1]; simp; omega
    have HBS : Hid (base ≤ w1.heap.size) := Nat.le_trans hbase hbl1.size
    clear hr1 hb1 hbl1 hn hp hp' hv hT ho1
    go_enter Tryz.func26, Tryz.ntmps26
    go_wp2_with (first
      | (go_at_call 40; refine HPL.out.mono ?_; rintro e w' ⟨rfl, rfl⟩)
      | (at_builtin; refine wpList_append_run2 48 48 rfl _ _ rfl rfl _ _ rfl rfl _ _ HRUN.out ?_)
      | fail)
    clear HRUN HPL
    go_loopw [0, 16] (fun ov iv wr => ∃ (k : Nat) (t : List UInt8) (a : Option Addr) (c : Nat), ov = .slice a t.length c ∧ iv = .int .i64 (k : Int) ∧ k ≤ s.size ∧ Hid (t = o1 ++ qescL (s.data.toList.take k)) ∧ Hid (Byt wr base (.slice a t.length c) t) ∧ Hid (Gr base w wr)) (fun _ iv _ => s.size - (intOf iv).toNat)
    case atStart => exact ⟨0, o1, a1, c1, rfl, rfl, Nat.zero_le _, by show _ = _; simp [qescL], HB1.out, HBL1.out⟩
    case round =>
      obtain ⟨k, t, a, c, rfl, rfl, hk, ht, hb, hbl⟩ := hrel
      have hq := qescL_len (s.data.toList.take k)
      have htl : t.length ≤ 99999995000001 := by
        have h1 := HOL.out
        rw [ht.out, List.length_append]
        rw [List.length_take, q_len] at hq
        omega
      have hbs : base ≤ wr.heap.size := Nat.le_trans (Nat.le_trans hbase (Nat.le_refl _)) hbl.out.size
      by_cases hlt : k < s.size
      · have hltI : (k : Int) < (s.size : Int) := by omega
        have e0 : (0 : Int) ≤ (k : Int) := by omega
        have HTK := hide (qescL_take s.data.toList k (by rw [q_len]; exact hlt))
        have HJ : Hid (k + 1 ≤ s.size) := by show _ ≤ _; omega
        have hgk : s.data.toList[k]'(by rw [q_len]; exact hlt) = s[k] := rfl
        rw [hgk] at HTK
        by_cases h96 : s[k] = 96
        · have h96I : ((s[k].toNat : Int) == 96) = true := by rw [h96]; rfl
          obtain ⟨a2, c2, w2, hr2, hb2, hbl2⟩ := byt_push hb.out [96] #[.int .u8 96] 1 rfl rfl (by decide) (by omega) hbs wr.heap.size rfl
          obtain ⟨a3, c3, w3, hr3, hb3, hbl3⟩ := byt_push hb2 [s[k]] #[.int .u8 (s[k].toNat : Int)] 1 rfl rfl (by decide) (by simp; omega) (Nat.le_trans hbs hbl2.size) w2.heap.size rfl
          have HR2 := hide hr2
          have HR3 := hide hr3
          have HT3 : Hid (t ++ [96] ++ [s[k]] = o1 ++ qescL (s.data.toList.take (k + 1))) := by
            show _ = _
            rw [HTK.out, if_pos h96, ht.out, h96]; simp
          have HB3 := hide hb3
          have HBL3 : Hid (Gr base w w3) := (hbl.out.trans hbl2).trans hbl3
          generalize t ++ [96] ++ [s[k]] = t3 at *
          generalize t ++ [96] = t2 at *
          clear hr2 hb2 hbl2 hr3 hb3 hbl3 ht hb hbl hq HTK h96 hgk
          go_wp2_with (first
            | (at_builtin; refine wpList_append_run2 48 48 rfl _ _ rfl rfl _ _ rfl rfl _ _ HR2.out ?_; clear HR2)
            | (at_builtin; refine wpList_append_run2 48 48 rfl _ _ rfl rfl _ _ rfl rfl _ _ HR3.out ?_)
            | fail)
          go_roundw
          case rel => exact ⟨k + 1, t3, a3, c3, rfl, by go_num, HJ.out, HT3.out, HB3.out, HBL3.out⟩
          case measure => simp [intOf]; omega
        · have h96I : ((s[k].toNat : Int) == 96) = false := by
            have : s[k].toNat ≠ 96 := fun e => h96 (UInt8.toNat_inj.1 e)
            rw [beq_eq_false_iff_ne]; omega
          obtain ⟨a3, c3, w3, hr3, hb3, hbl3⟩ := byt_push hb.out [s[k]] #[.int .u8 (s[k].toNat : Int)] 1 rfl rfl (by decide) (by omega) hbs wr.heap.size rfl
          have HR3 := hide hr3
          have HT3 : Hid (t ++ [s[k]] = o1 ++ qescL (s.data.toList.take (k + 1))) := by
            show _ = _
            rw [HTK.out, if_neg h96, ht.out]; simp
          have HB3 := hide hb3
          have HBL3 : Hid (Gr base w w3) := hbl.out.trans hbl3
          generalize t ++ [s[k]] = t3 at *
          clear hr3 hb3 hbl3 ht hb hbl hq HTK h96 hgk
          go_wp2_with (first
            | (at_builtin; refine wpList_append_run2 48 48 rfl _ _ rfl rfl _ _ rfl rfl _ _ HR3.out ?_)
            | fail)
          go_roundw
          case rel => exact ⟨k + 1, t3, a3, c3, rfl, by go_num, HJ.out, HT3.out, HB3.out, HBL3.out⟩
          case measure => simp [intOf]; omega
      · have hltI : ¬ (k : Int) < (s.size : Int) := by omega
        have hke : k = s.size := by omega
        obtain ⟨a3, c3, w3, hr3, hb3, hbl3⟩ := byt_push hb.out [96] #[.int .u8 96] 1 rfl rfl (by decide) (by omega) hbs wr.heap.size rfl
        have hTT : t ++ [96] = T := by
          rw [HT.out, ht.out, hke, ← q_len, List.take_length, HO1.out]; simp
        rw [hTT] at hr3 hb3
        have HR3 := hide hr3
        have HB3 := hide hb3
        have HBL3 : Hid (Gr base w w3) := hbl.out.trans hbl3
        clear hr3 hb3 hbl3 ht hb hbl hq hTT hke
        go_wp2_with (first
          | (at_builtin; refine wpList_append_run2 48 48 rfl _ _ rfl rfl _ _ rfl rfl _ _ HR3.out ?_)
          | fail)
        go_ret
        exact ⟨a3, c3, rfl, HB3.out, HBL3.out⟩
end Go.Proofs.YtageokjobbjddaaGreatDoor
