import Derived.Test.YtageokjobbjddaaGreatDoorPStr
namespace Go.Proofs.YtageokjobbjddaaGreatDoor
open Go.RowKit

/-! A quoted name, cut off. -/
def pqn : List UInt8 → Option (List UInt8 × List UInt8)
  | [] => none
  | [c] => if c = 96 then some ([], []) else none
  | c :: d :: r => if c = 96 then (if d = 96 then (pqn r).map fun q => (96 :: q.1, q.2) else some ([], d :: r)) else (pqn (d :: r)).map fun q => (c :: q.1, q.2)
theorem pqn_plain {c : UInt8} (r : List UInt8) (h : c ≠ 96) : pqn (c :: r) = (pqn r).map fun q => (c :: q.1, q.2) := by
  cases r with
  | nil => simp only [pqn, if_neg h]; rfl
  | cons d r => rw [pqn, if_neg h]
theorem pqn_two (r : List UInt8) : pqn (96 :: 96 :: r) = (pqn r).map fun q => (96 :: q.1, q.2) := by rw [pqn, if_pos rfl, if_pos rfl]
theorem pqn_end (r : List UInt8) (h : r.head? ≠ some 96) : pqn (96 :: r) = some ([], r) := by
  cases r with
  | nil => rw [pqn, if_pos rfl]
  | cons d r => rw [pqn, if_pos rfl, if_neg (fun e => h (by rw [e]; rfl))]
theorem pqn_app : ∀ (a t : List UInt8), (96 : UInt8) ∉ a → pqn (a ++ t) = acat a (pqn t)
  | [], t, _ => by cases h : pqn t <;> simp [acat, h]
  | c :: a, t, h => by
    have h1 : c ≠ 96 := fun e => h (by rw [e]; simp)
    have h2 : (96 : UInt8) ∉ a := fun e => h (by simp [e])
    rw [List.cons_append, pqn_plain _ h1, pqn_app a t h2]
    cases pqn t <;> simp [acat]
theorem pqn_none (l : List UInt8) (h : (96 : UInt8) ∉ l) : pqn l = none := by
  have := pqn_app l [] h
  rw [List.append_nil] at this
  rw [this]
  rfl
theorem acat_acat (o a : List UInt8) (x : Option (List UInt8 × List UInt8)) : acat o (acat a x) = acat (o ++ a) x := by
  cases x <;> simp [acat]
def quotD (l : List UInt8) : Pt × List UInt8 := match pqn l with | none => (ptBad, []) | some q => (namedD ⟨q.1.toArray⟩, q.2)
set_option maxHeartbeats 4000000 in
set_option maxRecDepth 100000 in
theorem pcutq_any (s : ByteArray) (m : Int) (w : World) (hs : s.size ≤ 1000000) (hv : w.cell? ⟨14, 0, none⟩ = some (.int .i64 m)) :
    Calls Tryz.prog 65 #[.string s] w fun e w' => e = .returned (.tuple #[.agg (ptV (quotD s.data.toList).1), .string ⟨(quotD s.data.toList).2.toArray⟩]) ∧ Below w.heap.size w w' := by
  have hG : 14 < w.heap.size := World.block_lt_of_cell? w _ hv
  have q1 := below_new w (.cells (ptV pt0) 67)
  have x1 := RowAt.new w (ptV pt0) 67
  unfold pt0 ptV at q1 x1
  obtain ⟨W1, hW1⟩ : ∃ W1, w.alloc (.cells #[.int .i64 0, .string ⟨#[]⟩, .int .i64 0] 67) = W1 := ⟨_, rfl⟩
  rw [hW1] at q1 x1
  have HW := hide hW1
  have HX := hide x1
  have HB := hide q1
  obtain ⟨R0, hR0⟩ : ∃ R0, R0 = pqn s.data.toList := ⟨_, rfl⟩
  obtain ⟨r, hr⟩ : ∃ r, r = quotD s.data.toList := ⟨_, rfl⟩
  rw [← hr]
  unfold quotD at hr
  rw [← hR0] at hr
  have HN : Hid (R0 = none → r = (ptBad, [])) := fun e => by rw [hr, e]
  have HS : Hid (∀ p l, R0 = some (p, l) → r = (namedD ⟨p.toArray⟩, l)) := fun p l e => by rw [hr, e]
  have HST : Hid (R0 = acat [] (pqn s.data.toList)) := by
    show _ = _
    rw [← hR0]
    cases R0 <;> simp [acat]
  have HV : Hid (∀ wr, Below W1.heap.size W1 wr → wr.cell? ⟨14, 0, none⟩ = some (.int .i64 m)) := fun wr h => (Below.cell (Below.next q1 h) (p := ⟨14, 0, none⟩) hG).trans hv
  clear hr hR0 hv hW1 q1 x1 hG
  go_enter Tryz.func65, Tryz.ntmps65
  go_wp2_with fail
  rw [HW.out]
  go_loopw [0, 4, 5, 6, 7] (fun tv ov _ _ _ wr => ∃ (t : ByteArray) (o : List UInt8) (a : Option Addr) (c : Nat), tv = .string t ∧ ov = .slice a o.length c ∧ t.size + o.length ≤ 1000000 ∧ Hid (R0 = acat o (pqn t.data.toList)) ∧ Hid (Byt wr W1.heap.size (.slice a o.length c) o) ∧ Hid (Gr W1.heap.size W1 wr)) (fun tv _ _ _ _ _ => match tv with | .string t => t.size | _ => 0)
  case atStart => exact ⟨s, [], none, 0, rfl, rfl, by simpa using hs, HST, Byt.nil _ _, Gr.of (Below.refl _ _) (Nat.le_refl _)⟩
  case round =>
    obtain ⟨t, o, a, c, rfl, rfl, hsz, hq, hb, hbl⟩ := hrel
    have hbs : W1.heap.size ≤ wr.heap.size := hbl.out.size
    have hrow := HX.out.below hbl.out.bel
    have HBW := hide (Below.next HB.out hbl.out.bel)
    have HCU := hide (scut_any t m wr (by omega) (HV.out wr hbl.out.bel))
    rcases cut_one t.data.toList with ⟨pa, pb, h1, h2, h3⟩ | ⟨h1, h2⟩
    · rw [h3] at HCU
      simp only at HCU
      have hlen : t.size = pa.length + 1 + pb.length := by rw [← q_len, h1]; simp; omega
      have hqc : R0 = acat (o ++ pa) (pqn (96 :: pb)) := by rw [hq.out, h1, pqn_app _ _ h2, acat_acat]
      clear h3 h1 h2 hq
      go_wp2_with fail
      refine HCU.out.mono ?_
      rintro e w2 ⟨rfl, hb2⟩
      clear HCU
      have hbl2 : Gr W1.heap.size W1 w2 := hbl.out.trans (Gr.of hb2 hbs)
      have hby2 := hb.out.keep hb2
      obtain ⟨a3, c3, w3, hr3, hb3, hbl3⟩ := byt_str hby2 ⟨pa.toArray⟩ pa rfl (by omega) hbl2.size
      have HR3 := hide hr3
      have hbl4 : Gr W1.heap.size W1 w3 := hbl2.trans hbl3
      have HBW2 := hide (Below.next HB.out hbl4.bel)
      have hrow2 := HX.out.below hbl4.bel
      have hol : (o ++ pa).length = o.length + pa.length := List.length_append
      generalize o ++ pa = o3 at *
      clear hr3 hb hbl hb2 hby2 hbl2 hbl3 hrow HBW
      by_cases h96 : pb.head? = some 96
      · obtain ⟨pc, rfl⟩ : ∃ pc, pb = 96 :: pc := by
          cases pb with
          | nil => cases h96
          | cons d r => exact ⟨r, by rw [Option.some.inj h96]⟩
        have HQ3 : Hid (R0 = acat (o3 ++ [96]) (pqn pc)) := by
          show _ = _
          rw [hqc, pqn_two, acat_map]
        have hne : (⟨(96 :: pc).toArray⟩ : ByteArray) ≠ ⟨#[]⟩ := fun e => by
          have e2 := congrArg (fun x : ByteArray => x.data.toList) e
          exact absurd e2 (by simp)
        obtain ⟨hne1, hne2⟩ := ne_nil hne
        have hz : (⟨(96 :: pc).toArray⟩ : ByteArray).size = pc.length + 1 := by rw [← q_len]; simp
        have hg : (⟨(96 :: pc).toArray⟩ : ByteArray)[0]'(by rw [hz]; omega) = 96 := rfl
        have hex : (⟨(96 :: pc).toArray⟩ : ByteArray).extract 1 (⟨(96 :: pc).toArray⟩ : ByteArray).size = ⟨pc.toArray⟩ := by rw [ba_drop]; rfl
        have HZ : Hid ((⟨pc.toArray⟩ : ByteArray).size + (o3 ++ [96]).length ≤ 1000000 ∧ (⟨pc.toArray⟩ : ByteArray).size < t.size) := by
          show _ ∧ _
          rw [← q_len, List.length_append, List.length_singleton, hol]
          simp only [List.length_cons] at hlen
          constructor
          · show pc.length + _ ≤ _; omega
          · show pc.length < _; omega
        obtain ⟨z, hzz⟩ : ∃ z : ByteArray, z = ⟨(96 :: pc).toArray⟩ := ⟨_, rfl⟩
        rw [← hzz] at hne hne1 hne2 hz
        have hg2 : ∀ h : 0 < z.size, z[0] = 96 := by subst hzz; intro _; rfl
        have hex2 : z.extract 1 z.size = ⟨pc.toArray⟩ := by rw [hzz]; exact hex
        have hz0 : 0 < z.size := by omega
        have hz0I : (0 : Int) < (z.size : Int) := by omega
        have hz1I : (1 : Int) ≤ (z.size : Int) := by omega
        have g0 : z[0] = 96 := hg2 hz0
        obtain ⟨a5, c5, w5, hr5, hb5, hbl5⟩ := byt_push hb3 [96] #[.int .u8 96] 1 rfl rfl (by decide) (by omega) hbl4.size w3.heap.size rfl
        have HR5 := hide hr5
        have HB5 := hide hb5
        have HBL5 : Hid (Gr W1.heap.size W1 w5) := hbl4.trans hbl5
        rw [← hzz]
        generalize o3 ++ [96] = o5 at *
        clear hr5 hb5 hbl5 hb3 hbl4 hrow2 hqc hex hg hg2 hz h96 hlen hol hne HN HS HST hzz
        go_wp2_with (first
          | (at_builtin; refine wpList_append_run2 48 9 rfl _ _ rfl rfl _ _ rfl rfl _ _ HR3.out ?_)
          | (at_builtin; refine wpList_append_run2 48 48 rfl _ _ rfl rfl _ _ rfl rfl _ _ HR5.out ?_)
          | fail)
        go_roundw
        case rel => exact ⟨⟨pc.toArray⟩, o5, a5, c5, rfl, rfl, HZ.out.1, HQ3, HB5, HBL5⟩
        case measure => exact HZ.out.2
      · have HE : Hid (r = (namedD ⟨o3.toArray⟩, pb)) := HS.out _ _ (by rw [hqc, pqn_end _ h96]; simp [acat])
        have hcv := conv_back hb3
        have HNM := hide (pnamed_any ⟨o3.toArray⟩ w3 (by rw [← q_len]; show o3.length ≤ _; omega))
        have HRW := hide hrow2
        obtain ⟨z, hzz⟩ : ∃ z : ByteArray, z = ⟨pb.toArray⟩ := ⟨_, rfl⟩
        have HZZ := hide hzz
        rw [← hzz]
        obtain ⟨u, hu⟩ : ∃ u, u = namedD ⟨o3.toArray⟩ := ⟨_, rfl⟩
        rw [← hu] at HE HNM
        obtain ⟨uk, ut, un⟩ := u
        have hcs : z = ⟨#[]⟩ ∨ ∃ h : 0 < z.size, ((z[0].toNat : Int) == 96) = false := by
          cases pb with
          | nil => exact .inl hzz
          | cons d l =>
            right
            subst hzz
            refine ⟨by rw [← q_len]; simp, ?_⟩
            refine u8_ne (k := 96) (by decide) fun e => h96 ?_
            show some d = some 96
            exact congrArg some e
        clear hzz hu hb3 hbl4 hrow2 hqc h96 hlen hol HN HS HST HV
        rcases hcs with rfl | ⟨hz0, hz1⟩
        · have hqe : ((⟨#[]⟩ : ByteArray).toList == (⟨#[]⟩ : ByteArray).toList) = true := str_eq _
          go_wp2_with (first
            | (at_builtin; refine wpList_append_run2 48 9 rfl _ _ rfl rfl _ _ rfl rfl _ _ HR3.out ?_)
            | fail)
          refine HNM.out.mono ?_
          rintro e w4 ⟨rfl, hb4⟩
          have HST2 := hide (store_row w4 w.heap.size 67 _ #[.int .i64 uk, .string ut, .int .i64 un] (HRW.out.below hb4) (by kernel_rfl) rfl (by simp [Value.oneCell']))
          have HR2 := hide (HRW.out.below hb4)
          have HBW3 := hide (Below.next HBW2.out hb4)
          clear hb4 HNM HR3 hcv
          go_wp2_with (refine wpList_store_eq rfl 67 _ _ rfl _ _ rfl rfl HST2.out ?_)
          refine bodyPost_ret (results_row_tmp rfl _ _ w.heap.size 67 _ (0, 0) _ rfl (row_set _ _ _ _ _ HR2.out) Tryz.underlying67 rfl (by kernel_rfl)) rfl ?_
          exact ⟨by rw [HE.out]; simp only [← HZZ.out]; rfl, below_row HBW3.out (Nat.le_refl _) _⟩
        · have hz0I : (0 : Int) < (z.size : Int) := by omega
          have hne : z ≠ ⟨#[]⟩ := fun e => by rw [e] at hz0; exact absurd hz0 (by decide)
          obtain ⟨hne1, hne2⟩ := ne_nil hne
          clear hne
          go_wp2_with (first
            | (at_builtin; refine wpList_append_run2 48 9 rfl _ _ rfl rfl _ _ rfl rfl _ _ HR3.out ?_)
            | fail)
          refine HNM.out.mono ?_
          rintro e w4 ⟨rfl, hb4⟩
          have HST2 := hide (store_row w4 w.heap.size 67 _ #[.int .i64 uk, .string ut, .int .i64 un] (HRW.out.below hb4) (by kernel_rfl) rfl (by simp [Value.oneCell']))
          have HR2 := hide (HRW.out.below hb4)
          have HBW3 := hide (Below.next HBW2.out hb4)
          clear hb4 HNM HR3 hcv
          go_wp2_with (refine wpList_store_eq rfl 67 _ _ rfl _ _ rfl rfl HST2.out ?_)
          refine bodyPost_ret (results_row_tmp rfl _ _ w.heap.size 67 _ (0, 0) _ rfl (row_set _ _ _ _ _ HR2.out) Tryz.underlying67 rfl (by kernel_rfl)) rfl ?_
          exact ⟨by rw [HE.out]; simp only [← HZZ.out]; rfl, below_row HBW3.out (Nat.le_refl _) _⟩
    · have HE : Hid (r = (ptBad, [])) := HN.out (by rw [hq.out, pqn_none _ h1]; rfl)
      rw [h2] at HCU
      simp only at HCU
      clear hq hb h1 h2 HN HS HST HV
      go_wp2_with fail
      refine HCU.out.mono ?_
      rintro e w2 ⟨rfl, hb2⟩
      have hrow2 := hrow.below hb2
      have HBW2 := hide (Below.next HBW.out hb2)
      have HST2 := hide (store_row w2 w.heap.size 67 _ #[.int .i64 1, .string ⟨#[]⟩, .int .i64 0] hrow2 (by kernel_rfl) rfl (by simp [Value.oneCell']))
      have HR2 := hide hrow2
      clear HCU hrow hrow2 hb2 hbl
      go_wp2_with (refine wpList_store_eq rfl 67 _ _ rfl _ _ rfl rfl HST2.out ?_)
      refine bodyPost_ret (results_row_tmp rfl _ _ w.heap.size 67 _ (0, 0) _ rfl (row_set _ _ _ _ _ HR2.out) Tryz.underlying67 rfl (by kernel_rfl)) rfl ?_
      exact ⟨by rw [HE.out]; rfl, below_row HBW2.out (Nat.le_refl _) _⟩
end Go.Proofs.YtageokjobbjddaaGreatDoor
