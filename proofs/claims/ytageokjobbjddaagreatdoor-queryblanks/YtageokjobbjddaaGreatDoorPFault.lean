import Derived.Test.YtageokjobbjddaaGreatDoorPName
namespace Go.Proofs.YtageokjobbjddaaGreatDoor
open Go.RowKit

set_option maxHeartbeats 2000000 in
set_option maxRecDepth 100000 in
theorem pitemf_any (aA aM : Addr) (x : It) (u : Value) (w : World) (hx : x.Ok) (hu : ItsAt w anyB u x.list) (he : Errs2 aA aM w) (hsz : (encL [x]).length ≤ 100000000000000) :
    Calls Tryz.prog 24 #[.agg #[.int .i64 x.kind, .int .i64 x.num, .string x.text, u]] w fun e w' => e = .returned (errOf aA aM (packF [x])) ∧ Below w.heap.size w w' := by
  obtain ⟨ua, uc, hf⟩ := hu.form
  subst hf
  have q1 := below_new w (.cells #[.int .i64 x.kind, .int .i64 x.num, .string x.text, .slice ua x.list.length uc] 32)
  have hs1 : (w.alloc (.cells #[.int .i64 x.kind, .int .i64 x.num, .string x.text, .slice ua x.list.length uc] 32)).heap.size = w.heap.size + 1 := by simp
  have q2 := below_new (w.alloc (.cells #[.int .i64 x.kind, .int .i64 x.num, .string x.text, .slice ua x.list.length uc] 32)) (.cells #[.int .i64 x.kind, .int .i64 x.num, .string x.text, .slice ua x.list.length uc] 32)
  have y2 := RowAt.new (w.alloc (.cells #[.int .i64 x.kind, .int .i64 x.num, .string x.text, .slice ua x.list.length uc] 32)) #[.int .i64 x.kind, .int .i64 x.num, .string x.text, .slice ua x.list.length uc] 32
  have HPK := hide (pack_any aA aM [x] (.slice (some ⟨_, 0, none⟩) 1 1) _ (its_one y2 trivial hx ((hu.keep q1).keep q2)) ((he.keep q1).keep q2) (fun _ => hsz))
  rw [hs1] at HPK
  have HB := hide (Below.next q1 q2)
  generalize packT [x] = pt at HPK
  generalize errOf aA aM (packF [x]) = ev at HPK ⊢
  clear q1 hs1 q2 y2 hu he hx hsz
  go_enter Tryz.func24, Tryz.ntmps24
  go_wp2_with fail
  refine HPK.out.mono ?_
  rintro e w4 ⟨rfl, hb4⟩
  have HB4 := hide (Below.next HB.out hb4)
  clear hb4 HPK HB
  go_wp2
  go_ret
  exact ⟨rfl, HB4.out⟩
def ordB (o : ByteArray) (f : Bool) : Bool := if o = ⟨#[]⟩ then !f else isNameD o
set_option maxHeartbeats 2000000 in
set_option maxRecDepth 100000 in
theorem pord_any (o : ByteArray) (f : Bool) (w : World) (ho : o.size ≤ 140737488355328) :
    Calls Tryz.prog 25 #[.string o, .bool f] w fun e w' => e = .returned (.bool (ordB o f)) ∧ w = w' := by
  by_cases h0 : o = ⟨#[]⟩
  · subst h0
    have HE : Hid (ordB ⟨#[]⟩ f = !f) := by show _ = _; simp [ordB]
    have hq : ((⟨#[]⟩ : ByteArray).toList == (⟨#[]⟩ : ByteArray).toList) = true := str_eq _
    go_enter Tryz.func25, Tryz.ntmps25
    go_wp2_with fail
    go_ret
    exact ⟨by rw [HE.out]; rfl, rfl⟩
  · obtain ⟨hq, hq2⟩ := ne_nil h0
    have HE : Hid (ordB o f = isNameD o) := by show _ = _; simp [ordB, h0]
    have HN := hide (pisname_any o w ho)
    clear h0
    go_enter Tryz.func25, Tryz.ntmps25
    go_wp2_with fail
    refine HN.out.mono ?_
    rintro e w' ⟨rfl, rfl⟩
    generalize isNameD o = b at *
    go_wp2
    go_ret
    exact ⟨by rw [HE.out]; rfl, rfl⟩
theorem endF_ord (q : Qd) : endF q = if ordB q.order q.falling = true ∧ 0 ≤ q.limit then 0 else 1 := by
  obtain ⟨t, l, o, f, m⟩ := q
  unfold endF ordB
  by_cases h0 : o = ⟨#[]⟩
  · subst h0
    cases f <;> simp
  · cases f <;> simp [h0]
theorem errOf_one (aA aM : Addr) : errOf aA aM 1 = .iface 166 (.pointer (some aA)) := rfl
theorem errOf_nz (aA aM : Addr) {f : Nat} (h : f ≠ 0) : ∃ p, errOf aA aM f = .iface 166 (.pointer (some p)) := by
  unfold errOf
  rw [if_neg h]
  split
  · exact ⟨aA, rfl⟩
  · exact ⟨aM, rfl⟩
set_option maxHeartbeats 4000000 in
set_option maxRecDepth 100000 in
theorem pfault_any (aA aM : Addr) (q : Qd) (cv : Value) (w : World) (hc : CsAt w anyB cv q.cs) (he : Errs2 aA aM w) (hsz : cntC q.cs ≤ 16777216) (ht : q.table.size ≤ 140737488355328) (ho : q.order.size ≤ 140737488355328) :
    Calls Tryz.prog 15 #[.agg (qV q cv)] w fun e w' => e = .returned (errOf aA aM (qfaultD q)) ∧ Below w.heap.size w w' := by
  obtain ⟨r, hr⟩ : ∃ r, r = qfaultD q := ⟨_, rfl⟩
  rw [← hr]
  have HR := hide hr
  obtain ⟨ev, hev⟩ : ∃ ev, ev = errOf aA aM r := ⟨_, rfl⟩
  rw [← hev]
  have HEV := hide hev
  obtain ⟨t, l, o, f, m⟩ := q
  simp only [qV] at hc hsz ht ho ⊢
  obtain ⟨ca, cc, hcv⟩ := hc.form
  subst hcv
  have hlen := hc.len
  have q1 := below_new w (.cells #[.string t, .slice ca l.length cc, .string o, .bool f, .int .i64 m] 24)
  have x1 := RowAt.new w #[.string t, .slice ca l.length cc, .string o, .bool f, .int .i64 m] 24
  generalize hW1 : w.alloc (.cells #[.string t, .slice ca l.length cc, .string o, .bool f, .int .i64 m] 24) = W1 at q1 x1
  have HW := hide hW1
  have HX := hide x1
  have HC := hide (hc.keep q1)
  have HER := hide (he.keep q1)
  have HB := hide q1
  obtain ⟨c0, c1, c2, c3, c4⟩ := x1.q5
  have HNT := hide (pisname_any t W1 ht)
  have HNO := hide (fun W => pord_any o f W ho)
  have HSZ : Hid (cntC l ≤ 16777216) := hsz
  have HONE : Hid (r = 1 → ev = .iface 166 (.pointer (some aA))) := fun h => by rw [HEV.out, h]; rfl
  have ea := (he.keep q1).arg
  rw [← hW1] at c0
  clear hc q1 x1 hW1 hr ht ho hsz hev he
  go_enter Tryz.func15, Tryz.ntmps15
  go_wp2_with fail
  rw [HW.out] at c0 ⊢
  refine HNT.out.mono ?_
  rintro e w' ⟨rfl, rfl⟩
  cases hnt : isNameD t with
  | false =>
    have HE := hide (HONE.out (by rw [HR.out]; simp [qfaultD, hnt]))
    clear hnt
    go_wp2
    go_ret
    exact ⟨by rw [HE.out]; rfl, HB.out⟩
  | true =>
    have HNTT := hide hnt
    clear hnt HNT c0
    go_wp2_with fail
    go_loopw [14] (fun v wr => ∃ k : Nat, v = .int .i64 (k : Int) ∧ k ≤ l.length ∧ Hid (∀ j (h : j < l.length), j < k → condF l[j] = 0) ∧ Below W1.heap.size W1 wr) (fun v _ => l.length - (intOf v).toNat)
    case atStart => exact ⟨0, rfl, Nat.zero_le _, fun j _ h => by omega, Below.refl _ _⟩
    case round =>
      obtain ⟨k, rfl, hk, hall, hbl⟩ := hrel
      clear c1 c2 c3 c4 ea
      have ea := (HER.out.keep hbl).arg
      obtain ⟨c0, c1, c2, c3, c4⟩ := (HX.out.below hbl).q5
      have HBL := hide hbl
      by_cases hlt : k < l.length
      · have hltI : (k : Int) < (l.length : Int) := by omega
        have e0 : (0 : Int) ≤ (k : Int) := by omega
        obtain ⟨g, off, u, hca, -, hok, s0, s1, s2, s3, s4, s5, hin⟩ := (HC.out.keep hbl).get k hlt
        have hmem : l[k] ∈ l := List.getElem_mem hlt
        have HENC := hide (enc_one hmem HSZ.out)
        have HST : Hid (condF l[k] ≠ 0 → r = condF l[k]) := fun h => by
          have h1 := firstN_at l k hlt hall.out h
          rw [HR.out]
          simp only [qfaultD, HNTT.out, h1]
          simp [h]
        have HAL : Hid (condF l[k] = 0 → ∀ j (h : j < l.length), j < k + 1 → condF l[j] = 0) := fun h0 j h hj => by
          by_cases e : j = k
          · subst e; exact h0
          · exact hall.out j h (by omega)
        have HJ : Hid (k + 1 ≤ l.length) := by show _ ≤ _; omega
        obtain ⟨x, hx⟩ : ∃ x, x = l[k]'hlt := ⟨_, rfl⟩
        rw [← hx] at s0 s1 s2 s3 s4 hin HENC HST HAL hok
        subst hca
        have HOK := hide hok
        have HNF := hide (fun W => pisname_any x.field W (by have := hok.f; omega))
        have HSG := hide (fun W => pissign_any x.sign W)
        obtain ⟨ua, uc, hu⟩ := hin.form
        subst hu
        have HIN := hide hin
        clear hin hok hx hmem hall hbl
        have qv := below_new wr (.cells #[.string x.field, .int .i64 x.sign, .int .i64 x.item.kind, .int .i64 x.item.num, .string x.item.text, .slice ua x.item.list.length uc] 34)
        have yv := RowAt.new wr #[.string x.field, .int .i64 x.sign, .int .i64 x.item.kind, .int .i64 x.item.num, .string x.item.text, .slice ua x.item.list.length uc] 34
        obtain ⟨V1, hV1⟩ : ∃ V1, wr.alloc (.cells #[.string x.field, .int .i64 x.sign, .int .i64 x.item.kind, .int .i64 x.item.num, .string x.item.text, .slice ua x.item.list.length uc] 34) = V1 := ⟨_, rfl⟩
        rw [hV1] at qv yv
        obtain ⟨v0, v1, v2, v3, v4, v5⟩ := yv.q6
        have HV1 := hide hV1
        have eb := ((HER.out.keep HBL.out).keep qv).arg
        have HPK := hide (pitemf_any aA aM x.item (.slice ua x.item.list.length uc) V1 HOK.out.it (HIN.out.keep qv) ((HER.out.keep HBL.out).keep qv) HENC.out)
        have HQV := hide qv
        clear qv yv hV1 HENC HIN HOK
        go_wp2_with fail
        rw [HV1.out]
        refine (HNF.out V1).mono ?_
        rintro e w'' ⟨rfl, rfl⟩
        cases hn : isNameD x.field with
        | true =>
          go_wp2_with fail
          refine (HSG.out V1).mono ?_
          rintro e w'' ⟨rfl, rfl⟩
          cases hs : signOk x.sign with
          | false =>
            have HE := hide (HONE.out (by
              have h9 : ¬ (1 ≤ x.sign ∧ x.sign ≤ 5) := by simpa [signOk] using hs
              have e1 : condF x = 1 := by unfold condF; rw [if_neg (by omega)]
              rw [HST.out (by omega), e1]))
            have HEB := hide (Below.next HB.out (Below.next HBL.out HQV.out))
            clear hn hs HST HAL HPK HNF HSG
            go_wp2
            go_ret
            exact ⟨by rw [HE.out]; rfl, HEB.out⟩
          | true =>
            have e1 : condF x = packF [x.item] := by
              have h9 : 1 ≤ x.sign ∧ x.sign ≤ 5 := by simpa [signOk] using hs
              unfold condF; rw [if_pos ⟨hn, h9⟩]
            obtain ⟨pf, hpf⟩ : ∃ pf, pf = packF [x.item] := ⟨_, rfl⟩
            rw [← hpf] at e1 HPK
            rw [e1] at HST HAL
            clear hn hs hpf e1 HNF HSG
            go_wp2_with fail
            refine HPK.out.mono ?_
            rintro e w4 ⟨rfl, hb4⟩
            have HB4 := hide (Below.next HQV.out hb4)
            clear hb4 HPK HQV v0 v1 v2 v3 v4 v5
            by_cases h0 : pf = 0
            · subst h0
              have hz : errOf aA aM 0 = .nilIface := rfl
              rw [hz]
              have HA := hide (HAL.out rfl)
              clear HST HAL s0 s1 s2 s3 s4 s5 hz
              go_wp2
              go_roundw
              case rel => exact ⟨k + 1, by go_num, HJ.out, HA.out, Below.next HBL.out HB4.out⟩
              case measure => simp [intOf]; omega
            · obtain ⟨pp, hpp⟩ := errOf_nz aA aM h0
              have HE : Hid (ev = .iface 166 (.pointer (some pp))) := by
                show _ = _
                rw [HEV.out, HST.out h0, hpp]
              rw [hpp]
              have HEB := hide (Below.next HB.out (Below.next HBL.out HB4.out))
              clear HST HAL s0 s1 s2 s3 s4 s5 hpp
              go_wp2
              go_ret
              exact ⟨by rw [HE.out]; rfl, HEB.out⟩
        | false =>
          have HE := hide (HONE.out (by
            have e1 : condF x = 1 := by unfold condF; rw [if_neg (by simp [hn])]
            rw [HST.out (by omega), e1]))
          have HEB := hide (Below.next HB.out (Below.next HBL.out HQV.out))
          clear hn HST HAL HPK HNF HSG
          go_wp2
          go_ret
          exact ⟨by rw [HE.out]; rfl, HEB.out⟩
      · have hltI : ¬ (k : Int) < (l.length : Int) := by omega
        have HE : Hid (r = if ordB o f = true ∧ 0 ≤ m then 0 else 1) := by
          show _ = _
          have h1 := firstN_take (f := condF) l fun j h => hall.out j h (by omega)
          have h2 := endF_ord ⟨t, l, o, f, m⟩
          rw [HR.out, qfaultD, if_pos HNTT.out]
          show (if firstN condF l = 0 then _ else _) = _
          rw [if_pos h1, h2]
        have HEB := hide (Below.next HB.out hbl)
        have HNO2 := hide (HNO.out wr)
        clear hall hlt hbl HNO HC HX HBL
        go_wp2_with fail
        refine HNO2.out.mono ?_
        rintro e w'' ⟨rfl, rfl⟩
        cases hob : ordB o f with
        | false =>
          have HF := hide (HONE.out (by rw [HE.out]; simp [hob]))
          clear hob HE
          go_wp2
          go_ret
          exact ⟨by rw [HF.out]; rfl, HEB.out⟩
        | true =>
          by_cases hm : m < 0
          · have HF := hide (HONE.out (by rw [HE.out]; rw [if_neg (by omega)]))
            clear hob HE
            go_wp2
            go_ret
            exact ⟨by rw [HF.out]; rfl, HEB.out⟩
          · have HF : Hid (ev = .nilIface) := by
              show _ = _
              rw [HEV.out, HE.out, if_pos ⟨hob, by omega⟩]; rfl
            clear hob HE
            go_wp2
            go_ret
            exact ⟨by rw [HF.out]; rfl, HEB.out⟩
end Go.Proofs.YtageokjobbjddaaGreatDoor
