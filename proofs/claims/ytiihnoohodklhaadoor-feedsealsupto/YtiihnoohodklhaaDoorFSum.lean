import Derived.Test.YtiihnoohodklhaaDoorFInb
import Derived.Test.YtiihnoohodklhaaDoorFCpy
import Derived.Test.YtiihnoohodklhaaDoorBX
namespace Go.Proofs.YtiihnoohodklhaaDoor
open Go.RowKit
attribute [local go_sem ↓] Go.wp_at_zero Go.wp_at_succ

theorem rowR_new (w : World) (cs : Array Value) (t : TypeId) : RowR (w.alloc (.cells cs t)) (.slice (some ⟨w.heap.size, 0, none⟩) cs.size cs.size) cs.toList :=
  ⟨_, _, by rw [Array.length_toList], by simp, fun h => (by cases h), fun j u hj => ⟨_, _, rfl, by
    have hj' := (List.getElem?_eq_some_iff.1 hj).1
    rw [Nat.zero_add, (boxed_new w cs t).2 j (by simpa using hj')]
    rw [← hj, List.getElem?_eq_getElem]⟩⟩
/-- The parts of a batch's head, and of a change. -/
def hdP (fr tt n : Nat) : List Part := [.tx fr, .tx tt, .ln n]
def chP (c : Ch) : List Part := [.ln c.1.size, .st c.1, .fl c.2.had, .ln c.2.old.size, .st c.2.old, .fl c.2.has, .ln c.2.new.size, .st c.2.new]
def chsB (l : List Ch) : List UInt8 := l.flatMap fun c => ptB (chP c)
def batB (fr tt : Nat) (l : List Ch) : List UInt8 := ptB (hdP fr tt l.length) ++ chsB l
def SmallL (l : List Ch) : Prop := ∀ c ∈ l, c.1.size ≤ 1073741824 ∧ c.2.old.size ≤ 1073741824 ∧ c.2.new.size ≤ 1073741824
theorem chP_ok {c : Ch} (h : c.1.size ≤ 1073741824 ∧ c.2.old.size ≤ 1073741824 ∧ c.2.new.size ≤ 1073741824) : ∀ p ∈ chP c, p.ok := by
  intro p hp
  simp only [chP, List.mem_cons, List.not_mem_nil, or_false] at hp
  rcases hp with rfl | rfl | rfl | rfl | rfl | rfl | rfl | rfl <;> simp only [Part.ok] <;> omega
theorem nt2 (x : Nat) (h : x < 4294967296) : nt (nt x) = x := by unfold nt; omega
theorem crcReg_lt' (l : List UInt8) : crcReg (nt 0) l < 4294967296 := crcReg_lt l _ (by decide)
set_option maxHeartbeats 8000000 in
theorem fsum_any (fr tt : Nat) (v : Value) (l : List Ch) (w : World) (hfr : fr < 18446744073709551616) (htt : tt < 18446744073709551616) (hm : l.length ≤ 1073741824) (hs : SmallL l) (hr : ChR w v l) (ht : Tab w) :
    Calls Tryd.prog 12 #[.int .u64 (fr : Int), .int .u64 (tt : Int), v] w fun e w' => e = .returned (.int .u32 ((crcV (batB fr tt l) : Nat) : Int)) ∧ Below w.heap.size w w' := by
  obtain ⟨a, cap, hv⟩ := hr.form
  subst hv
  obtain ⟨n, hn⟩ : ∃ n, n = l.length := ⟨_, rfl⟩
  have hH : ∀ p ∈ hdP fr tt n, p.ok := by
    intro p hp
    simp only [hdP, List.mem_cons, List.not_mem_nil, or_false] at hp
    rcases hp with rfl | rfl | rfl <;> simp only [Part.ok] <;> omega
  have HD : Hid (batB fr tt l = ptB (hdP fr tt n) ++ chsB l) := by show _ = _; unfold batB; rw [← hn]
  rw [← hn] at hr hm ⊢
  have HR := hide hr
  have HN := hide hn
  have HS := hide hs
  have HT := hide ht
  obtain ⟨W1, hW1⟩ : ∃ W1, w.alloc (.cells #[.iface 22 (.int .u64 (fr : Int)), .iface 22 (.int .u64 (tt : Int)), .iface 3 (.int .i64 (n : Int))] 20) = W1 := ⟨_, rfl⟩
  have hb1 : Below w.heap.size w W1 := by rw [← hW1]; exact below_new w _
  have hrow : RowR W1 (.slice (some ⟨w.heap.size, 0, none⟩) 3 3) ((hdP fr tt n).map Part.val) := by rw [← hW1]; exact rowR_new w _ _
  have HI := hide (inb_any (hdP fr tt n) _ W1 hrow hH (by simp [hdP]))
  have HB1 := hide hb1
  have HW1 := hide hW1
  have HLH : Hid ((ptB (hdP fr tt n)).length ≤ 3 * 1099511627776) := ptB_len (hdP fr tt n) hH
  obtain ⟨hd, hhd⟩ : ∃ hd, hd = ptB (hdP fr tt n) := ⟨_, rfl⟩
  rw [← hhd] at HI HLH HD
  obtain ⟨Q, hQ⟩ : ∃ Q : Ending → World → Prop, Q = fun e w' => e = .returned (.int .u32 ((crcV (batB fr tt l) : Nat) : Int)) ∧ Below w.heap.size w w' := ⟨_, rfl⟩
  rw [← hQ]
  have HQ := hide hQ
  clear hQ hn hr hs ht hW1 hb1 hrow hH hhd
  go_enter Tryd.func12, Tryd.ntmps12
  go_wp2_with fail
  rw [HW1.out]
  refine HI.out.mono ?_
  rintro e W2 ⟨v2, rfl, ho2, hb2⟩
  have HB2 := hide (Below.next HB1.out hb2)
  have HC := hide (crc_rd v2 hd W2 (by have := HLH.out; omega) (rd_of_owns ho2) (HT.out.below HB2.out))
  clear ho2 hb2 HI HW1 HB1
  go_wp2_with fail
  refine HC.out.mono ?_
  rintro e W3 ⟨rfl, rfl⟩
  have HR0 : Hid (crcV hd = nt (crcReg (nt 0) (hd ++ chsB (l.take 0)))) := by show _ = _; simp [chsB, crcV]
  clear HC
  go_wp2
  go_loopw [7, 22] (fun s i wr => ∃ k : Nat, k ≤ n ∧ i = .int .i64 k ∧ s = .int .u32 ((nt (crcReg (nt 0) (hd ++ chsB (l.take k))) : Nat) : Int) ∧ Below w.heap.size w wr) (fun _ i _ => n - (intOf i).toNat)
  case atStart => exact ⟨0, Nat.zero_le _, rfl, by rw [HR0.out], HB2.out⟩
  case round =>
    obtain ⟨k, hk, rfl, rfl, hbw⟩ := hrel
    by_cases hlt : k < n
    · have hkl : k < l.length := by have := HN.out; omega
      obtain ⟨a9, cap9, he, _, _, hc⟩ := HR.out.below hbw
      obtain ⟨g, o, ha, c0, c1, c2, c3, c4⟩ := hc k (by have := HN.out; omega)
      obtain ⟨rfl, -, rfl⟩ : a = a9 ∧ n = l.length ∧ cap = cap9 := by simpa using he
      subst ha
      have HTK : Hid (chsB (l.take (k + 1)) = chsB (l.take k) ++ ptB (chP l[k])) := by show _ = _; unfold chsB; rw [List.take_add_one, List.getElem?_eq_getElem hkl, List.flatMap_append]; simp
      have hpk := HS.out l[k] (List.getElem_mem _)
      obtain ⟨p, hp⟩ : ∃ p, p = l[k] := ⟨_, rfl⟩
      rw [← hp] at c0 c1 c2 c3 c4 hpk HTK
      obtain ⟨key, had, has, old, new⟩ := p
      have hO := chP_ok hpk
      have hltI : (k : Int) < (n : Int) := by omega
      have j0 : (0 : Int) ≤ (k : Int) := by omega
      have HB := hide hbw
      simp only at c0 c1 c2 c3 c4
      clear hp hbw hc he hpk
      go_wp2_with fail
      obtain ⟨V1, hV1⟩ : ∃ V1, wr.alloc (.cells #[.string key, .bool had, .bool has, .string old, .string new] 39) = V1 := ⟨_, rfl⟩
      have hbv : Below wr.heap.size wr V1 := by rw [← hV1]; exact below_new wr _
      have hsz : V1.heap.size = wr.heap.size + 1 := by rw [← hV1]; simp
      have HBV := hide (Below.next HB.out hbv)
      obtain ⟨V2, hV2⟩ : ∃ V2, V1.alloc (.cells #[.iface 3 (.int .i64 (key.size : Int)), .iface 9 (.string key), .iface 4 (.bool had), .iface 3 (.int .i64 (old.size : Int)), .iface 9 (.string old), .iface 4 (.bool has), .iface 3 (.int .i64 (new.size : Int)), .iface 9 (.string new)] 20) = V2 := ⟨_, rfl⟩
      have hrow : RowR V2 (.slice (some ⟨wr.heap.size + 1, 0, none⟩) 8 8) ((chP (key, ⟨had, has, old, new⟩)).map Part.val) := by rw [← hV2, ← hsz]; exact rowR_new V1 _ _
      have HB2v := hide (Below.next HBV.out (by rw [← hV2]; exact below_new V1 _ : Below V1.heap.size V1 V2))
      have HI2 := hide (inb_any (chP (key, ⟨had, has, old, new⟩)) _ V2 hrow hO (by simp [chP]))
      have HLP : Hid ((ptB (chP (key, ⟨had, has, old, new⟩))).length ≤ 8 * 1099511627776) := ptB_len (chP (key, ⟨had, has, old, new⟩)) hO
      have HLT := hide (crcReg_lt' (hd ++ chsB (l.take k)))
      have HST : Hid (crcReg (nt 0) (hd ++ chsB (l.take (k + 1))) = crcReg (crcReg (nt 0) (hd ++ chsB (l.take k))) (ptB (chP (key, ⟨had, has, old, new⟩)))) := by
        show _ = _
        rw [HTK.out, ← List.append_assoc, crcReg_append]
      generalize ptB (chP (key, ⟨had, has, old, new⟩)) = pb at *
      rw [hV1, hV2]
      clear hV1 hV2 hbv hsz hrow hO c0 c1 c2 c3 c4 HBV HTK
      generalize crcReg (nt 0) (hd ++ chsB (l.take k)) = R at *
      refine HI2.out.mono ?_
      rintro e V3 ⟨v3, rfl, ho3, hb3⟩
      have HB3 := hide (Below.next HB2v.out hb3)
      have HC3 := hide (crcMore_rd (nt R) _ v3 pb V3 rfl (nt_lt R) (by have := HLP.out; omega) (rd_of_owns ho3) (HT.out.below HB3.out))
      clear ho3 hb3 HI2 HB2v HB
      go_wp2_with fail
      refine HC3.out.mono ?_
      rintro e V4 ⟨rfl, rfl⟩
      rw [nt2 R HLT.out, ← HST.out]
      clear HC3 HST
      go_wp2
      go_roundw
      case rel => exact ⟨k + 1, by omega, by go_num, rfl, HB3.out⟩
      case measure => simp [intOf]; omega
    · have hltI : ¬ (k : Int) < (n : Int) := by omega
      have hkn : k = n := by omega
      subst hkn
      have HALL : Hid (nt (crcReg (nt 0) (hd ++ chsB (l.take k))) = crcV (batB fr tt l)) := by show _ = _; rw [HD.out, HN.out, List.take_length]; rfl
      have HB := hide hbw
      clear hbw
      rw [HALL.out]
      go_wp2
      rw [HQ.out]
      exact ⟨rfl, HB.out⟩
end Go.Proofs.YtiihnoohodklhaaDoor
