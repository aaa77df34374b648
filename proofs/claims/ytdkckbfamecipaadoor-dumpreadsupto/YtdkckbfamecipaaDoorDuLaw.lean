import Derived.Test.YtdkckbfamecipaaDoorDuBack
import Derived.Test.YtdkckbfamecipaaDoorLSame
import Derived.Test.YtdkckbfamecipaaDoorLErr13
namespace Go.Proofs.YtdkckbfamecipaaDoor
open Go.RowKit

set_option maxRecDepth 100000 in
set_option maxHeartbeats 4000000 in
theorem reads_any (A : Nat → Addr) (v : Value) (ls : List ByteArray) (w : World) (hm : ls.length ≤ 1048576) (hsz : ∀ s ∈ ls, s.size ≤ 1048576) (hR : RowR w v (strs ls)) (hE : ErrsG 13 gAll A w) (hsy : SynAt w.heap.size w) (hI : ItoAt w) :
    Calls Tryd.prog 3 #[v] w fun e w' => e = .returned (.bool true) ∧ Below w.heap.size w w' := by
  obtain ⟨a2, c2, rfl⟩ : ∃ a c, v = .slice a ls.length c := by obtain ⟨x, y, h, _⟩ := hR; rw [strs_length] at h; exact ⟨x, y, h⟩
  have HLT := hide (lent_any _ ls w (by omega) hR)
  have HR := hide hR.strs
  obtain ⟨n, hn⟩ : ∃ n, n = ls.length := ⟨_, rfl⟩
  rw [← hn] at HLT HR ⊢
  have HKD := hide (readD_kinds [] ls)
  have HRD : Hid (∀ (g cap : Nat) (W : World), Below w.heap.size w W → StrR W (.slice (some ⟨g, 0, none⟩) (n + 4) cap) (ls ++ marks4) → Calls Tryd.prog 5 #[.slice (some ⟨g, 0, none⟩) n cap] W fun e w' => RdV A W.heap.size (readD [] ls) e w' ∧ Below W.heap.size W w') := fun g cap W hW hs => by
    have := hs.take (n := n) (by omega)
    rw [show (ls ++ marks4).take n = ls by rw [hn, List.take_left'] ; rfl] at this
    exact read_any A _ ls W (by omega) (fun s h => Nat.le_trans (hsz s h) (by decide)) this (hE.keep hW) ((hsy.below hW).wid) (hI.keep hW)
  have HRR : Hid (∀ (W : World), Below w.heap.size w W → Calls Tryd.prog 6 #[.slice a2 n c2] W fun e w' => RrV W.heap.size (readD [] ls) e w' ∧ Below W.heap.size W w') := fun W hW => by
    rw [hn]
    exact rread_any _ ls W (by omega) (fun s h => Nat.le_trans (hsz s h) (by decide)) (by rw [← hn]; exact HR.out.below hW) (hI.keep hW)
  have HBK : Hid (∀ (g cap : Nat) (W : World), Below w.heap.size w W → n + 4 ≤ cap → StrR W (.slice (some ⟨g, 0, none⟩) (n + 4) cap) (ls ++ marks4) → Calls Tryd.prog 9 #[.slice (some ⟨g, 0, none⟩) (n + 4) cap, .slice a2 n c2] W fun e w' => e = .returned (.bool true) ∧ Below W.heap.size W w') := fun g cap W hW hcap hs => by
    rw [hn] at hcap hs ⊢
    exact back_any g cap _ ls W (by omega) hcap hs (by rw [← hn]; exact HR.out.below hW)
  have HE := hide hE
  have HN : Hid (n ≤ 1048576) := by show n ≤ _; omega
  have HNL : Hid (n = ls.length) := hn
  generalize hr : readD [] ls = r at *
  have i0 : (0 : Int) ≤ (n : Int) := by omega
  clear hR hE hsy hI hm hsz hr hn
  go_enter Tryd.func3, Tryd.ntmps3
  go_wp2_with fail
  refine HLT.out.mono ?_
  rintro e w1 ⟨g, cap, rfl, hcap, hs1, hb1⟩
  have HCAP := hide hcap
  have HS1 := hide hs1
  have HB1 := hide hb1
  have HR1 := hide (HRD.out g cap w1 hb1 hs1)
  have i2 : n ≤ cap := by omega
  have i3 : (n : Int) ≤ (cap : Int) := by omega
  have i4 : n ≤ n + 4 := by omega
  clear hcap hs1 hb1 HLT HRD
  go_wp2_with fail
  refine HR1.out.mono ?_
  rintro e w2 ⟨hv2, hb2⟩
  have HB2 := hide (Below.next HB1.out hb2)
  have HS2 := hide (HS1.out.below hb2)
  have HR2 := hide (HRR.out w2 HB2.out)
  have HQ2 : Hid (Below w1.heap.size w1 w2) := hb2
  clear hb2 HR1 HS1 HRR
  rcases hv2 with ⟨k, hk, rfl⟩ | ⟨l, lv, hl, rfl, hpo⟩
  · subst hk
    go_wp2_with fail
    refine HR2.out.mono ?_
    rintro e w3 ⟨hv3, hb3⟩
    have HB3 := hide (Below.next HB2.out hb3)
    have HS3 := hide (HS2.out.below hb3)
    clear hb3 HR2 HS2
    rcases hv3 with ⟨k', hk', rfl⟩ | ⟨l, lv, hl, _⟩
    · cases hk'
      have hkk : k = 0 ∨ k = 1 ∨ k = 3 ∨ k = 11 := by
        rcases HKD.out with h | h | h | h | ⟨l, h, _⟩
        · cases h; exact .inl rfl
        · cases h; exact .inr (.inl rfl)
        · cases h; exact .inr (.inr (.inl rfl))
        · cases h; exact .inr (.inr (.inr rfl))
        · cases h
      have HSP := hide (samep_same _ _ [] w3 (by decide) (PrR.nil w3) (PrR.nil w3))
      have HNM := hide (fun W (hW : Below w.heap.size w W) => num_err A (some k) W (HE.out.keep hW) (by rcases hkk with rfl | rfl | rfl | rfl <;> simp))
      have HBX := hide (fun W (hW : Below w.heap.size w W) (hs : StrR W (.slice (some ⟨g, 0, none⟩) (n + 4) cap) (ls ++ marks4)) => HBK.out g cap W hW HCAP.out hs)
      have hkq : ((((numE (some k) : Nat) : Int)) == ((k + 1 : Nat) : Int)) = true := by simp [numE]
      have HKQ : Hid (((numE (some k) : Nat) : Int) = ((k + 1 : Nat) : Int)) := rfl
      simp only [errV] at HNM ⊢
      generalize ((numE (some k) : Nat) : Int) = Z at *
      generalize ((k + 1 : Nat) : Int) = Z2 at *
      clear HBK hkk HKD
      go_wp2_with fail
      refine HSP.out.mono ?_
      rintro e w4 ⟨rfl, hb4⟩
      have HB4 := hide (Below.next HB3.out hb4)
      have HS4 := hide (HS3.out.below hb4)
      clear hb4 HSP HS3
      go_wp2_with fail
      refine (HNM.out w4 HB4.out).mono ?_
      rintro e w5 ⟨rfl, rfl⟩
      go_wp2_with fail
      refine (HBX.out w4 HB4.out HS4.out).mono ?_
      rintro e w6 ⟨rfl, hb6⟩
      have HB6 := hide (Below.next HB4.out hb6)
      clear hb6
      go_wp2
      go_ret
      exact ⟨rfl, HB6.out⟩
    · cases hl
  · subst hl
    have hll : l.length ≤ 1048576 := by
      rcases HKD.out with h | h | h | h | ⟨l', h, h2⟩
      · cases h
      · cases h
      · cases h
      · cases h
      · cases h
        have := HN.out
        have := HNL.out
        simp at h2
        omega
    have HPO := hide hpo
    clear hpo
    go_wp2_with fail
    refine HR2.out.mono ?_
    rintro e w3 ⟨hv3, hb3⟩
    have HB3 := hide (Below.next HB2.out hb3)
    have HS3 := hide (HS2.out.below hb3)
    have HPO3 := hide (HPO.out.below hb3)
    clear hb3 HR2 HS2 HPO
    rcases hv3 with ⟨k', hk', _⟩ | ⟨l', lv', hl', rfl, hpo'⟩
    · cases hk'
    · cases hl'
      have HSP := hide (samep_same _ _ l w3 (by omega) HPO3.out.at hpo'.at)
      have HNM := hide (fun W => num_nil W)
      have HBX := hide (fun W (hW : Below w.heap.size w W) (hs : StrR W (.slice (some ⟨g, 0, none⟩) (n + 4) cap) (ls ++ marks4)) => HBK.out g cap W hW HCAP.out hs)
      clear HBK hpo' hll HKD
      go_wp2_with fail
      refine HSP.out.mono ?_
      rintro e w4 ⟨rfl, hb4⟩
      have HB4 := hide (Below.next HB3.out hb4)
      have HS4 := hide (HS3.out.below hb4)
      clear hb4 HSP HS3
      go_wp2_with fail
      refine (HNM.out w4).mono ?_
      rintro e w5 ⟨rfl, rfl⟩
      go_wp2_with fail
      refine (HBX.out w4 HB4.out HS4.out).mono ?_
      rintro e w6 ⟨rfl, hb6⟩
      have HB6 := hide (Below.next HB4.out hb6)
      clear hb6
      go_wp2
      go_ret
      exact ⟨rfl, HB6.out⟩
end Go.Proofs.YtdkckbfamecipaaDoor
