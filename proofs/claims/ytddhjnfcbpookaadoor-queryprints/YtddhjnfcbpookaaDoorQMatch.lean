import Derived.Test.YtddhjnfcbpookaaDoorQFault
import Derived.Test.YtddhjnfcbpookaaDoorRComp
namespace Go.Proofs.YtddhjnfcbpookaaDoor
open Go.RowKit

/-! The document's Match. -/
theorem ItsAt.get {w : World} {F : Nat → Prop} {a : Option Addr} {n cap : Nat} {l : List It} (h : ItsAt w F (.slice a n cap) l) (i : Nat) (hi : i < l.length) : ∃ g off u, a = some ⟨g, off, none⟩ ∧ (l[i]'hi).Ok ∧ w.cell? ⟨g, off + i * 4, none⟩ = some (.int .i64 (l[i]'hi).kind) ∧ w.cell? ⟨g, off + i * 4 + 1, none⟩ = some (.int .i64 (l[i]'hi).num) ∧ w.cell? ⟨g, off + i * 4 + 2, none⟩ = some (.string (l[i]'hi).text) ∧ w.cell? ⟨g, off + i * 4 + 3, none⟩ = some u ∧ ItsAt w F u (l[i]'hi).list := by
  cases h with
  | mk a g off cap l vs hlen ha hok h0 h1 h2 h3 hin =>
    obtain ⟨rfl, -⟩ := ha (by omega)
    exact ⟨g, off, vs i, rfl, hok i hi, h0 i hi, h1 i hi, h2 i hi, h3 i hi, hin i hi⟩
def signB (s n : Int) : Bool := if s = 1 then (n == 0) else if s = 2 then decide (n < 0) else if s = 3 then decide (n ≤ 0) else if s = 4 then decide (0 < n) else decide (0 ≤ n)
def standsB (x : It) (c : Cd) : Bool := decide (x.kind = c.item.kind) && signB c.sign (cmpOne (cmpR 3) x c.item)
theorem pack_one {x : It} (h : packF [x] = 0) : oneF (faultR 3) x = 0 := by
  have h1 : faultR 4 [x] = 0 := by
    unfold packF at h
    by_cases e : faultR 4 [x] = 0
    · exact e
    · rw [if_neg e] at h; exact absurd h e
  exact fault_each (rec := faultR 3) h1 x (by simp)
set_option maxHeartbeats 4000000 in
set_option maxRecDepth 100000 in
theorem stands_any (x : It) (c : Cd) (u uc : Value) (w : World) (hx : oneF (faultR 3) x = 0) (hc : oneF (faultR 3) c.item = 0) (hu : ItsAt w anyB u x.list) (huc : ItsAt w anyB uc c.item.list) :
    Calls Tryd.prog 30 #[.agg #[.int .i64 x.kind, .int .i64 x.num, .string x.text, u], .agg #[.string c.field, .int .i64 c.sign, .int .i64 c.item.kind, .int .i64 c.item.num, .string c.item.text, uc]] w fun e w' => e = .returned (.bool (standsB x c)) ∧ Below w.heap.size w w' := by
  obtain ⟨r, hr⟩ : ∃ r, r = standsB x c := ⟨_, rfl⟩
  rw [← hr]
  have HR := hide hr
  obtain ⟨ua, ul, hua⟩ := hu.form
  obtain ⟨va, vl, hva⟩ := huc.form
  subst hua hva
  have q1 := below_new w (.cells #[.int .i64 x.kind, .int .i64 x.num, .string x.text, .slice ua x.list.length ul] 59)
  have x1 := RowAt.new w #[.int .i64 x.kind, .int .i64 x.num, .string x.text, .slice ua x.list.length ul] 59
  have hs1 : (w.alloc (.cells #[.int .i64 x.kind, .int .i64 x.num, .string x.text, .slice ua x.list.length ul] 59)).heap.size = w.heap.size + 1 := by simp
  generalize hW1 : w.alloc (.cells #[.int .i64 x.kind, .int .i64 x.num, .string x.text, .slice ua x.list.length ul] 59) = W1 at q1 x1 hs1
  have q2 := below_new W1 (.cells #[.string c.field, .int .i64 c.sign, .int .i64 c.item.kind, .int .i64 c.item.num, .string c.item.text, .slice va c.item.list.length vl] 61)
  have x2 := RowAt.new W1 #[.string c.field, .int .i64 c.sign, .int .i64 c.item.kind, .int .i64 c.item.num, .string c.item.text, .slice va c.item.list.length vl] 61
  rw [hs1] at x2
  generalize hW2 : W1.alloc (.cells #[.string c.field, .int .i64 c.sign, .int .i64 c.item.kind, .int .i64 c.item.num, .string c.item.text, .slice va c.item.list.length vl] 61) = W2 at q2 x2
  have HW : Hid ((w.alloc (.cells #[.int .i64 x.kind, .int .i64 x.num, .string x.text, .slice ua x.list.length ul] 59)).alloc (.cells #[.string c.field, .int .i64 c.sign, .int .i64 c.item.kind, .int .i64 c.item.num, .string c.item.text, .slice va c.item.list.length vl] 61) = W2) := by rw [hW1]; exact hW2
  have hb2 := Below.next q1 q2
  have HB := hide hb2
  have HCI := hide (rci_any (faultR 3) (cmpR 3) (rcl_any 3) x c.item (.slice ua x.list.length ul) (.slice va c.item.list.length vl) W2 hx hc (hu.keep hb2) (huc.keep hb2))
  have xr := x1.below q2
  have a0 := xr.cell 0 (by simp)
  have a1 := xr.cell 1 (by simp)
  have a2 := xr.cell 2 (by simp)
  have a3 := xr.cell 3 (by simp)
  simp only [List.getElem_toArray, List.getElem_cons_zero, List.getElem_cons_succ] at a0 a1 a2 a3
  obtain ⟨c0, c1, c2, c3, c4, c5⟩ := x2.q6
  have HC1 := hide (fun W (hW : Below W2.heap.size W2 W) => cell_below hW c1)
  rw [← hW2, ← hW1] at a0 a1 a2 a3 c0 c1 c2 c3 c4 c5
  obtain ⟨n, hn⟩ : ∃ n, n = cmpOne (cmpR 3) x c.item := ⟨_, rfl⟩
  rw [← hn] at HCI
  have HRR : Hid (r = (decide (x.kind = c.item.kind) && signB c.sign n)) := by show _ = _; rw [HR.out, standsB, hn]
  clear hu huc q1 x1 hs1 q2 x2 hb2 hW1 hW2 hr hn hx hc xr HR
  go_enter Tryd.func30, Tryd.ntmps30
  by_cases hk : x.kind = c.item.kind
  · have hkb : (x.kind != c.item.kind) = false := by simp [hk]
    have HS : Hid (r = signB c.sign n) := by show _ = _; rw [HRR.out]; simp [hk]
    clear hk HRR
    go_wp2_with fail
    rw [HW.out]
    refine HCI.out.mono ?_
    rintro e w3 ⟨rfl, hb3⟩
    have s1 := HC1.out w3 hb3
    have HB3 := hide (Below.next HB.out hb3)
    clear hb3 HCI HC1 a0 a1 a2 a3 c0 c1 c2 c3 c4 c5
    by_cases h1 : c.sign = 1
    · have e1 : (c.sign == 1) = true := by simp [h1]
      have HE : Hid (r = (n == 0)) := by show _ = _; rw [HS.out, signB, if_pos h1]
      clear h1
      go_wp2
      go_ret
      exact ⟨by rw [HE.out]; rfl, HB3.out⟩
    have e1 : (c.sign == 1) = false := by simp [h1]
    by_cases h2 : c.sign = 2
    · have e2 : (c.sign == 2) = true := by simp [h2]
      have HE : Hid (r = decide (n < 0)) := by show _ = _; rw [HS.out, signB, if_neg h1, if_pos h2]
      clear h1 h2
      go_wp2
      go_ret
      exact ⟨by rw [HE.out]; rfl, HB3.out⟩
    have e2 : (c.sign == 2) = false := by simp [h2]
    by_cases h3 : c.sign = 3
    · have e3 : (c.sign == 3) = true := by simp [h3]
      have HE : Hid (r = decide (n ≤ 0)) := by show _ = _; rw [HS.out, signB, if_neg h1, if_neg h2, if_pos h3]
      clear h1 h2 h3
      go_wp2
      go_ret
      exact ⟨by rw [HE.out]; rfl, HB3.out⟩
    have e3 : (c.sign == 3) = false := by simp [h3]
    by_cases h4 : c.sign = 4
    · have e4 : (c.sign == 4) = true := by simp [h4]
      have HE : Hid (r = decide (0 < n)) := by show _ = _; rw [HS.out, signB, if_neg h1, if_neg h2, if_neg h3, if_pos h4]
      clear h1 h2 h3 h4
      go_wp2
      go_ret
      exact ⟨by rw [HE.out]; rfl, HB3.out⟩
    have e4 : (c.sign == 4) = false := by simp [h4]
    have HE : Hid (r = decide (0 ≤ n)) := by show _ = _; rw [HS.out, signB, if_neg h1, if_neg h2, if_neg h3, if_neg h4]
    clear h1 h2 h3 h4
    go_wp2
    go_ret
    exact ⟨by rw [HE.out]; rfl, HB3.out⟩
  · have hkb : (x.kind != c.item.kind) = true := by simp [hk]
    have hkc : (x.kind == c.item.kind) = false := by simp [hk]
    have HE : Hid (r = false) := by show _ = _; rw [HRR.out]; simp [hk]
    clear HRR HCI
    go_wp2
    go_ret
    exact ⟨by rw [HE.out]; rfl, by rw [HW.out]; exact HB.out⟩
end Go.Proofs.YtddhjnfcbpookaaDoor
