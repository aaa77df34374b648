import Derived.Test.YtageokjobbjddaaGreatDoorPFault
import Derived.Test.YtageokjobbjddaaGreatDoorGRF
import Derived.Test.YtageokjobbjddaaGreatDoorPQuo
import Derived.Test.YtageokjobbjddaaGreatDoorProg
import Derived.Shelf.Strconv.AtoiAll
import Derived.KernelRfl
namespace Go.Proofs.YtageokjobbjddaaGreatDoor
open Go.RowKit

/-! The signs: a table of functions. -/
def sgnFn (s : Int) : Nat := if s = 1 then 55 else if s = 2 then 56 else if s = 3 then 57 else if s = 4 then 58 else 59
def sgnT (s : Int) : ByteArray := if s = 1 then ⟨#[61]⟩ else if s = 2 then ⟨#[60]⟩ else if s = 3 then ⟨#[60, 61]⟩ else if s = 4 then ⟨#[62]⟩ else ⟨#[62, 61]⟩
abbrev sgnV (n : Nat) : Value := .func (.func n) #[] #[]
set_option maxRecDepth 100000 in
theorem sgnA_any (n : Int) (w : World) : Calls Tryz.prog 55 #[.int .i64 n] w fun e w' => e = .returned (.bool (n == 0)) ∧ w = w' := by
  go_enter Tryz.func55, Tryz.ntmps55
  go_wp2
  go_ret
  exact ⟨rfl, rfl⟩
set_option maxRecDepth 100000 in
theorem sgnB_any (n : Int) (w : World) : Calls Tryz.prog 56 #[.int .i64 n] w fun e w' => e = .returned (.bool (decide (n < 0))) ∧ w = w' := by
  go_enter Tryz.func56, Tryz.ntmps56
  go_wp2
  go_ret
  exact ⟨rfl, rfl⟩
set_option maxRecDepth 100000 in
theorem sgnC_any (n : Int) (w : World) : Calls Tryz.prog 57 #[.int .i64 n] w fun e w' => e = .returned (.bool (decide (n ≤ 0))) ∧ w = w' := by
  go_enter Tryz.func57, Tryz.ntmps57
  go_wp2
  go_ret
  exact ⟨rfl, rfl⟩
set_option maxRecDepth 100000 in
theorem sgnD_any (n : Int) (w : World) : Calls Tryz.prog 58 #[.int .i64 n] w fun e w' => e = .returned (.bool (decide (0 < n))) ∧ w = w' := by
  go_enter Tryz.func58, Tryz.ntmps58
  go_wp2
  go_ret
  exact ⟨rfl, rfl⟩
set_option maxRecDepth 100000 in
theorem sgnE_any (n : Int) (w : World) : Calls Tryz.prog 59 #[.int .i64 n] w fun e w' => e = .returned (.bool (decide (0 ≤ n))) ∧ w = w' := by
  go_enter Tryz.func59, Tryz.ntmps59
  go_wp2
  go_ret
  exact ⟨rfl, rfl⟩
theorem sgn_any (s n : Int) (w : World) : Calls Tryz.prog (sgnFn s) #[.int .i64 n] w fun e w' => e = .returned (.bool (signB s n)) ∧ w = w' := by
  unfold sgnFn signB
  by_cases h1 : s = 1
  · rw [if_pos h1, if_pos h1]; exact sgnA_any n w
  rw [if_neg h1, if_neg h1]
  by_cases h2 : s = 2
  · rw [if_pos h2, if_pos h2]; exact sgnB_any n w
  rw [if_neg h2, if_neg h2]
  by_cases h3 : s = 3
  · rw [if_pos h3, if_pos h3]; exact sgnC_any n w
  rw [if_neg h3, if_neg h3]
  by_cases h4 : s = 4
  · rw [if_pos h4, if_pos h4]; exact sgnD_any n w
  rw [if_neg h4, if_neg h4]
  exact sgnE_any n w
theorem sgn_call (s : Int) : ∀ args w, Sem.run Tryz.prog (callFunc (sgnFn s) args) w = .ok (.enter (sgnFn s) args) w := by
  unfold sgnFn
  split
  · exact Tryz.call55
  split
  · exact Tryz.call56
  split
  · exact Tryz.call57
  split
  · exact Tryz.call58
  exact Tryz.call59
def sgnCells : Array Value := #[.string ⟨#[]⟩, .nilFunc, .string ⟨#[61]⟩, sgnV 55, .string ⟨#[60]⟩, sgnV 56, .string ⟨#[60, 61]⟩, sgnV 57, .string ⟨#[62]⟩, sgnV 58, .string ⟨#[62, 61]⟩, sgnV 59]
set_option maxHeartbeats 2000000 in
set_option maxRecDepth 100000 in
theorem psigns_any (w : World) : Calls Tryz.prog 41 #[] w fun e w' => e = .returned (.slice (some ⟨w.heap.size, 0, none⟩) 6 6) ∧ RowAt w' w.heap.size sgnCells 85 ∧ Below w.heap.size w w' := by
  have HB := hide (below_new w (.cells sgnCells 85))
  have HR := hide (RowAt.new w sgnCells 85)
  go_enter Tryz.func41, Tryz.ntmps41
  go_wp2
  go_ret
  exact ⟨rfl, HR.out, HB.out⟩
theorem sgn_cell {w : World} {b : Nat} (h : RowAt w b sgnCells 85) {s : Int} (h1 : 1 ≤ s) (h5 : s ≤ 5) (k : Nat) (hk : s = (k : Int)) : w.cell? ⟨b, k * 2, none⟩ = some (.string (sgnT s)) ∧ w.cell? ⟨b, k * 2 + 1, none⟩ = some (sgnV (sgnFn s)) := by
  subst hk
  have hk1 : 1 ≤ k := by omega
  have hk5 : k ≤ 5 := by omega
  rcases (show k = 1 ∨ k = 2 ∨ k = 3 ∨ k = 4 ∨ k = 5 by omega) with rfl | rfl | rfl | rfl | rfl
  · exact ⟨h.cell 2 (by decide), h.cell 3 (by decide)⟩
  · exact ⟨h.cell 4 (by decide), h.cell 5 (by decide)⟩
  · exact ⟨h.cell 6 (by decide), h.cell 7 (by decide)⟩
  · exact ⟨h.cell 8 (by decide), h.cell 9 (by decide)⟩
  · exact ⟨h.cell 10 (by decide), h.cell 11 (by decide)⟩
theorem comp_one (x y : It) (hx : packF [x] = 0) (hy : packF [y] = 0) (ox : OkR 4 [x]) (oy : OkR 4 [y]) : compV [x] [y] = cmpOne (cmpR 3) x y := by
  have fx : faultR 4 [x] = 0 := by
    by_cases e : faultR 4 [x] = 0
    · exact e
    · unfold packF at hx; rw [if_neg e] at hx; exact absurd hx e
  have fy : faultR 4 [y] = 0 := by
    by_cases e : faultR 4 [y] = 0
    · exact e
    · unfold packF at hy; rw [if_neg e] at hy; exact absurd hy e
  unfold compV
  rw [if_pos ⟨hx, hy⟩, order_texts [x] [y] fx fy ox oy]
  show cmpFirst (cmpOne (cmpR 3)) [x] [y] = _
  simp only [cmpFirst]
  split
  · rename_i h; exact h.symm
  · rfl
end Go.Proofs.YtageokjobbjddaaGreatDoor

namespace Go.Proofs.YtageokjobbjddaaGreatDoor
open Go.RowKit

/-! A sign, cut off: the last first. -/
/-- The sign with which a text begins, among those up to k. -/
def psg (s : ByteArray) : Nat → Option (Nat × ByteArray)
  | 0 => none
  | k + 1 => if (sgnT ((k + 1 : Nat) : Int)).data.toList.isPrefixOf s.data.toList = true then some (k + 1, s.extract (sgnT ((k + 1 : Nat) : Int)).size s.size) else psg s k
def signD (s : ByteArray) : Pt × ByteArray := match psg s 5 with | none => (ptBad, ⟨#[]⟩) | some q => (⟨6, ⟨#[]⟩, (q.1 : Int)⟩, q.2)
set_option maxHeartbeats 4000000 in
set_option maxRecDepth 100000 in
theorem pcutsign_any (s : ByteArray) (w : World) :
    Calls Tryz.prog 70 #[.string s] w fun e w' => e = .returned (.tuple #[.agg (ptV (signD s).1), .string (signD s).2]) ∧ Below w.heap.size w w' := by
  have q1 := below_new w (.cells (ptV pt0) 67)
  have x1 := RowAt.new w (ptV pt0) 67
  unfold pt0 ptV at q1 x1
  obtain ⟨W1, hW1⟩ : ∃ W1, w.alloc (.cells #[.int .i64 0, .string ⟨#[]⟩, .int .i64 0] 67) = W1 := ⟨_, rfl⟩
  rw [hW1] at q1 x1
  have HW := hide hW1
  have HX := hide x1
  have HB := hide q1
  have HSG := hide (psigns_any W1)
  obtain ⟨r, hr⟩ : ∃ r, r = signD s := ⟨_, rfl⟩
  obtain ⟨R0, hR0⟩ : ∃ R0, R0 = psg s 5 := ⟨_, rfl⟩
  rw [← hr]
  unfold signD at hr
  rw [← hR0] at hr
  have HN : Hid (R0 = none → r = (ptBad, ⟨#[]⟩)) := fun e => by rw [hr, e]
  have HS : Hid (∀ p l, R0 = some (p, l) → r = (⟨6, ⟨#[]⟩, (p : Int)⟩, l)) := fun p l e => by rw [hr, e]
  have HST := hide hR0
  have HIS : Hid (∀ n W, Calls Tryz.prog 23 #[.int .i64 n] W fun e w' => e = .returned (.bool (signOk n)) ∧ W = w') := fun n W => pissign_any n W
  clear hr hR0 hW1 q1 x1
  go_enter Tryz.func70, Tryz.ntmps70
  go_wp2_with fail
  rw [HW.out]
  refine HSG.out.mono ?_
  rintro e W2 ⟨rfl, hT, hb2⟩
  have HT := hide hT
  have hlt := hT.lt
  have HX2 := hide (HX.out.below hb2)
  have HB2 := hide (Below.next HB.out hb2)
  obtain ⟨B, hBB⟩ : ∃ B, B = W1.heap.size := ⟨_, rfl⟩
  rw [← hBB] at HT
  rw [← hBB]
  clear HSG hT hb2 hlt HX HB HW hBB
  go_wp2_with fail
  go_loopw [5, 6, 7] (fun nv _ _ wr => ∃ k : Nat, nv = .int .i64 (k : Int) ∧ k ≤ 5 ∧ Hid (R0 = psg s k) ∧ wr = W2) (fun nv _ _ _ => (intOf nv).toNat)
  case atStart => exact ⟨5, rfl, by omega, HST, rfl⟩
  case round =>
    obtain ⟨k, rfl, hk, hq, rfl⟩ := hrel
    have HC := hide (HIS.out (k : Int) wr)
    cases k with
    | zero =>
      have HE : Hid (r = (ptBad, ⟨#[]⟩)) := HN.out hq.out
      rw [show signOk ((0 : Nat) : Int) = false by decide] at HC
      have HST2 := hide (store_row wr w.heap.size 67 _ #[.int .i64 1, .string ⟨#[]⟩, .int .i64 0] HX2.out (by kernel_rfl) rfl (by simp [Value.oneCell']))
      clear hq HN HS HST HIS
      go_wp2_with fail
      refine HC.out.mono ?_
      rintro e w' ⟨rfl, rfl⟩
      clear HC
      go_wp2_with (refine wpList_store_eq rfl 67 _ _ rfl _ _ rfl rfl HST2.out ?_)
      refine bodyPost_ret (results_row_tmp rfl _ _ w.heap.size 67 _ (0, 0) _ rfl (row_set _ _ _ _ _ HX2.out) Tryz.underlying67 rfl (by kernel_rfl)) rfl ?_
      exact ⟨by rw [HE.out]; rfl, below_row HB2.out (Nat.le_refl _) _⟩
    | succ k =>
      have hok : signOk ((k + 1 : Nat) : Int) = true := by simp [signOk]; omega
      rw [hok] at HC
      have hcell := (sgn_cell HT.out (s := ((k + 1 : Nat) : Int)) (by omega) (by omega) (k + 1) rfl).1
      have HCP := hide (scutp_any s (sgnT ((k + 1 : Nat) : Int)) wr)
      have HQ := hide hq.out
      have HN1 : Hid ((sgnT ((k + 1 : Nat) : Int)).data.toList.isPrefixOf s.data.toList = false → R0 = psg s k) := fun e => by rw [hq.out, psg, e, if_neg (by simp)]
      have HS1 : Hid ((sgnT ((k + 1 : Nat) : Int)).data.toList.isPrefixOf s.data.toList = true → R0 = some (k + 1, s.extract (sgnT ((k + 1 : Nat) : Int)).size s.size)) := fun e => by rw [hq.out, psg, if_pos e]
      obtain ⟨n, hn⟩ : ∃ n : Nat, n = k + 1 := ⟨_, rfl⟩
      have n0 : (0 : Int) ≤ (n : Int) := by omega
      have n1 : (n : Int) < 6 := by omega
      have n5 : n ≤ 5 := by omega
      have HNK : Hid (n = k + 1) := hn
      rw [← hn] at HC hcell HCP HN1 HS1
      rw [← hn]
      unfold cutpD at HCP
      generalize sgnT (n : Int) = g at *
      clear hq hok HQ hk hn
      go_wp2_with fail
      refine HC.out.mono ?_
      rintro e w' ⟨rfl, rfl⟩
      clear HC
      cases hp : g.data.toList.isPrefixOf s.data.toList with
      | true =>
        rw [hp, if_pos rfl] at HCP
        have HE : Hid (r = (⟨6, ⟨#[]⟩, (n : Int)⟩, s.extract g.size s.size)) := HS.out _ _ (HS1.out hp)
        have HST2 := hide (store_row wr w.heap.size 67 _ #[.int .i64 6, .string ⟨#[]⟩, .int .i64 (n : Int)] HX2.out (by kernel_rfl) rfl (by simp [Value.oneCell']))
        clear hp HN1 HS1 HN HS HST HNK HIS
        go_wp2_with fail
        refine HCP.out.mono ?_
        rintro e w' ⟨rfl, rfl⟩
        clear HCP
        go_wp2_with (refine wpList_store_eq rfl 67 _ _ rfl _ _ rfl rfl HST2.out ?_)
        refine bodyPost_ret (results_row_tmp rfl _ _ w.heap.size 67 _ (0, 0) _ rfl (row_set _ _ _ _ _ HX2.out) Tryz.underlying67 rfl (by kernel_rfl)) rfl ?_
        exact ⟨by rw [HE.out]; rfl, below_row HB2.out (Nat.le_refl _) _⟩
      | false =>
        rw [hp, if_neg (by simp)] at HCP
        have HQ2 := hide (HN1.out hp)
        clear hp HN1 HS1
        go_wp2_with fail
        refine HCP.out.mono ?_
        rintro e w' ⟨rfl, rfl⟩
        clear HCP
        go_wp2_with fail
        go_roundw
        case rel => exact ⟨k, by rw [HNK.out]; go_num, by have := HNK.out; omega, HQ2, by first | trivial | rfl⟩
        case measure => have := HNK.out; simp [intOf]; omega
end Go.Proofs.YtageokjobbjddaaGreatDoor

namespace Go.Proofs
open Go.Shelf
def Tryz.lays172_ren : Go.Shelf.Ren := ⟨fun | 129 => 97 | 171 => 85 | 172 => 84 | 205 => 129 | 243 => 105 | 244 => 103 | 245 => 104 | 246 => 120 | 247 => 115 | 279 => 116 | 280 => 117 | 281 => 118 | 282 => 119 | 283 => 78 | 284 => 79 | 285 => 80 | 286 => 81 | 287 => 121 | 316 => 114 | 317 => 96 | 318 => 98 | 319 => 99 | 320 => 100 | 321 => 130 | 322 => 131 | 337 => 112 | 338 => 113 | n => n, fun | 0 => 0 | 2 => 2 | 3 => 3 | 4 => 4 | 5 => 5 | 9 => 9 | 20 => 20 | 21 => 21 | 37 => 48 | 46 => 111 | 51 => 136 | 53 => 98 | 75 => 36 | 76 => 120 | 80 => 169 | 85 => 145 | 127 => 159 | 143 => 166 | 145 => 168 | 167 => 144 | 168 => 147 | 171 => 112 | 173 => 115 | 175 => 140 | 210 => 161 | 212 => 135 | 213 => 137 | 232 => 157 | 233 => 158 | n => n, fun | 15 => 19 | 16 => 20 | 17 => 13 | 18 => 17 | 19 => 18 | n => n⟩
theorem Tryz.lays172 : Go.Proofs.LaysC.n172 Tryz.prog Tryz.lays172_ren := {
  mixed := by kernel_rfl
  f129 := Tryz.func97.trans (congrArg some (by kernel_rfl))
  f171 := Tryz.func85.trans (congrArg some (by kernel_rfl))
  f172 := Tryz.func84.trans (congrArg some (by kernel_rfl))
  f205 := Tryz.func129.trans (congrArg some (by kernel_rfl))
  f243 := Tryz.func105.trans (congrArg some (by kernel_rfl))
  f244 := Tryz.func103.trans (congrArg some (by kernel_rfl))
  f245 := Tryz.func104.trans (congrArg some (by kernel_rfl))
  f246 := Tryz.func120.trans (congrArg some (by kernel_rfl))
  f247 := Tryz.func115.trans (congrArg some (by kernel_rfl))
  f279 := Tryz.func116.trans (congrArg some (by kernel_rfl))
  f280 := Tryz.func117.trans (congrArg some (by kernel_rfl))
  f281 := Tryz.func118.trans (congrArg some (by kernel_rfl))
  f282 := Tryz.func119.trans (congrArg some (by kernel_rfl))
  f283 := Tryz.func78.trans (congrArg some (by kernel_rfl))
  f284 := Tryz.func79.trans (congrArg some (by kernel_rfl))
  f285 := Tryz.func80.trans (congrArg some (by kernel_rfl))
  f286 := Tryz.func81.trans (congrArg some (by kernel_rfl))
  f287 := Tryz.func121.trans (congrArg some (by kernel_rfl))
  f316 := Tryz.func114.trans (congrArg some (by kernel_rfl))
  f317 := Tryz.func96.trans (congrArg some (by kernel_rfl))
  f318 := Tryz.func98.trans (congrArg some (by kernel_rfl))
  f319 := Tryz.func99.trans (congrArg some (by kernel_rfl))
  f320 := Tryz.func100.trans (congrArg some (by kernel_rfl))
  f321 := Tryz.func130.trans (congrArg some (by kernel_rfl))
  f322 := Tryz.func131.trans (congrArg some (by kernel_rfl))
  f337 := Tryz.func112.trans (congrArg some (by kernel_rfl))
  f338 := Tryz.func113.trans (congrArg some (by kernel_rfl))
  t0 := Tryz.underlying0
  a0 := Tryz.isAgg0
  z0 := Tryz.sizeOf0
  v0 := Tryz.zeroValue0
  t2 := Tryz.underlying2
  a2 := Tryz.isAgg2
  z2 := Tryz.sizeOf2
  v2 := Tryz.zeroValue2
  t3 := Tryz.underlying3
  a3 := Tryz.isAgg3
  z3 := Tryz.sizeOf3
  v3 := Tryz.zeroValue3
  t4 := Tryz.underlying4
  a4 := Tryz.isAgg4
  z4 := Tryz.sizeOf4
  v4 := Tryz.zeroValue4
  t5 := Tryz.underlying5
  a5 := Tryz.isAgg5
  z5 := Tryz.sizeOf5
  v5 := Tryz.zeroValue5
  t9 := Tryz.underlying9
  a9 := Tryz.isAgg9
  z9 := Tryz.sizeOf9
  v9 := Tryz.zeroValue9
  t20 := Tryz.underlying20
  a20 := Tryz.isAgg20
  z20 := Tryz.sizeOf20
  v20 := Tryz.zeroValue20
  t21 := Tryz.underlying21
  a21 := Tryz.isAgg21
  z21 := Tryz.sizeOf21
  v21 := Tryz.zeroValue21
  t37 := Tryz.underlying48
  a37 := Tryz.isAgg48
  z37 := Tryz.sizeOf48
  v37 := Tryz.zeroValue48
  t46 := Tryz.underlying111
  a46 := Tryz.isAgg111
  z46 := Tryz.sizeOf111
  v46 := Tryz.zeroValue111
  t51 := Tryz.underlying136
  a51 := Tryz.isAgg136
  z51 := Tryz.sizeOf136
  v51 := Tryz.zeroValue136
  t53 := Tryz.underlying98
  a53 := Tryz.isAgg98
  z53 := Tryz.sizeOf98
  v53 := Tryz.zeroValue98
  t75 := Tryz.underlying36
  a75 := Tryz.isAgg36
  z75 := Tryz.sizeOf36
  v75 := Tryz.zeroValue36
  t76 := Tryz.underlying120
  a76 := Tryz.isAgg120
  z76 := Tryz.sizeOf120
  v76 := Tryz.zeroValue120
  t85 := Tryz.underlying145
  a85 := Tryz.isAgg145
  z85 := Tryz.sizeOf145
  v85 := Tryz.zeroValue145
  t127 := Tryz.underlying159
  a127 := Tryz.isAgg159
  z127 := Tryz.sizeOf159
  v127 := Tryz.zeroValue159
  t143 := Tryz.underlying166
  a143 := Tryz.isAgg166
  z143 := Tryz.sizeOf166
  v143 := Tryz.zeroValue166
  t145 := Tryz.underlying168
  a145 := Tryz.isAgg168
  z145 := Tryz.sizeOf168
  v145 := Tryz.zeroValue168
  t167 := Tryz.underlying144
  a167 := Tryz.isAgg144
  z167 := Tryz.sizeOf144
  v167 := Tryz.zeroValue144
  t168 := Tryz.underlying147
  a168 := Tryz.isAgg147
  z168 := Tryz.sizeOf147
  v168 := Tryz.zeroValue147
  t171 := Tryz.underlying112
  a171 := Tryz.isAgg112
  z171 := Tryz.sizeOf112
  v171 := Tryz.zeroValue112
  t173 := Tryz.underlying115
  a173 := Tryz.isAgg115
  z173 := Tryz.sizeOf115
  v173 := Tryz.zeroValue115
  t175 := Tryz.underlying140
  a175 := Tryz.isAgg140
  z175 := Tryz.sizeOf140
  v175 := Tryz.zeroValue140
  t210 := Tryz.underlying161
  a210 := Tryz.isAgg161
  z210 := Tryz.sizeOf161
  v210 := Tryz.zeroValue161
  t212 := Tryz.underlying135
  a212 := Tryz.isAgg135
  z212 := Tryz.sizeOf135
  v212 := Tryz.zeroValue135
  t213 := Tryz.underlying137
  a213 := Tryz.isAgg137
  z213 := Tryz.sizeOf137
  t232 := Tryz.underlying157
  a232 := Tryz.isAgg157
  z232 := Tryz.sizeOf157
  v232 := Tryz.zeroValue157
  t233 := Tryz.underlying158
  a233 := Tryz.isAgg158
  z233 := Tryz.sizeOf158
  v233 := Tryz.zeroValue158
  g15 := by kernel_rfl
  g16 := by kernel_rfl
  g17 := by kernel_rfl
  g18 := by kernel_rfl
  g19 := by kernel_rfl
  t80 := Tryz.underlying169
  a80 := Tryz.isAgg169
  z80 := Tryz.sizeOf169
  v80 := Tryz.zeroValue169
  i0 := by kernel_rfl
  i2 := by kernel_rfl
  i3 := by kernel_rfl
  i4 := by kernel_rfl
  i5 := by kernel_rfl
  i9 := by kernel_rfl
  i20 := by kernel_rfl
  i21 := by kernel_rfl
  i37 := by kernel_rfl
  i46 := by kernel_rfl
  i51 := by kernel_rfl
  i53 := by kernel_rfl
  i75 := by kernel_rfl
  i76 := by kernel_rfl
  i80 := by kernel_rfl
  i85 := by kernel_rfl
  i127 := by kernel_rfl
  i143 := by kernel_rfl
  i145 := by kernel_rfl
  i167 := by kernel_rfl
  i168 := by kernel_rfl
  i171 := by kernel_rfl
  i173 := by kernel_rfl
  i175 := by kernel_rfl
  i210 := by kernel_rfl
  i212 := by kernel_rfl
  i232 := by kernel_rfl
  i233 := by kernel_rfl
  m15 := by kernel_rfl
  m16 := by kernel_rfl
  m17 := by kernel_rfl
  m18 := by kernel_rfl
  m19 := by kernel_rfl
  c0 := by kernel_rfl
  c2 := by kernel_rfl
  c3 := by kernel_rfl
  c4 := by kernel_rfl
  c5 := by kernel_rfl
  c9 := by kernel_rfl
  c20 := by kernel_rfl
  c21 := by kernel_rfl
  c37 := by kernel_rfl
  c46 := by kernel_rfl
  c51 := by kernel_rfl
  c53 := by kernel_rfl
  c75 := by kernel_rfl
  c76 := by kernel_rfl
  c80 := by kernel_rfl
  c85 := by kernel_rfl
  c127 := by kernel_rfl
  c143 := by kernel_rfl
  c145 := by kernel_rfl
  c167 := by kernel_rfl
  c168 := by kernel_rfl
  c171 := by kernel_rfl
  c173 := by kernel_rfl
  c175 := by kernel_rfl
  c210 := by kernel_rfl
  c212 := by kernel_rfl
  c213 := by kernel_rfl
  c232 := by kernel_rfl
  c233 := by kernel_rfl }
end Go.Proofs

namespace Go.Proofs.YtageokjobbjddaaGreatDoor
open Go.RowKit

/-! A number, cut off. -/
def AtoP (o : Lib.NumEnd Int) (e : Ending) : Prop := (∃ v, o = .ok v ∧ e = .returned (.tuple #[.int .i64 v, .nilIface])) ∨ ((∀ v, o ≠ .ok v) ∧ ∃ n N, e = .returned (.tuple #[.int .i64 n, .iface 147 (.pointer (some ⟨N, 0, none⟩))]))
/-- The two errors of strconv. -/
def SynAt (w : World) : Prop := (∃ te pe, w.cell? ⟨19, 0, none⟩ = some (.iface te pe)) ∧ ∃ te pe, w.cell? ⟨20, 0, none⟩ = some (.iface te pe)
theorem SynAt.keep {w w' : World} (h : SynAt w) (hb : Below w.heap.size w w') : SynAt w' := by
  obtain ⟨⟨a, b, h1⟩, c, d, h2⟩ := h
  exact ⟨⟨a, b, (hb.cell (p := ⟨19, 0, none⟩) (World.block_lt_of_cell? w _ h1)).trans h1⟩, c, d, (hb.cell (p := ⟨20, 0, none⟩) (World.block_lt_of_cell? w _ h2)).trans h2⟩
theorem patoi_any (s : ByteArray) (w : World) (hs : s.size ≤ 1000000) (hv : SynAt w) :
    Calls Tryz.prog 84 #[.string s] w fun e w' => AtoP (Lib.atoiAll s.data.toList) e ∧ Below w.heap.size w w' := by
  obtain ⟨⟨a, b, h1⟩, c, d, h2⟩ := hv
  cases ho : Lib.atoiAll s.data.toList with
  | ok v =>
    refine (Any.strconv_Atoi_ok Tryz.lays172 s (by omega) v ho w).mono fun e w' h => ?_
    obtain ⟨h3, h4⟩ := h
    refine ⟨.inl ⟨v, rfl, h3⟩, ?_⟩
    rcases h4 with h4 | ⟨t, h4⟩
    · rw [h4]; exact Below.refl _ _
    · rw [h4]; exact Lib.bytesWorld_below _ _ _
  | «syntax» =>
    refine (Any.strconv_Atoi_syntax Tryz.lays172 s (by omega) ho _ w h1 (.inr ⟨a, b, rfl⟩)).mono fun e w' h => ?_
    obtain ⟨N, h3, _, _, h4⟩ := h
    exact ⟨.inr ⟨(fun v h => by cases h), _, N, h3⟩, h4⟩
  | range =>
    refine (Any.strconv_Atoi_range Tryz.lays172 s (by omega) ho _ w h2 (.inr ⟨c, d, rfl⟩)).mono fun e w' h => ?_
    obtain ⟨N, h3, _, _, h4⟩ := h
    exact ⟨.inr ⟨(fun v h => by cases h), _, N, h3⟩, h4⟩
/-- A number as it is written. -/
def numT (t : ByteArray) : Option Int := match Lib.atoiAll t.data.toList with | .ok v => if Lib.itoa v = t.data.toList then some v else none | _ => none
def numD (s : ByteArray) (n : Nat) : Pt × ByteArray := match numT (s.extract 0 n) with | none => (ptBad, ⟨#[]⟩) | some v => (⟨4, ⟨#[]⟩, v⟩, s.extract n s.size)
def numN (s : ByteArray) : Nat := 1 + leadN digitB (s.extract 1 s.size)
set_option maxHeartbeats 4000000 in
set_option maxRecDepth 100000 in
theorem pcutnum_any (s : ByteArray) (w : World) (h0 : 0 < s.size) (hs : s.size ≤ 1000000) (hv : SynAt w) (hi : ItoAt w) :
    Calls Tryz.prog 67 #[.string s] w fun e w' => e = .returned (.tuple #[.agg (ptV (numD s (numN s)).1), .string (numD s (numN s)).2]) ∧ Below w.heap.size w w' := by
  have q1 := below_new w (.cells (ptV pt0) 67)
  have x1 := RowAt.new w (ptV pt0) 67
  unfold pt0 ptV at q1 x1
  obtain ⟨W1, hW1⟩ : ∃ W1, w.alloc (.cells #[.int .i64 0, .string ⟨#[]⟩, .int .i64 0] 67) = W1 := ⟨_, rfl⟩
  rw [hW1] at q1 x1
  have HW := hide hW1
  have HX := hide x1
  have HB := hide q1
  have hz1 : (s.extract 1 s.size).size = s.size - 1 := by rw [ByteArray.size_extract]; omega
  have HL := hide (lenof_any 66 digitB Tryz.call66 (fun c W => pdigit_any c W) (s.extract 1 s.size) W1 (by omega))
  have hle := leadN_le digitB (s.extract 1 s.size)
  unfold numN
  obtain ⟨k, hk⟩ : ∃ k, k = leadN digitB (s.extract 1 s.size) := ⟨_, rfl⟩
  rw [← hk] at HL hle ⊢
  obtain ⟨r, hr⟩ : ∃ r, r = numD s (1 + k) := ⟨_, rfl⟩
  rw [← hr]
  have s1 : (1 : Int) ≤ (s.size : Int) := by omega
  have k0 : (0 : Int) ≤ 1 + (k : Int) := by omega
  have k1 : 1 + (k : Int) ≤ (s.size : Int) := by omega
  have k2 : (1 + (k : Int)).toNat = 1 + k := by omega
  have hz2 : (s.extract 0 (1 + k)).size = 1 + k := by rw [ByteArray.size_extract]; omega
  obtain ⟨t, ht⟩ : ∃ t, t = s.extract 0 (1 + k) := ⟨_, rfl⟩
  obtain ⟨z, hz⟩ : ∃ z, z = s.extract (1 + k) s.size := ⟨_, rfl⟩
  have HAT := hide (patoi_any t W1 (by rw [ht, hz2]; omega) (hv.keep q1))
  have HI := hide (hi.keep q1)
  unfold numD numT at hr
  rw [← ht, ← hz] at hr
  have HR := hide hr
  have htt : s.extract 0 (1 + k) = t := ht.symm
  have hzz : s.extract (1 + k) s.size = z := hz.symm
  clear hr ht hz hk hW1 q1 x1 hv hi hz1 hz2 hle
  go_enter Tryz.func67, Tryz.ntmps67
  go_wp2_with fail
  rw [HW.out]
  refine HL.out.mono ?_
  rintro e w' ⟨rfl, rfl⟩
  clear HL
  go_wp2_with fail
  refine HAT.out.mono ?_
  rintro e W2 ⟨hat, hb2⟩
  have HX2 := hide (HX.out.below hb2)
  have HB2 := hide (Below.next HB.out hb2)
  have HI2 := hide (HI.out.keep hb2)
  clear HAT hb2 HX HI HB HW
  rcases hat with ⟨v, ho, rfl⟩ | ⟨ho, n, N, rfl⟩
  · rw [ho] at HR
    simp only at HR
    have hrg : -9223372036854775808 ≤ v ∧ v ≤ 9223372036854775807 := Lib.atoiAll_bounds ho
    have HIC : Hid (Calls Tryz.prog 85 #[.int .i64 v] W2.drew fun e w' => e = .returned (.string (itoaB v)) ∧ Below W2.heap.size W2 w') := (HI2.out W2.drew v (Below.refl _ W2).drew hrg.1 hrg.2).mono fun e w' h => ⟨h.1, (Below.refl _ W2).drew.trans h.2⟩
    by_cases hit : Lib.itoa v = t.data.toList
    · rw [if_pos hit] at HR
      simp only at HR
      have hq : ((itoaB v).toList == t.toList) = true := by
        have : itoaB v = t := by unfold itoaB; rw [hit]
        rw [this]; exact str_eq _
      clear ho hit hrg HI2
      generalize itoaB v = tv at HIC hq
      go_wp2_with fail
      go_region_with (
        go_at_call 85
        refine HIC.out.mono ?_
        rintro e W3 ⟨rfl, hb3⟩)
      all_goals
        have hx3 := HX2.out.below hb3
        obtain ⟨⟨m0, m1, m2⟩, o0, o1, o2⟩ := pt_cells hx3
        go_wp2_with fail
        go_region
        go_wp2_with fail
        refine bodyPost_ret (results_row_tmp rfl _ _ w.heap.size 67 _ (0, 0) _ rfl (pt_put hx3 _ _ _) Tryz.underlying67 rfl (by kernel_rfl)) rfl ?_
        exact ⟨by rw [HR.out]; rfl, (pt_below (Below.next HB2.out hb3) (Nat.le_refl _) _ _ _).drew⟩
    · rw [if_neg hit] at HR
      simp only at HR
      have hq : ((itoaB v).toList == t.toList) = false := str_ne fun e => hit (by rw [← e]; rfl)
      clear ho hit hrg HI2
      generalize itoaB v = tv at HIC hq
      go_wp2_with fail
      go_region_with (
        go_at_call 85
        refine HIC.out.mono ?_
        rintro e W3 ⟨rfl, hb3⟩)
      all_goals
        have HX3 := hide (HX2.out.below hb3)
        have HST3 := hide (store_row W3 w.heap.size 67 _ #[.int .i64 1, .string ⟨#[]⟩, .int .i64 0] HX3.out (by kernel_rfl) rfl (by simp [Value.oneCell']))
        go_wp2_with (refine wpList_store_eq rfl 67 _ _ rfl _ _ rfl rfl HST3.out ?_)
        refine bodyPost_ret (results_row_tmp rfl _ _ w.heap.size 67 _ (0, 0) _ rfl (row_set _ _ _ _ _ HX3.out) Tryz.underlying67 rfl (by kernel_rfl)) rfl ?_
        exact ⟨by rw [HR.out]; rfl, below_row (Below.next HB2.out hb3) (Nat.le_refl _) _⟩
  · have HE : Hid (r = (ptBad, ⟨#[]⟩)) := by
      show _ = _
      rw [HR.out]
      cases ho2 : Lib.atoiAll t.data.toList with
      | ok v => exact absurd ho2 (ho v)
      | «syntax» => rfl
      | range => rfl
    have HST3 : Hid ((Instr.storeAt 67 (.pointer (some ⟨w.heap.size, 0, none⟩)) (.agg #[.int .i64 1, .string ⟨#[]⟩, .int .i64 0])).run Tryz.prog W2.drew = .ok () (W2.drew.setRow w.heap.size #[.int .i64 1, .string ⟨#[]⟩, .int .i64 0])) := store_row W2.drew w.heap.size 67 _ #[.int .i64 1, .string ⟨#[]⟩, .int .i64 0] HX2.out (by kernel_rfl) rfl (by simp [Value.oneCell'])
    clear HR ho HI2
    go_wp2_with fail
    go_region
    go_wp2_with (refine wpList_store_eq rfl 67 _ _ rfl _ _ rfl rfl HST3.out ?_)
    refine bodyPost_ret (results_row_tmp rfl _ _ w.heap.size 67 _ (0, 0) _ rfl (row_set W2.drew _ _ _ _ HX2.out) Tryz.underlying67 rfl (by kernel_rfl)) rfl ?_
    exact ⟨by rw [HE.out]; rfl, below_row HB2.out.drew (Nat.le_refl _) _⟩
end Go.Proofs.YtageokjobbjddaaGreatDoor
