import Derived.Test.YthnidlhcpelomaaDoorBP
import Derived.Test.YthnidlhcpelomaaDoorDPat
import Derived.Test.YthnidlhcpelomaaDoorDRp
import Derived.Test.YthnidlhcpelomaaDoorKO
import Derived.Test.YthnidlhcpelomaaDoorKC
import Derived.Test.YthnidlhcpelomaaDoorDRs
import Derived.Test.YthnidlhcpelomaaDoorNU
namespace Go.Proofs.YthnidlhcpelomaaDoor
open Go.RowKit
attribute [local go_sem ↓] Go.wp_at_zero Go.wp_at_succ

/-! Patch, the program's and the document's, in one form each. -/
def ptO (a : List Pr) (b : List Ch) : Option (List Pr) := if (riseB a && riseB b) = true then patchD a b else none
def ptK (a : List Pr) (b : List Ch) : Nat := if (riseB a && riseB b) = true then (match patchD a b with | none => 1 | some _ => 0) else 2
def ptL (a : List Pr) (b : List Ch) : List Pr := (ptO a b).getD []
def eC (A : Nat → Addr) : Nat → Value
  | 0 => .nilIface
  | 1 => .iface 102 (.pointer (some (A 5)))
  | _ => .iface 102 (.pointer (some (A 11)))
def nC : Nat → Int
  | 0 => 0
  | 1 => 6
  | _ => 12
theorem ptL_len (a : List Pr) (b : List Ch) : (ptL a b).length ≤ a.length + b.length := by
  unfold ptL ptO
  split
  · unfold patchD
    split
    · show (fm madeV (side a b)).length ≤ _
      exact Nat.le_trans (fm_len _ _) (side_len a b)
    · simp
  · simp
theorem patch_u (A : Nat → Addr) (va vb : Value) (a : List Pr) (b : List Ch) (w : World) (hA : PrR w va a) (hB : ChR w vb b) (hoa : OkL a) (hob : OkC b) (hn : (a.length + b.length + 1) * 56 ≤ 140737488355328) (hE : ErrsG 13 gAll A w) :
    Calls Tryd.prog 23 #[va, vb] w fun e w' => ∃ x c, e = .returned (.tuple #[.slice x (ptL a b).length c, eC A (ptK a b)]) ∧ PrO w' w.heap.size (.slice x (ptL a b).length c) (ptL a b) ∧ Below w.heap.size w w' := by
  refine (patch_any va vb a b w hA hB hoa hob hn (A 11) (A 5) (hE.1 11 (by decide)).1 (hE.1 5 (by decide)).1).mono ?_
  rintro e w' ⟨hb, ⟨hr, rfl⟩ | ⟨hr, hn', rfl⟩ | ⟨hr, v, l, hs, rfl, ho⟩⟩
  · refine ⟨none, 0, ?_, ?_, hb⟩
    · simp [ptL, ptO, ptK, hr, eC]
    · simp [ptL, ptO, hr]; exact PrO.nil _ _
  · refine ⟨none, 0, ?_, ?_, hb⟩
    · simp [ptL, ptO, ptK, hr, hn', eC]
    · simp [ptL, ptO, hr, hn']; exact PrO.nil _ _
  · obtain ⟨x, c, rfl⟩ := ho.form
    have h1 : ptL a b = l := by simp [ptL, ptO, hr, hs]
    rw [h1]
    exact ⟨x, c, by simp [ptK, hr, hs, eC], ho, hb⟩
theorem rpatch_u (va vb : Value) (a : List Pr) (b : List Ch) (w : World) (hA : PrR w va a) (hB : ChR w vb b) (hn : (a.length + b.length + 1) * 56 ≤ 140737488355328) :
    Calls Tryd.prog 24 #[va, vb] w fun e w' => ∃ x c, e = .returned (.tuple #[.slice x (ptL a b).length c, .int .i64 (nC (ptK a b))]) ∧ PrO w' w.heap.size (.slice x (ptL a b).length c) (ptL a b) ∧ Below w.heap.size w w' := by
  refine (rpatch_any va vb a b w hA hB hn).mono ?_
  rintro e w' ⟨hb, ⟨hr, rfl⟩ | ⟨hr, hn', rfl⟩ | ⟨hr, v, l, hs, rfl, ho⟩⟩
  · refine ⟨none, 0, ?_, ?_, hb⟩
    · simp [ptL, ptO, ptK, hr, nC]
    · simp [ptL, ptO, hr]; exact PrO.nil _ _
  · refine ⟨none, 0, ?_, ?_, hb⟩
    · simp [ptL, ptO, ptK, hr, hn', nC]
    · simp [ptL, ptO, hr, hn']; exact PrO.nil _ _
  · obtain ⟨x, c, rfl⟩ := ho.form
    have h1 : ptL a b = l := by simp [ptL, ptO, hr, hs]
    rw [h1]
    exact ⟨x, c, by simp [ptK, hr, hs, nC], ho, hb⟩
set_option maxHeartbeats 1600000 in
theorem num_lost (A : Nat → Addr) (w : World) (h : ErrsG 13 gAll A w) : Calls Tryd.prog 10 #[.iface 102 (.pointer (some (A 5)))] w fun e w' => e = .returned (.int .i64 6) ∧ w = w' := by
  have c0 : w.cell? ⟨1, 0, none⟩ = some (.iface 102 (.pointer (some (A 0)))) := (h.1 0 (by decide)).1
  have c1 : w.cell? ⟨2, 0, none⟩ = some (.iface 102 (.pointer (some (A 1)))) := (h.1 1 (by decide)).1
  have c2 : w.cell? ⟨3, 0, none⟩ = some (.iface 102 (.pointer (some (A 2)))) := (h.1 2 (by decide)).1
  have c3 : w.cell? ⟨4, 0, none⟩ = some (.iface 102 (.pointer (some (A 3)))) := (h.1 3 (by decide)).1
  have c4 : w.cell? ⟨5, 0, none⟩ = some (.iface 102 (.pointer (some (A 4)))) := (h.1 4 (by decide)).1
  have c5 : w.cell? ⟨6, 0, none⟩ = some (.iface 102 (.pointer (some (A 5)))) := (h.1 5 (by decide)).1
  have e0 := eq_other A 5 0 w h (by decide) (by decide) (by decide)
  have e1 := eq_other A 5 1 w h (by decide) (by decide) (by decide)
  have e2 := eq_other A 5 2 w h (by decide) (by decide) (by decide)
  have e3 := eq_other A 5 3 w h (by decide) (by decide) (by decide)
  have e4 := eq_other A 5 4 w h (by decide) (by decide) (by decide)
  have e5 := eq_same A 5
  clear h
  go_enter Tryd.func10, Tryd.ntmps10
  go_wp2
  go_ret
  exact ⟨rfl, rfl⟩
theorem num_c (A : Nat → Addr) (r : Nat) (w : World) (hE : ErrsG 13 gAll A w) : Calls Tryd.prog 10 #[eC A r] w fun e w' => e = .returned (.int .i64 (nC r)) ∧ w = w' := by
  match r with
  | 0 => exact num_nil w
  | 1 => exact num_lost A w hE
  | r + 2 => exact num_order A w hE
def bhP : Pr := (behindB, behindB)
/-- One more behind a new list of the same pairs. -/
theorem more_one (base : Nat) (v : Value) (l : List Pr) (W : World) (hp : PrO W base v l) (hn : l.length ≤ 1048576) (hbase : base ≤ W.heap.size) :
    ∃ g c W', (Builtin.append_ #[22, 22] 22 #[v, .slice (some ⟨W.heap.size, 0, none⟩) 1 1]).run Tryd.prog (W.alloc (.cells #[.string behindB, .string behindB] 28)) = .ok (.slice (some ⟨g, 0, none⟩) (l.length + 1) c) W' ∧ PrO W' base (.slice (some ⟨g, 0, none⟩) (l.length + 1) c) (l ++ [bhP]) ∧ l.length + 1 ≤ c ∧ Below base W W' ∧ g < W'.heap.size := by
  obtain ⟨a', c', W', hrun, hown, hgr⟩ := push_prs' base v l bhP 28 W l.length rfl hp (by omega) hbase
  have hrun' : (Builtin.append_ #[22, 22] 22 #[v, .slice (some ⟨W.heap.size, 0, none⟩) 1 1]).run Tryd.prog (W.alloc (.cells #[.string behindB, .string behindB] 28)) = .ok (.slice a' (l.length + 1) c') W' := hrun
  have hb : Below base W W' := by
    have h1 : Below base W (W.alloc (.cells #[.string behindB, .string behindB] 28)) := (Below.refl base W).alloc hbase _
    exact h1.grown hgr (Nat.le_trans hbase (below_new W _).size) (fun k hk => (World.ownsRow.lt hp k hk).1)
  rcases hown.2 with ⟨h, _⟩ | ⟨g, cap, cur, h, h1, h2, h3, _⟩
  · have := congrArg (fun v => match v with | Value.slice _ n _ => n | _ => 0) h
    simp at this
  · have hl : (l ++ [bhP]).length = l.length + 1 := by simp
    rw [hl] at h h3
    cases h
    exact ⟨g, c', W', hrun', hown, h3, hb, (Array.getElem?_eq_some_iff.1 h2).1⟩
theorem othA_ok (l : List Pr) (q : Nat) (h1 : OkL l) (h2 : ∀ p ∈ l, p.2.size ≤ 1048576) : OkL (othA l q) := fun p hp => by
  unfold othA at hp
  obtain ⟨j, hj, rfl⟩ := List.mem_mapIdx.1 hp
  have hm := List.getElem_mem hj
  split
  · refine ⟨(h1 _ hm).1, ?_⟩
    have := h2 _ hm
    unfold zP
    rw [ByteArray.size_append]
    show _ + 1 ≤ _
    omega
  · exact h1 _ hm
set_option maxHeartbeats 1000000 in
theorem other_zero (x : Option Addr) (c : Nat) (w : World) : Calls Tryd.prog 14 #[.slice x 0 c] w fun e w' => e = .returned (.slice x 0 c) ∧ w = w' := by
  go_enter Tryd.func14, Tryd.ntmps14
  go_wp2
  go_loopw [3] (fun i wr => i = .int .i64 0 ∧ w = wr) (fun _ _ => 0)
  case atStart => exact ⟨rfl, rfl⟩
  case round =>
    obtain ⟨rfl, rfl⟩ := hrel
    go_wp2
    go_ret
    exact ⟨rfl, rfl⟩
/-- Every second value is another one: any list of the call's own. -/
theorem other_own (base n c : Nat) (x : Option Addr) (l : List Pr) (w : World) (hn : n = l.length) (hown : PrO w base (.slice x n c) l) (hm : n ≤ 1048576) (hok : ∀ p ∈ l, p.2.size ≤ 1048576) :
    Calls Tryd.prog 14 #[.slice x n c] w fun e w' => e = .returned (.slice x n c) ∧ PrO w' base (.slice x n c) (othA l n) ∧ w.grownBy w' (Value.slice x n c).ownBlock := by
  rcases hown.2 with ⟨h, h0⟩ | ⟨g, cap, cur, h, _⟩
  · cases h
    have hl : l = [] := List.length_eq_zero_iff.1 hn.symm
    subst hl
    refine (other_zero none 0 w).mono ?_
    rintro e w' ⟨rfl, rfl⟩
    exact ⟨rfl, by simpa [othA] using hown, rfl, rfl, rfl, Nat.le_refl _, fun _ _ _ => rfl⟩
  · cases h
    have hown' : PrO w base (.slice (some ⟨g, 0, none⟩) (l ++ []).length c) (l ++ []) := by simpa [hn] using hown
    refine (other_any base g l.length c l [] w rfl hown' (by omega) (fun p hp => Nat.le_trans (hok p hp) (by decide))).mono ?_
    rintro e w' ⟨rfl, hp, hs⟩
    refine ⟨rfl, by simpa using hp, hs.os, hs.tape, hs.output, hs.size, fun k hk hne => hs.block k hk (fun e => hne (by rw [e]; rfl))⟩
/-- One more behind a new list of the same changes. -/
theorem more_oneC (base : Nat) (v : Value) (l : List Ch) (W : World) (hp : ChO W base v l) (hn : l.length ≤ 1048576) (hbase : base ≤ W.heap.size) :
    ∃ g c W', (Builtin.append_ #[23, 23] 23 #[v, .slice (some ⟨W.heap.size, 0, none⟩) 1 1]).run Tryd.prog (W.alloc (.cells #[.string behindB, .bool false, .bool true, .string ⟨#[]⟩, .string behindB] 44)) = .ok (.slice (some ⟨g, 0, none⟩) (l.length + 1) c) W' ∧ ChO W' base (.slice (some ⟨g, 0, none⟩) (l.length + 1) c) (l ++ [bhC]) ∧ l.length + 1 ≤ c ∧ Below base W W' ∧ g < W'.heap.size := by
  obtain ⟨a', c', W', hrun, hown, hgr⟩ := push_chs base v l bhC 44 W l.length rfl hp (by omega) hbase
  have hrun' : (Builtin.append_ #[23, 23] 23 #[v, .slice (some ⟨W.heap.size, 0, none⟩) 1 1]).run Tryd.prog (W.alloc (.cells #[.string behindB, .bool false, .bool true, .string ⟨#[]⟩, .string behindB] 44)) = .ok (.slice a' (l.length + 1) c') W' := hrun
  have hb : Below base W W' := by
    have h1 : Below base W (W.alloc (.cells (chC bhC).toArray 44)) := (Below.refl base W).alloc hbase _
    exact h1.grown hgr (Nat.le_trans hbase (below_new W _).size) (fun k hk => (World.ownsRow.lt hp k hk).1)
  rcases hown.2 with ⟨h, _⟩ | ⟨g, cap, cur, h, h1, h2, h3, _⟩
  · have := congrArg (fun v => match v with | Value.slice _ n _ => n | _ => 0) h
    simp at this
  · have hl : (l ++ [bhC]).length = l.length + 1 := by simp
    rw [hl] at h h3
    cases h
    exact ⟨g, c', W', hrun', hown, h3, hb, (Array.getElem?_eq_some_iff.1 h2).1⟩
theorem othC_ok (l : List Ch) (q : Nat) (h1 : OkC l) (h2 : ∀ p ∈ l, p.2.new.size ≤ 1048576) : OkC (othC l q) := fun p hp => by
  unfold othC at hp
  obtain ⟨j, hj, rfl⟩ := List.mem_mapIdx.1 hp
  have hm := List.getElem_mem hj
  split
  · have h3 := h1 _ hm
    have h4 := h2 _ hm
    unfold zC
    split
    · refine ⟨h3.1, h3.2.1, ?_⟩
      show (l[j].2.new ++ (⟨#[122]⟩ : ByteArray)).size ≤ _
      rw [ByteArray.size_append]
      show _ + 1 ≤ _
      omega
    · exact h3
  · exact h1 _ hm
set_option maxHeartbeats 1000000 in
theorem otherw_zero (x : Option Addr) (c : Nat) (w : World) : Calls Tryd.prog 22 #[.slice x 0 c] w fun e w' => e = .returned (.slice x 0 c) ∧ w = w' := by
  go_enter Tryd.func22, Tryd.ntmps22
  go_wp2
  go_loopw [3] (fun i wr => i = .int .i64 0 ∧ w = wr) (fun _ _ => 0)
  case atStart => exact ⟨rfl, rfl⟩
  case round =>
    obtain ⟨rfl, rfl⟩ := hrel
    go_wp2
    go_ret
    exact ⟨rfl, rfl⟩
theorem otherw_own (base n c : Nat) (x : Option Addr) (l : List Ch) (w : World) (hn : n = l.length) (hown : ChO w base (.slice x n c) l) (hm : n ≤ 1048576) (hok : ∀ p ∈ l, p.2.new.size ≤ 1048576) :
    Calls Tryd.prog 22 #[.slice x n c] w fun e w' => e = .returned (.slice x n c) ∧ ChO w' base (.slice x n c) (othC l n) ∧ w.grownBy w' (Value.slice x n c).ownBlock := by
  rcases hown.2 with ⟨h, h0⟩ | ⟨g, cap, cur, h, _⟩
  · cases h
    have hl : l = [] := List.length_eq_zero_iff.1 hn.symm
    subst hl
    refine (otherw_zero none 0 w).mono ?_
    rintro e w' ⟨rfl, rfl⟩
    exact ⟨rfl, by simpa [othC] using hown, rfl, rfl, rfl, Nat.le_refl _, fun _ _ _ => rfl⟩
  · cases h
    have hown' : ChO w base (.slice (some ⟨g, 0, none⟩) (l ++ []).length c) (l ++ []) := by simpa [hn] using hown
    refine (otherwise_any base g l.length c l [] w rfl hown' (by omega) (fun p hp => Nat.le_trans (hok p hp) (by decide))).mono ?_
    rintro e w' ⟨rfl, hp, hs⟩
    refine ⟨rfl, by simpa using hp, hs.os, hs.tape, hs.output, hs.size, fun k hk hne => hs.block k hk (fun e => hne (by rw [e]; rfl))⟩
/-- Three lists of pairs in one row. -/
theorem apq_three (base : Nat) (S0 S1 S2 : Value) (D0 D1 D2 : List Pr) (w : World) (B1 B2 : Nat) (h0 : PrO w base S0 D0) (h1 : PrO w base S1 D1) (h2 : PrO w base S2 D2) (k0 : ∀ q, S0.ownBlock = some q → q < B1) (k1 : ∀ q, S1.ownBlock = some q → B1 ≤ q ∧ q < B2) (k2 : ∀ q, S2.ownBlock = some q → B2 ≤ q) (hB : B1 ≤ B2) :
    ApQ base w.heap.size 3 (fun j => if j = 0 then S0 else if j = 1 then S1 else S2) (fun j => if j = 0 then D0 else if j = 1 then D1 else D2) (w.alloc (.cells #[S0, S1, S2] 22)) := by
  have hb := below_new w (.cells #[S0, S1, S2] 22)
  have hbx := boxed_new w #[S0, S1, S2] 22
  refine ⟨fun j hj => ?_, fun j hj => ?_, ⟨_, heap_alloc_new w _, rfl⟩, fun i j q hi hj hne h1' h2' => ?_⟩
  · match j, hj with
    | 0, _ => exact h0.below hb
    | 1, _ => exact h1.below hb
    | 2, _ => exact h2.below hb
  · match j, hj with
    | 0, _ => exact hbx.2 0 (by simp)
    | 1, _ => exact hbx.2 1 (by simp)
    | 2, _ => exact hbx.2 2 (by simp)
  · match i, j, hi, hj, hne with
    | 0, 0, _, _, h => exact h rfl
    | 1, 1, _, _, h => exact h rfl
    | 2, 2, _, _, h => exact h rfl
    | 0, 1, _, _, _ => have a := k0 q h1'; have b := (k1 q h2').1; omega
    | 1, 0, _, _, _ => have a := k0 q h2'; have b := (k1 q h1').1; omega
    | 0, 2, _, _, _ => have a := k0 q h1'; have b := k2 q h2'; omega
    | 2, 0, _, _, _ => have a := k0 q h2'; have b := k2 q h1'; omega
    | 1, 2, _, _, _ => have a := (k1 q h1').2; have b := k2 q h2'; omega
    | 2, 1, _, _, _ => have a := (k1 q h2').2; have b := k2 q h1'; omega
/-- What the law stands on: the argument's box, the two lists with one more behind each. -/
structure LSp (w : World) (vA vB vL vM : Value) (ga gb ca cb : Nat) (xa : List Pr) (xb : List Ch) (W : World) : Prop where
  hb : Below w.heap.size w W
  bx : W.heap[w.heap.size]? = some (.cells #[vA, vB, vL, vM] 25 (0, 0))
  pa : PrO W w.heap.size (.slice (some ⟨ga, 0, none⟩) (xa.length + 1) ca) (xa ++ [bhP])
  pb : ChO W w.heap.size (.slice (some ⟨gb, 0, none⟩) (xb.length + 1) cb) (xb ++ [bhC])
  ne : ga ≠ gb
section
variable {w : World} {vA vB vL vM : Value} {ga gb ca cb : Nat} {xa : List Pr} {xb : List Ch} {W W' : World}
theorem LSp.below (h : LSp w vA vB vL vM ga gb ca cb xa xb W) (hb : Below W.heap.size W W') : LSp w vA vB vL vM ga gb ca cb xa xb W' :=
  ⟨Below.next h.hb hb, (hb.block _ (Array.getElem?_eq_some_iff.1 h.bx).1).trans h.bx, h.pa.below hb, h.pb.below hb, h.ne⟩
theorem cho_blk {base n c g : Nat} {l : List Ch} (h : ChO W base (.slice (some ⟨g, 0, none⟩) n c) l) : base ≤ g ∧ g < W.heap.size := h.blk g rfl
theorem own_lt {g n c B : Nat} (h : g < B) : ∀ k, (Value.slice (some ⟨g, 0, none⟩) n c).ownBlock = some k → k < B := fun k hk => by
  have hk' : g = k := by simpa [Value.ownBlock] using hk
  omega
theorem pro_blk {base n c g : Nat} {l : List Pr} (h : PrO W base (.slice (some ⟨g, 0, none⟩) n c) l) : base ≤ g ∧ g < W.heap.size := h.blk g rfl
theorem LSp.under (h : LSp w vA vB vL vM ga gb ca cb xa xb W) (B : Nat) (h0 : w.heap.size < B) (h1 : ga < B) (h2 : gb < B) (hb : Below B W W') : LSp w vA vB vL vM ga gb ca cb xa xb W' :=
  ⟨h.hb.trans ⟨hb.os, hb.tape, hb.output, hb.size, fun k hk => hb.block k (Nat.lt_trans hk h0)⟩, (hb.block _ h0).trans h.bx, pro_same h.pa (fun k hk => hb.block k (own_lt h1 k hk)), cho_same h.pb (fun k hk => hb.block k (own_lt h2 k hk)), h.ne⟩
theorem LSp.soleA (h : LSp w vA vB vL vM ga gb ca cb xa xb W) (hs : Sole ga W W') {ya : List Pr} (hp : PrO W' w.heap.size (.slice (some ⟨ga, 0, none⟩) (ya.length + 1) ca) (ya ++ [bhP])) : LSp w vA vB vL vM ga gb ca cb ya xb W' := by
  refine ⟨hs.below h.hb (pro_blk h.pa).1, (hs.block _ (Array.getElem?_eq_some_iff.1 h.bx).1 (fun e => ?_)).trans h.bx, hp, cho_same h.pb (fun k hk => ?_), h.ne⟩
  · obtain ⟨cs, he⟩ := h.pa.kind ga _ rfl (e ▸ h.bx)
    simp at he
  · have hk' : gb = k := by simpa [Value.ownBlock] using hk
    subst hk'
    exact hs.block gb (cho_blk h.pb).2 (fun e => h.ne e.symm)
theorem LSp.soleB (h : LSp w vA vB vL vM ga gb ca cb xa xb W) (hs : Sole gb W W') {yb : List Ch} (hp : ChO W' w.heap.size (.slice (some ⟨gb, 0, none⟩) (yb.length + 1) cb) (yb ++ [bhC])) : LSp w vA vB vL vM ga gb ca cb xa yb W' := by
  refine ⟨hs.below h.hb (cho_blk h.pb).1, (hs.block _ (Array.getElem?_eq_some_iff.1 h.bx).1 (fun e => ?_)).trans h.bx, pro_same h.pa (fun k hk => ?_), hp, h.ne⟩
  · obtain ⟨cs, he⟩ := h.pb.kind gb _ rfl (e ▸ h.bx)
    simp at he
  · have hk' : ga = k := by simpa [Value.ownBlock] using hk
    subst hk'
    exact hs.block ga (pro_blk h.pa).2 (fun e => h.ne e)
theorem LSp.b2 (h : LSp w vA vB vL vM ga gb ca cb xa xb W) : W.cell? ⟨w.heap.size, 0, none⟩ = some vA ∧ W.cell? ⟨w.heap.size, 2, none⟩ = some vL := by
  exact ⟨by rw [cell_of_row _ _ _ _ _ _ h.bx]; rfl, by rw [cell_of_row _ _ _ _ _ _ h.bx]; rfl⟩
theorem LSp.ra (h : LSp w vA vB vL vM ga gb ca cb xa xb W) : PrR W (.slice (some ⟨ga, 0, none⟩) xa.length ca) xa := by
  have := h.pa.at.take (m := xa.length) (by omega)
  rwa [List.take_left'] at this
  rfl
theorem LSp.rb (h : LSp w vA vB vL vM ga gb ca cb xa xb W) : ChR W (.slice (some ⟨gb, 0, none⟩) xb.length cb) xb := by
  have := h.pb.at.take (m := xb.length) (by omega)
  rwa [List.take_left'] at this
  rfl
end
end Go.Proofs.YthnidlhcpelomaaDoor
