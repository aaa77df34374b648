import Derived.Test.YtdieacdkomiooaaDoorLikeM
import Derived.Test.YtdieacdkomiooaaDoorLike2
import Derived.Deep.RegionHeld3
namespace Go.Proofs.YtdieacdkomiooaaDoor
open Go.RowKit Go.Maps

theorem take_mid {x j z : List UInt8} {n : Nat} (hz : z.length = n) : (x ++ j.take n ++ z).take n = (x ++ j ++ z).take n := by
  rcases Nat.le_total j.length n with h | h
  · rw [List.take_of_length_le h]
  · have h1 : (x ++ j.take n ++ z).take n = (x ++ j.take n).take n := List.take_append_of_le_length (by rw [List.length_append, List.length_take]; omega)
    have h2 : (x ++ j ++ z).take n = (x ++ j).take n := List.take_append_of_le_length (by rw [List.length_append]; omega)
    rw [h1, h2, List.take_append, List.take_append, List.take_take]
    congr 2
    omega
theorem tornB_short (d : ByteArray) (f : Fate) : tornB d (shortF f) = tornB d f := by
  unfold tornB shortF
  simp only [bl_mkb]
  rw [take_mid (zeros_len 512)]
theorem meetD_short (pend dur : List Sec) (f : Fate) : meetD pend dur (shortF f) = meetD pend dur f := by
  unfold meetD
  rw [show (shortF f).ix = f.ix from rfl, show (shortF f).kind = f.kind from rfl]
  cases pend[f.ix.toNat]? with
  | none => rfl
  | some x => simp only [tornB_short]
theorem settleD_short (pend : List Sec) : ∀ (l : List Fate) (seen : List Int) (dur : List Sec), settleD pend seen dur (l.map shortF) = settleD pend seen dur l
  | [], _, _ => rfl
  | f :: r, seen, dur => by
    rw [List.map_cons]
    unfold settleD
    rw [show (shortF f).ix = f.ix from rfl, meetD_short, settleD_short, settleD_short]
theorem kill_short (d : Dev) (l : List Fate) : d.kill (l.map shortF) = d.kill l := by unfold Dev.kill; rw [settleD_short]
/-- A device with these arms. -/
def withArms (d : Dev) (L : List Armed) : Dev := { d with arms := L }
/-- Does this step count for arms? -/
def counted (d : Dev) (s : Stp) : Bool := (decide (s.kind = 1) || decide (s.kind = 2)) && decide ((d.act s).2.err = 0)
theorem done_nil {d : Dev} (h : d.arms = []) : d.done = (d, 0) := by unfold Dev.done; rw [h]
theorem armed_act {d : Dev} (hb : d.arms = []) (L : List Armed) (s : Stp) (hk : s.kind ≠ 5) :
    (withArms d L).act s = if counted d s then ((withArms (d.act s).1 L).done.1, { (d.act s).2 with err := (withArms (d.act s).1 L).done.2 }) else (withArms (d.act s).1 L, (d.act s).2) := by
  unfold counted
  by_cases h1 : s.kind = 1
  · have e1 : ∀ d : Dev, d.act s = ((d.write s.sector (bl s.data)).1, { said0 with err := (d.write s.sector (bl s.data)).2 }) := fun d => by unfold Dev.act; rw [if_pos h1]
    rw [e1, e1]
    have hw : (withArms d L).write s.sector (bl s.data) = if (d.write s.sector (bl s.data)).2 = 0 then (withArms (d.write s.sector (bl s.data)).1 L).done else (withArms (d.write s.sector (bl s.data)).1 L, (d.write s.sector (bl s.data)).2) := by
      unfold Dev.write
      have hf : ∀ x y, (withArms d L).fits x y = d.fits x y := fun _ _ => rfl
      rw [hf]
      show (if d.dead then _ else _) = _
      by_cases hd : d.dead = true
      · rw [if_pos hd, if_pos hd]; rfl
      · rw [if_neg hd, if_neg hd]
        split
        · rfl
        · rw [done_nil (d := { d with pend := d.pend ++ chunks s.sector (bl s.data) ((bl s.data).length / 512), nw := wrap64 (d.nw + ((bl s.data).length / 512 : Nat)) }) hb]; rfl
    rw [hw]
    by_cases h0 : (d.write s.sector (bl s.data)).2 = 0
    · simp [h0, h1]
    · simp [h0, h1]
  · by_cases h2 : s.kind = 2
    · have e1 : ∀ d : Dev, d.act s = (d.sync.1, { said0 with err := d.sync.2 }) := fun d => by unfold Dev.act; rw [if_neg h1, if_pos h2]
      rw [e1, e1]
      have hw : (withArms d L).sync = if d.sync.2 = 0 then (withArms d.sync.1 L).done else (withArms d.sync.1 L, d.sync.2) := by
        unfold Dev.sync
        show (if d.dead then _ else _) = _
        by_cases hd : d.dead = true
        · rw [if_pos hd, if_pos hd]; rfl
        · rw [if_neg hd, if_neg hd, done_nil (d := { d with dur := syncD d.dur d.pend, pend := [], ns := wrap64 (d.ns + 1) }) hb]; rfl
      rw [hw]
      by_cases h0 : d.sync.2 = 0
      · simp [h0, h2]
      · simp [h0, h2]
    · rw [if_neg (by simp [h1, h2])]
      have hst : ∀ i, standing (withArms d L) i = standing d i := fun _ => rfl
      unfold Dev.act
      rw [if_neg h1, if_neg h1, if_neg h2, if_neg h2]
      split
      · unfold Dev.read
        have hf : ∀ x y, (withArms d L).fits x y = d.fits x y := fun _ _ => rfl
        rw [hf]
        have hr : ∀ x y, readB (withArms d L) x y = readB d x y := fun _ _ => rfl
        have hdd : (withArms d L).dead = d.dead := rfl
        rw [hr, hdd]
        by_cases hd : d.dead = true
        · simp only [if_pos hd]
        · simp only [if_neg hd]
          split
          · rfl
          · split <;> rfl
      · split
        · unfold Dev.crash
          by_cases hd : d.dead = true
          · simp [withArms, hd]
          · simp [withArms, hd, Dev.kill]
        · split
          · rfl
          · repeat' split
            all_goals rfl
theorem counted_alive {d : Dev} (hb : d.arms = []) {s : Stp} (h : counted d s = true) : (d.act s).1.dead = false := by
  unfold counted at h
  simp only [Bool.and_eq_true, Bool.or_eq_true, decide_eq_true_eq] at h
  obtain ⟨hk, h0⟩ := h
  rcases hk with h1 | h2
  · unfold Dev.act at h0 ⊢
    rw [if_pos h1] at h0 ⊢
    simp only [] at h0 ⊢
    unfold Dev.write at h0 ⊢
    split at h0
    · cases h0
    · rename_i hd
      split at h0
      · cases h0
      · rename_i hx
        rw [if_neg hd, if_neg hx, done_nil (d := { d with pend := d.pend ++ chunks s.sector (bl s.data) ((bl s.data).length / 512), nw := wrap64 (d.nw + ((bl s.data).length / 512 : Nat)) }) hb]
        simpa using hd
  · unfold Dev.act at h0 ⊢
    rw [if_neg (by omega), if_pos h2] at h0 ⊢
    simp only [] at h0 ⊢
    unfold Dev.sync at h0 ⊢
    split at h0
    · cases h0
    · rename_i hd
      rw [if_neg hd, done_nil (d := { d with dur := syncD d.dur d.pend, pend := [], ns := wrap64 (d.ns + 1) }) hb]
      simpa using hd
/-- An arm as it is laid down. -/
def armOf (x : Int × List Fate) : Armed := ⟨if x.1 < 0 then 0 else x.1, x.2.map shortF⟩
/-- The arms that are left: so many operations have gone by since the last one fell. -/
def lapse : List (Int × List Fate) → Int → List Armed
  | [], _ => []
  | x :: r, g => ⟨(armOf x).after - g, (armOf x).fates⟩ :: r.map armOf
theorem lapse_zero (l : List (Int × List Fate)) : lapse l 0 = l.map armOf := by cases l <;> simp [lapse]
theorem lapse_len (l : List (Int × List Fate)) (g : Int) : (lapse l g).length = l.length := by cases l <;> simp [lapse]
theorem done_lapse (d : Dev) (x : Int × List Fate) (r : List (Int × List Fate)) (g : Int) (h0 : 0 ≤ g) :
    (withArms d (lapse (x :: r) g)).done = if x.1 ≤ g then (withArms (d.kill x.2) (lapse r 0), 8) else (withArms d (lapse (x :: r) (g + 1)), 0) := by
  have e : (withArms d (lapse (x :: r) g)).done = if 0 < (armOf x).after - g then ({ withArms d (lapse (x :: r) g) with arms := ⟨(armOf x).after - g - 1, (armOf x).fates⟩ :: r.map armOf }, 0) else ({ withArms d (lapse (x :: r) g) with arms := r.map armOf }.kill (armOf x).fates, 8) := rfl
  rw [e]
  by_cases h : x.1 ≤ g
  · rw [if_pos h, if_neg (by simp only [armOf]; split <;> omega), lapse_zero]
    rw [show (armOf x).fates = x.2.map shortF from rfl, kill_short]
    rfl
  · rw [if_neg h, if_pos (by simp only [armOf]; split <;> omega), Int.sub_sub]
    rfl
theorem act_arms_nil {d : Dev} (hb : d.arms = []) (s : Stp) (hk : s.kind ≠ 5) : (d.act s).1.arms = [] := act_arms d s hb hk
theorem crash_of {d : Dev} (h : d.dead = false) (l : List Fate) : d.crash l = d.kill l := by unfold Dev.crash; rw [if_neg (by simp [h])]
theorem with_same (d : Dev) (h : d.arms = []) : withArms d [] = d := by cases d; simp only at h; subst h; rfl
theorem act_err (d : Dev) (s : Stp) : (d.act s).2.err ≤ 8 := by
  have hd : ∀ d : Dev, d.done.2 ≤ 8 := fun d => by
    unfold Dev.done
    cases d.arms with
    | nil => simp
    | cons a r => simp only []; split <;> simp
  unfold Dev.act
  split
  · show (d.write _ _).2 ≤ 8
    unfold Dev.write
    split
    · simp
    · split
      · simp
      · exact hd _
  · split
    · show d.sync.2 ≤ 8
      unfold Dev.sync
      split
      · simp
      · exact hd _
    · split
      · show (d.read _ _).2.2 ≤ 8
        unfold Dev.read
        repeat' split
        all_goals simp
      · repeat' split
        all_goals simp [said0]

end Go.Proofs.YtdieacdkomiooaaDoor

namespace Go.Proofs.YtdieacdkomiooaaDoor
open Go.RowKit Go.Maps

/-- A list of numbers, and a list of lists of fates, as they come in. -/
def IntsIn (w : World) (v : Value) (l : List Int) : Prop := ∃ a cap g off, v = .slice a l.length cap ∧ l.length ≤ 1048576 ∧ (0 < l.length → a = some ⟨g, off, none⟩) ∧ ∀ i (h : i < l.length), w.cell? ⟨g, off + i, none⟩ = some (.int .i64 l[i]) ∧ l[i] < 9223372036854775808
def FatessIn (w : World) (v : Value) (l : List (List Fate)) : Prop := ∃ a cap g off, ∃ fvs : List Value, v = .slice a l.length cap ∧ l.length ≤ 1048576 ∧ (0 < l.length → a = some ⟨g, off, none⟩) ∧ fvs.length = l.length ∧ ∀ i (h : i < l.length) (h' : i < fvs.length), w.cell? ⟨g, off + i, none⟩ = some fvs[i] ∧ FatesIn w fvs[i] l[i]
theorem IntsIn.keep {w w' : World} {v : Value} {l : List Int} (h : IntsIn w v l) (hb : Below w.heap.size w w') : IntsIn w' v l := by
  obtain ⟨a, cap, g, off, h1, h2, h3, h4⟩ := h
  exact ⟨a, cap, g, off, h1, h2, h3, fun i hi => ⟨cell_below hb (h4 i hi).1, (h4 i hi).2⟩⟩
theorem FatessIn.keep {w w' : World} {v : Value} {l : List (List Fate)} (h : FatessIn w v l) (hb : Below w.heap.size w w') : FatessIn w' v l := by
  obtain ⟨a, cap, g, off, fvs, h1, h2, h3, h4, h5⟩ := h
  exact ⟨a, cap, g, off, fvs, h1, h2, h3, h4, fun i hi hi' => ⟨cell_below hb (h5 i hi hi').1, (h5 i hi hi').2.keep hb⟩⟩
theorem Boxed.step {b : Nat} {cs : List Value} {w w' : World} {G G' : Nat → Prop} (h : Boxed b cs w) (hs : Step G G' w w') (hn : ¬ G b) : Boxed b cs w' :=
  ⟨Nat.lt_of_lt_of_le h.1 hs.size, fun j hj => hs.cell (h.2 j hj) hn⟩
theorem stepsIn_nil (w : World) : StepsIn w (.slice none 0 0) [] := ⟨none, 0, 0, 0, [], rfl, by simp, fun h => absurd h (by simp), rfl, fun i h => absurd h (by simp)⟩
theorem arm_with (d : Dev) (L : List Armed) (x : Int × List Fate) : (withArms d L).arm x.1 x.2 = withArms d (L ++ [armOf x]) := rfl
theorem Two.arm1 {A : Nat → Addr} {W wr : World} {b c : Nat} {F G : Nat → Prop} {d o : Dev} (h : Two A W wr b F d c G o) (n : Int) (l : List Fate) (fv : Value) (m : Nat) (hl : wr.ownsRow m 61 4 fv l.length (fateCells l)) (hb : l.length ≤ 3518437208883) (hn : n < 9223372036854775808) (ha : (d.arms.length + 1) * 32 ≤ 140737488355328) :
    Calls Tryd.prog 35 #[.pointer (some ⟨b, 0, none⟩), .int .i64 n, fv] wr fun e w' => e = .returned (.tuple #[]) ∧ ∃ F', Two A W w' b F' (d.arm n l) c G o ∧ Step F F' wr w' := by
  refine (arm_any b F d wr h.one.dev n l fv ⟨hl.1, hl.2.imp id fun ⟨g, cap, cur, q1, _, q3⟩ => ⟨g, cap, cur, q1, Nat.zero_le _, q3⟩⟩ hb hn ha).mono ?_
  rintro e w' ⟨he, F', hd, hs⟩
  exact ⟨he, F', h.go1 (h.one.go hd hs) hs, hs⟩
theorem Two.crash2 {A : Nat → Addr} {W wr : World} {b c : Nat} {F G : Nat → Prop} {d o : Dev} (h : Two A W wr b F d c G o) (l : List Fate) (fv : Value) (m : Nat) (hl : wr.ownsRow m 61 4 fv l.length (fateCells l)) (hp : o.pend.length ≤ 140737488355328) :
    Calls Tryd.prog 23 #[.pointer (some ⟨c, 0, none⟩), fv] wr fun e w' => e = .returned (.tuple #[]) ∧ ∃ G', Two A W w' b F d c G' (o.crash l) ∧ Step G G' wr w' := by
  refine (h.two.crash2 hp l fv m hl).mono ?_
  rintro e w' ⟨he, G', hb, hs⟩
  exact ⟨he, G', h.go2 hb hs, hs⟩

/-- Two devices that show the same. -/
structure LikeR (a o : Dev) : Prop where
  size : o.size = a.size
  dur : o.dur = a.dur
  pend : o.pend = a.pend
  dead : o.dead = a.dead
  room : a.pend.length ≤ 5864062014805
theorem step_poke {w : World} {g j : Nat} {v : Value} : Step (fun k => k = g) (fun k => k = g) w (w.setCell ⟨g, j, none⟩ v) :=
  ⟨rfl, rfl, rfl, by simp [World.setCell], fun k _ hn => Below.heap_setCell w ⟨g, j, none⟩ v k (fun e => hn e), fun _ h => .inl h⟩
theorem Two.poke {A : Nat → Addr} {W wr : World} {b c : Nat} {F G : Nat → Prop} {d o : Dev} (h : Two A W wr b F d c G o) (q j : Nat) (v : Value) (hq : W.heap.size ≤ q) (hf : ¬ F q) (hg : ¬ G q) : Two A W (wr.setCell ⟨q, j, none⟩ v) b F d c G o :=
  ⟨h.one.keep step_poke (fun k e => by omega) (fun k hk e => hf (by rw [← e]; exact hk)), h.two.keep step_poke (fun k e => by omega) (fun k hk e => hg (by rw [← e]; exact hk)), h.no⟩
theorem RowAt.poke {w : World} {G : Nat → Prop} {base e size n q j t : Nat} {v u : Value} {xs : List Value} {cs : Array Value} (h : RowAt w G base e size v n xs) (hq : w.heap[q]? = some (.cells cs t (0, 0))) (hne : t ≠ e) : RowAt (w.setCell ⟨q, j, none⟩ u) G base e size v n xs :=
  ⟨owns_block h.1 fun k hk => by
    obtain ⟨_, _, cur, hc⟩ := owns_blk h.1 k hk
    exact set_other (fun e => by rw [e, hq] at hc; simp at hc; exact hne hc.2), h.2⟩

end Go.Proofs.YtdieacdkomiooaaDoor
