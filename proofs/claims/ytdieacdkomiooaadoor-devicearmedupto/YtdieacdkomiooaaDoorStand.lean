import Derived.Test.YtdieacdkomiooaaDoorBegun2
import Derived.Test.YtdieacdkomiooaaDoorSmall
namespace Go.Proofs.YtdieacdkomiooaaDoor
open Go.RowKit Go.Maps

theorem allZ_zsec {t : ByteArray} (h : t.size = 512) (hz : allZ t = true) : t = zsec := by
  apply bl_inj
  rw [zsec, bl_mkb]
  have := of_decide_eq_true hz
  rw [h] at this
  exact this
theorem find_ins {x : Sec} {j : Int} : ∀ {l : List Sec}, (∀ y ∈ l, y.ix ≠ x.ix) → (insD x l).find? (fun y => decide (y.ix = j)) = if x.ix = j then some x else l.find? (fun y => decide (y.ix = j))
  | [], _ => by unfold insD; rw [List.find?_cons]; by_cases hx : x.ix = j <;> simp [hx]
  | y :: r, h => by
    unfold insD
    split
    · rw [List.find?_cons]; by_cases hx : x.ix = j <;> simp [hx]
    · rw [List.find?_cons, find_ins (fun z hz => h z (by simp [hz]))]
      by_cases hx : x.ix = j
      · have hy : y.ix ≠ j := fun e => h y (by simp) (e.trans hx.symm)
        simp [hx, hy]
      · simp [hx, List.find?_cons]
theorem find_drop {i j : Int} : ∀ l : List Sec, (dropD i l).find? (fun y => decide (y.ix = j)) = if i = j then none else l.find? (fun y => decide (y.ix = j))
  | [] => by simp [dropD]
  | y :: r => by
    have ih := find_drop (i := i) (j := j) r
    unfold dropD at ih ⊢
    rw [List.filter_cons]
    by_cases hy : y.ix = i
    · simp only [hy, ne_eq, not_true_eq_false, decide_false, Bool.false_eq_true, if_false, ih, List.find?_cons]
      by_cases hij : i = j <;> simp [hij]
    · simp only [ne_eq, hy, not_false_eq_true, decide_true, if_true, List.find?_cons, ih]
      by_cases hyj : y.ix = j
      · have : i ≠ j := fun e => hy (hyj.trans e.symm)
        simp [hyj, this]
      · simp [hyj]
theorem lasting_set (l : List Sec) (i j : Int) (t : ByteArray) (ht : t.size = 512) : lasting (setD l i t) j = if i = j then t else lasting l j := by
  unfold lasting setD
  cases hz : allZ t
  · rw [if_neg (by simp), find_ins (fun y hy => (dropD_mem hy).2), find_drop]
    by_cases h : i = j <;> simp [h]
  · rw [if_pos rfl, find_drop]
    by_cases h : i = j
    · simp [h, (allZ_zsec ht hz).symm]
    · simp [h]
/-- What stands over what is durable. -/
def overD (dur pend : List Sec) (j : Int) : ByteArray := match lastIx pend j with | some k => ((pend[k]?).map Sec.dat).getD zsec | none => lasting dur j
theorem standing_over (d : Dev) (j : Int) : standing d j = overD d.dur d.pend j := rfl
theorem sync_lasting (j : Int) : ∀ (pend dur : List Sec), (∀ x ∈ pend, x.dat.size = 512) → lasting (syncD dur pend) j = overD dur pend j
  | [], _, _ => rfl
  | x :: r, dur, h => by
    show lasting (syncD (setD dur x.ix x.dat) r) j = _
    rw [sync_lasting j r _ (fun y hy => h y (by simp [hy]))]
    unfold overD
    rw [lastIx]
    cases hr : lastIx r j with
    | some k => simp
    | none =>
      simp only []
      rw [lasting_set _ _ _ _ (h x (by simp))]
      by_cases hx : x.ix = j <;> simp [hx]
theorem settle_nil : ∀ (l : List Fate) (seen : List Int) (dur : List Sec), settleD [] seen dur l = dur
  | [], _, _ => rfl
  | f :: r, seen, dur => by
    unfold settleD
    rw [if_pos (by simp only [List.length_nil]; omega)]
    exact settle_nil r seen dur
theorem readB_congr {d d' : Dev} (h : ∀ j, standing d j = standing d' j) (s : Int) (n : Nat) : readB d s n = readB d' s n := by
  unfold readB
  congr 1
  funext i
  rw [h]

theorem BytesAt.step {w w' : World} {F F' : Nat → Prop} {v : Value} {l : List UInt8} (h : BytesAt w F v l) (hs : Step F F' w w') : BytesAt w' F' v l := by
  obtain ⟨a, cap, g, h1, h2, h3, h4, h5⟩ := h
  by_cases h0 : 0 < l.length
  · have hb : g < w.heap.size := World.block_lt_of_cell? w ⟨g, 0, none⟩ (h5 0 h0)
    refine ⟨a, cap, g, h1, h2, h3, fun _ => ⟨(h4 h0).1, fun hf => ?_⟩, fun j hj => hs.cell (h5 j hj) (h4 h0).2⟩
    rcases hs.sub g hf with h | h
    · exact (h4 h0).2 h
    · omega
  · exact ⟨a, cap, g, h1, h2, h3, fun h => absurd h h0, fun j hj => absurd (Nat.lt_of_le_of_lt (Nat.zero_le _) hj) h0⟩
theorem BytesAt.isIn {w : World} {F : Nat → Prop} {v : Value} {l : List UInt8} (h : BytesAt w F v l) : BytesIn w v l := by
  obtain ⟨a, cap, g, h1, h2, h3, h4, h5⟩ := h
  exact ⟨a, cap, g, 0, h1, h3, fun h => (h4 h).1, fun j hj => by rw [Nat.zero_add]; exact h5 j hj⟩

theorem Bg.sync2 {A : Nat → Addr} {w wr : World} {b : Nat} {F : Nat → Prop} {d : Dev} (h : Bg A w wr b F d) (ha : d.arms = []) (hp : d.pend.length ≤ 140737488355328) :
    Calls Tryd.prog 21 #[.pointer (some ⟨b, 0, none⟩)] wr fun e w'' => e = .returned (errV A d.sync.2) ∧ ∃ F', Bg A w w'' b F' d.sync.1 ∧ Step F F' wr w'' := by
  refine (sync_any w.heap.size A b F d wr h.dev h.err h.far hp (by rw [ha]; exact opdone_nil _ _ _)).mono ?_
  rintro e w'' ⟨rfl, F', hd, hs⟩
  exact ⟨rfl, F', h.go hd hs, hs⟩
theorem Bg.crash2 {A : Nat → Addr} {w wr : World} {b : Nat} {F : Nat → Prop} {d : Dev} (h : Bg A w wr b F d) (hp : d.pend.length ≤ 140737488355328) (l : List Fate) (v : Value) (n : Nat) (hv : wr.ownsRow n 61 4 v l.length (fateCells l)) :
    Calls Tryd.prog 23 #[.pointer (some ⟨b, 0, none⟩), v] wr fun e w'' => e = .returned (.tuple #[]) ∧ ∃ F', Bg A w w'' b F' (d.crash l) ∧ Step F F' wr w'' := by
  refine (crash_any b F d wr h.dev l v ⟨hv.1, hv.2.imp id fun ⟨g, cap, cur, q1, _, q3⟩ => ⟨g, cap, cur, q1, Nat.zero_le _, q3⟩⟩ hp).mono ?_
  rintro e w'' ⟨rfl, F', hd, hs⟩
  exact ⟨rfl, F', h.go hd hs, hs⟩
theorem Bg.revive2 {A : Nat → Addr} {w wr : World} {b : Nat} {F : Nat → Prop} {d : Dev} (h : Bg A w wr b F d) :
    Calls Tryd.prog 19 #[.pointer (some ⟨b, 0, none⟩)] wr fun e w'' => e = .returned (.tuple #[]) ∧ Bg A w w'' b F d.revive ∧ Step F F wr w'' := by
  refine (revive_any b F d wr h.dev).mono ?_
  rintro e w'' ⟨rfl, hd, hs⟩
  exact ⟨rfl, h.go hd hs, hs⟩

theorem read_all {d : Dev} (h : d.Ok) (hd : d.dead = false) (hs : d.size ≤ 1024) : d.read 0 d.size = ({ d with nr := wrap64 (d.nr + d.size) }, readB d 0 d.size.toNat, 0) := by
  have := h.s0
  unfold Dev.read
  rw [hd, if_neg (by simp), if_neg (by simp only [Dev.fits, decide_eq_false_iff_not, Decidable.not_not]; omega), if_neg (by omega)]
/-- A device of which all was read. -/
def Dev.seen (d : Dev) : Dev := { d with nr := wrap64 (d.nr + d.size) }

set_option maxRecDepth 100000 in
set_option maxHeartbeats 1600000 in
theorem stand_any (A : Nat → Addr) (w wr : World) (b : Nat) (F : Nat → Prop) (d : Dev) (h : Bg A w wr b F d) (hd : d.dead = false) (hs : d.size ≤ 1024) :
    Calls Tryd.prog 20 #[.pointer (some ⟨b, 0, none⟩)] wr fun e w'' => ∃ v, e = .returned (.tuple #[v, .bool true]) ∧ w''.ownsRow wr.heap.size 5 1 v (readB d 0 d.size.toNat).length (u8s (readB d 0 d.size.toNat)) ∧ Bg A w w'' b F d.seen ∧ Step F F wr w'' := by
  have hok := h.dev.ok
  have hs0 := hok.s0
  have R := h.read 0 d.size (by omega)
  rw [read_all hok hd hs] at R
  simp only [] at R
  have HRD : Hid ({ d with nr := wrap64 (d.nr + d.size) } = d.seen) := rfl
  rw [HRD.out] at R
  have hl : ((readB d 0 d.size.toNat).length : Int) = 512 * d.size := by rw [readB_len hok]; omega
  have hw : IntKind.i64.wrap (512 * d.size) = 512 * d.size := wrap_i64 _ (by omega) (by omega)
  have HSZ : Hid (∀ w', DevAt w' b F d.seen → Calls Tryd.prog 28 #[.pointer (some ⟨b, 0, none⟩)] w' fun e w'' => e = .returned (.int .i64 d.size) ∧ w' = w'') := fun w' h' => size_any b F d.seen w' h'
  have S0 := size_any b F d wr h.dev
  have e0 : errV A 0 = .nilIface := rfl
  rw [e0] at R
  generalize readB d 0 d.size.toNat = L at *
  generalize d.seen = d2 at *
  generalize d.size = sz at *
  generalize hLn : L.length = n at *
  have HR : Hid (Calls Tryd.prog 50 #[.pointer (some ⟨b, 0, none⟩), .int .i64 0, .int .i64 sz] wr fun e w'' => ∃ v, e = .returned (.tuple #[v, .nilIface]) ∧ w''.ownsRow wr.heap.size 5 1 v n (u8s L) ∧ Bg A w w'' b F d2 ∧ Step F F wr w'') := R
  have HS0 : Hid (Calls Tryd.prog 28 #[.pointer (some ⟨b, 0, none⟩)] wr fun e w' => e = .returned (.int .i64 sz) ∧ wr = w') := S0
  clear R S0 h hLn e0 HRD
  go_enter Tryd.func20, Tryd.ntmps20
  go_wp2_with fail
  refine HS0.out.mono ?_
  rintro e w' ⟨rfl, rfl⟩
  go_wp2_with fail
  refine HR.out.mono ?_
  rintro e w1 ⟨v, rfl, hv, hB, hst⟩
  obtain ⟨va, vc, rfl, -⟩ := owns_form hv
  have HF : Hid (w1.ownsRow wr.heap.size 5 1 (.slice va n vc) n (u8s L) ∧ Bg A w w1 b F d2 ∧ Step F F wr w1) := ⟨hv, hB, hst⟩
  have HS1 := HSZ.out w1 hB.dev
  have HS1' : Hid (Calls Tryd.prog 28 #[.pointer (some ⟨b, 0, none⟩)] w1 fun e w' => e = .returned (.int .i64 sz) ∧ w1 = w') := HS1
  clear HR HS0 hv hB hst HS1 HSZ
  go_wp2_with fail
  refine HS1'.out.mono ?_
  rintro e w' ⟨rfl, rfl⟩
  have hd2 : decide ((n : Int) = 512 * sz) = true := decide_eq_true hl
  have hd3 : ((n : Int) == 512 * sz) = true := by simp [hl]
  go_wp2_with fail
  go_ret2
  exact ⟨_, rfl, HF.out⟩

end Go.Proofs.YtdieacdkomiooaaDoor
