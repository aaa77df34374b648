import Derived.Test.YtdieacdkomiooaaDoorOrdFn
namespace Go.Proofs.YtdieacdkomiooaaDoor
open Go.RowKit Go.Maps

theorem opens_rise (size : Int) : ∀ (l : List Sec) (lo : Int), (∀ x ∈ l, SecOk size x) → (∀ x ∈ l, lo ≤ x.ix) → l.Pairwise (fun x y => x.ix < y.ix) → opens size lo l = true
  | [], _, _, _, _ => rfl
  | x :: r, lo, h1, h2, h3 => by
    obtain ⟨h4, h5⟩ := List.pairwise_cons.1 h3
    have hx := h1 x (by simp)
    unfold opens
    rw [opens_rise size r (x.ix + 1) (fun y hy => h1 y (by simp [hy])) (fun y hy => by have := h4 y hy; omega) h5, decide_eq_true ⟨h2 x (by simp), hx.hi, hx.len⟩]
    rfl
theorem openD_same {size : Int} {l : List Sec} (h : ∀ x ∈ l, SecOk size x ∧ allZ x.dat = false) : openD l = l := by
  unfold openD
  rw [List.filter_eq_self]
  intro x hx
  rw [(h x hx).2]; rfl
/-- The device that is opened over what is durable. -/
def overDev (d : Dev) : Dev := { newDev d.size with dur := d.dur }
theorem newDev_size {d : Dev} (h : d.Ok) : (newDev d.size).size = d.size := by
  have := h.s0; have := h.s1
  simp only [newDev, clampN]
  rw [if_neg (by omega), if_neg (by omega)]
theorem open_over {d : Dev} (h : d.Ok) : opens (newDev d.size).size 0 d.dur = true ∧ { newDev d.size with dur := openD d.dur } = overDev d := by
  refine ⟨?_, ?_⟩
  · rw [newDev_size h]
    exact opens_rise d.size d.dur 0 (fun x hx => (h.dur x hx).1) (fun x hx => (h.dur x hx).1.lo) h.rise
  · rw [openD_same h.dur]; rfl
/-- The other device behind so many fates. -/
def othDev (d : Dev) (l : List Fate) (k : Nat) (n : Int) : Dev := { overDev d with pend := ordW d.pend [] (l.take k), nw := n }
theorem oth_write {d : Dev} (h : d.Ok) (l : List Fate) (k : Nat) (n : Int) (x : Sec) (hx : SecOk d.size x) : (othDev d l k n).write x.ix (bl x.dat) = ({ othDev d l k n with pend := ordW d.pend [] (l.take k) ++ [x], nw := wrap64 (n + 1) }, 0) := by
  have hl : (bl x.dat).length = 512 := by rw [bl_len, hx.len]
  have hsz : (othDev d l k n).size = d.size := newDev_size h
  have h1 : (othDev d l k n).dead = false := rfl
  have hf : (othDev d l k n).fits x.ix ((512 / 512 : Nat) : Int) = true := by
    simp only [Dev.fits, hsz, decide_eq_true_eq]
    have := hx.lo; have := hx.hi
    omega
  unfold Dev.write
  rw [h1, if_neg (by simp), hl, if_neg (by rw [hf]; simp)]
  have hc : chunks x.ix (bl x.dat) (512 / 512) = [x] := by
    show chunks x.ix (bl x.dat) 1 = [x]
    simp only [chunks, List.range_one, List.map_cons, List.map_nil, chunk, Nat.zero_mul, List.drop_zero]
    rw [List.take_of_length_le (by omega), mkb_bl]
    simp
  rw [hc]
  rfl
theorem oth_next {d : Dev} (l : List Fate) (k : Nat) (n : Int) (x : List Sec) (hk : ordW d.pend [] (l.take (k + 1)) = ordW d.pend [] (l.take k) ++ x) : { othDev d l k n with pend := ordW d.pend [] (l.take k) ++ x, nw := n } = othDev d l (k + 1) n := by
  unfold othDev
  rw [hk]
theorem oth_same {d : Dev} (l : List Fate) (k : Nat) (n : Int) (hk : ordW d.pend [] (l.take (k + 1)) = ordW d.pend [] (l.take k)) : othDev d l k n = othDev d l (k + 1) n := by
  unfold othDev
  rw [hk]
theorem meetW_len (pend : List Sec) (f : Fate) : (meetW pend f).length ≤ 1 := by
  unfold meetW
  split
  · split
    · simp
    · split <;> simp
  · simp
theorem ordW_len (pend : List Sec) : ∀ (l : List Fate) (seen : List Int), (ordW pend seen l).length ≤ l.length
  | [], _ => by simp [ordW]
  | f :: r, seen => by
    unfold ordW
    split
    · have := ordW_len pend r seen; simp only [List.length_cons]; omega
    · have := ordW_len pend r (f.ix :: seen); have := meetW_len pend f; simp only [List.length_cons, List.length_append]; omega
theorem oth_sync {d : Dev} (hd : d.dead = false) (l : List Fate) (n : Int) : (othDev d l l.length n).sync.2 = 0 ∧ (othDev d l l.length n).sync.1.dur = (d.crash l).dur := by
  have h1 : (othDev d l l.length n).dead = false := rfl
  have h2 : (d.crash l).dur = settleD d.pend [] d.dur l := by simp [Dev.crash, hd, Dev.kill]
  unfold Dev.sync
  rw [h1, if_neg (by simp), h2]
  refine ⟨rfl, ?_⟩
  show syncD d.dur (ordW d.pend [] (l.take l.length)) = _
  rw [List.take_length, sync_ordW]

theorem oth_writes {A : Nat → Addr} {W wr : World} {b c base m : Nat} {F G : Nat → Prop} {D1 D2 : Dev} {fts : List Fate} {k : Nat} {n : Int} {pv : Value} {xs : List Value} (hok : D1.Ok) (T : Two A W wr b F D2 c G (othDev D1 fts k n)) (R : RowAt wr G base 27 2 pv m xs)
    (x : Sec) (hx : SecOk D1.size x) (hk : ordW D1.pend [] (fts.take (k + 1)) = ordW D1.pend [] (fts.take k) ++ [x]) (hl : k ≤ 1048576) (w' : World) (v : Value) (n0 : Nat) (hb : Below wr.heap.size wr w') (hn0 : wr.heap.size ≤ n0) (hv : w'.ownsRow n0 5 1 v x.dat.size (u8s (bl x.dat))) :
    Calls Tryd.prog 33 #[.pointer (some ⟨c, 0, none⟩), .int .i64 x.ix, v] w' fun e w'' => e = .returned .nilIface ∧ ∃ G' n', Two A W w'' b F D2 c G' (othDev D1 fts (k + 1) n') ∧ RowAt w'' G' base 27 2 pv m xs ∧ Step G G' w' w'' := by
  have T' := T.up hb
  have hw := oth_write hok fts k n x hx
  have hlen : (bl x.dat).length = 512 := by rw [bl_len, hx.len]
  have hq : (ordW D1.pend [] (fts.take k)).length ≤ k := Nat.le_trans (ordW_len _ _ _) (by rw [List.length_take]; omega)
  refine (write_any W.heap.size A c G _ w' T'.two.dev T'.two.err T'.two.far x.ix v (bl x.dat) (bytesAt_own (base := n0) (by rw [bl_len]; exact hv) (by omega) (fun g hg hf => ?_)) (by rw [hlen]; show (ordW D1.pend [] (fts.take k)).length + 512 / 512 ≤ _; omega) (opdone_nil _ _ _)).mono ?_
  · have := (owns_blk hv g hg).1; have := T.two.dev.lt g hf; omega
  · rintro e w'' ⟨rfl, G', hd, hs⟩
    rw [hw] at hd ⊢
    refine ⟨rfl, G', wrap64 (n + 1), T'.go2 (T'.two.go (d' := othDev D1 fts (k + 1) (wrap64 (n + 1))) ?_ hs) hs, (R.up hb).step hs, hs⟩
    have e1 : { othDev D1 fts k n with pend := ordW D1.pend [] (fts.take k) ++ [x], nw := wrap64 (n + 1) } = othDev D1 fts (k + 1) (wrap64 (n + 1)) := by
      unfold othDev
      rw [hk]
    rw [← e1]
    exact hd
theorem meetW_keep {pend : List Sec} {f : Fate} (h : f.ix.toNat < pend.length) (hk : f.kind = 2) : meetW pend f = [⟨pend[f.ix.toNat].ix, pend[f.ix.toNat].dat⟩] := by
  unfold meetW
  rw [List.getElem?_eq_getElem h]
  simp [hk]
theorem meetW_tear {pend : List Sec} {f : Fate} (h : f.ix.toNat < pend.length) (hk : f.kind = 3) : meetW pend f = [⟨pend[f.ix.toNat].ix, tornB pend[f.ix.toNat].dat f⟩] := by
  unfold meetW
  rw [List.getElem?_eq_getElem h]
  simp [hk]
theorem meetW_no {pend : List Sec} {f : Fate} (h2 : f.kind ≠ 2) (h3 : f.kind ≠ 3) : meetW pend f = [] := by
  unfold meetW
  split
  · rw [if_neg h2, if_neg h3]
  · rfl
theorem frozen_row {w : World} {g j : Nat} {cur : Array Value} {e : TypeId} (h : w.heap[g]? = some (.cells cur e (0, 0))) : w.frozen? ⟨g, j, none⟩ = false := by
  unfold World.frozen?
  rw [show w.heap[(⟨g, j, none⟩ : Addr).block]? = _ from h]
  simp
theorem set_row {w : World} {g j : Nat} {cur : Array Value} {e : TypeId} {v : Value} (h : w.heap[g]? = some (.cells cur e (0, 0))) : (w.setCell ⟨g, j, none⟩ v).heap[g]? = some (.cells (cur.setIfInBounds j v) e (0, 0)) := by
  unfold World.setCell
  simp only [Array.getElem?_modify, if_true]
  rw [h]
  rfl
theorem owns_drewN {w : World} {b e size n : Nat} {v : Value} {xs : List Value} (h : w.ownsRow b e size v n xs) (m : Nat) : (w.drewN m).ownsRow b e size v n xs := owns_block h fun _ _ => rfl
theorem below_set {n g j : Nat} {a w : World} {v : Value} (h : Below n a w) (hg : n ≤ g) : Below n a (w.setCell ⟨g, j, none⟩ v) :=
  ⟨h.os, h.tape, h.output, by have := h.size; simpa [World.setCell] using this, fun k hk => (Below.heap_setCell w ⟨g, j, none⟩ v k (fun e => by simp only [] at e; omega)).trans (h.block k hk)⟩

end Go.Proofs.YtdieacdkomiooaaDoor
