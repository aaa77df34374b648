import Derived.Test.YtnaedmmfiiebaaaGreatDoorG25
import Derived.Test.YtnaedmmfiiebaaaGreatDoorRows
import Derived.LaidLaws
import Derived.LaidEql
import Derived.Laws.CopyOwn
namespace Go.Proofs.YtnaedmmfiiebaaaGreatDoor.S
open Go.RowKit Go.ChangeShapes

def mkErr (x : String × List UInt8) : String × DataW Unit := (x.1, .iface "*errors.errorString" (.ptr (.agg [.lit (.string x.2)])))
def errText : DataW Unit → List UInt8
  | .iface _ (.ptr (.agg [.lit (.string t)])) => t
  | _ => []

theorem cellsStr : Tryz.prog.cellsOf 9 = 1 := by kernel_rfl
theorem cellsErr : Tryz.prog.cellsOf 375 = 1 := by kernel_rfl
theorem star : "*" ++ "errors.errorString" = "*errors.errorString" := by decide
theorem rowPtr (u : TypeId) (h : Tryz.prog.typeName? 3 u = some "*errors.errorString") : u = 360 :=
  typeName_ptr_named (nm := "errors.errorString") (by rw [star]; kernel_rfl) (by kernel_rfl) (by decide) u (by rw [star]; exact h)
theorem compPtr : (Tryz.prog.info? 360).map (·.comparable) = some true := by kernel_rfl
theorem sizeErr : (Tryz.prog.info? 375).map (·.size) = some 1 := by kernel_rfl

set_option maxRecDepth 100000 in
theorem sents {W : World} : ∀ (l : List (String × List UInt8)) (rest : List (String × DataW Unit)) (G : Nat → Nat) (ps : List MemPlace),
    (∀ i x, l[i]? = some x → Tryz.prog.globalNamed x.1 = some (G i) ∧ (Tryz.prog.globals[G i]?).map (·.type) = some 32) →
    DataW.LaidVars Tryz.prog W (l.map mkErr ++ rest) ps → ps.Nodup →
    (∀ b off, MemPlace.cell b off ∈ ps → (∃ c t, W.heap[b]? = some (.cells c t (0, 0))) ∧ ∀ u v, W.cell? ⟨b, off, none⟩ = some (.iface u v) → Value.okWide Tryz.prog W .any 0 u v) →
    ∃ xs : List Addr, xs.length = l.length ∧ (∀ i a, xs[i]? = some a → W.cell? ⟨G i, 0, none⟩ = some (.iface 360 (.pointer (some a))) ∧ ∃ c t, W.heap[a.block]? = some (.cells c t (0, 0))) ∧
      xs.Nodup ∧ (∀ a ∈ xs, MemPlace.cell a.block a.off ∈ ps) ∧ ∃ qs, DataW.LaidVars Tryz.prog W rest qs ∧ qs.Nodup ∧ (∀ x ∈ qs, x ∈ ps) := by
  intro l
  induction l with
  | nil =>
    intro rest G ps _ hv hnd _
    exact ⟨[], rfl, fun i a h => by simp at h, List.nodup_nil, fun a h => by simp at h, ps, hv, hnd, fun x h => h⟩
  | cons x r ih =>
    intro rest G ps hg hv hnd hrows
    obtain ⟨g, t, cs, fuel, p, q, hg1, ht1, hvar, hd, hq, rfl⟩ := hv
    obtain ⟨k1, k2⟩ := hg 0 x rfl
    obtain rfl := Option.some.inj (k1.symm.trans hg1)
    obtain rfl := Option.some.inj (k2.symm.trans ht1)
    obtain ⟨l0⟩ := cs
    have ok0 : ∀ u v, l0 = [.iface u v] → Value.okWide Tryz.prog W .any 0 u v := fun u v e => by
      subst e
      exact (hrows (G 0) 0 (by simp [MemPlace.row])).2 u v (by simpa using World.var?_cell hg1 hvar 0)
    obtain ⟨a, s, rfl, hc, hs, hz, rfl⟩ := errorString_of_trod Tryz.underlying32 rowPtr Tryz.underlying360 Tryz.underlying375 rfl rfl Tryz.underlying9 cellsErr cellsStr hd ok0
    have hnd2 := hnd
    rw [List.append_assoc] at hnd2
    have hq2 := (List.nodup_append.1 (List.nodup_append.1 hnd2).2.1)
    obtain ⟨xs, h1, h2, h3, h4, qs, h5, h6, h7⟩ := ih rest (fun i => G (i + 1)) q (fun i y hy => hg (i + 1) y (by simpa using hy)) hq hq2.2.1 (fun b off hm => hrows b off (List.mem_append_right _ hm))
    refine ⟨a :: xs, by simp [h1], ?_, ?_, ?_, qs, h5, h6, fun y hy => List.mem_append_right _ (h7 y hy)⟩
    · intro i b hb
      cases i with
      | zero =>
        simp only [List.getElem?_cons_zero, Option.some.injEq] at hb
        subst hb
        exact ⟨by simpa using World.var?_cell hg1 hvar 0, (hrows a.block a.off (by simp [MemPlace.row])).1⟩
      | succ i =>
        exact h2 i b (by simpa using hb)
    · refine List.nodup_cons.2 ⟨fun hm => ?_, h3⟩
      exact hq2.2.2 (.cell a.block a.off) (by simp [MemPlace.row]) (.cell a.block a.off) (h4 a hm) rfl
    · intro b hb
      rcases List.mem_cons.1 hb with rfl | hb
      · simp [MemPlace.row]
      · exact List.mem_append_right _ (h4 b hb)

/-- n of the refusals lie in their variables, n pointers. -/
def ErrsG (n : Nat) (G : Nat → Nat) (A : Nat → Addr) (w : World) : Prop :=
  (∀ i, i < n → w.cell? ⟨G i, 0, none⟩ = some (.iface 360 (.pointer (some (A i)))) ∧ ∃ c t, w.heap[(A i).block]? = some (.cells c t (0, 0))) ∧ (∀ i j, i < n → j < n → A i = A j → i = j)

theorem ErrsG.keep {n : Nat} {G : Nat → Nat} {A : Nat → Addr} {w w' : World} (h : ErrsG n G A w) (hb : Below w.heap.size w w') : ErrsG n G A w' := by
  refine ⟨fun i hi => ?_, h.2⟩
  obtain ⟨h1, c, t, h2⟩ := h.1 i hi
  have hlt : G i < w.heap.size := World.block_lt_of_cell? w _ h1
  have hlt2 : (A i).block < w.heap.size := by
    rcases Nat.lt_or_ge (A i).block w.heap.size with h' | h'
    · exact h'
    · rw [Array.getElem?_eq_none h'] at h2; cases h2
  exact ⟨(hb.cell (p := ⟨G i, 0, none⟩) hlt).trans h1, c, t, by rw [hb.block _ hlt2]; exact h2⟩

theorem errs_of {W : World} {l : List (String × List UInt8)} {rest : List (String × DataW Unit)} {n : Nat} (G : Nat → Nat) (hl : l.length = n)
    (hg : ∀ i x, l[i]? = some x → Tryz.prog.globalNamed x.1 = some (G i) ∧ (Tryz.prog.globals[G i]?).map (·.type) = some 32) (h : laidMet Tryz.prog (l.map mkErr ++ rest) W) : ∃ A, ErrsG n G A W ∧ ∃ qs, DataW.LaidVars Tryz.prog W rest qs ∧ qs.Nodup := by
  obtain ⟨ps, hv, hnd, hrows⟩ := h
  obtain ⟨xs, h1, h2, h3, _, qs, h5, h6, _⟩ := sents l rest G ps hg hv hnd hrows
  refine ⟨fun i => xs.getD i default, ⟨fun i hi => ?_, fun i j hi hj he => ?_⟩, qs, h5, h6⟩
  · have : xs[i]? = some (xs.getD i default) := by
      rw [List.getD, List.getElem?_eq_getElem (by omega)]; rfl
    exact h2 i _ this
  · have hi' : i < xs.length := by omega
    have hj' : j < xs.length := by omega
    simp only [List.getD, List.getElem?_eq_getElem hi', List.getElem?_eq_getElem hj', Option.getD_some] at he
    have hp := List.pairwise_iff_getElem.1 h3
    rcases Nat.lt_trichotomy i j with h | h | h
    · exact absurd he (hp i j hi' hj' h)
    · exact h
    · exact absurd he.symm (hp j i hj' hi' h)

theorem eq_same (A : Nat → Addr) (i : Nat) (w : World) : (binOp .eql 32 (.iface 360 (.pointer (some (A i)))) (.iface 360 (.pointer (some (A i))))).run Tryz.prog w = .ok (.bool true) w := by
  obtain ⟨i1, hi, hcmp⟩ := Option.map_eq_some_iff.1 compPtr
  obtain ⟨j, hj, _⟩ := Option.map_eq_some_iff.1 sizeErr
  exact run_eql_iface_ptr_same w _ Tryz.underlying32 Tryz.underlying360 hi hcmp hj
theorem eq_other {n : Nat} {G : Nat → Nat} (A : Nat → Addr) (i k : Nat) (w : World) (h : ErrsG n G A w) (hi : i < n) (hk : k < n) (hne : i ≠ k) : (binOp .eql 32 (.iface 360 (.pointer (some (A i)))) (.iface 360 (.pointer (some (A k))))).run Tryz.prog w = .ok (.bool false) w := by
  obtain ⟨i1, hi1, hcmp⟩ := Option.map_eq_some_iff.1 compPtr
  obtain ⟨j, hj, hjs⟩ := Option.map_eq_some_iff.1 sizeErr
  obtain ⟨_, c, t, hb⟩ := h.1 i hi
  obtain ⟨_, c', t', hb'⟩ := h.1 k hk
  exact run_eql_iface_ptr_other w Tryz.underlying32 Tryz.underlying360 hi1 hcmp hj (by rw [hjs]; decide) (fun he => hne (h.2 i k hi hk he)) hb hb'

/-- The places of the refusals in the list of all thirteen. -/
def gAll (i : Nat) : Nat := ([0, 1, 2, 3, 4, 5, 6, 7, 8, 9, 10, 11, 12] : List Nat).getD i 0
/-- The thirteen refusals lie in their variables, thirteen pointers. -/
abbrev ErrsAt (A : Nat → Addr) (w : World) : Prop := ErrsG 13 gAll A w
theorem ErrsAt.below {A : Nat → Addr} {w w' : World} (h : ErrsAt A w) (hb : Below w.heap.size w w') : ErrsAt A w' := ErrsG.keep h hb

end Go.Proofs.YtnaedmmfiiebaaaGreatDoor.S

namespace Go.Proofs.YtnaedmmfiiebaaaGreatDoor.S
open Go.RowKit

/-- A block of the call's own that holds a struct's cells. -/
def Boxed (b : Nat) (cs : List Value) (w : World) : Prop := b < w.heap.size ∧ ∀ j (h : j < cs.length), w.cell? ⟨b, j, none⟩ = some cs[j]
theorem Boxed.below {b : Nat} {cs : List Value} {w w' : World} (h : Boxed b cs w) (hb : Below w.heap.size w w') : Boxed b cs w' :=
  ⟨Nat.lt_of_lt_of_le h.1 hb.size, fun j hj => (hb.cell (p := ⟨b, j, none⟩) h.1).trans (h.2 j hj)⟩
theorem boxed_new (w : World) (cs : Array Value) (t : TypeId) : Boxed w.heap.size cs.toList (w.alloc (.cells cs t)) := by
  refine ⟨by simp, fun j hj => ?_⟩
  have h : (w.alloc (.cells cs t)).heap[w.heap.size]? = some (.cells cs t (0, 0)) := heap_alloc_new w _
  rw [cell_of_row _ w.heap.size j cs t (0, 0) h]
  simp only [Array.length_toList] at hj
  simp [hj]
theorem below_new (w : World) (o : Obj) : Below w.heap.size w (w.alloc o) := (Below.refl _ _).alloc (Nat.le_refl _) o
/-- Two steps, each kept below its own beginning. -/
theorem Below.next {a b c : World} (h : Below a.heap.size a b) (k : Below b.heap.size b c) : Below a.heap.size a c := h.trans (k.mono h.size)

end Go.Proofs.YtnaedmmfiiebaaaGreatDoor.S

namespace Go.Proofs.YtnaedmmfiiebaaaGreatDoor.S
open Go.RowKit

def beNat (l : List UInt8) : Nat := l.foldl (fun n c => n * 256 + c.toNat) 0
theorem beNat_snoc (l : List UInt8) (c : UInt8) : beNat (l ++ [c]) = beNat l * 256 + c.toNat := by simp [beNat, List.foldl_append]
theorem beNat_lt (l : List UInt8) : beNat l < 256 ^ l.length := by
  have : ∀ (l : List UInt8) (n k : Nat), n < 256 ^ k → l.foldl (fun n c => n * 256 + c.toNat) n < 256 ^ (k + l.length) := by
    intro l
    induction l with
    | nil => intro n k h; simpa using h
    | cons c r ih =>
      intro n k h
      have hc := UInt8.toNat_lt c
      have := ih (n * 256 + c.toNat) (k + 1) (by rw [Nat.pow_succ]; omega)
      simp only [List.foldl_cons, List.length_cons]
      rwa [show k + (r.length + 1) = k + 1 + r.length by omega]
  have h := this l 0 0 (by decide)
  rwa [Nat.zero_add] at h
def padded (l : List UInt8) : List UInt8 := List.replicate (8 - l.length) 0 ++ l
theorem padded_len (l : List UInt8) (h : l.length ≤ 8) : (padded l).length = 8 := by simp [padded]; omega
theorem beNat_padded (l : List UInt8) : beNat (padded l) = beNat l := by
  have : ∀ k, (List.replicate k (0 : UInt8)).foldl (fun n c => n * 256 + c.toNat) 0 = 0 := by
    intro k
    induction k with
    | zero => rfl
    | succ k ih => rw [List.replicate_succ, List.foldl_cons]; exact ih
  unfold beNat padded
  rw [List.foldl_append, this]
theorem size5 : (Tryz.prog.info? 5).map (·.size) = some 1 := by kernel_rfl

theorem arrLen : Tryz.prog.arrayLen 328 = 8 := by kernel_rfl
theorem arrElem : Tryz.prog.elem 328 = 5 := by kernel_rfl
theorem slice_arr (b len : Nat) (h1 : 1 ≤ len) (h8 : len ≤ 8) (w : World) :
    (Instr.sliceAt 328 (.pointer (some ⟨b, 0, none⟩)) (some (.int .i64 (8 - (len : Int)))) none none).run Tryz.prog w = .ok (.slice (some ⟨b, 8 - len, none⟩) len len) w := by
  have hz : (sizeOf 5).run Tryz.prog w = .ok 1 w := by kernel_rfl
  have e : (8 - (len : Int)).toNat = 8 - len := by omega
  rw [run_sliceAt_array_l w 328 ⟨b, 0, none⟩ (by kernel_rfl) .i64 _ (by omega) (by rw [arrLen]; omega), arrLen, arrElem, e, hz]
  by_cases h : len = 8
  · subst h; rfl
  · simp [slicedAt, Addr.add, show 8 ≠ 8 - len by omega, show 8 - (8 - len) = len by omega, show ¬ 8 - len = 0 by omega]

theorem copy_in (g o cap : Nat) (l : List UInt8) (w : World) (hg : g < w.heap.size) (hc : ∀ j (h : j < l.length), w.cell? ⟨g, o + j, none⟩ = some (.int .u8 (l[j].toNat : Int))) (h8 : l.length ≤ 8) :
    ∃ w2, (Builtin.copy_ #[145, 145] 3 #[.slice (some ⟨w.heap.size, 8 - l.length, none⟩) l.length l.length, .slice (some ⟨g, o, none⟩) l.length cap]).run Tryz.prog (w.alloc (.cells #[.int .u8 0, .int .u8 0, .int .u8 0, .int .u8 0, .int .u8 0, .int .u8 0, .int .u8 0, .int .u8 0] 328)) = .ok (goInt l.length) w2 ∧
      Below w.heap.size w w2 ∧ ∀ j (h : j < (padded l).length), w2.cell? ⟨w.heap.size, j, none⟩ = some (.int .u8 ((padded l)[j].toNat : Int)) := by
  have hnew := heap_alloc_new w (.cells #[.int .u8 0, .int .u8 0, .int .u8 0, .int .u8 0, .int .u8 0, .int .u8 0, .int .u8 0, .int .u8 0] 328)
  have hrun := run_copy_row (P := Tryz.prog) (w.alloc (.cells #[.int .u8 0, .int .u8 0, .int .u8 0, .int .u8 0, .int .u8 0, .int .u8 0, .int .u8 0, .int .u8 0] 328)) 145 145 3 5 w.heap.size (8 - l.length) l.length l.length ⟨g, o, none⟩ l.length cap _ 328 (u8s l) Tryz.underlying145 size5 hnew (by rw [u8s_length]; exact (Nat.min_self _).symm)
    (fun j v hv => by
      by_cases hj : j < l.length
      · rw [u8s_get l j hj] at hv
        cases hv
        rw [show (⟨g, o, none⟩ : Addr).add j = ⟨g, o + j, none⟩ by simp [Addr.add]]
        rw [(below_new w _).cell (p := ⟨g, o + j, none⟩) hg]
        exact hc j hj
      · rw [List.getElem?_eq_none (by rw [u8s_length]; omega)] at hv; cases hv)
    (by rw [u8s_length]; simp; omega) (u8s_one l)
  rw [u8s_length] at hrun
  have hl : (List.take (8 - l.length) (#[.int .u8 0, .int .u8 0, .int .u8 0, .int .u8 0, .int .u8 0, .int .u8 0, .int .u8 0, .int .u8 0] : Array Value).toList ++ u8s l ++ List.drop (8 - l.length + l.length) (#[.int .u8 0, .int .u8 0, .int .u8 0, .int .u8 0, .int .u8 0, .int .u8 0, .int .u8 0, .int .u8 0] : Array Value).toList) = u8s (padded l) := by
    have hz : (#[.int .u8 0, .int .u8 0, .int .u8 0, .int .u8 0, .int .u8 0, .int .u8 0, .int .u8 0, .int .u8 0] : Array Value).toList = List.replicate 8 (.int .u8 0) := rfl
    rw [hz, show 8 - l.length + l.length = 8 by omega, List.take_replicate, List.drop_replicate, padded, u8s_append]
    simp [u8s, Nat.min_eq_left (show 8 - l.length ≤ 8 by omega)]
  rw [hl] at hrun
  refine ⟨_, hrun, below_setRow (below_new w _) (Nat.le_refl _) _, fun j hj => ?_⟩
  have hrow := setRow_heap _ w.heap.size _ (u8s (padded l)).toArray 328 _ hnew
  rw [cell_of_row _ w.heap.size j _ 328 _ hrow]
  simpa using u8s_get (padded l) j hj

theorem ret_pair {k : IntKind} {a b : Nat} {v : Value} (h : a = b) : Ending.returned (.tuple #[.int k (a : Int), v]) = .returned (.tuple #[.int k (b : Int), v]) := by rw [h]
theorem or_join (y c : Nat) (hy : y < 72057594037927936) (hc : c < 256) : bits BinOp.or IntKind.u64 ((y : Int) * 256) (c : Int) = ((y * 256 + c : Nat) : Int) := by
  have h := u64_or_nat (y * 256) c (by omega) (by omega)
  rw [nat_join 8 (y * 256) c (by omega) (by simpa using hc)] at h
  rw [← h]
  rfl

set_option maxHeartbeats 600000 in
theorem get_ok (g o cap : Nat) (l : List UInt8) (w : World) (h1 : 1 ≤ l.length) (h8 : l.length ≤ 8) (hg : g < w.heap.size)
    (hc : ∀ j (h : j < l.length), w.cell? ⟨g, o + j, none⟩ = some (.int .u8 (l[j].toNat : Int))) :
    Calls Tryz.prog 227 #[.slice (some ⟨g, o, none⟩) l.length cap] w fun e w' => e = .returned (.tuple #[.int .u64 ((beNat l : Nat) : Int), .nilIface]) ∧ Below w.heap.size w w' := by
  obtain ⟨cs, hcs⟩ : ∃ cs, cs = u8s l := ⟨_, rfl⟩
  obtain ⟨len, hlen⟩ : ∃ len, len = l.length := ⟨_, rfl⟩
  rw [← hlen] at h1 h8
  have hcl : cs.length = len := by rw [hcs, u8s_length, hlen]
  have HCS : Hid (cs = u8s l) := hcs
  have HLEN : Hid (len = l.length) := hlen
  rw [← HLEN.out]
  clear hcs hlen
  have hsl := slice_arr w.heap.size len h1 h8
  go_enter Tryz.func227, Tryz.ntmps227
  obtain ⟨w2, hcp, hb2, hcell⟩ := copy_in g o cap l w hg hc (by rw [← HLEN.out]; exact h8)
  rw [← HLEN.out] at hcp
  clear hc
  have hd1 : decide ((len : Int) < 1) = false := decide_eq_false (by omega)
  have hd2 : decide ((8 : Int) < (len : Int)) = false := decide_eq_false (by omega)
  go_wp2_with fail
  have hpl : (padded l).length = 8 := padded_len l (by rw [← HLEN.out]; exact h8)
  have HB : Hid (beNat (padded l) = beNat l) := beNat_padded l
  generalize padded l = pl at *
  go_loop [5, 22] (fun r i => ∃ k y : Nat, k ≤ 8 ∧ i = .int .i64 k ∧ r = .int .u64 (y : Int) ∧ y = beNat (pl.take k)) (fun _ i => 8 - (intOf i).toNat)
  case atStart => exact ⟨0, 0, by omega, rfl, rfl, rfl⟩
  case round =>
    obtain ⟨k, y, hk, rfl, rfl, hyr⟩ := hrel
    have HY : Hid (y = beNat (pl.take k)) := hyr
    clear hyr
    by_cases hlt : k < 8
    · have hck := hcell k (by omega)
      obtain ⟨c, hcd⟩ : ∃ c : Nat, c = (pl[k]'(by omega)).toNat := ⟨_, rfl⟩
      have hc256 : c < 256 := by rw [hcd]; exact UInt8.toNat_lt _
      rw [← hcd] at hck
      have HR : Hid (y * 256 + c = beNat (pl.take (k + 1))) := by
        show y * 256 + c = _
        rw [take_next pl k (by omega), beNat_snoc, ← HY.out, hcd]
      have hyb : y < 72057594037927936 := by
        rw [HY.out]
        have h := beNat_lt (pl.take k)
        rw [List.length_take, Nat.min_eq_left (by omega)] at h
        exact Nat.lt_of_lt_of_le h (Nat.le_trans (Nat.pow_le_pow_right (n := 256) (i := k) (j := 7) (by decide) (by omega)) (by decide))
      have e1 := or_join y c hyb hc256
      clear hcd hcell hsl hcp
      go_wp2
      go_round
      case rel => exact ⟨k + 1, y * 256 + c, by omega, by go_num, by go_num, HR.out⟩
      case measure => simp [intOf]; omega
    · have HE : Hid (y = beNat l) := by
        show y = _
        rw [HY.out, List.take_of_length_le (by omega), HB.out]
      clear hcell hsl hcp
      go_wp2
      go_ret2
      exact ⟨ret_pair HE.out, hb2⟩

end Go.Proofs.YtnaedmmfiiebaaaGreatDoor.S
