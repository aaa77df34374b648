import Derived.Test.YtnaedmmfiiebaaaGreatDoorProg
import Derived.WalkKit
import Derived.WalkSpells
import Derived.WalkLawsBesides
import Derived.Deep.AppendLies
import Derived.BigQuiet
import Derived.KernelRfl
import Derived.Laws.BitsAllLaws
import Derived.Test.YtnaedmmfiiebaaaGreatDoorRows
import Derived.LaidLaws
import Derived.LaidEql
import Derived.Laws.CopyOwn
namespace Go.Proofs.YtnaedmmfiiebaaaGreatDoor.S
open Go.RowKit

def u8s (l : List UInt8) : List Value := l.map (fun c => Value.int .u8 (c.toNat : Int))
theorem u8s_length (l : List UInt8) : (u8s l).length = l.length := by simp [u8s]
theorem u8s_append (a b : List UInt8) : u8s (a ++ b) = u8s a ++ u8s b := by simp [u8s]
theorem u8s_get (l : List UInt8) (j : Nat) (h : j < l.length) : (u8s l)[j]? = some (.int .u8 (l[j].toNat : Int)) := by simp [u8s, h]
theorem u8s_one (l : List UInt8) : ∀ u ∈ u8s l, u.oneCell' = true := by
  intro u hu
  simp only [u8s, List.mem_map] at hu
  obtain ⟨c, _, rfl⟩ := hu
  rfl
theorem bsize (s : ByteArray) : s.data.toList.length = s.size := by simp
theorem Tryz.info5 : (Tryz.prog.info? 5).map (fun i => (i.zero, i.size, i.bytes)) = some (some (.int .u8 0), 1, 1) := by kernel_rfl

end Go.Proofs.YtnaedmmfiiebaaaGreatDoor.S

namespace Go.Proofs.YtnaedmmfiiebaaaGreatDoor.S

def tabL : List Nat := [0, 274646895, 549293790, 820201905, 1098587580, 1361435347, 1640403810, 1905808397, 2197175160, 2460548119, 2722870694, 2987750089, 3280807620, 3553878443, 3811616794, 4084100981]
def tab (i : Nat) : Nat := tabL.getD i 0
def tstep (x : Nat) : Nat := (x / 16) ^^^ tab (x % 16)
def crcByte (x b : Nat) : Nat := tstep (tstep (x ^^^ b))
def crcReg (x : Nat) (l : List UInt8) : Nat := l.foldl (fun r b => crcByte r b.toNat) x
def nt (x : Nat) : Nat := 4294967295 - x
theorem nt_lt (x : Nat) : nt x < 4294967296 := by unfold nt; omega
theorem nt_xor (x : Nat) (hx : x < 4294967296) : 4294967295 ^^^ x = nt x := by
  unfold nt
  apply Nat.eq_of_testBit_eq
  intro i
  rw [Nat.testBit_xor]
  have h1 : (4294967295 : Nat) = 2 ^ 32 - 1 := rfl
  have h2 : 4294967295 - x = 2 ^ 32 - (x + 1) := by omega
  rw [h2, Nat.testBit_two_pow_sub_succ hx, h1, Nat.testBit_two_pow_sub_one]
  by_cases hi : i < 32
  · simp [hi]
  · have : x.testBit i = false := Nat.testBit_lt_two_pow (Nat.lt_of_lt_of_le hx (Nat.pow_le_pow_right (n := 2) (i := 32) (by decide) (by omega)))
    simp [hi, this]

theorem tab_lt (i : Nat) : tab i < 4294967296 := by
  unfold tab tabL
  rcases Nat.lt_or_ge i 16 with h | h
  · have : ∀ j : Fin 16, [0, 274646895, 549293790, 820201905, 1098587580, 1361435347, 1640403810, 1905808397, 2197175160, 2460548119, 2722870694, 2987750089, 3280807620, 3553878443, 3811616794, 4084100981].getD j.1 0 < 4294967296 := by decide
    exact this ⟨i, h⟩
  · rw [List.getD, List.getElem?_eq_none (by simpa using h)]; decide
theorem tstep_lt (y : Nat) (hy : y < 4294967296) : tstep y < 4294967296 := by
  unfold tstep
  exact Nat.xor_lt_two_pow (n := 32) (by omega) (tab_lt _)
theorem take_next (l : List UInt8) (k : Nat) (h : k < l.length) : l.take (k + 1) = l.take k ++ [l[k]] := List.take_succ_eq_append_getElem h
theorem crcReg_snoc (x : Nat) (l : List UInt8) (c : UInt8) : crcReg x (l ++ [c]) = crcByte (crcReg x l) c.toNat := by
  simp [crcReg, List.foldl_append]
end Go.Proofs.YtnaedmmfiiebaaaGreatDoor.S

namespace Go.Proofs.YtnaedmmfiiebaaaGreatDoor.S
open Go.RowKit

theorem ret_nat {k : IntKind} {a b : Nat} (h : a = b) : Ending.returned (.int k (a : Int)) = .returned (.int k (b : Int)) := by rw [h]
theorem not_u32 (x : Nat) (hx : x < 4294967296) : bits BinOp.xor IntKind.u32 IntKind.u32.max (x : Int) = ((nt x : Nat) : Int) := by
  have h : IntKind.u32.max = ((4294967295 : Nat) : Int) := rfl
  rw [h, u32_xor_nat _ _ (by omega) hx]
  exact congrArg Nat.cast (nt_xor x hx)
theorem xor_tab (y : Nat) (hy : y < 4294967296) : bits BinOp.xor IntKind.u32 ((y : Int) / 16) ((tab (y % 16) : Nat) : Int) = ((tstep y : Nat) : Int) := by
  have := u32_xor_nat (y / 16) (tab (y % 16)) (by omega) (tab_lt _)
  rw [← show (((y / 16 : Nat) : Nat) : Int) = (y : Int) / 16 from by omega]
  exact this
theorem and15 (y : Nat) (hy : y < 4294967296) : bits BinOp.and IntKind.u32 (y : Int) 15 = ((y % 16 : Nat) : Int) := by
  have := u32_and_nat y 15 hy (by omega)
  rw [nat_mask4] at this
  exact this

set_option maxHeartbeats 400000 in
theorem crcMore_ne (x : Nat) (b off len cap : Nat) (l : List UInt8) (w : World) (hx : x < 4294967296) (hlen : l.length = len) (hm : len ≤ 140737488355328)
    (hc : ∀ j (h : j < l.length), w.cell? ⟨b, off + j, none⟩ = some (.int .u8 (l[j].toNat : Int)))
    (ht : ∀ j, j < 16 → w.cell? ⟨15, j, none⟩ = some (.int .u32 (tab j : Nat))) :
    Calls Tryz.prog 218 #[.int .u32 (x : Int), .slice (some ⟨b, off, none⟩) len cap] w fun e w' => e = .returned (.int .u32 ((nt (crcReg (nt x) l) : Nat) : Int)) ∧ w = w' := by
  have hnt := not_u32 x hx
  have hy : nt x < 4294967296 := nt_lt x
  go_enter Tryz.func218, Tryz.ntmps218
  go_wp2
  go_loop [5, 12] (fun r i => ∃ k y : Nat, k ≤ len ∧ y < 4294967296 ∧ i = .int .i64 k ∧ r = .int .u32 (y : Int) ∧ y = crcReg (nt x) (l.take k)) (fun _ i => len - (intOf i).toNat)
  case atStart => exact ⟨0, nt x, Nat.zero_le _, hy, rfl, rfl, rfl⟩
  case round =>
    obtain ⟨k, y, hk, hy, rfl, rfl, hyr⟩ := hrel
    have HY : Hid (y = crcReg (nt x) (l.take k)) := hyr
    clear hyr
    by_cases hlt : k < len
    · have hck := hc k (by omega)
      obtain ⟨c, hcd⟩ : ∃ c : Nat, c = (l[k]'(by omega)).toNat := ⟨_, rfl⟩
      have hc256 : c < 256 := by rw [hcd]; exact UInt8.toNat_lt _
      rw [← hcd] at hck
      have HC : Hid (c = (l[k]'(by omega)).toNat) := hcd
      clear hcd
      have hcm : (c : Int) % 4294967296 = (c : Int) := by omega
      obtain ⟨y1, hy1⟩ : ∃ y1 : Nat, y1 = y ^^^ c := ⟨_, rfl⟩
      have hy1b : y1 < 4294967296 := by rw [hy1]; exact Nat.xor_lt_two_pow (n := 32) hy (by omega)
      have e1 : bits BinOp.xor IntKind.u32 (y : Int) (c : Int) = (y1 : Int) := by rw [hy1]; exact u32_xor_nat y c hy (by omega)
      have e2 : bits BinOp.and IntKind.u32 (y1 : Int) 15 = ((y1 % 16 : Nat) : Int) := and15 y1 hy1b
      have t1 := ht (y1 % 16) (by omega)
      have b1 : (0 : Int) ≤ ((y1 % 16 : Nat) : Int) := by omega
      have b2 : ((y1 % 16 : Nat) : Int) < 16 := by omega
      obtain ⟨y2, hy2⟩ : ∃ y2 : Nat, y2 = tstep y1 := ⟨_, rfl⟩
      have hy2b : y2 < 4294967296 := by rw [hy2]; exact tstep_lt y1 hy1b
      have e3 : bits BinOp.xor IntKind.u32 ((y1 : Int) / 16) ((tab (y1 % 16) : Nat) : Int) = (y2 : Int) := by rw [hy2]; exact xor_tab y1 hy1b
      have e4 : bits BinOp.and IntKind.u32 (y2 : Int) 15 = ((y2 % 16 : Nat) : Int) := and15 y2 hy2b
      have t2 := ht (y2 % 16) (by omega)
      have b3 : (0 : Int) ≤ ((y2 % 16 : Nat) : Int) := by omega
      have b4 : ((y2 % 16 : Nat) : Int) < 16 := by omega
      obtain ⟨y3, hy3⟩ : ∃ y3 : Nat, y3 = tstep y2 := ⟨_, rfl⟩
      have hy3b : y3 < 4294967296 := by rw [hy3]; exact tstep_lt y2 hy2b
      have e5 : bits BinOp.xor IntKind.u32 ((y2 : Int) / 16) ((tab (y2 % 16) : Nat) : Int) = (y3 : Int) := by rw [hy3]; exact xor_tab y2 hy2b
      have HR : Hid (y3 = crcReg (nt x) (l.take (k + 1))) := by
        show y3 = _
        rw [take_next l k (by omega), crcReg_snoc, ← HY.out, ← HC.out, hy3, hy2, hy1]; rfl
      clear hy1 hy2 hy3 hc ht
      go_wp2
      go_round
      case rel => exact ⟨k + 1, y3, by omega, hy3b, by go_num, rfl, HR.out⟩
      case measure => simp [intOf]; omega
    · have hke : l.take k = l := List.take_of_length_le (by omega)
      have hnt2 := not_u32 y hy
      have HE : Hid (y = crcReg (nt x) l) := by
        show y = _
        rw [HY.out, hke]
      clear hke hc ht
      go_wp2
      go_ret
      exact ⟨ret_nat (congrArg nt HE.out), rfl⟩

end Go.Proofs.YtnaedmmfiiebaaaGreatDoor.S

namespace Go.Proofs.YtnaedmmfiiebaaaGreatDoor.S
open Go.RowKit

/-- The slice value v reads as the bytes l. -/
def Rd (w : World) (v : Value) (l : List UInt8) : Prop :=
  (v = .slice none 0 0 ∧ l = []) ∨ ∃ g cap, v = .slice (some ⟨g, 0, none⟩) l.length cap ∧ l.length ≤ cap ∧ cap ≤ maxLen ∧ g < w.heap.size ∧ (∀ j (h : j < l.length), w.cell? ⟨g, j, none⟩ = some (.int .u8 (l[j].toNat : Int)))
def Tab (w : World) : Prop := (∀ j, j < 16 → w.cell? ⟨15, j, none⟩ = some (.int .u32 (tab j : Nat))) ∧ 15 < w.heap.size
def crcV (l : List UInt8) : Nat := nt (crcReg (nt 0) l)

theorem rd_of_owns {w : World} {base n : Nat} {v : Value} {l : List UInt8} (h : w.ownsRow base 5 1 v n (u8s l)) : Rd w v l := by
  have hl := h.1
  rw [u8s_length, Nat.mul_one] at hl
  subst hl
  by_cases h0 : l.length = 0
  · rcases h.2 with ⟨h', _⟩ | ⟨g, cap, cur, h', hb, hg, hn, hc, _, _⟩
    · exact .inl ⟨h', List.length_eq_zero_iff.1 h0⟩
    · refine .inr ⟨g, cap, h', hn, hc, ?_, fun j hj => by omega⟩
      rcases Nat.lt_or_ge g w.heap.size with hlt | hge
      · exact hlt
      · rw [Array.getElem?_eq_none hge] at hg; cases hg
  · obtain ⟨g, cap, rfl, hb, hlt⟩ := h.form (by omega)
    refine .inr ⟨g, cap, rfl, ?_, ?_, hlt, fun j hj => by rw [h.cellAt j (by omega), u8s_get l j hj]⟩
    · rcases h.2 with ⟨h', _⟩ | ⟨g', cap', cur, h', _, _, hn, hc, _, _⟩
      · cases h'
      · cases h'; exact hn
    · rcases h.2 with ⟨h', _⟩ | ⟨g', cap', cur, h', _, _, hn, hc, _, _⟩
      · cases h'
      · cases h'; exact hc
theorem Rd.below {w w' : World} {v : Value} {l : List UInt8} (h : Rd w v l) (hb : Below w.heap.size w w') : Rd w' v l := by
  rcases h with h | ⟨g, cap, hv, h1, h2, h3, h4⟩
  · exact .inl h
  · exact .inr ⟨g, cap, hv, h1, h2, Nat.lt_of_lt_of_le h3 hb.size, fun j hj => (hb.cell (p := ⟨g, j, none⟩) h3).trans (h4 j hj)⟩
theorem Tab.below {w w' : World} (h : Tab w) (hb : Below w.heap.size w w') : Tab w' :=
  ⟨fun j hj => (hb.cell (p := ⟨15, j, none⟩) h.2).trans (h.1 j hj), Nat.lt_of_lt_of_le h.2 hb.size⟩

set_option maxHeartbeats 400000 in
theorem crcMore_nil (x : Nat) (w : World) (hx : x < 4294967296) :
    Calls Tryz.prog 218 #[.int .u32 (x : Int), .slice none 0 0] w fun e w' => e = .returned (.int .u32 ((nt (nt x) : Nat) : Int)) ∧ w = w' := by
  have hnt := not_u32 x hx
  have hnt2 := not_u32 (nt x) (nt_lt x)
  go_enter Tryz.func218, Tryz.ntmps218
  go_wp2
  go_loop [5, 12] (fun r i => i = .int .i64 0 ∧ r = .int .u32 (nt x : Int)) (fun _ i => 0)
  case atStart => exact ⟨rfl, rfl⟩
  case round =>
    obtain ⟨rfl, rfl⟩ := hrel
    go_wp2
    go_ret
    exact ⟨rfl, rfl⟩

theorem crcMore_rd (x : Nat) (X : Int) (v : Value) (l : List UInt8) (w : World) (hX : X = (x : Int)) (hx : x < 4294967296) (hm : l.length ≤ 140737488355328) (hr : Rd w v l) (ht : Tab w) :
    Calls Tryz.prog 218 #[.int .u32 X, v] w fun e w' => e = .returned (.int .u32 ((nt (crcReg (nt x) l) : Nat) : Int)) ∧ w = w' := by
  subst hX
  rcases hr with ⟨rfl, rfl⟩ | ⟨g, cap, rfl, h1, h2, h3, h4⟩
  · exact crcMore_nil x w hx
  · exact crcMore_ne x g 0 l.length cap l w hx rfl hm (fun j hj => by rw [Nat.zero_add]; exact h4 j hj) ht.1

set_option maxHeartbeats 400000 in
theorem crc_rd (v : Value) (l : List UInt8) (w : World) (hm : l.length ≤ 140737488355328) (hr : Rd w v l) (ht : Tab w) :
    Calls Tryz.prog 172 #[v] w fun e w' => e = .returned (.int .u32 ((crcV l : Nat) : Int)) ∧ w = w' := by
  have H := crcMore_rd 0 0 v l w rfl (by decide) hm hr ht
  have HH : Hid (Calls Tryz.prog 218 #[.int .u32 0, v] w fun e w' => e = .returned (.int .u32 ((nt (crcReg (nt 0) l) : Nat) : Int)) ∧ w = w') := H
  clear H hr ht
  go_enter Tryz.func172, Tryz.ntmps172
  go_wp2_with (go_at_call 218; refine HH.out.mono ?_; rintro e w' ⟨rfl, rfl⟩)
  go_ret
  exact ⟨rfl, rfl⟩

end Go.Proofs.YtnaedmmfiiebaaaGreatDoor.S

namespace Go.Proofs.YtnaedmmfiiebaaaGreatDoor.S
open Go.RowKit Go.ChangeShapes

def mkErr (x : String × List UInt8) : String × DataW Unit := (x.1, .iface "*errors.errorString" (.ptr (.agg [.lit (.string x.2)])))
def errText : DataW Unit → List UInt8
  | .iface _ (.ptr (.agg [.lit (.string t)])) => t
  | _ => []

theorem cellsStr : Tryz.prog.cellsOf 9 = 1 := by kernel_rfl
theorem cellsErr : Tryz.prog.cellsOf 375 = 1 := by kernel_rfl
theorem star : "*" ++ "errors.errorString" = "*errors.errorString" := by decide
theorem rowPtr (u : TypeId) (h : Tryz.prog.typeName? 3 u = some "*errors.errorString") : u = 360 :=
  typeName_ptr_named (nm := "errors.errorString") (by rw [star]; kernel_rfl) (by kernel_rfl) (by decide) u (by rw [star]; exact h)
theorem compPtr : (Tryz.prog.info? 360).map (·.comparable) = some true := by kernel_rfl
theorem sizeErr : (Tryz.prog.info? 375).map (·.size) = some 1 := by kernel_rfl

set_option maxRecDepth 100000 in
theorem sents {W : World} : ∀ (l : List (String × List UInt8)) (rest : List (String × DataW Unit)) (G : Nat → Nat) (ps : List MemPlace),
    (∀ i x, l[i]? = some x → Tryz.prog.globalNamed x.1 = some (G i) ∧ (Tryz.prog.globals[G i]?).map (·.type) = some 32) →
    DataW.LaidVars Tryz.prog W (l.map mkErr ++ rest) ps → ps.Nodup →
    (∀ b off, MemPlace.cell b off ∈ ps → (∃ c t, W.heap[b]? = some (.cells c t (0, 0))) ∧ ∀ u v, W.cell? ⟨b, off, none⟩ = some (.iface u v) → Value.okWide Tryz.prog W .any 0 u v) →
    ∃ xs : List Addr, xs.length = l.length ∧ (∀ i a, xs[i]? = some a → W.cell? ⟨G i, 0, none⟩ = some (.iface 360 (.pointer (some a))) ∧ ∃ c t, W.heap[a.block]? = some (.cells c t (0, 0))) ∧
      xs.Nodup ∧ (∀ a ∈ xs, MemPlace.cell a.block a.off ∈ ps) ∧ ∃ qs, DataW.LaidVars Tryz.prog W rest qs ∧ qs.Nodup ∧ (∀ x ∈ qs, x ∈ ps) := by
  intro l
  induction l with
  | nil =>
    intro rest G ps _ hv hnd _
    exact ⟨[], rfl, fun i a h => by simp at h, List.nodup_nil, fun a h => by simp at h, ps, hv, hnd, fun x h => h⟩
  | cons x r ih =>
    intro rest G ps hg hv hnd hrows
    obtain ⟨g, t, cs, fuel, p, q, hg1, ht1, hvar, hd, hq, rfl⟩ := hv
    obtain ⟨k1, k2⟩ := hg 0 x rfl
    obtain rfl := Option.some.inj (k1.symm.trans hg1)
    obtain rfl := Option.some.inj (k2.symm.trans ht1)
    obtain ⟨l0⟩ := cs
    have ok0 : ∀ u v, l0 = [.iface u v] → Value.okWide Tryz.prog W .any 0 u v := fun u v e => by
      subst e
      exact (hrows (G 0) 0 (by simp [MemPlace.row])).2 u v (by simpa using World.var?_cell hg1 hvar 0)
    obtain ⟨a, s, rfl, hc, hs, hz, rfl⟩ := errorString_of_trod Tryz.underlying32 rowPtr Tryz.underlying360 Tryz.underlying375 rfl rfl Tryz.underlying9 cellsErr cellsStr hd ok0
    have hnd2 := hnd
    rw [List.append_assoc] at hnd2
    have hq2 := (List.nodup_append.1 (List.nodup_append.1 hnd2).2.1)
    obtain ⟨xs, h1, h2, h3, h4, qs, h5, h6, h7⟩ := ih rest (fun i => G (i + 1)) q (fun i y hy => hg (i + 1) y (by simpa using hy)) hq hq2.2.1 (fun b off hm => hrows b off (List.mem_append_right _ hm))
    refine ⟨a :: xs, by simp [h1], ?_, ?_, ?_, qs, h5, h6, fun y hy => List.mem_append_right _ (h7 y hy)⟩
    · intro i b hb
      cases i with
      | zero =>
        simp only [List.getElem?_cons_zero, Option.some.injEq] at hb
        subst hb
        exact ⟨by simpa using World.var?_cell hg1 hvar 0, (hrows a.block a.off (by simp [MemPlace.row])).1⟩
      | succ i =>
        exact h2 i b (by simpa using hb)
    · refine List.nodup_cons.2 ⟨fun hm => ?_, h3⟩
      exact hq2.2.2 (.cell a.block a.off) (by simp [MemPlace.row]) (.cell a.block a.off) (h4 a hm) rfl
    · intro b hb
      rcases List.mem_cons.1 hb with rfl | hb
      · simp [MemPlace.row]
      · exact List.mem_append_right _ (h4 b hb)

/-- n of the refusals lie in their variables, n pointers. -/
def ErrsG (n : Nat) (G : Nat → Nat) (A : Nat → Addr) (w : World) : Prop :=
  (∀ i, i < n → w.cell? ⟨G i, 0, none⟩ = some (.iface 360 (.pointer (some (A i)))) ∧ ∃ c t, w.heap[(A i).block]? = some (.cells c t (0, 0))) ∧ (∀ i j, i < n → j < n → A i = A j → i = j)

theorem ErrsG.keep {n : Nat} {G : Nat → Nat} {A : Nat → Addr} {w w' : World} (h : ErrsG n G A w) (hb : Below w.heap.size w w') : ErrsG n G A w' := by
  refine ⟨fun i hi => ?_, h.2⟩
  obtain ⟨h1, c, t, h2⟩ := h.1 i hi
  have hlt : G i < w.heap.size := World.block_lt_of_cell? w _ h1
  have hlt2 : (A i).block < w.heap.size := by
    rcases Nat.lt_or_ge (A i).block w.heap.size with h' | h'
    · exact h'
    · rw [Array.getElem?_eq_none h'] at h2; cases h2
  exact ⟨(hb.cell (p := ⟨G i, 0, none⟩) hlt).trans h1, c, t, by rw [hb.block _ hlt2]; exact h2⟩

theorem errs_of {W : World} {l : List (String × List UInt8)} {rest : List (String × DataW Unit)} {n : Nat} (G : Nat → Nat) (hl : l.length = n)
    (hg : ∀ i x, l[i]? = some x → Tryz.prog.globalNamed x.1 = some (G i) ∧ (Tryz.prog.globals[G i]?).map (·.type) = some 32) (h : laidMet Tryz.prog (l.map mkErr ++ rest) W) : ∃ A, ErrsG n G A W ∧ ∃ qs, DataW.LaidVars Tryz.prog W rest qs ∧ qs.Nodup := by
  obtain ⟨ps, hv, hnd, hrows⟩ := h
  obtain ⟨xs, h1, h2, h3, _, qs, h5, h6, _⟩ := sents l rest G ps hg hv hnd hrows
  refine ⟨fun i => xs.getD i default, ⟨fun i hi => ?_, fun i j hi hj he => ?_⟩, qs, h5, h6⟩
  · have : xs[i]? = some (xs.getD i default) := by
      rw [List.getD, List.getElem?_eq_getElem (by omega)]; rfl
    exact h2 i _ this
  · have hi' : i < xs.length := by omega
    have hj' : j < xs.length := by omega
    simp only [List.getD, List.getElem?_eq_getElem hi', List.getElem?_eq_getElem hj', Option.getD_some] at he
    have hp := List.pairwise_iff_getElem.1 h3
    rcases Nat.lt_trichotomy i j with h | h | h
    · exact absurd he (hp i j hi' hj' h)
    · exact h
    · exact absurd he.symm (hp j i hj' hi' h)

theorem eq_same (A : Nat → Addr) (i : Nat) (w : World) : (binOp .eql 32 (.iface 360 (.pointer (some (A i)))) (.iface 360 (.pointer (some (A i))))).run Tryz.prog w = .ok (.bool true) w := by
  obtain ⟨i1, hi, hcmp⟩ := Option.map_eq_some_iff.1 compPtr
  obtain ⟨j, hj, _⟩ := Option.map_eq_some_iff.1 sizeErr
  exact run_eql_iface_ptr_same w _ Tryz.underlying32 Tryz.underlying360 hi hcmp hj
theorem eq_other {n : Nat} {G : Nat → Nat} (A : Nat → Addr) (i k : Nat) (w : World) (h : ErrsG n G A w) (hi : i < n) (hk : k < n) (hne : i ≠ k) : (binOp .eql 32 (.iface 360 (.pointer (some (A i)))) (.iface 360 (.pointer (some (A k))))).run Tryz.prog w = .ok (.bool false) w := by
  obtain ⟨i1, hi1, hcmp⟩ := Option.map_eq_some_iff.1 compPtr
  obtain ⟨j, hj, hjs⟩ := Option.map_eq_some_iff.1 sizeErr
  obtain ⟨_, c, t, hb⟩ := h.1 i hi
  obtain ⟨_, c', t', hb'⟩ := h.1 k hk
  exact run_eql_iface_ptr_other w Tryz.underlying32 Tryz.underlying360 hi1 hcmp hj (by rw [hjs]; decide) (fun he => hne (h.2 i k hi hk he)) hb hb'

/-- The places of the refusals in the list of all thirteen. -/
def gAll (i : Nat) : Nat := ([0, 1, 2, 3, 4, 5, 6, 7, 8, 9, 10, 11, 12] : List Nat).getD i 0
/-- The thirteen refusals lie in their variables, thirteen pointers. -/
abbrev ErrsAt (A : Nat → Addr) (w : World) : Prop := ErrsG 13 gAll A w
theorem ErrsAt.below {A : Nat → Addr} {w w' : World} (h : ErrsAt A w) (hb : Below w.heap.size w w') : ErrsAt A w' := ErrsG.keep h hb

end Go.Proofs.YtnaedmmfiiebaaaGreatDoor.S

namespace Go.Proofs.YtnaedmmfiiebaaaGreatDoor.S
open Go.RowKit

/-- A block of the call's own that holds a struct's cells. -/
def Boxed (b : Nat) (cs : List Value) (w : World) : Prop := b < w.heap.size ∧ ∀ j (h : j < cs.length), w.cell? ⟨b, j, none⟩ = some cs[j]
theorem Boxed.below {b : Nat} {cs : List Value} {w w' : World} (h : Boxed b cs w) (hb : Below w.heap.size w w') : Boxed b cs w' :=
  ⟨Nat.lt_of_lt_of_le h.1 hb.size, fun j hj => (hb.cell (p := ⟨b, j, none⟩) h.1).trans (h.2 j hj)⟩
theorem boxed_new (w : World) (cs : Array Value) (t : TypeId) : Boxed w.heap.size cs.toList (w.alloc (.cells cs t)) := by
  refine ⟨by simp, fun j hj => ?_⟩
  have h : (w.alloc (.cells cs t)).heap[w.heap.size]? = some (.cells cs t (0, 0)) := heap_alloc_new w _
  rw [cell_of_row _ w.heap.size j cs t (0, 0) h]
  simp only [Array.length_toList] at hj
  simp [hj]
theorem below_new (w : World) (o : Obj) : Below w.heap.size w (w.alloc o) := (Below.refl _ _).alloc (Nat.le_refl _) o
/-- Two steps, each kept below its own beginning. -/
theorem Below.next {a b c : World} (h : Below a.heap.size a b) (k : Below b.heap.size b c) : Below a.heap.size a c := h.trans (k.mono h.size)

end Go.Proofs.YtnaedmmfiiebaaaGreatDoor.S

namespace Go.Proofs.YtnaedmmfiiebaaaGreatDoor.S
open Go.RowKit

def beNat (l : List UInt8) : Nat := l.foldl (fun n c => n * 256 + c.toNat) 0
theorem beNat_snoc (l : List UInt8) (c : UInt8) : beNat (l ++ [c]) = beNat l * 256 + c.toNat := by simp [beNat, List.foldl_append]
theorem beNat_lt (l : List UInt8) : beNat l < 256 ^ l.length := by
  have : ∀ (l : List UInt8) (n k : Nat), n < 256 ^ k → l.foldl (fun n c => n * 256 + c.toNat) n < 256 ^ (k + l.length) := by
    intro l
    induction l with
    | nil => intro n k h; simpa using h
    | cons c r ih =>
      intro n k h
      have hc := UInt8.toNat_lt c
      have := ih (n * 256 + c.toNat) (k + 1) (by rw [Nat.pow_succ]; omega)
      simp only [List.foldl_cons, List.length_cons]
      rwa [show k + (r.length + 1) = k + 1 + r.length by omega]
  have h := this l 0 0 (by decide)
  rwa [Nat.zero_add] at h
def padded (l : List UInt8) : List UInt8 := List.replicate (8 - l.length) 0 ++ l
theorem padded_len (l : List UInt8) (h : l.length ≤ 8) : (padded l).length = 8 := by simp [padded]; omega
theorem beNat_padded (l : List UInt8) : beNat (padded l) = beNat l := by
  have : ∀ k, (List.replicate k (0 : UInt8)).foldl (fun n c => n * 256 + c.toNat) 0 = 0 := by
    intro k
    induction k with
    | zero => rfl
    | succ k ih => rw [List.replicate_succ, List.foldl_cons]; exact ih
  unfold beNat padded
  rw [List.foldl_append, this]
theorem size5 : (Tryz.prog.info? 5).map (·.size) = some 1 := by kernel_rfl

theorem arrLen : Tryz.prog.arrayLen 328 = 8 := by kernel_rfl
theorem arrElem : Tryz.prog.elem 328 = 5 := by kernel_rfl
theorem slice_arr (b len : Nat) (h1 : 1 ≤ len) (h8 : len ≤ 8) (w : World) :
    (Instr.sliceAt 328 (.pointer (some ⟨b, 0, none⟩)) (some (.int .i64 (8 - (len : Int)))) none none).run Tryz.prog w = .ok (.slice (some ⟨b, 8 - len, none⟩) len len) w := by
  have hz : (sizeOf 5).run Tryz.prog w = .ok 1 w := by kernel_rfl
  have e : (8 - (len : Int)).toNat = 8 - len := by omega
  rw [run_sliceAt_array_l w 328 ⟨b, 0, none⟩ (by kernel_rfl) .i64 _ (by omega) (by rw [arrLen]; omega), arrLen, arrElem, e, hz]
  by_cases h : len = 8
  · subst h; rfl
  · simp [slicedAt, Addr.add, show 8 ≠ 8 - len by omega, show 8 - (8 - len) = len by omega, show ¬ 8 - len = 0 by omega]

theorem copy_in (g o cap : Nat) (l : List UInt8) (w : World) (hg : g < w.heap.size) (hc : ∀ j (h : j < l.length), w.cell? ⟨g, o + j, none⟩ = some (.int .u8 (l[j].toNat : Int))) (h8 : l.length ≤ 8) :
    ∃ w2, (Builtin.copy_ #[145, 145] 3 #[.slice (some ⟨w.heap.size, 8 - l.length, none⟩) l.length l.length, .slice (some ⟨g, o, none⟩) l.length cap]).run Tryz.prog (w.alloc (.cells #[.int .u8 0, .int .u8 0, .int .u8 0, .int .u8 0, .int .u8 0, .int .u8 0, .int .u8 0, .int .u8 0] 328)) = .ok (goInt l.length) w2 ∧
      Below w.heap.size w w2 ∧ ∀ j (h : j < (padded l).length), w2.cell? ⟨w.heap.size, j, none⟩ = some (.int .u8 ((padded l)[j].toNat : Int)) := by
  have hnew := heap_alloc_new w (.cells #[.int .u8 0, .int .u8 0, .int .u8 0, .int .u8 0, .int .u8 0, .int .u8 0, .int .u8 0, .int .u8 0] 328)
  have hrun := run_copy_row (P := Tryz.prog) (w.alloc (.cells #[.int .u8 0, .int .u8 0, .int .u8 0, .int .u8 0, .int .u8 0, .int .u8 0, .int .u8 0, .int .u8 0] 328)) 145 145 3 5 w.heap.size (8 - l.length) l.length l.length ⟨g, o, none⟩ l.length cap _ 328 (u8s l) Tryz.underlying145 size5 hnew (by rw [u8s_length]; exact (Nat.min_self _).symm)
    (fun j v hv => by
      by_cases hj : j < l.length
      · rw [u8s_get l j hj] at hv
        cases hv
        rw [show (⟨g, o, none⟩ : Addr).add j = ⟨g, o + j, none⟩ by simp [Addr.add]]
        rw [(below_new w _).cell (p := ⟨g, o + j, none⟩) hg]
        exact hc j hj
      · rw [List.getElem?_eq_none (by rw [u8s_length]; omega)] at hv; cases hv)
    (by rw [u8s_length]; simp; omega) (u8s_one l)
  rw [u8s_length] at hrun
  have hl : (List.take (8 - l.length) (#[.int .u8 0, .int .u8 0, .int .u8 0, .int .u8 0, .int .u8 0, .int .u8 0, .int .u8 0, .int .u8 0] : Array Value).toList ++ u8s l ++ List.drop (8 - l.length + l.length) (#[.int .u8 0, .int .u8 0, .int .u8 0, .int .u8 0, .int .u8 0, .int .u8 0, .int .u8 0, .int .u8 0] : Array Value).toList) = u8s (padded l) := by
    have hz : (#[.int .u8 0, .int .u8 0, .int .u8 0, .int .u8 0, .int .u8 0, .int .u8 0, .int .u8 0, .int .u8 0] : Array Value).toList = List.replicate 8 (.int .u8 0) := rfl
    rw [hz, show 8 - l.length + l.length = 8 by omega, List.take_replicate, List.drop_replicate, padded, u8s_append]
    simp [u8s, Nat.min_eq_left (show 8 - l.length ≤ 8 by omega)]
  rw [hl] at hrun
  refine ⟨_, hrun, below_setRow (below_new w _) (Nat.le_refl _) _, fun j hj => ?_⟩
  have hrow := setRow_heap _ w.heap.size _ (u8s (padded l)).toArray 328 _ hnew
  rw [cell_of_row _ w.heap.size j _ 328 _ hrow]
  simpa using u8s_get (padded l) j hj

theorem ret_pair {k : IntKind} {a b : Nat} {v : Value} (h : a = b) : Ending.returned (.tuple #[.int k (a : Int), v]) = .returned (.tuple #[.int k (b : Int), v]) := by rw [h]
theorem or_join (y c : Nat) (hy : y < 72057594037927936) (hc : c < 256) : bits BinOp.or IntKind.u64 ((y : Int) * 256) (c : Int) = ((y * 256 + c : Nat) : Int) := by
  have h := u64_or_nat (y * 256) c (by omega) (by omega)
  rw [nat_join 8 (y * 256) c (by omega) (by simpa using hc)] at h
  rw [← h]
  rfl

set_option maxHeartbeats 600000 in
theorem get_ok (g o cap : Nat) (l : List UInt8) (w : World) (h1 : 1 ≤ l.length) (h8 : l.length ≤ 8) (hg : g < w.heap.size)
    (hc : ∀ j (h : j < l.length), w.cell? ⟨g, o + j, none⟩ = some (.int .u8 (l[j].toNat : Int))) :
    Calls Tryz.prog 227 #[.slice (some ⟨g, o, none⟩) l.length cap] w fun e w' => e = .returned (.tuple #[.int .u64 ((beNat l : Nat) : Int), .nilIface]) ∧ Below w.heap.size w w' := by
  obtain ⟨cs, hcs⟩ : ∃ cs, cs = u8s l := ⟨_, rfl⟩
  obtain ⟨len, hlen⟩ : ∃ len, len = l.length := ⟨_, rfl⟩
  rw [← hlen] at h1 h8
  have hcl : cs.length = len := by rw [hcs, u8s_length, hlen]
  have HCS : Hid (cs = u8s l) := hcs
  have HLEN : Hid (len = l.length) := hlen
  rw [← HLEN.out]
  clear hcs hlen
  have hsl := slice_arr w.heap.size len h1 h8
  go_enter Tryz.func227, Tryz.ntmps227
  obtain ⟨w2, hcp, hb2, hcell⟩ := copy_in g o cap l w hg hc (by rw [← HLEN.out]; exact h8)
  rw [← HLEN.out] at hcp
  clear hc
  have hd1 : decide ((len : Int) < 1) = false := decide_eq_false (by omega)
  have hd2 : decide ((8 : Int) < (len : Int)) = false := decide_eq_false (by omega)
  go_wp2_with fail
  have hpl : (padded l).length = 8 := padded_len l (by rw [← HLEN.out]; exact h8)
  have HB : Hid (beNat (padded l) = beNat l) := beNat_padded l
  generalize padded l = pl at *
  go_loop [5, 22] (fun r i => ∃ k y : Nat, k ≤ 8 ∧ i = .int .i64 k ∧ r = .int .u64 (y : Int) ∧ y = beNat (pl.take k)) (fun _ i => 8 - (intOf i).toNat)
  case atStart => exact ⟨0, 0, by omega, rfl, rfl, rfl⟩
  case round =>
    obtain ⟨k, y, hk, rfl, rfl, hyr⟩ := hrel
    have HY : Hid (y = beNat (pl.take k)) := hyr
    clear hyr
    by_cases hlt : k < 8
    · have hck := hcell k (by omega)
      obtain ⟨c, hcd⟩ : ∃ c : Nat, c = (pl[k]'(by omega)).toNat := ⟨_, rfl⟩
      have hc256 : c < 256 := by rw [hcd]; exact UInt8.toNat_lt _
      rw [← hcd] at hck
      have HR : Hid (y * 256 + c = beNat (pl.take (k + 1))) := by
        show y * 256 + c = _
        rw [take_next pl k (by omega), beNat_snoc, ← HY.out, hcd]
      have hyb : y < 72057594037927936 := by
        rw [HY.out]
        have h := beNat_lt (pl.take k)
        rw [List.length_take, Nat.min_eq_left (by omega)] at h
        exact Nat.lt_of_lt_of_le h (Nat.le_trans (Nat.pow_le_pow_right (n := 256) (i := k) (j := 7) (by decide) (by omega)) (by decide))
      have e1 := or_join y c hyb hc256
      clear hcd hcell hsl hcp
      go_wp2
      go_round
      case rel => exact ⟨k + 1, y * 256 + c, by omega, by go_num, by go_num, HR.out⟩
      case measure => simp [intOf]; omega
    · have HE : Hid (y = beNat l) := by
        show y = _
        rw [HY.out, List.take_of_length_le (by omega), HB.out]
      clear hcell hsl hcp
      go_wp2
      go_ret2
      exact ⟨ret_pair HE.out, hb2⟩

end Go.Proofs.YtnaedmmfiiebaaaGreatDoor.S
