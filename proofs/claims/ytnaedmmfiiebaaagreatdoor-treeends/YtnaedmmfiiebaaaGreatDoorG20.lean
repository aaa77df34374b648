import Derived.Test.YtnaedmmfiiebaaaGreatDoorG17
import Derived.Laws.CopyOwn
import Derived.Test.YtnaedmmfiiebaaaGreatDoorG00
import Derived.Test.YtnaedmmfiiebaaaGreatDoorG19
import Derived.Test.YtnaedmmfiiebaaaGreatDoorG01
import Derived.Deep.RegionHeld3
import Derived.Test.YtnaedmmfiiebaaaGreatDoorG03
namespace Go.Proofs.YtnaedmmfiiebaaaGreatDoor.B
open Go.RowKit

theorem take_next (l : List UInt8) (k : Nat) (h : k < l.length) : l.take (k + 1) = l.take k ++ [l[k]] := List.take_succ_eq_append_getElem h
def beNat (l : List UInt8) : Nat := l.foldl (fun n c => n * 256 + c.toNat) 0
theorem beNat_snoc (l : List UInt8) (c : UInt8) : beNat (l ++ [c]) = beNat l * 256 + c.toNat := by simp [beNat, List.foldl_append]
theorem beNat_lt (l : List UInt8) : beNat l < 256 ^ l.length := by
  have : ∀ (l : List UInt8) (n k : Nat), n < 256 ^ k → l.foldl (fun n c => n * 256 + c.toNat) n < 256 ^ (k + l.length) := by
    intro l
    induction l with
    | nil => intro n k h; simpa using h
    | cons c r ih =>
      intro n k h
      have hc := UInt8.toNat_lt c
      have := ih (n * 256 + c.toNat) (k + 1) (by rw [Nat.pow_succ]; omega)
      simp only [List.foldl_cons, List.length_cons]
      rwa [show k + (r.length + 1) = k + 1 + r.length by omega]
  have h := this l 0 0 (by decide)
  rwa [Nat.zero_add] at h
def padded (l : List UInt8) : List UInt8 := List.replicate (8 - l.length) 0 ++ l
theorem padded_len (l : List UInt8) (h : l.length ≤ 8) : (padded l).length = 8 := by simp [padded]; omega
theorem beNat_padded (l : List UInt8) : beNat (padded l) = beNat l := by
  have : ∀ k, (List.replicate k (0 : UInt8)).foldl (fun n c => n * 256 + c.toNat) 0 = 0 := by
    intro k
    induction k with
    | zero => rfl
    | succ k ih => rw [List.replicate_succ, List.foldl_cons]; exact ih
  unfold beNat padded
  rw [List.foldl_append, this]
theorem size5 : (Tryz.prog.info? 5).map (·.size) = some 1 := by kernel_rfl

theorem copy_in (g o cap : Nat) (l : List UInt8) (w : World) (hg : g < w.heap.size) (hc : ∀ j (h : j < l.length), w.cell? ⟨g, o + j, none⟩ = some (.int .u8 (l[j].toNat : Int))) (h8 : l.length ≤ 8) :
    ∃ w2, (Builtin.copy_ #[145, 145] 3 #[.slice (some ⟨w.heap.size, 8 - l.length, none⟩) l.length l.length, .slice (some ⟨g, o, none⟩) l.length cap]).run Tryz.prog (w.alloc (.cells #[.int .u8 0, .int .u8 0, .int .u8 0, .int .u8 0, .int .u8 0, .int .u8 0, .int .u8 0, .int .u8 0] 328)) = .ok (goInt l.length) w2 ∧
      Below w.heap.size w w2 ∧ ∀ j (h : j < (padded l).length), w2.cell? ⟨w.heap.size, j, none⟩ = some (.int .u8 ((padded l)[j].toNat : Int)) := by
  have hnew := heap_alloc_new w (.cells #[.int .u8 0, .int .u8 0, .int .u8 0, .int .u8 0, .int .u8 0, .int .u8 0, .int .u8 0, .int .u8 0] 328)
  have hrun := run_copy_row (P := Tryz.prog) (w.alloc (.cells #[.int .u8 0, .int .u8 0, .int .u8 0, .int .u8 0, .int .u8 0, .int .u8 0, .int .u8 0, .int .u8 0] 328)) 145 145 3 5 w.heap.size (8 - l.length) l.length l.length ⟨g, o, none⟩ l.length cap _ 328 (u8s l) Tryz.underlying145 size5 hnew (by rw [u8s_length]; exact (Nat.min_self _).symm)
    (fun j v hv => by
      by_cases hj : j < l.length
      · rw [u8s_get l j hj] at hv
        cases hv
        rw [show (⟨g, o, none⟩ : Addr).add j = ⟨g, o + j, none⟩ by simp [Addr.add]]
        rw [(below_new w _).cell (p := ⟨g, o + j, none⟩) hg]
        exact hc j hj
      · rw [List.getElem?_eq_none (by rw [u8s_length]; omega)] at hv; cases hv)
    (by rw [u8s_length]; simp; omega) (u8s_one l)
  rw [u8s_length] at hrun
  have hl : (List.take (8 - l.length) (#[.int .u8 0, .int .u8 0, .int .u8 0, .int .u8 0, .int .u8 0, .int .u8 0, .int .u8 0, .int .u8 0] : Array Value).toList ++ u8s l ++ List.drop (8 - l.length + l.length) (#[.int .u8 0, .int .u8 0, .int .u8 0, .int .u8 0, .int .u8 0, .int .u8 0, .int .u8 0, .int .u8 0] : Array Value).toList) = u8s (padded l) := by
    have hz : (#[.int .u8 0, .int .u8 0, .int .u8 0, .int .u8 0, .int .u8 0, .int .u8 0, .int .u8 0, .int .u8 0] : Array Value).toList = List.replicate 8 (.int .u8 0) := rfl
    rw [hz, show 8 - l.length + l.length = 8 by omega, List.take_replicate, List.drop_replicate, padded, u8s_append]
    simp [u8s, Nat.min_eq_left (show 8 - l.length ≤ 8 by omega)]
  rw [hl] at hrun
  refine ⟨_, hrun, below_setRow (below_new w _) (Nat.le_refl _) _, fun j hj => ?_⟩
  have hrow := setRow_heap _ w.heap.size _ (u8s (padded l)).toArray 328 _ hnew
  rw [cell_of_row _ w.heap.size j _ 328 _ hrow]
  simpa using u8s_get (padded l) j hj

theorem ret_pair {k : IntKind} {a b : Nat} {v : Value} (h : a = b) : Ending.returned (.tuple #[.int k (a : Int), v]) = .returned (.tuple #[.int k (b : Int), v]) := by rw [h]
theorem or_join (y c : Nat) (hy : y < 72057594037927936) (hc : c < 256) : bits BinOp.or IntKind.u64 ((y : Int) * 256) (c : Int) = ((y * 256 + c : Nat) : Int) := by
  have h := u64_or_nat (y * 256) c (by omega) (by omega)
  rw [nat_join 8 (y * 256) c (by omega) (by simpa using hc)] at h
  rw [← h]
  rfl

set_option maxHeartbeats 600000 in
theorem get_ok (g o cap : Nat) (l : List UInt8) (w : World) (h1 : 1 ≤ l.length) (h8 : l.length ≤ 8) (hg : g < w.heap.size)
    (hc : ∀ j (h : j < l.length), w.cell? ⟨g, o + j, none⟩ = some (.int .u8 (l[j].toNat : Int))) :
    Calls Tryz.prog 227 #[.slice (some ⟨g, o, none⟩) l.length cap] w fun e w' => e = .returned (.tuple #[.int .u64 ((beNat l : Nat) : Int), .nilIface]) ∧ Below w.heap.size w w' := by
  obtain ⟨cs, hcs⟩ : ∃ cs, cs = u8s l := ⟨_, rfl⟩
  obtain ⟨len, hlen⟩ : ∃ len, len = l.length := ⟨_, rfl⟩
  rw [← hlen] at h1 h8
  have hcl : cs.length = len := by rw [hcs, u8s_length, hlen]
  have HCS : Hid (cs = u8s l) := hcs
  have HLEN : Hid (len = l.length) := hlen
  rw [← HLEN.out]
  clear hcs hlen
  have hsl := slice_arr w.heap.size len h1 h8
  go_enter Tryz.func227, Tryz.ntmps227
  obtain ⟨w2, hcp, hb2, hcell⟩ := copy_in g o cap l w hg hc (by rw [← HLEN.out]; exact h8)
  rw [← HLEN.out] at hcp
  clear hc
  have hd1 : decide ((len : Int) < 1) = false := decide_eq_false (by omega)
  have hd2 : decide ((8 : Int) < (len : Int)) = false := decide_eq_false (by omega)
  go_wp2_with fail
  have hpl : (padded l).length = 8 := padded_len l (by rw [← HLEN.out]; exact h8)
  have HB : Hid (beNat (padded l) = beNat l) := beNat_padded l
  generalize padded l = pl at *
  go_loop [5, 22] (fun r i => ∃ k y : Nat, k ≤ 8 ∧ i = .int .i64 k ∧ r = .int .u64 (y : Int) ∧ y = beNat (pl.take k)) (fun _ i => 8 - (intOf i).toNat)
  case atStart => exact ⟨0, 0, by omega, rfl, rfl, rfl⟩
  case round =>
    obtain ⟨k, y, hk, rfl, rfl, hyr⟩ := hrel
    have HY : Hid (y = beNat (pl.take k)) := hyr
    clear hyr
    by_cases hlt : k < 8
    · have hck := hcell k (by omega)
      obtain ⟨c, hcd⟩ : ∃ c : Nat, c = (pl[k]'(by omega)).toNat := ⟨_, rfl⟩
      have hc256 : c < 256 := by rw [hcd]; exact UInt8.toNat_lt _
      rw [← hcd] at hck
      have HR : Hid (y * 256 + c = beNat (pl.take (k + 1))) := by
        show y * 256 + c = _
        rw [take_next pl k (by omega), beNat_snoc, ← HY.out, hcd]
      have hyb : y < 72057594037927936 := by
        rw [HY.out]
        have h := beNat_lt (pl.take k)
        rw [List.length_take, Nat.min_eq_left (by omega)] at h
        exact Nat.lt_of_lt_of_le h (Nat.le_trans (Nat.pow_le_pow_right (n := 256) (i := k) (j := 7) (by decide) (by omega)) (by decide))
      have e1 := or_join y c hyb hc256
      clear hcd hcell hsl hcp
      go_wp2
      go_round
      case rel => exact ⟨k + 1, y * 256 + c, by omega, by go_num, by go_num, HR.out⟩
      case measure => simp [intOf]; omega
    · have HE : Hid (y = beNat l) := by
        show y = _
        rw [HY.out, List.take_of_length_le (by omega), HB.out]
      clear hcell hsl hcp
      go_wp2
      go_ret2
      exact ⟨ret_pair HE.out, hb2⟩

theorem be_snoc (n m : Nat) (hm : m + 1 ≤ 8) : beBytes n (m + 1) = beBytes (n / 256) m ++ [UInt8.ofNat n] := by
  apply List.ext_getElem
  · rw [List.length_append, beBytes_len n _ hm, beBytes_len _ m (by omega)]; rfl
  · intro i h1 h2
    rw [beBytes_len n _ hm] at h1
    simp only [beBytes, List.getElem_drop]
    rw [digs_get]
    by_cases hi : i < m
    · rw [List.getElem_append_left (by rw [List.length_drop, digs_len]; omega)]
      simp only [List.getElem_drop]
      rw [digs_get]
      unfold dig
      rw [Nat.div_div_eq_div_mul, show (256 : Nat) = 2 ^ 8 from rfl, ← Nat.pow_add, show 8 * (7 - (8 - (m + 1) + i)) = 8 + 8 * (7 - (8 - m + i)) by omega]
    · have he : i = m := by omega
      subst he
      rw [List.getElem_append_right (by rw [List.length_drop, digs_len]; omega)]
      simp [dig, show 7 - (7 - i + i) = 0 by omega]
theorem back_num (m : Nat) : ∀ n, m ≤ 8 → n < 2 ^ (8 * m) → beNat (beBytes n m) = n := by
  induction m with
  | zero =>
    intro n _ hn
    have h0 : n = 0 := by simpa using hn
    subst h0
    decide
  | succ m ih =>
    intro n hm hn
    have h1 : n / 256 < 2 ^ (8 * m) := by
      rw [show 8 * (m + 1) = 8 * m + 8 by omega, Nat.pow_add] at hn
      exact Nat.div_lt_of_lt_mul (by rw [Nat.mul_comm]; simpa using hn)
    rw [be_snoc n m hm, beNat_snoc, ih (n / 256) (by omega) h1]
    simp only [UInt8.toNat_ofNat']
    omega
end Go.Proofs.YtnaedmmfiiebaaaGreatDoor.B

namespace Go.Proofs.YtnaedmmfiiebaaaGreatDoor.B

/-- The link of a cell of five bytes or more. -/
def linkC (c : ByteArray) : Lk := (c.extract 1 (c.size - 4), (beNat (c.data.toList.drop (c.size - 4)) : Int))
def okK (c : ByteArray) : Bool := decide (5 ≤ c.size ∧ (c.data.toList.getD 0 0).toNat = c.size - 5)
theorem ext_listK (s : ByteArray) (a b : Nat) : (s.extract a b).data.toList = (s.data.toList.drop a).take (b - a) := by
  rw [ByteArray.data_extract, Array.toList_extract]
def brF (L : List ByteArray) : Int := match L with
  | [] => 0
  | c :: _ => (beNat c.data.toList : Int)
def brL (L : List ByteArray) : List Lk := (L.drop 1).map linkC
def okBr (L : List ByteArray) : Bool := match L with
  | [] => false
  | c :: cs => decide (c.size = 4) && cs.all okK
/-- What Decode takes. -/
def DecB (n : Nat) (b : List UInt8) : Prop := OkR b n ∧ okBr (cellsB b n) = true ∧ chkB (brF (cellsB b n)) (brL (cellsB b n)) true = none
end Go.Proofs.YtnaedmmfiiebaaaGreatDoor.B

namespace Go.Proofs.YtnaedmmfiiebaaaGreatDoor.B
open Go.RowKit

def kidC (c : ByteArray) : Int := if c.size = 4 then (beNat c.data.toList : Int) else 0

set_option maxRecDepth 20000 in
set_option maxHeartbeats 1000000 in
theorem childof_any (c : ByteArray) (w : World) :
    Calls Tryz.prog 192 #[.string c] w fun e w' => e = .returned (.tuple #[.int .i64 (kidC c), .bool (decide (c.size = 4))]) ∧ Below w.heap.size w w' := by
  by_cases h4 : c.size = 4
  · have hv : kidC c = (beNat c.data.toList : Int) := by unfold kidC; rw [if_pos h4]
    have hlt := beNat_lt c.data.toList
    have hl : c.data.toList.length = 4 := by rw [bsize, h4]
    rw [hl] at hlt
    have hcv := run_bytes_of_string (P := Tryz.prog) w 9 145 5 c Tryz.underlying9 Tryz.underlying145 Tryz.underlying5
    generalize grownCap w c.size 0 5 = cap at hcv
    have hnew := heap_alloc_new w.drew (.cells (bytesRow c cap) 5 ((bytesRow c cap).size, (bytesRow c cap).size + 1))
    have hbn : Below w.heap.size w (w.drew.alloc (.cells (bytesRow c cap) 5 ((bytesRow c cap).size, (bytesRow c cap).size + 1))) := ((Below.refl _ _).drew).alloc (Nat.le_refl _) _
    have hsz : w.heap.size < (w.drew.alloc (.cells (bytesRow c cap) 5 ((bytesRow c cap).size, (bytesRow c cap).size + 1))).heap.size := by
      simp
    generalize w.drew.alloc (.cells (bytesRow c cap) 5 ((bytesRow c cap).size, (bytesRow c cap).size + 1)) = W1 at *
    have HG := hide (get_ok w.heap.size 0 cap c.data.toList W1 (by omega) (by omega) hsz (fun j hj => by
      rw [Nat.zero_add, cell_of_row W1 w.heap.size j _ _ _ hnew, bytesRow_at c cap j (by simpa using hj)]
      simp))
    rw [hl] at HG
    rw [h4] at hcv
    obtain ⟨m, hm⟩ : ∃ m, m = beNat c.data.toList := ⟨_, rfl⟩
    rw [← hm] at HG hlt hv
    have hw : IntKind.i64.wrap (m : Int) = (m : Int) := by rw [IntKind.wrap_i64]; omega
    have hd : decide (c.size = 4) = true := decide_eq_true h4
    have h4I : (c.size : Int) = 4 := by omega
    have hbe : ((c.size : Int) != 4) = false := by simp [h4I]
    have HV := hide hv
    have HD := hide hd
    have HB := hide hbn
    clear hm hlt hv hd hnew hbn hsz hl h4 h4I
    go_enter Tryz.func192, Tryz.ntmps192
    go_wp2_with fail
    refine HG.out.mono ?_
    rintro e w2 ⟨rfl, hb2⟩
    have HB2 := hide (Below.next HB.out hb2)
    clear hb2 HG hcv
    go_wp2
    go_quiet (fail)
    go_wp2
    go_ret2
    exact ⟨by rw [HV.out, HD.out]; rfl, below_drewN' HB2.out _⟩
  · have hv : kidC c = 0 := by unfold kidC; rw [if_neg h4]
    have hd : decide (c.size = 4) = false := decide_eq_false h4
    have hbe : ((c.size : Int) != 4) = true := by rw [bne_iff_ne]; omega
    have HV := hide hv
    have HD := hide hd
    clear hv hd h4
    go_enter Tryz.func192, Tryz.ntmps192
    go_wp2
    go_ret2
    exact ⟨by rw [HV.out, HD.out]; rfl, Below.refl _ _⟩

set_option maxRecDepth 20000 in
set_option maxHeartbeats 2000000 in
theorem linkof_any (c : ByteArray) (w : World) (hc : c.size ≤ 4072) :
    Calls Tryz.prog 229 #[.string c] w fun e w' => ∃ (k : ByteArray) (x : Int), e = .returned (.tuple #[.agg #[.string k, .int .i64 x], .bool (okK c)]) ∧ (okK c = true → (k, x) = linkC c) ∧ Below w.heap.size w w' := by
  have q0 := below_new w (.cells #[.string ⟨#[]⟩, .int .i64 0] 179)
  have x0 := RowAt.new w #[.string ⟨#[]⟩, .int .i64 0] 179
  by_cases h5 : c.size < 5
  · have hno : okK c = false := decide_eq_false (fun h => by omega)
    have HNO := hide hno
    have HQ := hide q0
    have HX := hide x0
    have h5I : (c.size : Int) < 5 := by omega
    clear hno q0 x0 h5
    go_enter Tryz.func229, Tryz.ntmps229
    go_wp2
    refine bodyPost_ret (results_row_tmp rfl _ _ w.heap.size 179 _ (0, 0) _ rfl HX.out Tryz.underlying179 rfl (by kernel_rfl)) rfl ⟨_, _, by rw [HNO.out]; rfl, fun h => (by rw [HNO.out] at h; cases h), HQ.out⟩
  · have h5' : 5 ≤ c.size := by omega
    obtain ⟨e, he⟩ : ∃ e, e = c.size - 4 := ⟨_, rfl⟩
    have hw : IntKind.i64.wrap ((c.size : Int) - 4) = (e : Int) := by rw [IntKind.wrap_i64]; omega
    have h5I : ¬ (c.size : Int) < 5 := by omega
    have i1 : (1 : Int) ≤ (e : Int) := by omega
    have i2 : (e : Int) ≤ (c.size : Int) := by omega
    have i3 : (0 : Int) ≤ (e : Int) := by omega
    have htl : (c.extract e c.size).size = 4 := by rw [ByteArray.size_extract]; omega
    have hkl : (c.extract 1 e).size = c.size - 5 := by rw [ByteArray.size_extract]; omega
    have htl2 : (c.extract e c.size).data.toList = c.data.toList.drop (c.size - 4) := by
      rw [ext_listK, List.take_of_length_le (by rw [List.length_drop, bsize]; exact Nat.le_refl _), he]
    have HCO := hide (fun W => childof_any (c.extract e c.size) W)
    have hkc : kidC (c.extract e c.size) = (linkC c).2 := by unfold kidC; rw [if_pos htl, htl2]; rfl
    rw [hkc, decide_eq_true htl] at HCO
    have HLK : Hid ((c.extract 1 e, (linkC c).2) = linkC c) := by show _ = _; rw [he]; rfl
    have h0 : 0 < c.size := by omega
    have hb0 : c.data.toList.getD 0 0 = c[0] := by
      rw [List.getD_eq_getElem?_getD, List.getElem?_eq_getElem (by rw [bsize]; exact h0)]; rfl
    have HOK : Hid (okK c = decide ((c[0].toNat : Int) = ((c.extract 1 e).size : Int))) := by
      show _ = _
      unfold okK
      rw [hb0, hkl]
      congr 1
      apply propext
      constructor
      · rintro ⟨_, h⟩; omega
      · intro h; exact ⟨h5', by omega⟩
    obtain ⟨kk, hkk⟩ : ∃ kk, kk = c.extract 1 e := ⟨_, rfl⟩
    obtain ⟨tt, htt⟩ : ∃ tt, tt = c.extract e c.size := ⟨_, rfl⟩
    obtain ⟨x2, hx2⟩ : ∃ x, x = (linkC c).2 := ⟨_, rfl⟩
    have HKK := hide hkk
    have HX2 := hide hx2
    have hex1 : c.extract 1 e = kk := hkk.symm
    have hex2 : c.extract e c.size = tt := htt.symm
    rw [← hkk] at HLK HOK
    rw [← htt, ← hx2] at HCO
    rw [← hx2] at HLK
    have HQ := hide q0
    have HX := hide x0
    clear h5 h5' he htl hkl htl2 hkc hb0 q0 x0 hkk htt hx2
    go_enter Tryz.func229, Tryz.ntmps229
    go_wp2_with fail
    refine (HCO.out _).mono ?_
    rintro e w1 ⟨rfl, hb1⟩
    have HB1 := hide (Below.next HQ.out hb1)
    have hx := HX.out.below hb1
    have r0 := hx.c0
    have r1 := hx.c1
    have z0 := hx.free 0
    have z1 := hx.free 1
    have HXX := hide hx
    obtain ⟨y, hy⟩ : ∃ y : Int, y = (c[0].toNat : Int) := ⟨_, rfl⟩
    have hy' : (c[0].toNat : Int) = y := hy.symm
    rw [← hy] at HOK
    obtain ⟨ok, hok⟩ : ∃ ok, ok = okK c := ⟨_, rfl⟩
    have HOV := hide hok
    have hbe : (y == (kk.size : Int)) = ok := by rw [hok, HOK.out]; rfl
    have h0I : (0 : Int) < (c.size : Int) := by omega
    have hyb : 0 ≤ y ∧ y < 256 := by have := c[0].toNat_lt; omega
    have hwy : IntKind.i64.wrap y = y := by rw [IntKind.wrap_i64]; omega
    clear hb1 hx HCO hok hy hyb
    go_wp2_with fail
    go_region_held3 (fun _ => True) (go_keep) (fail)
    all_goals
      clear r0 r1 z0 z1 hbe hwy hy'
      go_wp2_with fail
      exact bodyPost_ret (results_row_tmp rfl _ _ w.heap.size 179 _ (0, 0) _ rfl (HXX.out.two _ _).drew Tryz.underlying179 rfl (by kernel_rfl)) rfl ⟨kk, x2, by rw [← HOV.out]; rfl, fun _ => HLK.out, below_drewB (below_two HB1.out (Nat.le_refl _))⟩

/-- What the list of links holds when k are laid. -/
def lkAt (cs : List ByteArray) (k : Nat) : List Lk := (cs.take k).map linkC ++ List.replicate (cs.length - k) (⟨#[]⟩, 0)
theorem lkAt_len (cs : List ByteArray) (k : Nat) (h : k ≤ cs.length) : (lkAt cs k).length = cs.length := by
  unfold lkAt; rw [List.length_append, List.length_map, List.length_take, List.length_replicate]; omega
theorem lkAt_set (cs : List ByteArray) (k : Nat) (h : k < cs.length) : (lkAt cs k).set k (linkC cs[k]) = lkAt cs (k + 1) := by
  have hl : ((cs.take k).map linkC).length = k := by rw [List.length_map, List.length_take]; omega
  unfold lkAt
  rw [List.set_append_right _ _ (by omega), hl, Nat.sub_self, List.take_succ_eq_append_getElem h, List.map_append, show cs.length - k = cs.length - (k + 1) + 1 by omega, List.replicate_succ, List.set_cons_zero, List.append_assoc]
  rfl
theorem lkAt_all (cs : List ByteArray) : lkAt cs cs.length = cs.map linkC := by simp [lkAt]
theorem lks_rep : ∀ n : Nat, lks (List.replicate n ((⟨#[]⟩ : ByteArray), (0 : Int))) = (madeCells (Value.agg #[.string ByteArray.empty, .int .i64 0]).cells (n * 2)).toList := by
  intro n
  apply List.ext_getElem
  · rw [lks_length, List.length_replicate, Array.length_toList, size_madeCells]
  · intro j h1 h2
    rw [lks_length, List.length_replicate] at h1
    have hg := lks_get (List.replicate n ((⟨#[]⟩ : ByteArray), (0 : Int))) (j / 2) (by rw [List.length_replicate]; omega)
    rw [List.getElem_replicate] at hg
    have e2 : (madeCells (Value.agg #[.string ByteArray.empty, .int .i64 0]).cells (n * 2)).toList[j] = (#[Value.string ByteArray.empty, Value.int .i64 0])[j % 2]! := by
      simp [madeCells, Value.cells]
    rw [e2]
    rcases Nat.mod_two_eq_zero_or_one j with hm | hm
    · have e : j / 2 * 2 = j := by omega
      rw [e] at hg
      rw [hm]
      exact (List.getElem?_eq_some_iff.1 hg.1).2
    · have e : j / 2 * 2 + 1 = j := by omega
      rw [e] at hg
      rw [hm]
      exact (List.getElem?_eq_some_iff.1 hg.2).2

set_option maxRecDepth 20000 in
set_option maxHeartbeats 2000000 in
theorem linksof_any (ga : Nat) (oo n cap : Nat) (cs : List ByteArray) (w : World) (hn : n = cs.length) (hnb : n ≤ 2036) (hcs : ∀ c ∈ cs, c.size ≤ 4072)
    (hc : ∀ j (h : j < cs.length), w.cell? ⟨ga, oo + j, none⟩ = some (.string cs[j])) (a : Option Addr) (ha : 0 < n → a = some ⟨ga, oo, none⟩) :
    Calls Tryz.prog 193 #[.slice a n cap] w fun e w' => ((cs.all okK = true ∧ ∃ u, e = .returned (.tuple #[u, .bool true]) ∧ LkO w' w.heap.size u (cs.map linkC)) ∨ (cs.all okK = false ∧ e = .returned (.tuple #[.slice none 0 0, .bool false]))) ∧ Below w.heap.size w w' := by
  obtain ⟨i0, hi, hz, hsz, hby⟩ := info_parts infoK
  obtain ⟨wm, hmk, hown0, hg0⟩ := run_make_full (P := Tryz.prog) w w.heap.size 148 179 i0 _ 2 Tryz.underlying148 hi hz hsz .i64 .i64 n (by rw [hby]; omega) (by unfold maxLen; omega) (Nat.le_refl _)
  rw [← lks_rep n] at hown0
  have hl0 : lkAt cs 0 = List.replicate n ((⟨#[]⟩ : ByteArray), (0 : Int)) := by simp [lkAt, hn]
  rw [← hl0] at hown0
  have hown : LkO wm w.heap.size (.slice (some ⟨w.heap.size, 0, none⟩) n n) (lkAt cs 0) := by
    unfold LkO
    rw [lkAt_len cs 0 (Nat.zero_le _), ← hn]
    exact hown0
  have hbm : Below w.heap.size w wm := (Below.refl _ _).grown hg0 (Nat.le_refl _) (fun j hj => by cases hj)
  obtain ⟨b, hb⟩ : ∃ b, b = w.heap.size := ⟨_, rfl⟩
  rw [← hb] at hmk hown
  have HB := hide hb
  have HO := hide hown
  have HBM := hide hbm
  have HC := hide hc
  have HN := hide hn
  have HCS := hide hcs
  have HA := hide ha
  obtain ⟨Q, hQ⟩ : ∃ Q : Ending → World → Prop, Q = fun e w' => ((cs.all okK = true ∧ ∃ u, e = .returned (.tuple #[u, .bool true]) ∧ LkO w' w.heap.size u (cs.map linkC)) ∨ (cs.all okK = false ∧ e = .returned (.tuple #[.slice none 0 0, .bool false]))) ∧ Below w.heap.size w w' := ⟨_, rfl⟩
  rw [← hQ]
  have HQQ := hide hQ
  clear hQ hb hown hbm hc hn hcs ha hown0 hg0 hi hz hsz hby hl0
  go_enter Tryz.func193, Tryz.ntmps193
  go_wp2
  clear hmk
  go_loopw [14] (fun i wr => ∃ k : Nat, k ≤ n ∧ i = .int .i64 k ∧ LkO wr b (.slice (some ⟨b, 0, none⟩) n n) (lkAt cs k) ∧ (∀ j (h : j < cs.length), j < k → okK cs[j] = true) ∧ Below w.heap.size w wr) (fun i _ => n - (intOf i).toNat)
  case atStart => exact ⟨0, Nat.zero_le _, rfl, HO.out, fun j _ h => absurd h (Nat.not_lt_zero _), HBM.out⟩
  case round =>
    obtain ⟨k, hk, rfl, hown, hpre, hbw⟩ := hrel
    clear HO HBM
    have HP := hide hpre
    clear hpre
    by_cases hlt : k < n
    · have hkl : k < cs.length := by have := HN.out; omega
      have ha := HA.out (by omega)
      subst ha
      have f1 := HC.out k hkl
      have c1 : wr.cell? ⟨ga, oo + k, none⟩ = some (.string cs[k]) := (hbw.cell (p := ⟨ga, oo + k, none⟩) (World.block_lt_of_cell? w _ f1)).trans f1
      have HLO := hide (linkof_any cs[k] wr (HCS.out cs[k] (List.getElem_mem _)))
      have HST := hide (lkAt_set cs k hkl)
      have HNX : Hid (okK cs[k] = true → ∀ j (h : j < cs.length), j < k + 1 → okK cs[j] = true) := fun hl j h hj => by
        by_cases he : j = k
        · subst he; exact hl
        · exact HP.out j h (by omega)
      have HNO : Hid (okK cs[k] = false → cs.all okK = false) := fun hl => by rw [List.all_eq_false]; exact ⟨cs[k], List.getElem_mem _, by simp [hl]⟩
      have HLL := hide (lkAt_len cs k (by omega))
      have hltI : (k : Int) < (n : Int) := by omega
      have j0 : (0 : Int) ≤ (k : Int) := by omega
      have HO := hide hown
      have HBW := hide hbw
      obtain ⟨ck, hck⟩ : ∃ ck, ck = cs[k] := ⟨_, rfl⟩
      rw [← hck] at c1 HLO HST HNX HNO
      clear hown hbw f1 hck
      go_wp2_with fail
      refine HLO.out.mono ?_
      rintro e w1 ⟨kk, xx, rfl, hlk, hb1⟩
      have q1 := below_new w1 (.cells #[.string kk, .int .i64 xx] 179)
      have x1 := RowAt.new w1 #[.string kk, .int .i64 xx] 179
      have HBW1 := hide (Below.next HBW.out (Below.next hb1 q1))
      have ho := (HO.out.below hb1).below q1
      have r0 := x1.c0
      have r1 := x1.c1
      clear hb1 q1 HLO
      cases hok : okK ck with
      | false =>
        have HNO2 := hide (HNO.out hok)
        clear HNX HNO hok hlk ho x1 c1
        go_wp2
        rw [HQQ.out]
        exact ⟨.inr ⟨HNO2.out, rfl⟩, HBW1.out⟩
      | true =>
        have hlk2 := hlk hok
        have HNX2 := hide (HNX.out hok)
        obtain ⟨⟨t1, s1⟩, ⟨t2, s2⟩, z1, z2⟩ := ho.spot k (by rw [HLL.out]; exact hkl)
        have hw := ho.wrote k (kk, xx)
        rw [hlk2, HST.out, ← hlk2] at hw
        dsimp only at hw
        have HOW := hide hw
        have hbge : w.heap.size ≤ b := by rw [HB.out]; exact Nat.le_refl _
        have HBX := hide ((HBW1.out.setCell (p := ⟨b, k * 2, none⟩) hbge (.string kk)).setCell (p := ⟨b, k * 2 + 1, none⟩) hbge (.int .i64 xx))
        clear hlk hlk2 HNX HNO hok ho hw x1 c1
        go_wp2
        go_roundw
        case rel => exact ⟨k + 1, by omega, by go_num, HOW.out, HNX2.out, HBX.out⟩
        case measure => simp [intOf]; omega
    · have hkn : k = cs.length := by have := HN.out; omega
      rw [hkn, lkAt_all] at hown
      have HO := hide hown
      have HBW := hide hbw
      have HALL : Hid (cs.all okK = true) := List.all_eq_true.2 (fun c hc => by
        obtain ⟨i, hi, rfl⟩ := List.getElem_of_mem hc
        exact HP.out i hi (by omega))
      have hltI : ¬ (k : Int) < (n : Int) := by have := HN.out; omega
      clear hown hbw HP hkn
      go_wp2
      rw [HQQ.out]
      refine ⟨.inl ⟨HALL.out, _, rfl, ?_⟩, HBW.out⟩
      rw [← HB.out]; exact HO.out

end Go.Proofs.YtnaedmmfiiebaaaGreatDoor.B

namespace Go.Proofs.YtnaedmmfiiebaaaGreatDoor.B
open Go.RowKit

/-- The first k links rise. -/
theorem riseK_step {l : List Lk} {k : Nat} (hk : k < l.length) (h : ∀ i (hi : i + 1 < l.length), i + 1 < k → ltK l[i].1 l[i + 1].1 = true) (hl : ∀ (h0 : 0 < k), ltK (l[k - 1]'(by omega)).1 l[k].1 = true) : ∀ i (hi : i + 1 < l.length), i + 1 < k + 1 → ltK l[i].1 l[i + 1].1 = true := fun i hi hik => by
  by_cases he : i + 1 = k
  · have := hl (by omega)
    simp only [show k = i + 1 by omega] at this
    exact this
  · exact h i hi (by omega)

set_option maxRecDepth 20000 in
set_option maxHeartbeats 2000000 in
theorem rising_any (v : Value) (l : List Lk) (w : World) (hm : l.length ≤ 140737488355328) (hr : LkR w v l) :
    Calls Tryz.prog 158 #[v] w fun e w' => e = .returned (.bool (decide (RiseK l))) ∧ Below w.heap.size w w' := by
  obtain ⟨a, cap, hv⟩ := hr.form
  subst hv
  obtain ⟨n, hn⟩ : ∃ n, n = l.length := ⟨_, rfl⟩
  rw [← hn] at hr hm ⊢
  have HR := hide hr
  have HN := hide hn
  obtain ⟨Q, hQ⟩ : ∃ Q : Ending → World → Prop, Q = fun e w' => e = .returned (.bool (decide (RiseK l))) ∧ Below w.heap.size w w' := ⟨_, rfl⟩
  rw [← hQ]
  have HQ := hide hQ
  clear hn hr hQ
  go_enter Tryz.func158, Tryz.ntmps158
  go_wp2
  go_loopw [7] (fun i wr => ∃ k : Nat, k ≤ n ∧ i = .int .i64 k ∧ (∀ i (hi : i + 1 < l.length), i + 1 < k → ltK l[i].1 l[i + 1].1 = true) ∧ Below w.heap.size w wr) (fun i _ => n - (intOf i).toNat)
  case atStart => exact ⟨0, Nat.zero_le _, rfl, fun j _ h => absurd h (Nat.not_lt_zero _), Below.refl _ _⟩
  case round =>
    obtain ⟨k, hk, rfl, hpre, hbw⟩ := hrel
    have HP := hide hpre
    clear hpre
    by_cases hlt : k < n
    · have hkl : k < l.length := by have := HN.out; omega
      obtain ⟨g, o, ha, c1, c2⟩ := (HR.out.below hbw).spot k hkl
      have hltI : (k : Int) < (n : Int) := by omega
      have j0 : (0 : Int) ≤ (k : Int) := by omega
      have hbn := below_new wr (.cells #[.string l[k].1, .int .i64 l[k].2] 179)
      have HB := hide (Below.next hbw hbn)
      have hx := RowAt.new wr #[.string l[k].1, .int .i64 l[k].2] 179
      have b0 := hx.c0
      by_cases h0 : k = 0
      · have HST := hide (riseK_step hkl HP.out (fun h => by omega))
        generalize l[k].1 = x1 at *
        generalize l[k].2 = x2 at *
        subst ha
        have hz : decide ((0 : Int) < (k : Int)) = false := decide_eq_false (by omega)
        have hz2 : decide (0 < k) = false := decide_eq_false (by omega)
        have HH0 := hide h0
        clear hbw hbn hx h0
        go_wp2
        go_quiet (fail)
        go_wp2
        go_roundw
        case rel => exact ⟨k + 1, by omega, by go_num, HST.out, below_drewN' HB.out _⟩
        case measure => simp [intOf]; omega
      · have hk1l : k - 1 < l.length := by omega
        obtain ⟨g', o', ha', d1, d2⟩ := (HR.out.below hbw).spot (k - 1) hk1l
        rw [ha] at ha'
        cases ha'
        subst ha
        have HST : Hid (ltK (l[k - 1]'hk1l).1 l[k].1 = true → ∀ i (hi : i + 1 < l.length), i + 1 < k + 1 → ltK l[i].1 l[i + 1].1 = true) := fun h => riseK_step hkl HP.out (fun _ => h)
        have HNO : Hid (ltK (l[k - 1]'hk1l).1 l[k].1 = false → ¬ RiseK l) := fun h hr => by
          have := hr (k - 1) (by omega)
          simp only [show k - 1 + 1 = k by omega] at this
          rw [h] at this; cases this
        obtain ⟨k1, hk1⟩ : ∃ k1, k1 = k - 1 := ⟨_, rfl⟩
        have hw1 : IntKind.i64.wrap ((k : Int) - 1) = (k1 : Int) := by rw [IntKind.wrap_i64]; omega
        have hz : (0 : Int) < (k : Int) := by omega
        have hz2 : 0 < k := by omega
        have j1 : (k1 : Int) < (n : Int) := by omega
        have j2 : (0 : Int) ≤ (k1 : Int) := by omega
        generalize (l[k - 1]'hk1l).1 = y1 at *
        rw [← hk1] at d1
        have e1 := (hbn.cell (p := ⟨g, o + k1 * 2, none⟩) (World.block_lt_of_cell? wr _ d1)).trans d1
        generalize l[k].1 = x1 at *
        generalize l[k].2 = x2 at *
        clear hbw hbn hx h0 hk1 d1 d2 hk1l
        cases hb : ltK y1 x1 with
        | true =>
          have hbl : Op.bytesLess y1.toList x1.toList = true := hb
          have HS2 := hide (HST.out hb)
          clear hb HST HNO
          go_wp2
          go_quiet (fail)
          go_wp2
          go_roundw
          case rel => exact ⟨k + 1, by omega, by go_num, HS2.out, below_drewN' HB.out _⟩
          case measure => simp [intOf]; omega
        | false =>
          have hbl : Op.bytesLess y1.toList x1.toList = false := hb
          have HS2 := hide (HNO.out hb)
          clear hb HST HNO
          go_wp2
          go_quiet (fail)
          go_wp2
          rw [HQ.out]
          exact ⟨by rw [decide_eq_false HS2.out]; rfl, below_drewN' HB.out _⟩
    · have hltI : ¬ (k : Int) < (n : Int) := by omega
      have HALL : Hid (RiseK l) := fun i hi => HP.out i hi (by have := HN.out; omega)
      have HB := hide hbw
      clear hbw HP
      go_wp2
      rw [HQ.out]
      exact ⟨by rw [decide_eq_true HALL.out], HB.out⟩

end Go.Proofs.YtnaedmmfiiebaaaGreatDoor.B
