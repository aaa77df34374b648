import Derived.Test.YtmifadjgmjnkgaaGreatDoorGet
import Derived.Test.YtmifadjgmjnkgaaGreatDoorA9
import Derived.Test.YtmifadjgmjnkgaaGreatDoorPut
import Derived.Test.YtmifadjgmjnkgaaGreatDoorPageOf2
import Derived.Test.YtmifadjgmjnkgaaGreatDoorPg
import Derived.Test.YtmifadjgmjnkgaaGreatDoorRd
import Derived.Test.YtmifadjgmjnkgaaGreatDoorHide
import Derived.Deep.RegionHeld3
namespace Go.Proofs.YtmifadjgmjnkgaaGreatDoor
open Go.RowKit

set_option maxHeartbeats 400000 in
theorem rget_ok (g o cap : Nat) (l : List UInt8) (w : World) (h1 : 1 ≤ l.length) (h8 : l.length ≤ 8)
    (hc : ∀ j (h : j < l.length), w.cell? ⟨g, o + j, none⟩ = some (.int .u8 (l[j].toNat : Int))) :
    Calls Tryz.prog 83 #[.slice (some ⟨g, o, none⟩) l.length cap] w fun e w' => e = .returned (.tuple #[.int .u64 ((beNat l : Nat) : Int), .int .i64 0]) ∧ w = w' := by
  have hd1 : decide ((l.length : Int) < 1) = false := decide_eq_false (by omega)
  have hd2 : decide ((8 : Int) < (l.length : Int)) = false := decide_eq_false (by omega)
  go_enter Tryz.func83, Tryz.ntmps83
  go_wp2_with fail
  go_loop [4, 5] (fun r i => ∃ k y : Nat, k ≤ l.length ∧ i = .int .i64 k ∧ r = .int .u64 (y : Int) ∧ y = beNat (l.take k)) (fun _ i => l.length - (intOf i).toNat)
  case atStart => exact ⟨0, 0, by omega, rfl, rfl, rfl⟩
  case round =>
    obtain ⟨k, y, hk, rfl, rfl, hyr⟩ := hrel
    have HY : Hid (y = beNat (l.take k)) := hyr
    clear hyr
    by_cases hlt : k < l.length
    · have hck := hc k (by omega)
      obtain ⟨c, hcd⟩ : ∃ c : Nat, c = (l[k]'(by omega)).toNat := ⟨_, rfl⟩
      have hc256 : c < 256 := by rw [hcd]; exact UInt8.toNat_lt _
      rw [← hcd] at hck
      have HR : Hid (y * 256 + c = beNat (l.take (k + 1))) := by
        show y * 256 + c = _
        rw [take_next l k (by omega), beNat_snoc, ← HY.out, hcd]
      have hyb : y < 72057594037927936 := by
        rw [HY.out]
        have h := beNat_lt (l.take k)
        rw [List.length_take, Nat.min_eq_left (by omega)] at h
        exact Nat.lt_of_lt_of_le h (Nat.le_trans (Nat.pow_le_pow_right (n := 256) (i := k) (j := 7) (by decide) (by omega)) (by decide))
      clear hcd hc
      go_wp2
      go_round
      case rel => exact ⟨k + 1, y * 256 + c, by omega, by go_num, by go_num, HR.out⟩
      case measure => simp [intOf]; omega
    · have HE : Hid (y = beNat l) := by
        show y = _
        rw [HY.out, List.take_of_length_le (by omega)]
      clear hc
      go_wp2
      go_ret2
      exact ⟨ret_pair HE.out, rfl⟩

end Go.Proofs.YtmifadjgmjnkgaaGreatDoor

namespace Go.Proofs.YtmifadjgmjnkgaaGreatDoor
open Go.RowKit

set_option maxHeartbeats 400000 in
theorem rnum4 (g cap : Nat) (l : List UInt8) (w : World) (hl : l.length = 4096) (hcap : 4096 ≤ cap) (hcm : cap ≤ 9223372036854775807)
    (hc : ∀ j (h : j < l.length), w.cell? ⟨g, j, none⟩ = some (.int .u8 (l[j].toNat : Int))) :
    Calls Tryz.prog 63 #[.slice (some ⟨g, 0, none⟩) 4096 cap, .int .i64 4, .int .i64 8] w fun e w' => e = .returned (.int .u64 ((beNat (sub l 4 4) : Nat) : Int)) ∧ w = w' := by
  have hcapI : (4096 : Int) ≤ (cap : Int) := by omega
  have hsl := sub_len l 4 4 (by rw [hl]; decide)
  have C : ∀ c, Calls Tryz.prog 83 #[.slice (some ⟨g, 4, none⟩) 4 c] w fun e w' => e = .returned (.tuple #[.int .u64 ((beNat (sub l 4 4) : Nat) : Int), .int .i64 0]) ∧ w = w' := fun c => by
    have h := rget_ok g 4 c (sub l 4 4) w (by rw [hsl]; decide) (by rw [hsl]; decide) (fun j hj => by
      rw [sub_get l 4 4 j (by rw [hl]; decide) hj]
      exact hc _ _)
    rw [hsl] at h
    exact h
  have HC := hide C
  generalize beNat (sub l 4 4) = n at *
  clear C hc hl hsl
  go_enter Tryz.func63, Tryz.ntmps63
  go_wp2_with fail
  refine (HC.out _).mono ?_
  rintro e w' ⟨rfl, rfl⟩
  go_wp2_with fail
  go_ret
  exact ⟨rfl, rfl⟩

set_option maxHeartbeats 400000 in
theorem rnum8 (g cap : Nat) (l : List UInt8) (w : World) (hl : l.length = 4096) (hcap : 4096 ≤ cap) (hcm : cap ≤ 9223372036854775807)
    (hc : ∀ j (h : j < l.length), w.cell? ⟨g, j, none⟩ = some (.int .u8 (l[j].toNat : Int))) :
    Calls Tryz.prog 63 #[.slice (some ⟨g, 0, none⟩) 4096 cap, .int .i64 8, .int .i64 16] w fun e w' => e = .returned (.int .u64 ((beNat (sub l 8 8) : Nat) : Int)) ∧ w = w' := by
  have hcapI : (4096 : Int) ≤ (cap : Int) := by omega
  have hsl := sub_len l 8 8 (by rw [hl]; decide)
  have C : ∀ c, Calls Tryz.prog 83 #[.slice (some ⟨g, 8, none⟩) 8 c] w fun e w' => e = .returned (.tuple #[.int .u64 ((beNat (sub l 8 8) : Nat) : Int), .int .i64 0]) ∧ w = w' := fun c => by
    have h := rget_ok g 8 c (sub l 8 8) w (by rw [hsl]; decide) (by rw [hsl]; decide) (fun j hj => by
      rw [sub_get l 8 8 j (by rw [hl]; decide) hj]
      exact hc _ _)
    rw [hsl] at h
    exact h
  have HC := hide C
  generalize beNat (sub l 8 8) = n at *
  clear C hc hl hsl
  go_enter Tryz.func63, Tryz.ntmps63
  go_wp2_with fail
  refine (HC.out _).mono ?_
  rintro e w' ⟨rfl, rfl⟩
  go_wp2_with fail
  go_ret
  exact ⟨rfl, rfl⟩

set_option maxHeartbeats 400000 in
theorem rnum2 (g cap : Nat) (l : List UInt8) (w : World) (hl : l.length = 4096) (hcap : 4096 ≤ cap) (hcm : cap ≤ 9223372036854775807)
    (hc : ∀ j (h : j < l.length), w.cell? ⟨g, j, none⟩ = some (.int .u8 (l[j].toNat : Int))) :
    Calls Tryz.prog 63 #[.slice (some ⟨g, 0, none⟩) 4096 cap, .int .i64 2, .int .i64 4] w fun e w' => e = .returned (.int .u64 ((beNat (sub l 2 2) : Nat) : Int)) ∧ w = w' := by
  have hcapI : (4096 : Int) ≤ (cap : Int) := by omega
  have hsl := sub_len l 2 2 (by rw [hl]; decide)
  have C : ∀ c, Calls Tryz.prog 83 #[.slice (some ⟨g, 2, none⟩) 2 c] w fun e w' => e = .returned (.tuple #[.int .u64 ((beNat (sub l 2 2) : Nat) : Int), .int .i64 0]) ∧ w = w' := fun c => by
    have h := rget_ok g 2 c (sub l 2 2) w (by rw [hsl]; decide) (by rw [hsl]; decide) (fun j hj => by
      rw [sub_get l 2 2 j (by rw [hl]; decide) hj]
      exact hc _ _)
    rw [hsl] at h
    exact h
  have HC := hide C
  generalize beNat (sub l 2 2) = n at *
  clear C hc hl hsl
  go_enter Tryz.func63, Tryz.ntmps63
  go_wp2_with fail
  refine (HC.out _).mono ?_
  rintro e w' ⟨rfl, rfl⟩
  go_wp2_with fail
  go_ret
  exact ⟨rfl, rfl⟩

end Go.Proofs.YtmifadjgmjnkgaaGreatDoor

namespace Go.Proofs.YtmifadjgmjnkgaaGreatDoor
open Go.RowKit

theorem pow_cast (n k : Nat) : (n : Int) / 2 ^ k = ((n / 2 ^ k : Nat) : Int) := by
  rw [Int.natCast_ediv]; simp
theorem be_get (n m k : Nat) (_hm : m ≤ 8) (_hk : k < m) (h : k < (beBytes n m).length) : (beBytes n m)[k] = dig n (8 - m + k) := by
  simp only [beBytes, List.getElem_drop]
  rw [digs_get]

set_option maxHeartbeats 400000 in
theorem rput_no (n : Nat) (width : Int) (w : World) (hn : n < 18446744073709551616) (hw1 : -9223372036854775808 ≤ width) (hw2 : width ≤ 9223372036854775807) (hno : ¬ fits n width) :
    Calls Tryz.prog 78 #[.int .u64 (n : Int), .int .i64 width] w fun e w' => e = .returned (.tuple #[.slice none 0 0, .int .i64 1]) ∧ w = w' := by
  by_cases h1 : width < 1
  · have hd1 : decide (width < 1) = true := decide_eq_true h1
    clear hno
    go_enter Tryz.func78, Tryz.ntmps78
    go_wp2
    go_ret2
    exact ⟨rfl, rfl⟩
  · have hd1 : decide (width < 1) = false := decide_eq_false h1
    by_cases h8 : 8 < width
    · have hd2 : decide (8 < width) = true := decide_eq_true h8
      clear hno
      go_enter Tryz.func78, Tryz.ntmps78
      go_wp2
      go_ret2
      exact ⟨rfl, rfl⟩
    · have hd2 : decide (8 < width) = false := decide_eq_false h8
      obtain ⟨m, rfl⟩ := Int.eq_ofNat_of_zero_le (show 0 ≤ width by omega)
      have hb : ¬ n < 2 ^ (8 * m) := fun h => hno ⟨by omega, by omega, by simpa using h⟩
      have hm8 : m < 8 := by
        rcases Nat.lt_or_ge m 8 with h | h
        · exact h
        · exact absurd (Nat.lt_of_lt_of_le hn (Nat.pow_le_pow_right (n := 2) (i := 64) (j := 8 * m) (by decide) (by omega))) hb
      have hd3 : decide ((m : Int) < 8) = true := decide_eq_true (by omega)
      have hpos : 0 < n / 2 ^ (8 * m) := Nat.div_pos (by omega) (Nat.two_pow_pos _)
      have hd4 : ((n : Int) / 2 ^ (8 * m) != 0) = true := by rw [pow_cast, bne_iff_ne]; omega
      clear hno hb hpos
      go_enter Tryz.func78, Tryz.ntmps78
      go_wp2
      go_ret2
      exact ⟨rfl, rfl⟩

set_option maxRecDepth 100000 in
set_option maxHeartbeats 400000 in
theorem rput_ok (n m : Nat) (w : World) (_hn : n < 18446744073709551616) (h1 : 1 ≤ m) (h8 : m ≤ 8) (hfit : n < 2 ^ (8 * m)) :
    Calls Tryz.prog 78 #[.int .u64 (n : Int), .int .i64 (m : Int)] w fun e w' => ∃ v, e = .returned (.tuple #[v, .int .i64 0]) ∧ w'.ownsRow w.heap.size 5 1 v m (u8s (beBytes n m)) ∧ Below w.heap.size w w' := by
  obtain ⟨i0, hi, hz0, hz1, hz2⟩ := info_parts Tryz.info5
  have hd1 : decide ((m : Int) < 1) = false := decide_eq_false (by omega)
  have hd2 : decide (8 < (m : Int)) = false := decide_eq_false (by omega)
  have hz : n / 2 ^ (8 * m) = 0 := Nat.div_eq_of_lt hfit
  have hd4 : ((n : Int) / 2 ^ (8 * m) != 0) = false := by rw [pow_cast, hz]; rfl
  obtain ⟨bb, hbb⟩ : ∃ bb : Bool, decide ((m : Int) < 8) = bb := ⟨_, rfl⟩
  have hl := beBytes_len n m h8
  clear hz hfit
  go_enter Tryz.func78, Tryz.ntmps78
  cases bb
  all_goals
    go_wp2_with fail
    go_loopw [6, 7] (fun v i wr => ∃ k : Nat, k ≤ m ∧ i = .int .i64 ((m : Int) - 1 - k) ∧ wr.ownsRow w.heap.size 5 1 v k (u8s ((beBytes n m).take k)) ∧ Below w.heap.size w wr) (fun _ i _ => (intOf i + 1).toNat)
    case atStart => exact ⟨0, Nat.zero_le _, by go_num, World.ownsRow_nil _ _ _ _, Below.refl _ _⟩
    case round =>
      obtain ⟨k, hk, rfl, hown, hnx⟩ := hrel
      by_cases hlt : k < m
      · obtain ⟨j, hj⟩ : ∃ j : Nat, (m : Int) - 1 - k = (j : Int) := ⟨m - 1 - k, by omega⟩
        rw [hj]
        have hjm : j = m - 1 - k := by omega
        have hv := dig_val n j (by omega)
        have HS : Hid ((beBytes n m).take (k + 1) = (beBytes n m).take k ++ [dig n (7 - j)]) := by
          show _ = _
          rw [take_next _ k (by omega), be_get n m k h8 hlt, show 8 - m + k = 7 - j by omega]
        have HJ : Hid ((m : Int) - 1 - k = (j : Int)) := hj
        have hj8 : j < 8 := by omega
        have j0 : (0 : Int) ≤ (j : Int) := Int.natCast_nonneg j
        clear hj hjm
        generalize dig n (7 - j) = dg at *
        go_wp2_with (first
          | (at_builtin; refine wpList_append_lies _ rfl _ _ 45 rfl w.heap.size 5 i0 (.int .u8 0) 1 1 Tryz.underlying45 hi hz0 hz1 hz2 rfl (by decide) _ _ _ rfl (hown.alloc _) ⟨wr.heap.size, 0, none⟩ 1 1 [.int .u8 (dg.toNat : Int)] rfl rfl ?c1 ?c2 ?c3 ?c4 ?c5 ?c6 (wr.heap.size + 1) ?c7 ?_))
        case c1 =>
          intro j u hj
          match j, hj with
          | 0, hj => simp at hj; subst hj; simp [Addr.add]
        case c2 => intro u hu; simp at hu; subst hu; rfl
        case c3 => decide
        case c4 => unfold maxLen; omega
        case c5 => omega
        case c6 => have := hnx.size; simp; omega
        case c7 => simp
        intro g cap w1 hown' hgrow hat hlg
        have hb1 : Below w.heap.size w w1 := (hnx.alloc (by have := hnx.size; omega) _).grown hgrow (by have := hnx.size; simp; omega) (fun j hj => (hown.lt j hj).1)
        have hown2 : w1.ownsRow w.heap.size 5 1 (.slice (some ⟨g, 0, none⟩) (k + 1) cap) (k + 1) (u8s ((beBytes n m).take (k + 1))) := by
          rw [HS.out, u8s_append]; exact hown'
        clear hown' hgrow hown hat hlg hnx
        go_wp2
        go_roundw
        case rel => exact ⟨k + 1, by omega, by have := HJ.out; go_num, hown2, hb1⟩
        case measure => simp [intOf]
      · have hke : k = m := by omega
        subst hke
        have hown2 := hown
        rw [List.take_of_length_le (by omega)] at hown2
        clear hown
        go_wp2
        go_ret2
        exact ⟨_, rfl, hown2, hnx⟩

end Go.Proofs.YtmifadjgmjnkgaaGreatDoor

namespace Go.Proofs.YtmifadjgmjnkgaaGreatDoor
open Go.RowKit

/-- append of bytes that lie somewhere to a row of bytes of the call's own. -/
theorem wpList_app_bytes {w : World} {ops : Array Oper} {rest : List Oper} {o : Oper} {a : Act} {Q : Exit → Act → World → Prop} (hgd : o.guard = none) (s x : Operand)
    (ho : o.op = .call { callee := .builtin .append, args := #[s, x], argTypes := #[45, 45] }) (base n m c g2 o2 : Nat) (v : Value) (l r : List UInt8)
    (hs : a.eval s = v) (hx : a.eval x = .slice (some ⟨g2, o2, none⟩) m c) (hown : w.ownsRow base 5 1 v n (u8s l)) (hr : r.length = m)
    (hc : ∀ j (h : j < r.length), w.cell? ⟨g2, o2 + j, none⟩ = some (.int .u8 (r[j].toNat : Int))) (hm : 0 < m) (hlen : n + m ≤ 140737488355328) (hbase : base ≤ w.heap.size)
    (h : ∀ g cap w', Hid (w'.ownsRow base 5 1 (.slice (some ⟨g, 0, none⟩) (n + m) cap) (n + m) (u8s (l ++ r))) → Hid (Below base w w') → wpList Tryz.prog ops Q rest (a.put o.dst (.slice (some ⟨g, 0, none⟩) (n + m) cap)) w') :
    wpList Tryz.prog ops Q (o :: rest) a w := by
  obtain ⟨i0, hi, hz0, hz1, hz2⟩ := info_parts Tryz.info5
  refine wpList_append_lies w hgd s x 45 ho base 5 i0 (.int .u8 0) 1 1 Tryz.underlying45 hi hz0 hz1 hz2 rfl (by decide) v n (u8s l) hs hown ⟨g2, o2, none⟩ m c (u8s r) hx (by rw [u8s_length, hr, Nat.mul_one]) ?_ (u8s_one r) hm (by unfold maxLen; omega) (by omega) hbase _ rfl ?_
  · intro j u hu
    by_cases hj : j < r.length
    · rw [u8s_get r j hj] at hu
      cases hu
      rw [show (⟨g2, o2, none⟩ : Addr).add j = ⟨g2, o2 + j, none⟩ by simp [Addr.add]]
      exact hc j hj
    · rw [List.getElem?_eq_none (by rw [u8s_length]; omega)] at hu; cases hu
  · intro g cap w' hown' hgrow _ _
    refine h g cap w' ?_ ((Below.refl base w).grown hgrow hbase (fun j hj => (hown.lt j hj).1))
    show w'.ownsRow _ _ _ _ _ _
    rw [u8s_append]; exact hown'

theorem Boxed.low {b B : Nat} {cs : List Value} {w w' : World} (h : Boxed b cs w) (hb : Below B w w') (hlt : b < B) : Boxed b cs w' :=
  ⟨Nat.lt_of_lt_of_le h.1 hb.size, fun j hj => (hb.cell (p := ⟨b, j, none⟩) hlt).trans (h.2 j hj)⟩

set_option maxHeartbeats 400000 in
theorem rbytes_any (n m : Nat) (w : World) (hn : n < 9223372036854775808) (h1 : 1 ≤ m) (h8 : m ≤ 8) (hfit : n < 2 ^ (8 * m)) :
    Calls Tryz.prog 77 #[.int .i64 (n : Int), .int .i64 (m : Int)] w fun e w' => ∃ g cap, e = .returned (.slice (some ⟨g, 0, none⟩) m cap) ∧ w'.ownsRow w.heap.size 5 1 (.slice (some ⟨g, 0, none⟩) m cap) m (u8s (beBytes n m)) ∧ Below w.heap.size w w' := by
  have n64 : (n : Int) % 18446744073709551616 = (n : Int) := by omega
  have HC : Hid (∀ w, Calls Tryz.prog 78 #[.int .u64 (n : Int), .int .i64 (m : Int)] w fun e w' => ∃ v, e = .returned (.tuple #[v, .int .i64 0]) ∧ w'.ownsRow w.heap.size 5 1 v m (u8s (beBytes n m)) ∧ Below w.heap.size w w') := fun w => rput_ok n m w (by omega) h1 h8 hfit
  clear hfit
  go_enter Tryz.func77, Tryz.ntmps77
  go_wp2_with fail
  refine (HC.out _).mono ?_
  rintro e w1 ⟨v, rfl, hown, hb⟩
  obtain ⟨g, cap, rfl, _, _⟩ := hown.form (by omega)
  go_wp2_with fail
  go_ret
  exact ⟨g, cap, rfl, hown, hb⟩

def headB (k c i t sum : Nat) : List UInt8 := beBytes k 1 ++ ([0] ++ (beBytes c 2 ++ (beBytes i 4 ++ (beBytes t 8 ++ (beBytes sum 4 ++ [0, 0, 0, 0])))))
theorem bare_head (k c i t sum : Nat) (body : List UInt8) : bare k c i t sum body = headB k c i t sum ++ body := by
  simp [bare, headB]
theorem row_cells {w : World} {base g n cap : Nat} {l : List UInt8} (h : w.ownsRow base 5 1 (.slice (some ⟨g, 0, none⟩) n cap) n (u8s l)) : ∀ j (h : j < l.length), w.cell? ⟨g, 0 + j, none⟩ = some (.int .u8 (l[j].toNat : Int)) := by
  intro j hj
  have hl := h.1
  rw [u8s_length, Nat.mul_one] at hl
  rw [Nat.zero_add, h.cellAt j (by omega), u8s_get l j hj]
theorem be_one (k : Nat) : beBytes k 1 = [UInt8.ofNat k] := by
  rw [be_snoc k 0 (by decide)]; simp [beBytes, digs]

theorem owns_keep {w w' : World} {base e size n : Nat} {v : Value} {xs : List Value} (h : w.ownsRow base e size v n xs) (hb : Below w.heap.size w w') : w'.ownsRow base e size v n xs := by
  refine ⟨h.1, ?_⟩
  rcases h.2 with h' | ⟨g, cap, cur, h', h1, hg, hn, hc, h5, h6⟩
  · exact .inl h'
  · refine .inr ⟨g, cap, cur, h', h1, ?_, hn, hc, h5, h6⟩
    rw [hb.block g ?_]
    · exact hg
    · rcases Nat.lt_or_ge g w.heap.size with hlt | hge
      · exact hlt
      · rw [Array.getElem?_eq_none hge] at hg; cases hg
theorem rb2 (n : Nat) (w : World) (hn : n ≤ 65535) : Calls Tryz.prog 77 #[.int .i64 (n : Int), .int .i64 2] w fun e w' => ∃ g cap, e = .returned (.slice (some ⟨g, 0, none⟩) 2 cap) ∧ w'.ownsRow w.heap.size 5 1 (.slice (some ⟨g, 0, none⟩) 2 cap) 2 (u8s (beBytes n 2)) ∧ Below w.heap.size w w' :=
  rbytes_any n 2 w (by omega) (by decide) (by decide) (Nat.lt_of_le_of_lt hn (by decide))
theorem rb4 (n : Nat) (w : World) (hn : n < 4294967296) : Calls Tryz.prog 77 #[.int .i64 (n : Int), .int .i64 4] w fun e w' => ∃ g cap, e = .returned (.slice (some ⟨g, 0, none⟩) 4 cap) ∧ w'.ownsRow w.heap.size 5 1 (.slice (some ⟨g, 0, none⟩) 4 cap) 4 (u8s (beBytes n 4)) ∧ Below w.heap.size w w' :=
  rbytes_any n 4 w (by omega) (by decide) (by decide) (Nat.lt_of_lt_of_le hn (by decide))
theorem rp8 (n : Nat) (w : World) (hn : n < 18446744073709551616) : Calls Tryz.prog 78 #[.int .u64 (n : Int), .int .i64 8] w fun e w' => ∃ g cap, e = .returned (.tuple #[.slice (some ⟨g, 0, none⟩) 8 cap, .int .i64 0]) ∧ w'.ownsRow w.heap.size 5 1 (.slice (some ⟨g, 0, none⟩) 8 cap) 8 (u8s (beBytes n 8)) ∧ Below w.heap.size w w' := by
  refine Calls.mono (rput_ok n 8 w hn (by decide) (by decide) (Nat.lt_of_lt_of_le hn (by decide))) ?_
  rintro e w1 ⟨v, rfl, hown, hb⟩
  obtain ⟨g, cap, rfl, _, _⟩ := hown.form (by omega)
  exact ⟨g, cap, rfl, hown, hb⟩

theorem zeros_in (w : World) : ∀ j (h : j < ([0, 0, 0, 0] : List UInt8).length), (w.alloc (.cells #[.int .u8 0, .int .u8 0, .int .u8 0, .int .u8 0] 5)).cell? ⟨w.heap.size, 0 + j, none⟩ = some (.int .u8 ((([0, 0, 0, 0] : List UInt8)[j]).toNat : Int)) := by
  intro j hj
  have h := (boxed_new w #[.int .u8 0, .int .u8 0, .int .u8 0, .int .u8 0] 5).2 j (by simpa using hj)
  rw [Nat.zero_add, h]
  simp only [List.length_cons, List.length_nil] at hj
  obtain rfl | rfl | rfl | rfl : j = 0 ∨ j = 1 ∨ j = 2 ∨ j = 3 := by omega
  all_goals rfl
theorem one_in (w : World) (x : UInt8) : ∀ j (h : j < ([x] : List UInt8).length), (w.alloc (.cells #[.int .u8 (x.toNat : Int)] 5)).cell? ⟨w.heap.size, 0 + j, none⟩ = some (.int .u8 ((([x] : List UInt8)[j]).toNat : Int)) := by
  intro j hj
  simp only [List.length_cons, List.length_nil] at hj
  obtain rfl : j = 0 := by omega
  exact (boxed_new w #[.int .u8 (x.toNat : Int)] 5).2 0 (by simp)

set_option maxHeartbeats 2000000 in
theorem rpage_nat (k i t c sum : Nat) (b : ByteArray) (w : World) (hk : k < 256) (hc : c ≤ 65535) (hi : i < 1048576) (htx : t < 18446744073709551616) (hsum : sum < 4294967296) (hb : b.size = 4072) :
    Calls Tryz.prog 56 #[.agg #[.int .i64 (k : Int), .int .i64 (i : Int), .int .u64 (t : Int), .int .i64 (c : Int), .string b], .int .u32 (sum : Int)] w fun e w' => ∃ g cap, e = .returned (.slice (some ⟨g, 0, none⟩) 4096 cap) ∧
      w'.ownsRow w.heap.size 5 1 (.slice (some ⟨g, 0, none⟩) 4096 cap) 4096 (u8s (bare k c i t sum b.data.toList)) ∧ Below w.heap.size w w' := by
  have k256 : (k : Int) % 256 = (k : Int) := by omega
  have HBX : Hid (Boxed w.heap.size [.int .i64 (k : Int), .int .i64 (i : Int), .int .u64 (t : Int), .int .i64 (c : Int), .string b] (w.alloc (.cells #[.int .i64 (k : Int), .int .i64 (i : Int), .int .u64 (t : Int), .int .i64 (c : Int), .string b] 31))) := boxed_new w _ _
  have HB0 : Hid (Below w.heap.size w (w.alloc (.cells #[.int .i64 (k : Int), .int .i64 (i : Int), .int .u64 (t : Int), .int .i64 (c : Int), .string b] 31))) := below_new w _
  have HO : Hid (((w.alloc (.cells #[.int .i64 (k : Int), .int .i64 (i : Int), .int .u64 (t : Int), .int .i64 (c : Int), .string b] 31)).alloc (.cells #[.int .u8 (k : Int), .int .u8 0] 5)).ownsRow (w.heap.size + 1) 5 1 (.slice (some ⟨w.heap.size + 1, 0, none⟩) 2 2) 2 (u8s (beBytes k 1 ++ [0]))) := by
    have h := World.ownsRow_lit (base := w.heap.size + 1) (e := 5) (size := 1) (w.alloc (.cells #[.int .i64 (k : Int), .int .i64 (i : Int), .int .u64 (t : Int), .int .i64 (c : Int), .string b] 31)) #[.int .u8 (k : Int), .int .u8 0] 2 (by simp) (by decide) rfl
    have e : u8s (beBytes k 1 ++ [0]) = [.int .u8 (k : Int), .int .u8 0] := by
      rw [be_one k]; simp [u8s]; omega
    show World.ownsRow _ _ _ _ _ _ _
    rw [e]
    simpa using h
  have HBB : Hid (Below (w.heap.size + 1) (w.alloc (.cells #[.int .i64 (k : Int), .int .i64 (i : Int), .int .u64 (t : Int), .int .i64 (c : Int), .string b] 31)) ((w.alloc (.cells #[.int .i64 (k : Int), .int .i64 (i : Int), .int .u64 (t : Int), .int .i64 (c : Int), .string b] 31)).alloc (.cells #[.int .u8 (k : Int), .int .u8 0] 5))) := by
    have h := below_new (w.alloc (.cells #[.int .i64 (k : Int), .int .i64 (i : Int), .int .u64 (t : Int), .int .i64 (c : Int), .string b] 31)) (.cells #[.int .u8 (k : Int), .int .u8 0] 5)
    show Below _ _ _
    simpa using h
  have HB : Hid (b.size = 4072) := hb
  clear hb
  go_enter Tryz.func56, Tryz.ntmps56
  go_wp2_with fail
  have HW0 : Hid ((w.alloc (.cells #[.int .i64 (k : Int), .int .i64 (i : Int), .int .u64 (t : Int), .int .i64 (c : Int), .string b] 31)).heap.size = w.heap.size + 1) := by show _ = _; simp
  generalize (w.alloc (.cells #[.int .i64 (k : Int), .int .i64 (i : Int), .int .u64 (t : Int), .int .i64 (c : Int), .string b] 31)) = W0 at *
  generalize (W0.alloc (.cells #[.int .u8 (k : Int), .int .u8 0] 5)) = w1 at *
  -- count
  refine (rb2 c _ hc).mono ?_
  rintro e w2 ⟨g2, cap2, rfl, hown2, hb2⟩
  have HO2 : Hid (w2.ownsRow (w.heap.size + 1) 5 1 (.slice (some ⟨w.heap.size + 1, 0, none⟩) 2 2) 2 (u8s (beBytes k 1 ++ [0]))) := owns_keep HO.out hb2
  have HB2 : Hid (Below (w.heap.size + 1) W0 w2) := HBB.out.trans (hb2.mono (by have := HBB.out.size; have := HW0.out; omega))
  have HR2 := (show Hid _ from row_cells hown2)
  clear hown2 hb2 HO HBB
  go_wp2_with (at_builtin; refine wpList_app_bytes rfl _ _ rfl (w.heap.size + 1) 2 2 _ g2 0 _ _ (beBytes c 2) rfl rfl HO2.out (beBytes_len c 2 (by decide)) HR2.out (by decide) (by decide) (by have := HB2.out.size; have := HW0.out; omega) ?_; intro g3 cap3 w3 HO3 HG3; have HB3 : Hid (Below (w.heap.size + 1) W0 w3) := HB2.out.trans HG3.out; have hx3 : w3.cell? ⟨w.heap.size, 1, none⟩ = some (.int .i64 (i : Int)) := (HBX.out.low HB3.out (Nat.lt_succ_self _)).2 1 (by simp); clear HO2 HB2 HR2 HG3)
  -- the number
  refine (rb4 i _ (by omega)).mono ?_
  rintro e w4 ⟨g4, cap4, rfl, hown4, hb4⟩
  have HO4 := (show Hid _ from owns_keep HO3.out hb4)
  have HB4 : Hid (Below (w.heap.size + 1) W0 w4) := HB3.out.trans (hb4.mono (by have := HB3.out.size; have := HW0.out; omega))
  have HR4 := (show Hid _ from row_cells hown4)
  clear hown4 hb4 HO3 HB3 hx3
  go_wp2_with (at_builtin; refine wpList_app_bytes rfl _ _ rfl (w.heap.size + 1) 4 4 _ g4 0 _ _ (beBytes i 4) rfl rfl HO4.out (beBytes_len i 4 (by decide)) HR4.out (by decide) (by decide) (by have := HB4.out.size; have := HW0.out; omega) ?_; intro g5 cap5 w5 HO5 HG5; have HB5 : Hid (Below (w.heap.size + 1) W0 w5) := HB4.out.trans HG5.out; have hx5 : w5.cell? ⟨w.heap.size, 2, none⟩ = some (.int .u64 (t : Int)) := (HBX.out.low HB5.out (Nat.lt_succ_self _)).2 2 (by simp); clear HO4 HB4 HR4 HG5)
  -- the transaction
  refine (rp8 t _ htx).mono ?_
  rintro e w6 ⟨g6, cap6, rfl, hown6, hb6⟩
  have HO6 := (show Hid _ from owns_keep HO5.out hb6)
  have HB6 : Hid (Below (w.heap.size + 1) W0 w6) := HB5.out.trans (hb6.mono (by have := HB5.out.size; have := HW0.out; omega))
  have HR6 := (show Hid _ from row_cells hown6)
  clear hown6 hb6 HO5 HB5 hx5
  go_wp2_with (at_builtin; refine wpList_app_bytes rfl _ _ rfl (w.heap.size + 1) 8 8 _ g6 0 _ _ (beBytes t 8) rfl rfl HO6.out (beBytes_len t 8 (by decide)) HR6.out (by decide) (by decide) (by have := HB6.out.size; have := HW0.out; omega) ?_; intro g7 cap7 w7 HO7 HG7; have HB7 : Hid (Below (w.heap.size + 1) W0 w7) := HB6.out.trans HG7.out; clear HO6 HB6 HR6 HG7)
  -- the sum
  refine (rb4 sum _ (by omega)).mono ?_
  rintro e w8 ⟨g8, cap8, rfl, hown8, hb8⟩
  have HO8 := (show Hid _ from owns_keep HO7.out hb8)
  have HB8 : Hid (Below (w.heap.size + 1) W0 w8) := HB7.out.trans (hb8.mono (by have := HB7.out.size; have := HW0.out; omega))
  have HR8 := (show Hid _ from row_cells hown8)
  clear hown8 hb8 HO7 HB7
  go_wp2_with (first
    | (at_builtin; refine wpList_app_bytes rfl (.tmp 32) (.tmp 35) rfl (w.heap.size + 1) 16 4 _ g8 0 _ _ (beBytes sum 4) rfl rfl HO8.out (beBytes_len sum 4 (by decide)) HR8.out (by decide) (by decide) (by have := HB8.out.size; have := HW0.out; omega) ?_; intro g9 cap9 w9 HO9 HG9; have HB9 : Hid (Below (w.heap.size + 1) W0 w9) := HB8.out.trans HG9.out; clear HO8 HB8 HR8 HG9)
    | (at_builtin; refine wpList_app_bytes rfl (.tmp 37) (.tmp 38) rfl (w.heap.size + 1) (16 + 4) 4 _ w9.heap.size 0 _ _ [0, 0, 0, 0] rfl rfl (HO9.out.alloc _) rfl (zeros_in w9) (by decide) (by decide) (by have := HB9.out.size; have := HW0.out; simp; omega) ?_; intro g10 cap10 w10 HO10 HG10; have HB10 : Hid (Below (w.heap.size + 1) W0 w10) := (HB9.out.alloc (by have := HB9.out.size; have := HW0.out; omega) _).trans HG10.out; clear HO9 HB9 HG10))
  have HO11 : Hid (w10.ownsRow (w.heap.size + 1) 5 1 (.slice (some ⟨g10, 0, none⟩) 24 cap10) 24 (u8s (headB k c i t sum))) := by
    show World.ownsRow _ _ _ _ _ _ _
    have e : headB k c i t sum = beBytes k 1 ++ [0] ++ beBytes c 2 ++ beBytes i 4 ++ beBytes t 8 ++ beBytes sum 4 ++ [0, 0, 0, 0] := by simp [headB]
    rw [e]; exact HO10.out
  clear HO10
  go_loopw [5, 8] (fun v i' wr => ∃ j : Nat, j ≤ b.size ∧ i' = .int .i64 j ∧ wr.ownsRow (w.heap.size + 1) 5 1 v (24 + j) (u8s (headB k c i t sum ++ b.data.toList.take j)) ∧ Below (w.heap.size + 1) W0 wr) (fun _ i' _ => b.size - (intOf i').toNat)
  case atStart => exact ⟨0, Nat.zero_le _, rfl, by rw [List.take_zero, List.append_nil]; exact HO11.out, HB10.out⟩
  case round =>
    obtain ⟨j, hj, rfl, hown, hbr⟩ := hrel
    clear HO11 HB10
    have hx4 : wr.cell? ⟨w.heap.size, 4, none⟩ = some (.string b) := (HBX.out.low hbr (Nat.lt_succ_self _)).2 4 (by simp)
    have hbs : b.size ≤ 4072 := Nat.le_of_eq HB.out
    have HO : Hid (wr.ownsRow (w.heap.size + 1) 5 1 u5 (24 + j) (u8s (headB k c i t sum ++ b.data.toList.take j))) := hown
    have HBR : Hid (Below (w.heap.size + 1) W0 wr) := hbr
    clear hown hbr
    by_cases hlt : j < b.size
    · have HS : Hid (b.data.toList.take (j + 1) = b.data.toList.take j ++ [b[j]]) := take_snoc b j hlt
      go_wp2_with (at_builtin; refine wpList_app_bytes rfl _ _ rfl (w.heap.size + 1) (24 + j) 1 _ wr.heap.size 0 _ _ [b[j]] rfl rfl (HO.out.alloc _) rfl (one_in wr b[j]) (by decide) (by omega) (by have := HBR.out.size; have := HW0.out; simp; omega) ?_; intro g12 cap12 w12 HO12 HG12; have HB12 : Hid (Below (w.heap.size + 1) W0 w12) := (HBR.out.alloc (by have := HBR.out.size; have := HW0.out; omega) _).trans HG12.out; clear HO HBR HG12)
      go_roundw
      case rel => exact ⟨j + 1, by omega, by go_num, by rw [HS.out, ← List.append_assoc]; exact HO12.out, HB12.out⟩
      case measure => simp [intOf]; omega
    · have hje : j = 4072 := by have := HB.out; omega
      subst hje
      obtain ⟨g, cap, rfl, _, _⟩ := HO.out.form (by omega)
      go_wp2_with fail
      go_ret
      refine ⟨g, cap, rfl, ?_, HB0.out.trans (HBR.out.mono (by omega))⟩
      have h := HO.out
      rw [List.take_of_length_le (by rw [bsize, HB.out]; exact Nat.le_refl _), ← bare_head] at h
      exact owns_base h (by omega)

end Go.Proofs.YtmifadjgmjnkgaaGreatDoor

namespace Go.Proofs.YtmifadjgmjnkgaaGreatDoor
open Go.RowKit

set_option maxHeartbeats 1000000 in
theorem rmayBe_any (s : Sh) (w : World) (hs : s.body.size ≤ 140737488355328) : Calls Tryz.prog 55 #[.agg s.cells.toArray] w fun e w' => e = .returned (.bool (decide (May s))) ∧ Below w.heap.size w w' := by
  obtain ⟨k, i, t, c, b⟩ := s
  simp only [Sh.cells] at hs ⊢
  have hsz : (b.size : Int) ≤ 140737488355328 := by omega
  have HB : Hid (Below w.heap.size w (w.alloc (.cells #[.int .i64 k, .int .i64 i, .int .u64 (t : Int), .int .i64 c, .string b] 31))) := below_new w _
  by_cases hk : k = 66 ∨ k = 76
  · by_cases hi1 : 2 ≤ i
    · by_cases hi2 : i < 1048576
      · by_cases hc1 : 0 ≤ c
        · by_cases hc2 : c ≤ 65535
          · by_cases hb : b.size = 4072
            · rw [decide_eq_true (show May ⟨k, i, t, c, b⟩ from ⟨hk, ⟨hc1, hc2⟩, ⟨hi1, hi2⟩, hb⟩)]
              have hb2 : ((b.size : Int) == 4072) = true := beq_iff_eq.2 (by omega)
              clear hb
              rcases hk with rfl | rfl
              all_goals
                go_enter Tryz.func55, Tryz.ntmps55
                go_wp2_with fail
                go_ret
                exact ⟨rfl, HB.out⟩
            · rw [decide_eq_false (show ¬ May ⟨k, i, t, c, b⟩ from fun h => hb h.2.2.2)]
              have hb2 : ((b.size : Int) == 4072) = false := beq_eq_false_iff_ne.2 (by omega)
              clear hb
              rcases hk with rfl | rfl
              all_goals
                go_enter Tryz.func55, Tryz.ntmps55
                go_wp2_with fail
                go_ret
                exact ⟨rfl, HB.out⟩
          · rw [decide_eq_false (show ¬ May ⟨k, i, t, c, b⟩ from fun h => hc2 h.2.1.2)]
            rcases hk with rfl | rfl
            all_goals
              go_enter Tryz.func55, Tryz.ntmps55
              go_wp2_with fail
              go_ret
              exact ⟨rfl, HB.out⟩
        · rw [decide_eq_false (show ¬ May ⟨k, i, t, c, b⟩ from fun h => hc1 h.2.1.1)]
          rcases hk with rfl | rfl
          all_goals
            go_enter Tryz.func55, Tryz.ntmps55
            go_wp2_with fail
            go_ret
            exact ⟨rfl, HB.out⟩
      · rw [decide_eq_false (show ¬ May ⟨k, i, t, c, b⟩ from fun h => hi2 h.2.2.1.2)]
        rcases hk with rfl | rfl
        all_goals
          go_enter Tryz.func55, Tryz.ntmps55
          go_wp2_with fail
          go_ret
          exact ⟨rfl, HB.out⟩
    · rw [decide_eq_false (show ¬ May ⟨k, i, t, c, b⟩ from fun h => hi1 h.2.2.1.1)]
      rcases hk with rfl | rfl
      all_goals
        go_enter Tryz.func55, Tryz.ntmps55
        go_wp2_with fail
        go_ret
        exact ⟨rfl, HB.out⟩
  · rw [decide_eq_false (show ¬ May ⟨k, i, t, c, b⟩ from fun h => hk h.1)]
    have hk1 : ¬ k = 66 := fun h => hk (.inl h)
    have hk2 : ¬ k = 76 := fun h => hk (.inr h)
    clear hk
    go_enter Tryz.func55, Tryz.ntmps55
    go_wp2_with fail
    go_ret
    exact ⟨rfl, HB.out⟩

end Go.Proofs.YtmifadjgmjnkgaaGreatDoor

namespace Go.Proofs.YtmifadjgmjnkgaaGreatDoor
open Go.RowKit

theorem bsteps_succ' (n y : Nat) : bsteps (n + 1) y = bstep (bsteps n y) := by
  rw [bsteps_add n 1]; rfl
theorem and1 (y : Nat) (hy : y < 4294967296) : bits BinOp.and IntKind.u32 (y : Int) 1 = ((y % 2 : Nat) : Int) := by
  have := u32_and_nat y 1 hy (by omega)
  rw [nat_mask1] at this
  exact this
theorem xorM (y : Nat) (hy : y < 4294967296) : bits BinOp.xor IntKind.u32 (y : Int) 4294967295 = ((nt y : Nat) : Int) := by
  have := u32_xor_nat y 4294967295 hy (by omega)
  rw [Nat.xor_comm, nt_xor y hy] at this
  exact this
theorem xorP (y : Nat) (hy : y < 4294967296) (h : y % 2 = 1) : bits BinOp.xor IntKind.u32 ((y : Int) / 2) 2197175160 = ((bstep y : Nat) : Int) := by
  have := u32_xor_nat (y / 2) 2197175160 (by omega) (by omega)
  rw [← show (((y / 2 : Nat) : Nat) : Int) = (y : Int) / 2 from by omega]
  unfold bstep
  rw [if_pos h]
  exact this
theorem bstep_even (y : Nat) (h : ¬ y % 2 = 1) : bstep y = y / 2 := by unfold bstep; rw [if_neg h]

set_option maxHeartbeats 400000 in
theorem refMore_ne (x : Nat) (b off len cap : Nat) (l : List UInt8) (w : World) (hx : x < 4294967296) (hlen : l.length = len) (hm : len ≤ 140737488355328)
    (hc : ∀ j (h : j < l.length), w.cell? ⟨b, off + j, none⟩ = some (.int .u8 (l[j].toNat : Int))) :
    Calls Tryz.prog 79 #[.int .u32 (x : Int), .slice (some ⟨b, off, none⟩) len cap] w fun e w' => e = .returned (.int .u32 ((nt (crcReg (nt x) l) : Nat) : Int)) ∧ w = w' := by
  have hnt := xorM x hx
  have hy : nt x < 4294967296 := nt_lt x
  go_enter Tryz.func79, Tryz.ntmps79
  go_wp2
  go_loop [5, 6] (fun r i => ∃ k y : Nat, k ≤ len ∧ y < 4294967296 ∧ i = .int .i64 k ∧ r = .int .u32 (y : Int) ∧ y = crcReg (nt x) (l.take k)) (fun _ i => len - (intOf i).toNat)
  case atStart => exact ⟨0, nt x, Nat.zero_le _, hy, rfl, rfl, rfl⟩
  case round =>
    obtain ⟨k, y, hk, hy, rfl, rfl, hyr⟩ := hrel
    have HY : Hid (y = crcReg (nt x) (l.take k)) := hyr
    clear hyr
    by_cases hlt : k < len
    · have hck := hc k (by omega)
      obtain ⟨c, hcd⟩ : ∃ c : Nat, c = (l[k]'(by omega)).toNat := ⟨_, rfl⟩
      have hc256 : c < 256 := by rw [hcd]; exact UInt8.toNat_lt _
      rw [← hcd] at hck
      have HC : Hid (c = (l[k]'(by omega)).toNat) := hcd
      have hcm : (c : Int) % 4294967296 = (c : Int) := by omega
      obtain ⟨y1, hy1⟩ : ∃ y1 : Nat, y1 = y ^^^ c := ⟨_, rfl⟩
      have hy1b : y1 < 4294967296 := by rw [hy1]; exact Nat.xor_lt_two_pow (n := 32) hy (by omega)
      have e1 : bits BinOp.xor IntKind.u32 (y : Int) (c : Int) = (y1 : Int) := by rw [hy1]; exact u32_xor_nat y c hy (by omega)
      have HR : Hid (bsteps 8 y1 = crcReg (nt x) (l.take (k + 1))) := by
        show bsteps 8 y1 = _
        rw [take_next l k (by omega), crcReg_snoc, ← HY.out, ← HC.out, crcByte_eq, hy1]
      clear hy1 hcd hc
      go_wp2
      go_loop [5, 7] (fun r i => ∃ m z : Nat, m ≤ 8 ∧ z < 4294967296 ∧ i = .int .i64 m ∧ r = .int .u32 (z : Int) ∧ z = bsteps m y1) (fun _ i => 8 - (intOf i).toNat)
      case atStart => exact ⟨0, y1, by omega, hy1b, rfl, rfl, rfl⟩
      case round =>
        obtain ⟨m, z, hm8, hz, rfl, rfl, hzr⟩ := hrel
        have HZ : Hid (z = bsteps m y1) := hzr
        clear hzr
        by_cases hlt8 : m < 8
        · have e2 := and1 z hz
          have HN : Hid (bstep z = bsteps (m + 1) y1) := by
            show bstep z = _
            rw [bsteps_succ', ← HZ.out]
          have hbl := bstep_lt z hz
          by_cases hodd : z % 2 = 1
          · have e3 := xorP z hz hodd
            go_wp2
            go_round
            case rel => exact ⟨m + 1, bstep z, by omega, hbl, by go_num, rfl, HN.out⟩
            case measure => simp [intOf]; omega
          · have e3 := bstep_even z hodd
            have HE : Hid (bstep z = z / 2) := e3
            clear e3
            go_wp2
            go_round
            case rel => exact ⟨m + 1, z / 2, by omega, by omega, by go_num, by go_num, by rw [← HE.out]; exact HN.out⟩
            case measure => simp [intOf]; omega
        · have HF : Hid (z = crcReg (nt x) (l.take (k + 1))) := by
            show z = _
            rw [HZ.out, ← HR.out, show m = 8 by omega]
          go_wp2
          go_round
          case rel => exact ⟨k + 1, z, by omega, hz, by go_num, rfl, HF.out⟩
          case measure => simp [intOf]; omega
    · have hke : l.take k = l := List.take_of_length_le (by omega)
      have hnt2 := xorM y hy
      have HE : Hid (y = crcReg (nt x) l) := by
        show y = _
        rw [HY.out, hke]
      clear hke hc
      go_wp2
      go_ret
      exact ⟨ret_nat (congrArg nt HE.out), rfl⟩

set_option maxHeartbeats 400000 in
theorem refMore_nil (x : Nat) (w : World) (hx : x < 4294967296) :
    Calls Tryz.prog 79 #[.int .u32 (x : Int), .slice none 0 0] w fun e w' => e = .returned (.int .u32 ((nt (nt x) : Nat) : Int)) ∧ w = w' := by
  have hnt := xorM x hx
  have hnt2 := xorM (nt x) (nt_lt x)
  go_enter Tryz.func79, Tryz.ntmps79
  go_wp2
  go_loop [5, 6] (fun r i => i = .int .i64 0 ∧ r = .int .u32 (nt x : Int)) (fun _ _ => 0)
  case atStart => exact ⟨rfl, rfl⟩
  case round =>
    obtain ⟨rfl, rfl⟩ := hrel
    go_wp2
    go_ret
    exact ⟨rfl, rfl⟩

theorem refMore_rd (x : Nat) (X : Int) (v : Value) (l : List UInt8) (w : World) (hX : X = (x : Int)) (hx : x < 4294967296) (hm : l.length ≤ 140737488355328) (hr : Rd w v l) :
    Calls Tryz.prog 79 #[.int .u32 X, v] w fun e w' => e = .returned (.int .u32 ((nt (crcReg (nt x) l) : Nat) : Int)) ∧ w = w' := by
  subst hX
  rcases hr with ⟨rfl, rfl⟩ | ⟨g, cap, rfl, h1, h2, h3, h4⟩
  · exact refMore_nil x w hx
  · exact refMore_ne x g 0 l.length cap l w hx rfl hm (fun j hj => by rw [Nat.zero_add]; exact h4 j hj)

set_option maxHeartbeats 400000 in
theorem ref_rd (v : Value) (l : List UInt8) (w : World) (hm : l.length ≤ 140737488355328) (hr : Rd w v l) :
    Calls Tryz.prog 57 #[v] w fun e w' => e = .returned (.int .u32 ((crcV l : Nat) : Int)) ∧ w = w' := by
  have H := refMore_rd 0 0 v l w rfl (by decide) hm hr
  have HH : Hid (Calls Tryz.prog 79 #[.int .u32 0, v] w fun e w' => e = .returned (.int .u32 ((nt (crcReg (nt 0) l) : Nat) : Int)) ∧ w = w') := H
  clear H hr
  go_enter Tryz.func57, Tryz.ntmps57
  go_wp2_with (go_at_call 79; refine HH.out.mono ?_; rintro e w' ⟨rfl, rfl⟩)
  go_ret
  exact ⟨rfl, rfl⟩

end Go.Proofs.YtmifadjgmjnkgaaGreatDoor

namespace Go.Proofs.YtmifadjgmjnkgaaGreatDoor
open Go.RowKit

theorem below_undrewN {w w' : World} {B n : Nat} (h : Below B (w.drewN n) w') : Below B w w' := ⟨h.os, h.tape, h.output, h.size, h.block⟩

theorem rpage_any (s : Sh) (sum : Nat) (w : World) (hm : May s) (hx : s.txid < 18446744073709551616) (hsum : sum < 4294967296) :
    Calls Tryz.prog 56 #[.agg s.cells.toArray, .int .u32 (sum : Int)] w fun e w' => ∃ g cap, e = .returned (.slice (some ⟨g, 0, none⟩) 4096 cap) ∧
      w'.ownsRow w.heap.size 5 1 (.slice (some ⟨g, 0, none⟩) 4096 cap) 4096 (u8s (pageB s sum)) ∧ Below w.heap.size w w' := by
  obtain ⟨k, i, t, c, b⟩ := s
  obtain ⟨hk, ⟨hc1, hc2⟩, ⟨hi1, hi2⟩, hb⟩ := hm
  simp only at hk hc1 hc2 hi1 hi2 hb hx
  obtain ⟨k, rfl⟩ := Int.eq_ofNat_of_zero_le (show 0 ≤ k by omega)
  obtain ⟨c, rfl⟩ := Int.eq_ofNat_of_zero_le hc1
  obtain ⟨i, rfl⟩ := Int.eq_ofNat_of_zero_le (show 0 ≤ i by omega)
  exact rpage_nat k i t c sum b w (by omega) (by omega) (by omega) hx hsum hb

set_option maxHeartbeats 1000000 in
theorem rseal_ok (s : Sh) (w : World) (hm : May s) (hx : s.txid < 18446744073709551616) :
    Calls Tryz.prog 34 #[.agg s.cells.toArray] w fun e w' => ∃ g cap, e = .returned (.tuple #[.slice (some ⟨g, 0, none⟩) 4096 cap, .int .i64 0]) ∧ w'.ownsRow w.heap.size 5 1 (.slice (some ⟨g, 0, none⟩) 4096 cap) 4096 (u8s (page s)) ∧ Below w.heap.size w w' := by
  have hlen := pageB_len s 0 hm
  obtain ⟨k, i, t, c, b⟩ := s
  have HM : Hid (∀ w, Calls Tryz.prog 55 #[.agg #[.int .i64 k, .int .i64 i, .int .u64 (t : Int), .int .i64 c, .string b]] w fun e w' => e = .returned (.bool true) ∧ Below w.heap.size w w') := fun w => by
    have h := rmayBe_any ⟨k, i, t, c, b⟩ w (by rw [hm.2.2.2]; decide)
    rw [decide_eq_true hm] at h
    exact h
  have HP : Hid (∀ (sum : Nat) w, sum < 4294967296 → Calls Tryz.prog 56 #[.agg #[.int .i64 k, .int .i64 i, .int .u64 (t : Int), .int .i64 c, .string b], .int .u32 (sum : Int)] w fun e w' => ∃ g cap, e = .returned (.slice (some ⟨g, 0, none⟩) 4096 cap) ∧ w'.ownsRow w.heap.size 5 1 (.slice (some ⟨g, 0, none⟩) 4096 cap) 4096 (u8s (pageB ⟨k, i, t, c, b⟩ sum)) ∧ Below w.heap.size w w') := fun sum w h => rpage_any ⟨k, i, t, c, b⟩ sum w hm hx h
  have HP0 : Hid (∀ w, Calls Tryz.prog 56 #[.agg #[.int .i64 k, .int .i64 i, .int .u64 (t : Int), .int .i64 c, .string b], .int .u32 0] w fun e w' => ∃ g cap, e = .returned (.slice (some ⟨g, 0, none⟩) 4096 cap) ∧ w'.ownsRow w.heap.size 5 1 (.slice (some ⟨g, 0, none⟩) 4096 cap) 4096 (u8s (pageB ⟨k, i, t, c, b⟩ 0)) ∧ Below w.heap.size w w') := fun w => HP.out 0 w (by decide)
  have HBX : Hid (Boxed w.heap.size [.int .i64 k, .int .i64 i, .int .u64 (t : Int), .int .i64 c, .string b] (w.alloc (.cells #[.int .i64 k, .int .i64 i, .int .u64 (t : Int), .int .i64 c, .string b] 31))) := boxed_new w _ _
  have HB0 : Hid (Below w.heap.size w (w.alloc (.cells #[.int .i64 k, .int .i64 i, .int .u64 (t : Int), .int .i64 c, .string b] 31))) := below_new w _
  have HLN : Hid ((pageB ⟨k, i, t, c, b⟩ 0).length = 4096) := hlen
  clear hm hx hlen
  show Calls Tryz.prog 34 #[.agg #[.int .i64 k, .int .i64 i, .int .u64 (t : Int), .int .i64 c, .string b]] w _
  go_enter Tryz.func34, Tryz.ntmps34
  go_wp2_with fail
  refine (HM.out _).mono ?_
  rintro e w1 ⟨rfl, hb1⟩
  have HX1 := hide (HBX.out.below hb1)
  have HB1 : Hid (Below w.heap.size w w1) := Below.next HB0.out hb1
  have c0 : w1.cell? ⟨w.heap.size, 0, none⟩ = some (.int .i64 k) := HX1.out.2 0 (by simp)
  have c1 : w1.cell? ⟨w.heap.size, 1, none⟩ = some (.int .i64 i) := HX1.out.2 1 (by simp)
  have c2 : w1.cell? ⟨w.heap.size, 2, none⟩ = some (.int .u64 (t : Int)) := HX1.out.2 2 (by simp)
  have c3 : w1.cell? ⟨w.heap.size, 3, none⟩ = some (.int .i64 c) := HX1.out.2 3 (by simp)
  have c4 : w1.cell? ⟨w.heap.size, 4, none⟩ = some (.string b) := HX1.out.2 4 (by simp)
  clear hb1 HBX HB0
  go_wp2_with fail
  refine (HP0.out _).mono ?_
  rintro e w2 ⟨g2, cap2, rfl, hown2, hb2⟩
  have hx2 := HX1.out.below hb2
  have HB2 : Hid (Below w.heap.size w w2) := Below.next HB1.out hb2
  have rd2 := rd_of_owns hown2
  clear c0 c1 c2 c3 c4 HX1 HB1 hown2 hb2
  have c0 : w2.cell? ⟨w.heap.size, 0, none⟩ = some (.int .i64 k) := hx2.2 0 (by simp)
  have c1 : w2.cell? ⟨w.heap.size, 1, none⟩ = some (.int .i64 i) := hx2.2 1 (by simp)
  have c2 : w2.cell? ⟨w.heap.size, 2, none⟩ = some (.int .u64 (t : Int)) := hx2.2 2 (by simp)
  have c3 : w2.cell? ⟨w.heap.size, 3, none⟩ = some (.int .i64 c) := hx2.2 3 (by simp)
  have c4 : w2.cell? ⟨w.heap.size, 4, none⟩ = some (.string b) := hx2.2 4 (by simp)
  have HRC : Hid (∀ w, Rd w (.slice (some ⟨g2, 0, none⟩) 4096 cap2) (pageB ⟨k, i, t, c, b⟩ 0) → Calls Tryz.prog 57 #[.slice (some ⟨g2, 0, none⟩) 4096 cap2] w fun e w' => e = .returned (.int .u32 ((crcV (pageB ⟨k, i, t, c, b⟩ 0) : Nat) : Int)) ∧ w = w') := fun w h => ref_rd _ _ w (by rw [HLN.out]; decide) h
  have HRD := hide (rd2)
  have hcv : crcV (pageB ⟨k, i, t, c, b⟩ 0) < 4294967296 := nt_lt _
  have HPG : Hid (page ⟨k, i, t, c, b⟩ = pageB ⟨k, i, t, c, b⟩ (crcV (pageB ⟨k, i, t, c, b⟩ 0))) := rfl
  generalize crcV (pageB ⟨k, i, t, c, b⟩ 0) = cv at *
  have hlt : w.heap.size < w2.heap.size := hx2.1
  clear hx2 rd2
  go_wp2_with fail
  go_region_held3 (fun w' => w'.cell? ⟨w.heap.size, 0, none⟩ = some (.int .i64 k) ∧ w'.cell? ⟨w.heap.size, 1, none⟩ = some (.int .i64 i) ∧ w'.cell? ⟨w.heap.size, 2, none⟩ = some (.int .u64 (t : Int)) ∧ w'.cell? ⟨w.heap.size, 3, none⟩ = some (.int .i64 c) ∧ w'.cell? ⟨w.heap.size, 4, none⟩ = some (.string b)) (go_keep)
    (first
      | (go_at_call 57; refine (HRC.out _ ?_).mono ?_; (exact HRD.out); rintro e w' ⟨rfl, rfl⟩)
      | (go_at_call 56; refine (HP.out _ _ hcv).mono ?_; rintro e w3 ⟨g3, cap3, rfl, hown3, hb3⟩; have HO3 := hide hown3; have HB3 := hide hb3; have q0 := hb3.cell (p := ⟨w.heap.size, 0, none⟩) (by exact hlt); have q1 := hb3.cell (p := ⟨w.heap.size, 1, none⟩) (by exact hlt); have q2 := hb3.cell (p := ⟨w.heap.size, 2, none⟩) (by exact hlt); have q3 := hb3.cell (p := ⟨w.heap.size, 3, none⟩) (by exact hlt); have q4 := hb3.cell (p := ⟨w.heap.size, 4, none⟩) (by exact hlt); clear hown3 hb3))
  go_wp2_with fail
  go_ret2
  refine ⟨g3, cap3, rfl, ?_, ?_⟩
  · rw [HPG.out]; exact owns_base HO3.out HB2.out.size
  · exact Below.next HB2.out (below_undrewN HB3.out)

set_option maxHeartbeats 1000000 in
theorem rseal_no (s : Sh) (w : World) (hs : s.body.size ≤ 140737488355328) (hm : ¬ May s) :
    Calls Tryz.prog 34 #[.agg s.cells.toArray] w fun e w' => e = .returned (.tuple #[.slice none 0 0, .int .i64 1]) ∧ Below w.heap.size w w' := by
  obtain ⟨k, i, t, c, b⟩ := s
  have HM : Hid (∀ w, Calls Tryz.prog 55 #[.agg #[.int .i64 k, .int .i64 i, .int .u64 (t : Int), .int .i64 c, .string b]] w fun e w' => e = .returned (.bool false) ∧ Below w.heap.size w w') := fun w => by
    have h := rmayBe_any ⟨k, i, t, c, b⟩ w hs
    rw [decide_eq_false hm] at h
    exact h
  have HB0 : Hid (Below w.heap.size w (w.alloc (.cells #[.int .i64 k, .int .i64 i, .int .u64 (t : Int), .int .i64 c, .string b] 31))) := below_new w _
  clear hm
  show Calls Tryz.prog 34 #[.agg #[.int .i64 k, .int .i64 i, .int .u64 (t : Int), .int .i64 c, .string b]] w _
  go_enter Tryz.func34, Tryz.ntmps34
  go_wp2_with fail
  refine (HM.out _).mono ?_
  rintro e w1 ⟨rfl, hb1⟩
  have HB1 : Hid (Below w.heap.size w w1) := Below.next HB0.out hb1
  clear hb1 HB0
  go_wp2_with fail
  go_ret2
  exact ⟨rfl, HB1.out⟩

end Go.Proofs.YtmifadjgmjnkgaaGreatDoor
