import Derived.Test.YtpeobpmooledaaaDoorGR
import Derived.Test.YtpeobpmooledaaaDoorRefPut
import Derived.Test.YtpeobpmooledaaaDoorSPg
namespace Go.Proofs.YtpeobpmooledaaaDoor.S
open Go.RowKit

/-- append of bytes that lie somewhere to a row of bytes of the call's own. -/
theorem wpList_app_bytes {w : World} {ops : Array Oper} {rest : List Oper} {o : Oper} {a : Act} {Q : Exit → Act → World → Prop} (hgd : o.guard = none) (s x : Operand)
    (ho : o.op = .call { callee := .builtin .append, args := #[s, x], argTypes := #[41, 41] }) (base n m c g2 o2 : Nat) (v : Value) (l r : List UInt8)
    (hs : a.eval s = v) (hx : a.eval x = .slice (some ⟨g2, o2, none⟩) m c) (hown : w.ownsRow base 5 1 v n (u8s l)) (hr : r.length = m)
    (hc : ∀ j (h : j < r.length), w.cell? ⟨g2, o2 + j, none⟩ = some (.int .u8 (r[j].toNat : Int))) (hm : 0 < m) (hlen : n + m ≤ 140737488355328) (hbase : base ≤ w.heap.size)
    (h : ∀ g cap w', Hid (w'.ownsRow base 5 1 (.slice (some ⟨g, 0, none⟩) (n + m) cap) (n + m) (u8s (l ++ r))) → Hid (Below base w w') → wpList Tryd.prog ops Q rest (a.put o.dst (.slice (some ⟨g, 0, none⟩) (n + m) cap)) w') :
    wpList Tryd.prog ops Q (o :: rest) a w := by
  obtain ⟨i0, hi, hz0, hz1, hz2⟩ := info_parts Tryd.info5
  refine wpList_append_lies w hgd s x 41 ho base 5 i0 (.int .u8 0) 1 1 Tryd.underlying41 hi hz0 hz1 hz2 rfl (by decide) v n (u8s l) hs hown ⟨g2, o2, none⟩ m c (u8s r) hx (by rw [u8s_length, hr, Nat.mul_one]) ?_ (u8s_one r) hm (by unfold maxLen; omega) (by omega) hbase _ rfl ?_
  · intro j u hu
    by_cases hj : j < r.length
    · rw [u8s_get r j hj] at hu
      cases hu
      rw [show (⟨g2, o2, none⟩ : Addr).add j = ⟨g2, o2 + j, none⟩ by simp [Addr.add]]
      exact hc j hj
    · rw [List.getElem?_eq_none (by rw [u8s_length]; omega)] at hu; cases hu
  · intro g cap w' hown' hgrow _ _
    refine h g cap w' ?_ ((Below.refl base w).grown hgrow hbase (fun j hj => (hown.lt j hj).1))
    show w'.ownsRow _ _ _ _ _ _
    rw [u8s_append]; exact hown'

theorem _root_.Go.Proofs.YtpeobpmooledaaaDoor.Boxed.low {b B : Nat} {cs : List Value} {w w' : World} (h : Boxed b cs w) (hb : Below B w w') (hlt : b < B) : Boxed b cs w' :=
  ⟨Nat.lt_of_lt_of_le h.1 hb.size, fun j hj => (hb.cell (p := ⟨b, j, none⟩) hlt).trans (h.2 j hj)⟩

set_option maxHeartbeats 400000 in
theorem rbytes_any (n m : Nat) (w : World) (hn : n < 9223372036854775808) (h1 : 1 ≤ m) (h8 : m ≤ 8) (hfit : n < 2 ^ (8 * m)) :
    Calls Tryd.prog 26 #[.int .i64 (n : Int), .int .i64 (m : Int)] w fun e w' => ∃ g cap, e = .returned (.slice (some ⟨g, 0, none⟩) m cap) ∧ w'.ownsRow w.heap.size 5 1 (.slice (some ⟨g, 0, none⟩) m cap) m (u8s (beBytes n m)) ∧ Below w.heap.size w w' := by
  have n64 : (n : Int) % 18446744073709551616 = (n : Int) := by omega
  have HC : Hid (∀ w, Calls Tryd.prog 27 #[.int .u64 (n : Int), .int .i64 (m : Int)] w fun e w' => ∃ v, e = .returned (.tuple #[v, .int .i64 0]) ∧ w'.ownsRow w.heap.size 5 1 v m (u8s (beBytes n m)) ∧ Below w.heap.size w w') := fun w => rput_ok n m w (by omega) h1 h8 hfit
  clear hfit
  go_enter Tryd.func26, Tryd.ntmps26
  go_wp2_with fail
  refine (HC.out _).mono ?_
  rintro e w1 ⟨v, rfl, hown, hb⟩
  obtain ⟨g, cap, rfl, _, _⟩ := hown.form (by omega)
  go_wp2_with fail
  go_ret
  exact ⟨g, cap, rfl, hown, hb⟩

def headB (k c i t sum : Nat) : List UInt8 := beBytes k 1 ++ ([0] ++ (beBytes c 2 ++ (beBytes i 4 ++ (beBytes t 8 ++ (beBytes sum 4 ++ [0, 0, 0, 0])))))
theorem bare_head (k c i t sum : Nat) (body : List UInt8) : bare k c i t sum body = headB k c i t sum ++ body := by
  simp [bare, headB]
theorem row_cells {w : World} {base g n cap : Nat} {l : List UInt8} (h : w.ownsRow base 5 1 (.slice (some ⟨g, 0, none⟩) n cap) n (u8s l)) : ∀ j (h : j < l.length), w.cell? ⟨g, 0 + j, none⟩ = some (.int .u8 (l[j].toNat : Int)) := by
  intro j hj
  have hl := h.1
  rw [u8s_length, Nat.mul_one] at hl
  rw [Nat.zero_add, h.cellAt j (by omega), u8s_get l j hj]
theorem be_one (k : Nat) : beBytes k 1 = [UInt8.ofNat k] := by
  rw [be_snoc k 0 (by decide)]; simp [beBytes, digs]

theorem owns_keep {w w' : World} {base e size n : Nat} {v : Value} {xs : List Value} (h : w.ownsRow base e size v n xs) (hb : Below w.heap.size w w') : w'.ownsRow base e size v n xs := by
  refine ⟨h.1, ?_⟩
  rcases h.2 with h' | ⟨g, cap, cur, h', h1, hg, hn, hc, h5, h6⟩
  · exact .inl h'
  · refine .inr ⟨g, cap, cur, h', h1, ?_, hn, hc, h5, h6⟩
    rw [hb.block g ?_]
    · exact hg
    · rcases Nat.lt_or_ge g w.heap.size with hlt | hge
      · exact hlt
      · rw [Array.getElem?_eq_none hge] at hg; cases hg
theorem rb2 (n : Nat) (w : World) (hn : n ≤ 65535) : Calls Tryd.prog 26 #[.int .i64 (n : Int), .int .i64 2] w fun e w' => ∃ g cap, e = .returned (.slice (some ⟨g, 0, none⟩) 2 cap) ∧ w'.ownsRow w.heap.size 5 1 (.slice (some ⟨g, 0, none⟩) 2 cap) 2 (u8s (beBytes n 2)) ∧ Below w.heap.size w w' :=
  rbytes_any n 2 w (by omega) (by decide) (by decide) (Nat.lt_of_le_of_lt hn (by decide))
theorem rb4 (n : Nat) (w : World) (hn : n < 4294967296) : Calls Tryd.prog 26 #[.int .i64 (n : Int), .int .i64 4] w fun e w' => ∃ g cap, e = .returned (.slice (some ⟨g, 0, none⟩) 4 cap) ∧ w'.ownsRow w.heap.size 5 1 (.slice (some ⟨g, 0, none⟩) 4 cap) 4 (u8s (beBytes n 4)) ∧ Below w.heap.size w w' :=
  rbytes_any n 4 w (by omega) (by decide) (by decide) (Nat.lt_of_lt_of_le hn (by decide))
theorem rp8 (n : Nat) (w : World) (hn : n < 18446744073709551616) : Calls Tryd.prog 27 #[.int .u64 (n : Int), .int .i64 8] w fun e w' => ∃ g cap, e = .returned (.tuple #[.slice (some ⟨g, 0, none⟩) 8 cap, .int .i64 0]) ∧ w'.ownsRow w.heap.size 5 1 (.slice (some ⟨g, 0, none⟩) 8 cap) 8 (u8s (beBytes n 8)) ∧ Below w.heap.size w w' := by
  refine Calls.mono (rput_ok n 8 w hn (by decide) (by decide) (Nat.lt_of_lt_of_le hn (by decide))) ?_
  rintro e w1 ⟨v, rfl, hown, hb⟩
  obtain ⟨g, cap, rfl, _, _⟩ := hown.form (by omega)
  exact ⟨g, cap, rfl, hown, hb⟩

theorem zeros_in (w : World) : ∀ j (h : j < ([0, 0, 0, 0] : List UInt8).length), (w.alloc (.cells #[.int .u8 0, .int .u8 0, .int .u8 0, .int .u8 0] 5)).cell? ⟨w.heap.size, 0 + j, none⟩ = some (.int .u8 ((([0, 0, 0, 0] : List UInt8)[j]).toNat : Int)) := by
  intro j hj
  have h := (boxed_new w #[.int .u8 0, .int .u8 0, .int .u8 0, .int .u8 0] 5).2 j (by simpa using hj)
  rw [Nat.zero_add, h]
  simp only [List.length_cons, List.length_nil] at hj
  obtain rfl | rfl | rfl | rfl : j = 0 ∨ j = 1 ∨ j = 2 ∨ j = 3 := by omega
  all_goals rfl
theorem one_in (w : World) (x : UInt8) : ∀ j (h : j < ([x] : List UInt8).length), (w.alloc (.cells #[.int .u8 (x.toNat : Int)] 5)).cell? ⟨w.heap.size, 0 + j, none⟩ = some (.int .u8 ((([x] : List UInt8)[j]).toNat : Int)) := by
  intro j hj
  simp only [List.length_cons, List.length_nil] at hj
  obtain rfl : j = 0 := by omega
  exact (boxed_new w #[.int .u8 (x.toNat : Int)] 5).2 0 (by simp)

set_option maxHeartbeats 2000000 in
theorem rpage_nat (k i t c sum : Nat) (b : ByteArray) (w : World) (hk : k < 256) (hc : c ≤ 65535) (hi : i < 1048576) (htx : t < 18446744073709551616) (hsum : sum < 4294967296) (hb : b.size = 4072) :
    Calls Tryd.prog 59 #[.agg #[.int .i64 (k : Int), .int .i64 (i : Int), .int .u64 (t : Int), .int .i64 (c : Int), .string b], .int .u32 (sum : Int)] w fun e w' => ∃ g cap, e = .returned (.slice (some ⟨g, 0, none⟩) 4096 cap) ∧
      w'.ownsRow w.heap.size 5 1 (.slice (some ⟨g, 0, none⟩) 4096 cap) 4096 (u8s (bare k c i t sum b.data.toList)) ∧ Below w.heap.size w w' := by
  have k256 : (k : Int) % 256 = (k : Int) := by omega
  have HBX : Hid (Boxed w.heap.size [.int .i64 (k : Int), .int .i64 (i : Int), .int .u64 (t : Int), .int .i64 (c : Int), .string b] (w.alloc (.cells #[.int .i64 (k : Int), .int .i64 (i : Int), .int .u64 (t : Int), .int .i64 (c : Int), .string b] 70))) := boxed_new w _ _
  have HB0 : Hid (Below w.heap.size w (w.alloc (.cells #[.int .i64 (k : Int), .int .i64 (i : Int), .int .u64 (t : Int), .int .i64 (c : Int), .string b] 70))) := below_new w _
  have HO : Hid (((w.alloc (.cells #[.int .i64 (k : Int), .int .i64 (i : Int), .int .u64 (t : Int), .int .i64 (c : Int), .string b] 70)).alloc (.cells #[.int .u8 (k : Int), .int .u8 0] 5)).ownsRow (w.heap.size + 1) 5 1 (.slice (some ⟨w.heap.size + 1, 0, none⟩) 2 2) 2 (u8s (beBytes k 1 ++ [0]))) := by
    have h := World.ownsRow_lit (base := w.heap.size + 1) (e := 5) (size := 1) (w.alloc (.cells #[.int .i64 (k : Int), .int .i64 (i : Int), .int .u64 (t : Int), .int .i64 (c : Int), .string b] 70)) #[.int .u8 (k : Int), .int .u8 0] 2 (by simp) (by decide) rfl
    have e : u8s (beBytes k 1 ++ [0]) = [.int .u8 (k : Int), .int .u8 0] := by
      rw [be_one k]; simp [u8s]; omega
    show World.ownsRow _ _ _ _ _ _ _
    rw [e]
    simpa using h
  have HBB : Hid (Below (w.heap.size + 1) (w.alloc (.cells #[.int .i64 (k : Int), .int .i64 (i : Int), .int .u64 (t : Int), .int .i64 (c : Int), .string b] 70)) ((w.alloc (.cells #[.int .i64 (k : Int), .int .i64 (i : Int), .int .u64 (t : Int), .int .i64 (c : Int), .string b] 70)).alloc (.cells #[.int .u8 (k : Int), .int .u8 0] 5))) := by
    have h := below_new (w.alloc (.cells #[.int .i64 (k : Int), .int .i64 (i : Int), .int .u64 (t : Int), .int .i64 (c : Int), .string b] 70)) (.cells #[.int .u8 (k : Int), .int .u8 0] 5)
    show Below _ _ _
    simpa using h
  have HB : Hid (b.size = 4072) := hb
  clear hb
  go_enter Tryd.func59, Tryd.ntmps59
  go_wp2_with fail
  have HW0 : Hid ((w.alloc (.cells #[.int .i64 (k : Int), .int .i64 (i : Int), .int .u64 (t : Int), .int .i64 (c : Int), .string b] 70)).heap.size = w.heap.size + 1) := by show _ = _; simp
  generalize (w.alloc (.cells #[.int .i64 (k : Int), .int .i64 (i : Int), .int .u64 (t : Int), .int .i64 (c : Int), .string b] 70)) = W0 at *
  generalize (W0.alloc (.cells #[.int .u8 (k : Int), .int .u8 0] 5)) = w1 at *
  -- count
  refine (rb2 c _ hc).mono ?_
  rintro e w2 ⟨g2, cap2, rfl, hown2, hb2⟩
  have HO2 : Hid (w2.ownsRow (w.heap.size + 1) 5 1 (.slice (some ⟨w.heap.size + 1, 0, none⟩) 2 2) 2 (u8s (beBytes k 1 ++ [0]))) := owns_keep HO.out hb2
  have HB2 : Hid (Below (w.heap.size + 1) W0 w2) := HBB.out.trans (hb2.mono (by have := HBB.out.size; have := HW0.out; omega))
  have HR2 := (show Hid _ from row_cells hown2)
  clear hown2 hb2 HO HBB
  go_wp2_with (at_builtin; refine wpList_app_bytes rfl _ _ rfl (w.heap.size + 1) 2 2 _ g2 0 _ _ (beBytes c 2) rfl rfl HO2.out (beBytes_len c 2 (by decide)) HR2.out (by decide) (by decide) (by have := HB2.out.size; have := HW0.out; omega) ?_; intro g3 cap3 w3 HO3 HG3; have HB3 : Hid (Below (w.heap.size + 1) W0 w3) := HB2.out.trans HG3.out; have hx3 : w3.cell? ⟨w.heap.size, 1, none⟩ = some (.int .i64 (i : Int)) := (HBX.out.low HB3.out (Nat.lt_succ_self _)).2 1 (by simp); clear HO2 HB2 HR2 HG3)
  -- the number
  refine (rb4 i _ (by omega)).mono ?_
  rintro e w4 ⟨g4, cap4, rfl, hown4, hb4⟩
  have HO4 := (show Hid _ from owns_keep HO3.out hb4)
  have HB4 : Hid (Below (w.heap.size + 1) W0 w4) := HB3.out.trans (hb4.mono (by have := HB3.out.size; have := HW0.out; omega))
  have HR4 := (show Hid _ from row_cells hown4)
  clear hown4 hb4 HO3 HB3 hx3
  go_wp2_with (at_builtin; refine wpList_app_bytes rfl _ _ rfl (w.heap.size + 1) 4 4 _ g4 0 _ _ (beBytes i 4) rfl rfl HO4.out (beBytes_len i 4 (by decide)) HR4.out (by decide) (by decide) (by have := HB4.out.size; have := HW0.out; omega) ?_; intro g5 cap5 w5 HO5 HG5; have HB5 : Hid (Below (w.heap.size + 1) W0 w5) := HB4.out.trans HG5.out; have hx5 : w5.cell? ⟨w.heap.size, 2, none⟩ = some (.int .u64 (t : Int)) := (HBX.out.low HB5.out (Nat.lt_succ_self _)).2 2 (by simp); clear HO4 HB4 HR4 HG5)
  -- the transaction
  refine (rp8 t _ htx).mono ?_
  rintro e w6 ⟨g6, cap6, rfl, hown6, hb6⟩
  have HO6 := (show Hid _ from owns_keep HO5.out hb6)
  have HB6 : Hid (Below (w.heap.size + 1) W0 w6) := HB5.out.trans (hb6.mono (by have := HB5.out.size; have := HW0.out; omega))
  have HR6 := (show Hid _ from row_cells hown6)
  clear hown6 hb6 HO5 HB5 hx5
  go_wp2_with (at_builtin; refine wpList_app_bytes rfl _ _ rfl (w.heap.size + 1) 8 8 _ g6 0 _ _ (beBytes t 8) rfl rfl HO6.out (beBytes_len t 8 (by decide)) HR6.out (by decide) (by decide) (by have := HB6.out.size; have := HW0.out; omega) ?_; intro g7 cap7 w7 HO7 HG7; have HB7 : Hid (Below (w.heap.size + 1) W0 w7) := HB6.out.trans HG7.out; clear HO6 HB6 HR6 HG7)
  -- the sum
  refine (rb4 sum _ (by omega)).mono ?_
  rintro e w8 ⟨g8, cap8, rfl, hown8, hb8⟩
  have HO8 := (show Hid _ from owns_keep HO7.out hb8)
  have HB8 : Hid (Below (w.heap.size + 1) W0 w8) := HB7.out.trans (hb8.mono (by have := HB7.out.size; have := HW0.out; omega))
  have HR8 := (show Hid _ from row_cells hown8)
  clear hown8 hb8 HO7 HB7
  go_wp2_with (first
    | (at_builtin; refine wpList_app_bytes rfl (.tmp 32) (.tmp 35) rfl (w.heap.size + 1) 16 4 _ g8 0 _ _ (beBytes sum 4) rfl rfl HO8.out (beBytes_len sum 4 (by decide)) HR8.out (by decide) (by decide) (by have := HB8.out.size; have := HW0.out; omega) ?_; intro g9 cap9 w9 HO9 HG9; have HB9 : Hid (Below (w.heap.size + 1) W0 w9) := HB8.out.trans HG9.out; clear HO8 HB8 HR8 HG9)
    | (at_builtin; refine wpList_app_bytes rfl (.tmp 37) (.tmp 38) rfl (w.heap.size + 1) (16 + 4) 4 _ w9.heap.size 0 _ _ [0, 0, 0, 0] rfl rfl (HO9.out.alloc _) rfl (zeros_in w9) (by decide) (by decide) (by have := HB9.out.size; have := HW0.out; simp; omega) ?_; intro g10 cap10 w10 HO10 HG10; have HB10 : Hid (Below (w.heap.size + 1) W0 w10) := (HB9.out.alloc (by have := HB9.out.size; have := HW0.out; omega) _).trans HG10.out; clear HO9 HB9 HG10))
  have HO11 : Hid (w10.ownsRow (w.heap.size + 1) 5 1 (.slice (some ⟨g10, 0, none⟩) 24 cap10) 24 (u8s (headB k c i t sum))) := by
    show World.ownsRow _ _ _ _ _ _ _
    have e : headB k c i t sum = beBytes k 1 ++ [0] ++ beBytes c 2 ++ beBytes i 4 ++ beBytes t 8 ++ beBytes sum 4 ++ [0, 0, 0, 0] := by simp [headB]
    rw [e]; exact HO10.out
  clear HO10
  go_loopw [5, 8] (fun v i' wr => ∃ j : Nat, j ≤ b.size ∧ i' = .int .i64 j ∧ wr.ownsRow (w.heap.size + 1) 5 1 v (24 + j) (u8s (headB k c i t sum ++ b.data.toList.take j)) ∧ Below (w.heap.size + 1) W0 wr) (fun _ i' _ => b.size - (intOf i').toNat)
  case atStart => exact ⟨0, Nat.zero_le _, rfl, by rw [List.take_zero, List.append_nil]; exact HO11.out, HB10.out⟩
  case round =>
    obtain ⟨j, hj, rfl, hown, hbr⟩ := hrel
    clear HO11 HB10
    have hx4 : wr.cell? ⟨w.heap.size, 4, none⟩ = some (.string b) := (HBX.out.low hbr (Nat.lt_succ_self _)).2 4 (by simp)
    have hbs : b.size ≤ 4072 := Nat.le_of_eq HB.out
    have HO : Hid (wr.ownsRow (w.heap.size + 1) 5 1 u5 (24 + j) (u8s (headB k c i t sum ++ b.data.toList.take j))) := hown
    have HBR : Hid (Below (w.heap.size + 1) W0 wr) := hbr
    clear hown hbr
    by_cases hlt : j < b.size
    · have HS : Hid (b.data.toList.take (j + 1) = b.data.toList.take j ++ [b[j]]) := take_snoc b j hlt
      go_wp2_with (at_builtin; refine wpList_app_bytes rfl _ _ rfl (w.heap.size + 1) (24 + j) 1 _ wr.heap.size 0 _ _ [b[j]] rfl rfl (HO.out.alloc _) rfl (one_in wr b[j]) (by decide) (by omega) (by have := HBR.out.size; have := HW0.out; simp; omega) ?_; intro g12 cap12 w12 HO12 HG12; have HB12 : Hid (Below (w.heap.size + 1) W0 w12) := (HBR.out.alloc (by have := HBR.out.size; have := HW0.out; omega) _).trans HG12.out; clear HO HBR HG12)
      go_roundw
      case rel => exact ⟨j + 1, by omega, by go_num, by rw [HS.out, ← List.append_assoc]; exact HO12.out, HB12.out⟩
      case measure => simp [intOf]; omega
    · have hje : j = 4072 := by have := HB.out; omega
      subst hje
      obtain ⟨g, cap, rfl, _, _⟩ := HO.out.form (by omega)
      go_wp2_with fail
      go_ret
      refine ⟨g, cap, rfl, ?_, HB0.out.trans (HBR.out.mono (by omega))⟩
      have h := HO.out
      rw [List.take_of_length_le (by rw [bsize, HB.out]; exact Nat.le_refl _), ← bare_head] at h
      exact owns_base h (by omega)

end Go.Proofs.YtpeobpmooledaaaDoor.S

namespace Go.Proofs.YtpeobpmooledaaaDoor.S
open Go.RowKit

set_option maxHeartbeats 1000000 in
theorem rmayBe_any (s : Sh) (w : World) (hs : s.body.size ≤ 140737488355328) : Calls Tryd.prog 58 #[.agg s.cells.toArray] w fun e w' => e = .returned (.bool (decide (May s))) ∧ Below w.heap.size w w' := by
  obtain ⟨k, i, t, c, b⟩ := s
  simp only [Sh.cells] at hs ⊢
  have hsz : (b.size : Int) ≤ 140737488355328 := by omega
  have HB : Hid (Below w.heap.size w (w.alloc (.cells #[.int .i64 k, .int .i64 i, .int .u64 (t : Int), .int .i64 c, .string b] 70))) := below_new w _
  by_cases hk : k = 66 ∨ k = 76
  · by_cases hi1 : 2 ≤ i
    · by_cases hi2 : i < 1048576
      · by_cases hc1 : 0 ≤ c
        · by_cases hc2 : c ≤ 65535
          · by_cases hb : b.size = 4072
            · rw [decide_eq_true (show May ⟨k, i, t, c, b⟩ from ⟨hk, ⟨hc1, hc2⟩, ⟨hi1, hi2⟩, hb⟩)]
              have hb2 : ((b.size : Int) == 4072) = true := beq_iff_eq.2 (by omega)
              clear hb
              rcases hk with rfl | rfl
              all_goals
                go_enter Tryd.func58, Tryd.ntmps58
                go_wp2_with fail
                go_ret
                exact ⟨rfl, HB.out⟩
            · rw [decide_eq_false (show ¬ May ⟨k, i, t, c, b⟩ from fun h => hb h.2.2.2)]
              have hb2 : ((b.size : Int) == 4072) = false := beq_eq_false_iff_ne.2 (by omega)
              clear hb
              rcases hk with rfl | rfl
              all_goals
                go_enter Tryd.func58, Tryd.ntmps58
                go_wp2_with fail
                go_ret
                exact ⟨rfl, HB.out⟩
          · rw [decide_eq_false (show ¬ May ⟨k, i, t, c, b⟩ from fun h => hc2 h.2.1.2)]
            rcases hk with rfl | rfl
            all_goals
              go_enter Tryd.func58, Tryd.ntmps58
              go_wp2_with fail
              go_ret
              exact ⟨rfl, HB.out⟩
        · rw [decide_eq_false (show ¬ May ⟨k, i, t, c, b⟩ from fun h => hc1 h.2.1.1)]
          rcases hk with rfl | rfl
          all_goals
            go_enter Tryd.func58, Tryd.ntmps58
            go_wp2_with fail
            go_ret
            exact ⟨rfl, HB.out⟩
      · rw [decide_eq_false (show ¬ May ⟨k, i, t, c, b⟩ from fun h => hi2 h.2.2.1.2)]
        rcases hk with rfl | rfl
        all_goals
          go_enter Tryd.func58, Tryd.ntmps58
          go_wp2_with fail
          go_ret
          exact ⟨rfl, HB.out⟩
    · rw [decide_eq_false (show ¬ May ⟨k, i, t, c, b⟩ from fun h => hi1 h.2.2.1.1)]
      rcases hk with rfl | rfl
      all_goals
        go_enter Tryd.func58, Tryd.ntmps58
        go_wp2_with fail
        go_ret
        exact ⟨rfl, HB.out⟩
  · rw [decide_eq_false (show ¬ May ⟨k, i, t, c, b⟩ from fun h => hk h.1)]
    have hk1 : ¬ k = 66 := fun h => hk (.inl h)
    have hk2 : ¬ k = 76 := fun h => hk (.inr h)
    clear hk
    go_enter Tryd.func58, Tryd.ntmps58
    go_wp2_with fail
    go_ret
    exact ⟨rfl, HB.out⟩

end Go.Proofs.YtpeobpmooledaaaDoor.S
