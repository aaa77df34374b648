import Derived.Test.YtageokjobbjddaaGreatDoorGRC
import Derived.Test.YtageokjobbjddaaGreatDoorOwn
namespace Go.Proofs.YtageokjobbjddaaGreatDoor
open Go.RowKit

theorem escL_len (t : List UInt8) : t.length ≤ (escL t).length := by
  induction t with
  | nil => simp [escL]
  | cons c r ih =>
    have e : escL (c :: r) = (if c = 0 then [0, 255] else [c]) ++ escL r := by simp [escL]
    rw [e, List.length_append, List.length_cons]
    split <;> simp <;> omega
set_option maxHeartbeats 1000000 in
theorem appText_any (base : Nat) (s : ByteArray) (o : List UInt8) (v : Value) (w : World) (hbase : base ≤ w.heap.size)
    (ho : w.ownsRow base 5 1 v o.length (u8s o)) (hsz : o.length + (encT s.data.toList).length ≤ 100000000000000) :
    Calls Tryz.prog 95 #[v, .string s] w fun e w' => ∃ v' o1, e = .returned v' ∧ Wrote o (encT s.data.toList) o1 ∧ w'.ownsRow base 5 1 v' o1.length (u8s o1) ∧ Below base w w' := by
  obtain ⟨i0, hi, hz0, hz1, hz2⟩ := info_parts Tryz.info5
  have hss : s.size ≤ 100000000000000 := by
    have h1 := escL_len s.data.toList
    have h2 : s.data.toList.length = s.size := by simp
    unfold encT at hsz
    rw [List.length_append] at hsz
    omega
  go_enter Tryz.func95, Tryz.ntmps95
  go_wp2_with fail
  go_loopw [0, 5] (fun v i wr => ∃ (k : Nat) (p : List UInt8) (a : Option Addr) (c : Nat), k ≤ s.size ∧ i = .int .i64 k ∧ v = .slice a p.length c ∧ Wrote o (escL (s.data.toList.take k)) p ∧ wr.ownsRow base 5 1 v p.length (u8s p) ∧ Below base w wr) (fun _ i _ => s.size - (intOf i).toNat)
  case atStart =>
    obtain ⟨a, c, e⟩ : ∃ a c, v = .slice a o.length c := by
      rcases ho.2 with ⟨h', h0⟩ | ⟨g, cap, cur, h', _⟩
      · exact ⟨none, 0, by rw [h', h0]⟩
      · exact ⟨_, cap, h'⟩
    exact ⟨0, o, a, c, Nat.zero_le _, rfl, e, by simpa [escL] using Wrote.nil o, ho, Below.refl _ _⟩
  case round =>
    obtain ⟨k, p, a, c, hk, rfl, rfl, hwr, hown, hbl⟩ := hrel
    have hbs := hbl.size
    have hpb : p.length ≤ 100000000000000 - 2 := by
      have h1 := hwr.most
      have h2 := escL_take_le s.data.toList k
      unfold encT at hsz
      rw [List.length_append] at hsz
      simp only [List.length_cons, List.length_nil] at hsz
      omega
    have HW : Hid (Wrote o (escL (s.data.toList.take k)) p) := hwr
    have HZ : Hid (o.length + (encT s.data.toList).length ≤ 100000000000000) := hsz
    clear hwr hsz ho
    by_cases hlt : k < s.size
    · by_cases hp : p.length ≤ 65536
      · have hkl : k < s.data.toList.length := by simpa using hlt
        have HS : Hid (escL (s.data.toList.take (k + 1)) = escL (s.data.toList.take k) ++ (if s[k] = 0 then [0, 255] else [s[k]])) := escL_take s.data.toList k hkl
        have j0 : (0 : Int) ≤ (k : Int) := Int.natCast_nonneg _
        have j1 : (k : Int) < (s.size : Int) := by omega
        obtain ⟨x, hx⟩ : ∃ x : UInt8, x = s[k] := ⟨_, rfl⟩
        have hxx : s[k] = x := hx.symm
        rw [← hx] at HS
        clear hx
        have hp2 : (p.length : Int) ≤ 65536 := by omega
        go_wp2_with (first
          | (at_builtin; refine wpList_append_lies _ rfl _ _ 48 rfl base 5 i0 (.int .u8 0) 1 1 Tryz.underlying48 hi hz0 hz1 hz2 rfl (by decide) _ _ _ rfl (hown.alloc _) ⟨wr.heap.size, 0, none⟩ 1 1 [.int .u8 (x.toNat : Int)] rfl rfl ?c1 ?c2 ?c3 ?c4 ?c5 ?c6 (wr.heap.size + 1) ?c7 ?_))
        case c1 => exact World.news_of_block (heap_alloc_new wr (.cells #[.int .u8 (x.toNat : Int)] 5))
        case c2 => intro u hu; simp at hu; subst hu; rfl
        case c3 => decide
        case c4 => unfold maxLen; omega
        case c5 => omega
        case c6 => simp; omega
        case c7 => simp
        intro g cap w1 hown' hgrow hat hlg
        obtain ⟨hown2, hb1⟩ := pushed (es := [x]) (by omega) hown hown' hgrow
        have hb2 : Below base w w1 := hbl.trans hb1
        have hbs2 := hb2.size
        clear hown' hgrow hown hat hlg hbl hb1
        by_cases hx0 : x = 0
        · subst hx0
          have HQ : Hid (Wrote o (escL (s.data.toList.take (k + 1))) ((p ++ [0]) ++ [255])) := by
            show Wrote _ _ _
            rw [HS.out, if_pos rfl, List.append_assoc]
            exact HW.out.next (Wrote.all p [0, 255])
          have hown : w1.ownsRow base 5 1 (.slice (some ⟨g, 0, none⟩) (p.length + 1) cap) (p ++ [0]).length (u8s (p ++ [0])) := hown2
          have hl2 : (p ++ [0]).length = p.length + 1 := by simp
          clear hown2 HW HS
          go_wp2_with (first
          | (at_builtin; refine wpList_append_lies _ rfl _ _ 48 rfl base 5 i0 (.int .u8 0) 1 1 Tryz.underlying48 hi hz0 hz1 hz2 rfl (by decide) _ _ _ rfl (hown.alloc _) ⟨w1.heap.size, 0, none⟩ 1 1 [.int .u8 255] rfl rfl ?c1 ?c2 ?c3 ?c4 ?c5 ?c6 (w1.heap.size + 1) ?c7 ?_))
          case c1 => exact World.news_of_block (heap_alloc_new w1 (.cells #[.int .u8 255] 5))
          case c2 => intro u hu; simp at hu; subst hu; rfl
          case c3 => decide
          case c4 => unfold maxLen; omega
          case c5 => omega
          case c6 => simp; omega
          case c7 => simp
          intro g2 cap2 w3 hown' hgrow hat hlg
          obtain ⟨hown2, hb1⟩ := pushed (es := [255]) (by omega) hown (by rw [hl2]; exact hown') hgrow
          have HB : Hid (Below base w w3) := hb2.trans hb1
          have HO : Hid (w3.ownsRow base 5 1 (.slice (some ⟨g2, 0, none⟩) (p.length + 1 + 1) cap2) ((p ++ [0]) ++ [255]).length (u8s ((p ++ [0]) ++ [255]))) := hown2
          clear hown' hgrow hown hat hlg hb2 hb1 hown2
          go_wp2_with fail
          go_roundw
          case rel => exact ⟨k + 1, (p ++ [0]) ++ [255], some ⟨g2, 0, none⟩, cap2, by omega, by go_num, by simp, HQ.out, HO.out, HB.out⟩
          case measure => simp [intOf]; omega
        · have HQ : Hid (Wrote o (escL (s.data.toList.take (k + 1))) (p ++ [x])) := by
            show Wrote _ _ _
            rw [HS.out, if_neg hx0]
            exact HW.out.next (Wrote.all p [x])
          have hx1 : ((x.toNat : Int) == 0) = false := by
            simp; intro e; exact hx0 (UInt8.toNat_inj.1 (by rw [e]; rfl))
          have HO : Hid (w1.ownsRow base 5 1 (.slice (some ⟨g, 0, none⟩) (p.length + 1) cap) (p ++ [x]).length (u8s (p ++ [x]))) := hown2
          clear hown2 HW HS
          go_wp2_with fail
          go_roundw
          case rel => exact ⟨k + 1, p ++ [x], some ⟨g, 0, none⟩, cap, by omega, by go_num, by simp, HQ.out, HO.out, hb2⟩
          case measure => simp [intOf]; omega
      · have HQ : Hid (Wrote o (encT s.data.toList) (p ++ [0, 0])) := by
          have h1 := HW.out.most
          have h2 := escL_take_le s.data.toList k
          have h3 : (encT s.data.toList).length = (escL s.data.toList).length + 2 := by unfold encT; simp
          exact ⟨fun h => by omega, fun _ => by simp; omega, by rw [List.length_append]; simp only [List.length_cons, List.length_nil]; omega⟩
        have hp2 : ¬ (p.length : Int) ≤ 65536 := by omega
        have hm1 : p.length + 2 ≤ maxLen := by unfold maxLen; omega
        have hm2 : (p.length + 2) * 1 ≤ 140737488355328 := by omega
        clear HW
        go_wp2_with (first
          | (at_builtin; refine wpList_append_lies _ rfl _ _ 48 rfl base 5 i0 (.int .u8 0) 1 1 Tryz.underlying48 hi hz0 hz1 hz2 rfl (by decide) _ _ _ rfl (hown.alloc _) ⟨wr.heap.size, 0, none⟩ 2 2 [.int .u8 0, .int .u8 0] rfl rfl (World.news_of_block (heap_alloc_new wr (.cells #[.int .u8 0, .int .u8 0] 5))) (u8s_two 0 0) (by decide) hm1 hm2 (by simp; omega) (wr.heap.size + 1) (by simp) ?_))
        intro g cap w1 hown' hgrow hat hlg
        obtain ⟨hown2, hb1⟩ := pushed (es := [0, 0]) (by omega) hown hown' hgrow
        have hb2 : Below base w w1 := hbl.trans hb1
        clear hown' hgrow hown hat hlg hbl hb1
        go_wp2_with fail
        go_ret
        exact ⟨_, p ++ [0, 0], rfl, HQ.out, hown2, hb2⟩
    · have hke : k = s.size := by omega
      have HQ : Hid (Wrote o (encT s.data.toList) (p ++ [0, 0])) := by
        show Wrote _ _ _
        have h := HW.out
        rw [List.take_of_length_le (by simp; omega)] at h
        exact h.next (Wrote.all p [0, 0])
      subst hke
      have hm1 : p.length + 2 ≤ maxLen := by unfold maxLen; omega
      have hm2 : (p.length + 2) * 1 ≤ 140737488355328 := by omega
      clear HW
      go_wp2_with (first
        | (at_builtin; refine wpList_append_lies _ rfl _ _ 48 rfl base 5 i0 (.int .u8 0) 1 1 Tryz.underlying48 hi hz0 hz1 hz2 rfl (by decide) _ _ _ rfl (hown.alloc _) ⟨wr.heap.size, 0, none⟩ 2 2 [.int .u8 0, .int .u8 0] rfl rfl (World.news_of_block (heap_alloc_new wr (.cells #[.int .u8 0, .int .u8 0] 5))) (u8s_two 0 0) (by decide) hm1 hm2 (by simp; omega) (wr.heap.size + 1) (by simp) ?_))
      intro g cap w1 hown' hgrow hat hlg
      obtain ⟨hown2, hb1⟩ := pushed (es := [0, 0]) (by omega) hown hown' hgrow
      have hb2 : Below base w w1 := hbl.trans hb1
      clear hown' hgrow hown hat hlg hbl hb1
      go_wp2_with fail
      go_ret
      exact ⟨_, p ++ [0, 0], rfl, HQ.out, hown2, hb2⟩

end Go.Proofs.YtageokjobbjddaaGreatDoor
