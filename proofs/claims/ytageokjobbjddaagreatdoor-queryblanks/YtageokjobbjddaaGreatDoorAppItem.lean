import Derived.Test.YtageokjobbjddaaGreatDoorGRC
import Derived.Test.YtageokjobbjddaaGreatDoorAppText
namespace Go.Proofs.YtageokjobbjddaaGreatDoor
open Go.RowKit

def AppItems (k : Nat) : Prop := ∀ (l : List It) (lv : Value) (o : List UInt8) (v : Value) (base : Nat) (w : World), SizeOf.sizeOf l ≤ k → base ≤ w.heap.size → ItsAt w (fun g => g < base) lv l →
    w.ownsRow base 5 1 v o.length (u8s o) → o.length + (encL l).length ≤ 100000000000000 →
    Calls Tryz.prog 51 #[v, lv] w fun e w' => ∃ v' o1, e = .returned v' ∧ Wrote o (encL l) o1 ∧ w'.ownsRow base 5 1 v' o1.length (u8s o1) ∧ Below base w w'

theorem news1 (w : World) (H : Nat) (b : Int) (hH : w.heap.size = H) : ∀ j u, [Value.int .u8 b][j]? = some u → (w.alloc (.cells #[.int .u8 b] 5)).cell? ((⟨H, 0, none⟩ : Addr).add j) = some u := by
  subst hH; exact World.news_of_block (heap_alloc_new w _)
theorem u8s_single (a : Int) : ∀ u ∈ [Value.int .u8 a], u.oneCell' = true := by
  intro u hu; simp at hu; subst hu; rfl
theorem owns_form {w : World} {base : Nat} {v : Value} {n : Nat} {xs : List Value} (h : w.ownsRow base 5 1 v n xs) : ∃ a c, v = .slice a n c := by
  rcases h.2 with ⟨h', h0⟩ | ⟨g, cap, cur, h', _⟩
  · exact ⟨none, 0, by rw [h', h0]⟩
  · exact ⟨_, cap, h'⟩

set_option maxHeartbeats 1000000 in
theorem appItem_any (k : Nat) (ih : AppItems k) (x : It) (la : Value) (o : List UInt8) (v : Value) (base : Nat) (w : World) (hk : SizeOf.sizeOf x.list ≤ k) (hx : x.Ok) (hbase : base ≤ w.heap.size) (hl : ItsAt w (fun g => g < base) la x.list)
    (ho : w.ownsRow base 5 1 v o.length (u8s o)) (hsz : o.length + x.enc.length ≤ 100000000000000) :
    Calls Tryz.prog 77 #[v, .agg #[.int .i64 x.kind, .int .i64 x.num, .string x.text, la]] w fun e w' => ∃ v' o1, e = .returned v' ∧ Wrote o x.enc o1 ∧ w'.ownsRow base 5 1 v' o1.length (u8s o1) ∧ Below base w w' := by
  obtain ⟨i0, hi, hz0, hz1, hz2⟩ := info_parts Tryz.info5
  obtain ⟨aa, ca, rfl⟩ := hl.form
  have HE : Hid (x.enc = byteOf x.kind :: bodyOf x.kind x.num x.text.data.toList (encL x.list)) := x.enc_eq
  have hn1 := hx.n1
  have hn2 := hx.n2
  have HZ : Hid (o.length + x.enc.length ≤ 100000000000000) := hsz
  have hob : o.length ≤ 100000000000000 - 1 := by rw [HE.out, List.length_cons] at hsz; omega
  have hbk := byteOf_wrap x.kind
  have hbn := byteOf_wrap x.num
  have b1 := below_new w (.cells #[.int .i64 x.kind, .int .i64 x.num, .string x.text, .slice aa x.list.length ca] 32)
  have x1 := boxed_new w #[.int .i64 x.kind, .int .i64 x.num, .string x.text, .slice aa x.list.length ca] 32
  have hown := owns_keep ho b1
  have s1 : (w.alloc (.cells #[.int .i64 x.kind, .int .i64 x.num, .string x.text, .slice aa x.list.length ca] 32)).heap.size = w.heap.size + 1 := by simp
  have hvb := owns_blk ho
  clear hsz hx
  go_enter Tryz.func77, Tryz.ntmps77
  generalize hkk : x.kind = xk at *
  generalize hnn : x.num = xn at *
  generalize htt : x.text = xt at *
  generalize hll : x.list = xl at *
  generalize hBK : byteOf xk = bk at *
  generalize hBN : byteOf xn = bn at *
  have HH : Hid (byteOf xk = bk ∧ byteOf xn = bn) := ⟨hBK, hBN⟩
  clear hkk hnn htt hll hBK hBN
  have hm1 : o.length + 1 ≤ maxLen := by unfold maxLen; omega
  have hm2 : (o.length + 1) * 1 ≤ 140737488355328 := by omega
  go_wp2_with (first
    | (at_builtin; refine wpList_append_lies _ rfl _ _ 48 rfl base 5 i0 (.int .u8 0) 1 1 Tryz.underlying48 hi hz0 hz1 hz2 rfl (by decide) _ _ _ rfl (hown.alloc _) ⟨w.heap.size + 1, 0, none⟩ 1 1 [.int .u8 (bk.toNat : Int)] rfl rfl (news1 _ (w.heap.size + 1) (bk.toNat : Int) (by simp)) (u8s_single _) (by decide) hm1 hm2 (by simp; omega) (w.heap.size + 1 + 1) (by simp) ?_))
  intro g cap w1 hown' hgrow hat hlg
  generalize hW : w.alloc (.cells #[.int .i64 xk, .int .i64 xn, .string xt, .slice aa xl.length ca] 32) = W1 at *
  obtain ⟨hown2, hb1⟩ := pushed (es := [bk]) (by omega) hown hown' hgrow
  have far : ∀ (j : Nat) (h : j < 4), w1.cell? ⟨w.heap.size, j, none⟩ = some ([Value.int .i64 xk, .int .i64 xn, .string xt, .slice aa xl.length ca][j]'h) := fun j h =>
    (hgrow.cell_far ⟨w.heap.size, j, none⟩ (by simp; omega) (fun e => by have := (hvb _ e.symm).2; simp at this)).trans (cell_below (below_new W1 _) (x1.2 j h))
  have k0 : w1.cell? ⟨w.heap.size, 0, none⟩ = some (.int .i64 xk) := far 0 (by decide)
  have k1 : w1.cell? ⟨w.heap.size, 1, none⟩ = some (.int .i64 xn) := far 1 (by decide)
  have k2 : w1.cell? ⟨w.heap.size, 2, none⟩ = some (.string xt) := far 2 (by decide)
  have k3 : w1.cell? ⟨w.heap.size, 3, none⟩ = some (.slice aa xl.length ca) := far 3 (by decide)
  have hbb : Below base w w1 := (b1.mono hbase).trans hb1
  have hl1 := hl.keepB hbb
  have hbs := hbb.size
  have ho1 : (o ++ [bk]).length = o.length + 1 := by simp
  have HB : Hid (Below base w w1) := hbb
  clear hown' hgrow hown hat hlg hb1 hbb b1 x1 ho far hvb hl hW s1
  have fin : ∀ (o1 : List UInt8), Wrote (o ++ [bk]) (bodyOf xk xn xt.data.toList (encL xl)) o1 → Wrote o x.enc o1 := fun o1 h => by
    rw [HE.out]; exact (Wrote.all o [bk]).next h
  have FIN : Hid (∀ (o1 : List UInt8), Wrote (o ++ [bk]) (bodyOf xk xn xt.data.toList (encL xl)) o1 → Wrote o x.enc o1) := fin
  have LEN : Hid ((o ++ [bk]).length + (bodyOf xk xn xt.data.toList (encL xl)).length ≤ 100000000000000) := by
    have := HZ.out
    rw [HE.out, List.length_cons] at this
    show _ ≤ _
    rw [ho1]; omega
  clear fin HE HZ
  have HO1 : Hid ((o ++ [bk]).length = o.length + 1) := ho1
  have hob2 : (o ++ [bk]).length ≤ 100000000000000 := by omega
  have HV : Hid (w1.ownsRow base 5 1 (.slice (some ⟨g, 0, none⟩) (o.length + 1) cap) (o ++ [bk]).length (u8s (o ++ [bk]))) := hown2
  clear ho1 hown2
  generalize o ++ [bk] = p at *
  by_cases e2 : xk = 2
  · subst e2
    have hown : w1.ownsRow base 5 1 (.slice (some ⟨g, 0, none⟩) (o.length + 1) cap) p.length (u8s p) := HV.out
    have hp1 : p.length + 1 ≤ maxLen := by unfold maxLen; omega
    have hp2 : (p.length + 1) * 1 ≤ 140737488355328 := by omega
    go_wp2_with (first
      | (at_builtin; refine wpList_append_lies _ rfl _ _ 48 rfl base 5 i0 (.int .u8 0) 1 1 Tryz.underlying48 hi hz0 hz1 hz2 rfl (by decide) _ _ _ rfl (hown.alloc _) ⟨w1.heap.size, 0, none⟩ 1 1 [.int .u8 (bn.toNat : Int)] rfl rfl (news1 _ w1.heap.size (bn.toNat : Int) (by simp)) (u8s_single _) (by decide) hp1 hp2 (by simp; omega) (w1.heap.size + 1) (by simp) ?_))
    intro g2 cap2 w3 hown' hgrow hat hlg
    obtain ⟨hown2, hb1⟩ := pushed (es := [bn]) (by omega) hown hown' hgrow
    have HF : Hid (Wrote o x.enc (p ++ [bn])) := FIN.out _ (by
      have : bodyOf 2 xn xt.data.toList (encL xl) = [bn] := by rw [← HH.out.2]; rfl
      rw [this]; exact Wrote.all p [bn])
    clear hown' hgrow hat hlg
    go_wp2_with fail
    go_ret
    exact ⟨_, p ++ [bn], rfl, HF.out, hown2, HB.out.trans hb1⟩
  · have g2 : (xk == 2) = false := by simpa using e2
    by_cases e3 : xk = 3
    · subst e3
      have AN := fun v' w' (a : base ≤ w'.heap.size) b => appNum_any base xn hn1 hn2 p v' w' a b hob2
      go_wp2_with fail
      refine (AN _ _ (by omega) HV.out).mono ?_
      rintro e w3 ⟨v3, rfl, hown3, hb3⟩
      have HF : Hid (Wrote o x.enc (p ++ num8 xn)) := FIN.out _ (Wrote.all p (num8 xn))
      clear AN
      go_wp2_with fail
      go_ret
      exact ⟨_, p ++ num8 xn, rfl, HF.out, hown3, HB.out.trans hb3⟩
    · have g3 : (xk == 3) = false := by simpa using e3
      by_cases e4 : xk = 4
      · subst e4
        have AT := fun v' w' (a : base ≤ w'.heap.size) b => appText_any base xt p v' w' a b LEN.out
        go_wp2_with fail
        refine (AT _ _ (by omega) HV.out).mono ?_
        rintro e w3 ⟨v3, o3, rfl, hw3, hown3, hb3⟩
        have HF : Hid (Wrote o x.enc o3) := FIN.out _ hw3
        clear AT hw3
        go_wp2_with fail
        go_ret
        exact ⟨_, o3, rfl, HF.out, hown3, HB.out.trans hb3⟩
      · have g4 : (xk == 4) = false := by simpa using e4
        by_cases e5 : xk = 5
        · subst e5
          have LE5 : Hid (p.length + (encL xl).length + 1 ≤ 100000000000000) := by
            have := LEN.out
            have e : bodyOf 5 xn xt.data.toList (encL xl) = encL xl ++ [0] := rfl
            rw [e, List.length_append] at this
            simp only [List.length_cons, List.length_nil] at this
            show _ ≤ _
            omega
          have IH : Hid (∀ v' w', base ≤ w'.heap.size → ItsAt w' (fun g => g < base) (.slice aa xl.length ca) xl → w'.ownsRow base 5 1 v' p.length (u8s p) → Calls Tryz.prog 51 #[v', .slice aa xl.length ca] w' fun e w'' => ∃ v'' o1, e = .returned v'' ∧ Wrote p (encL xl) o1 ∧ w''.ownsRow base 5 1 v'' o1.length (u8s o1) ∧ Below base w' w'') := fun v' w' a b c => ih xl _ p v' base w' hk a b c (by have := LE5.out; omega)
          clear ih
          go_wp2_with fail
          refine (IH.out _ _ (by omega) hl1 HV.out).mono ?_
          rintro e w3 ⟨v3, o3, rfl, hw3, hown, hb3⟩
          have hbs3 := hb3.size
          have hm3 : o3.length + 1 ≤ 100000000000000 := by have := hw3.most; have := LE5.out; omega
          have HF : Hid (Wrote o x.enc (o3 ++ [0])) := FIN.out _ (hw3.next (Wrote.all o3 [0]))
          have HB3 : Hid (Below base w w3) := HB.out.trans hb3
          have hp1 : o3.length + 1 ≤ maxLen := by unfold maxLen; omega
          have hp2 : (o3.length + 1) * 1 ≤ 140737488355328 := by omega
          clear hw3 hb3 IH FIN LEN LE5 HV HB k0 k1 k2 k3 hl1 HO1
          go_wp2_with (first
            | (at_builtin; refine wpList_append_lies _ rfl _ _ 48 rfl base 5 i0 (.int .u8 0) 1 1 Tryz.underlying48 hi hz0 hz1 hz2 rfl (by decide) _ _ _ rfl (hown.alloc _) ⟨w3.heap.size, 0, none⟩ 1 1 [.int .u8 0] rfl rfl (news1 _ (w3.heap.size) 0 (by simp)) (u8s_single _) (by decide) hp1 hp2 (by simp; omega) (w3.heap.size + 1) (by simp) ?_))
          intro g4 cap4 w4 hown' hgrow hat hlg
          obtain ⟨hown2, hb1⟩ := pushed (es := [0]) (by omega) hown hown' hgrow
          clear hown' hgrow hat hlg
          go_wp2_with fail
          go_ret
          exact ⟨_, o3 ++ [0], rfl, HF.out, hown2, HB3.out.trans hb1⟩
        · have g5 : (xk == 5) = false := by simpa using e5
          have HF : Hid (Wrote o x.enc p) := FIN.out _ (by
            have : bodyOf xk xn xt.data.toList (encL xl) = [] := by unfold bodyOf; rw [if_neg e2, if_neg e3, if_neg e4, if_neg e5]
            rw [this]; exact Wrote.nil p)
          clear FIN LEN e2 e3 e4 e5
          go_wp2_with fail
          go_ret
          exact ⟨_, p, rfl, HF.out, HV.out, HB.out⟩

end Go.Proofs.YtageokjobbjddaaGreatDoor
