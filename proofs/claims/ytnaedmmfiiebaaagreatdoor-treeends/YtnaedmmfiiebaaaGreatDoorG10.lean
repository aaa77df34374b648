import Derived.Test.YtnaedmmfiiebaaaGreatDoorG09
import Derived.Test.YtnaedmmfiiebaaaGreatDoorG00
import Derived.Lib.AppendZeros
import Derived.Test.YtnaedmmfiiebaaaGreatDoorG01
namespace Go.Proofs.YtnaedmmfiiebaaaGreatDoor.T
open Go.RowKit

theorem val_form (p : C.Ch) : ∃ t x, p.val = .iface t x := by
  cases p
  · exact ⟨_, _, rfl⟩
  · exact ⟨_, _, rfl⟩
set_option maxRecDepth 20000 in
set_option maxHeartbeats 8000000 in
theorem wlink_any (A : Nat → Addr) (b : Nat) (n : SN) (pv lv cv : Value) (i : Nat) (key : ByteArray) (p : C.Ch) (w : World) (h : SNR w b n pv lv cv) (hi : i ≤ n.lk.length) (hlen : n.us.length = n.lk.length + 1) (hroom : n.lk.length ≤ 3999) (hk : mayKey key) (hE : ErrC A w) :
    Calls Tryz.prog 163 #[.pointer (some ⟨b, 0, none⟩), .int .i64 (i : Int), .string key, p.val] w fun e w' => New w ⟨[], n.f, B.insL n.lk i (key, 0), C.insL n.us (i + 1) p⟩ e w' := by
  have hf := h.fine
  have HINS : Hid (Calls Tryz.prog 203 #[.agg #[.int .i64 n.f, lv], .int .i64 (i : Int), .agg #[.string key, .int .i64 0]] w fun e w' => ∃ (ua : Option Addr) (um uc : Nat), e = .returned (.tuple #[.agg #[.int .i64 n.f, .slice ua um uc], .nilIface]) ∧ B.LkO w' w.heap.size (.slice ua um uc) (B.insL n.lk i (key, 0)) ∧ Below w.heap.size w w') := by
    refine (B.bins_any A n.f (i : Int) lv n.lk key 0 w (by omega) h.lks hE).mono fun e w' ⟨hv, hb⟩ => ?_
    rcases hv with ⟨_, u, he, ho⟩ | ⟨hg, _⟩
    · obtain ⟨ua, uc, hu⟩ := ho.form
      subst hu
      exact ⟨_, _, _, he, ho, hb⟩
    · exfalso
      simp only [B.hasC, Bool.and_eq_false_iff, decide_eq_false_iff_not] at hg
      omega
  have p1 := h.c1
  have p2 := h.c2
  have HH := hide h
  have hbw : b < w.heap.size := h.row.lt
  obtain ⟨j, hj⟩ : ∃ j, j = i + 1 := ⟨_, rfl⟩
  have hw1 : IntKind.i64.wrap ((i : Int) + 1) = (j : Int) := by rw [IntKind.wrap_i64]; omega
  have HJ : Hid (j ≤ n.us.length ∧ 1 ≤ n.us.length ∧ n.us.length ≤ 4000) := ⟨by omega, by omega, by omega⟩
  have HUS : Hid ((C.insL n.us j p).length ≤ 4001 ∧ (B.insL n.lk i (key, 0)).length ≤ 4000 ∧ ∀ q ∈ B.insL n.lk i (key, 0), mayKey q.1) := by
    refine ⟨by unfold C.insL; rw [List.length_append, List.length_cons, List.length_take, List.length_drop]; omega, by unfold B.insL; rw [List.length_append, List.length_cons, List.length_take, List.length_drop]; omega, fun q hq => ?_⟩
    unfold B.insL at hq
    rcases List.mem_append.1 hq with h | h
    · exact hf.2.2.1 q (List.mem_of_mem_take h)
    · rcases List.mem_cons.1 h with rfl | h
      · exact hk
      · exact hf.2.2.1 q (List.mem_of_mem_drop h)
  rw [← hj]
  clear h hf hE hi hlen hj hroom hk
  obtain ⟨pt, px, hpv⟩ := val_form p
  rw [hpv]
  have HPV := hide hpv
  clear hpv
  go_enter Tryz.func163, Tryz.ntmps163
  go_wp2_with fail
  refine HINS.out.mono ?_
  rintro e w1 ⟨ua, um, uc, rfl, ho, hb1⟩
  have q2 := below_new w1 (.cells #[.int .i64 n.f, .slice ua um uc] 150)
  have x2 := B.RowAt.new w1 #[.int .i64 n.f, .slice ua um uc] 150
  have HO := hide (ho.below q2)
  have HB2 := hide (Below.next hb1 q2)
  have HX2 := hide x2
  clear HINS p1 p2 ho hb1 q2 x2
  go_wp2_with fail
  generalize w1.alloc (.cells #[.int .i64 n.f, .slice ua um uc] 150) = W2 at *
  generalize w1.heap.size = k2 at *
  have k0 := HX2.out.c0
  have k1 := HX2.out.c1
  have k3 := (HH.out.below HB2.out).c3
  obtain ⟨ca, cc, hcv⟩ := HH.out.kids.form
  have HCL : Hid (∀ W, Below W2.heap.size W2 W → Calls Tryz.prog 164 #[cv] W fun e w' => ∃ (g c : Nat), e = .returned (.slice (some ⟨g, 0, none⟩) n.us.length c) ∧ C.LkO w' W.heap.size (.slice (some ⟨g, 0, none⟩) n.us.length c) n.us ∧ Below W.heap.size W w') := fun W hW => by
    refine (C.kclone_any cv n.us W (by have := HJ.out; omega) ((HH.out.below (Below.next HB2.out hW)).kids)).mono fun e w' ⟨u, h1, h2, h3⟩ => ?_
    obtain ⟨g, c, hu, _, _⟩ := has_row h2 (by have := HJ.out; omega)
    subst hu
    exact ⟨g, c, h1, h2, h3⟩
  have HINC : Hid (∀ (W : World) (base g c vb : Nat), C.LkO W base (.slice (some ⟨g, 0, none⟩) n.us.length c) n.us → base ≤ W.heap.size → B.RowAt W vb #[.iface pt px] 97 → g ≠ vb → Calls Tryz.prog 204 #[.slice (some ⟨g, 0, none⟩) n.us.length c, .int .i64 (j : Int), .slice (some ⟨vb, 0, none⟩) 1 1] W fun e w' => ∃ (a4 : Option Addr) (c4 : Nat), e = .returned (.slice a4 (C.insL n.us j p).length c4) ∧ C.LkO w' base (.slice a4 (C.insL n.us j p).length c4) (C.insL n.us j p) ∧ Below base W w') := fun W base g c vb h1 h2 h3 h4 => by
    refine (C.kinsert_any base _ n.us j vb p W (by have := HJ.out; omega) HJ.out.1 h1 h2 (by rw [HPV.out]; exact h3) (fun e => h4 (by simpa [Value.ownBlock] using e))).mono fun e w' ⟨u, g1, g2, g3⟩ => ?_
    obtain ⟨a4, c4, hu⟩ := g2.form
    subst hu
    exact ⟨a4, c4, g1, g2, g3⟩
  subst hcv
  have q5 := below_new W2 (.cells #[.iface pt px] 97)
  have x5 := B.RowAt.new W2 #[.iface pt px] 97
  have s5 : (W2.alloc (.cells #[.iface pt px] 97)).heap.size = W2.heap.size + 1 := by simp
  obtain ⟨y0, y1, y3⟩ : (W2.alloc (.cells #[.iface pt px] 97)).cell? ⟨k2, 0, none⟩ = some (.int .i64 n.f) ∧ (W2.alloc (.cells #[.iface pt px] 97)).cell? ⟨k2, 1, none⟩ = some (.slice ua um uc) ∧ (W2.alloc (.cells #[.iface pt px] 97)).cell? ⟨b, 3, none⟩ = some (.slice ca n.us.length cc) := ⟨(HX2.out.below q5).c0, (HX2.out.below q5).c1, (HH.out.below (Below.next HB2.out q5)).c3⟩
  have f0 := World.new_ne W2 _ k0
  have f3 := World.new_ne W2 _ k3
  generalize hW5 : W2.alloc (.cells #[.iface pt px] 97) = W5 at *
  have HQ5 := hide q5
  have HX5 := hide x5
  have HS5 := hide s5
  clear q5 x5 s5
  go_region_held3 (fun w' => w'.cell? ⟨k2, 0, none⟩ = some (.int .i64 n.f) ∧ w'.cell? ⟨k2, 1, none⟩ = some (.slice ua um uc) ∧ w'.cell? ⟨b, 3, none⟩ = some (.slice ca n.us.length cc)) (go_keep)
    (first
      | (go_at_call 164; refine (HCL.out _ ?_).mono ?_; (first | exact (Below.refl _ _).drew | exact HQ5.out.drew); rintro e w3 ⟨g, c, rfl, ho3, hb3⟩; have HB3 : Hid (Below W2.heap.size W2 w3) := (by first | exact B.undrewB hb3 | exact Below.next HQ5.out (B.undrewB hb3)); have HO3 := hide ho3; have HR3 := hide hb3; (try (have HX5b := hide (HX5.out.drew.below hb3))); have m0 := (HX2.out.below HB3.out).c0; have m1 := (HX2.out.below HB3.out).c1; have m3 := (HH.out.below (Below.next HB2.out HB3.out)).c3; have e0 := World.new_ne w3 _ m0; have e3 := World.new_ne w3 _ m3; clear ho3 hb3)
      | (go_at_call 204; (first
          | (refine (HINC.out _ _ _ _ _ HO3.out HR3.out.size HX5b.out (by have h1 := (HO3.out.blk g rfl).1; have h2 := HS5.out; show g ≠ W2.heap.size; show g ≠ _; simp only [World.drew] at h1; omega)).mono ?_; rintro e w4 ⟨a4, c4, rfl, ho4, hb4⟩; have HO4 := hide ho4; have HB4 : Hid (Below W2.heap.size W2 w4) := (HB3.out.trans (hb4.mono (by have := HS5.out; show W2.heap.size ≤ W5.heap.size; omega))))
          | (refine (HINC.out _ _ _ _ _ (HO3.out.below (below_new w3 (.cells #[.iface pt px] 97))) (Nat.le_trans HR3.out.size (below_new w3 (.cells #[.iface pt px] 97)).size) (B.RowAt.new w3 #[.iface pt px] 97) (by have h1 := (HO3.out.blk g rfl).2; omega)).mono ?_; rintro e w4 ⟨a4, c4, rfl, ho4, hb4⟩; have HO4 := hide ho4; have HB4 : Hid (Below W2.heap.size W2 w4) := ((Below.next HB3.out (below_new w3 (.cells #[.iface pt px] 97))).trans hb4))
         ); have m0 := (HX2.out.below HB4.out).c0; have m1 := (HX2.out.below HB4.out).c1; have m3 := (HH.out.below (Below.next HB2.out HB4.out)).c3; clear ho4 hb4))
  all_goals (
    have q := below_new w4 (.cells #[.slice none 0 0, .int .i64 n.f, .slice ua um uc, .slice a4 (C.insL n.us j p).length c4] 155)
    have xr := B.RowAt.new w4 #[.slice none 0 0, .int .i64 n.f, .slice ua um uc, .slice a4 (C.insL n.us j p).length c4] 155
    have HR : Hid (SNR (w4.alloc (.cells #[.slice none 0 0, .int .i64 n.f, .slice ua um uc, .slice a4 (C.insL n.us j p).length c4] 155)) w4.heap.size ⟨[], n.f, B.insL n.lk i (key, 0), C.insL n.us j p⟩ (.slice none 0 0) (.slice ua um uc) (.slice a4 (C.insL n.us j p).length c4)) := ⟨xr, PrR.nil _, ((HO.out.below HB4.out).below q).at, (HO4.out.below q).at, (fun p hp => by simp at hp), by simp, HUS.out.2.2, HUS.out.2.1, HUS.out.1⟩
    have HBB := hide (Below.next (Below.next HB2.out HB4.out) q)
    clear q xr
    go_wp2
    go_ret
    exact ⟨_, _, _, _, rfl, HR.out, HBB.out⟩)

end Go.Proofs.YtnaedmmfiiebaaaGreatDoor.T

namespace Go.Proofs.YtnaedmmfiiebaaaGreatDoor
open Go.RowKit

/-- A list of the call's own that reads as these pairs. -/
def PrO (w : World) (base : Nat) (v : Value) (l : List Pr) : Prop := w.ownsRow base 52 2 v l.length (prs l)
theorem PrO.at {w : World} {base : Nat} {v : Value} {l : List Pr} (h : PrO w base v l) : PrR w v l := PrR.of_owns h
theorem PrO.form {w : World} {base : Nat} {v : Value} {l : List Pr} (h : PrO w base v l) : ∃ a c, v = .slice a l.length c := h.at.form
theorem PrO.below {w w' : World} {base : Nat} {v : Value} {l : List Pr} (h : PrO w base v l) (hb : Below w.heap.size w w') : PrO w' base v l := by
  refine ⟨h.1, ?_⟩
  rcases h.2 with h' | ⟨g, cap, cur, h', h1, h2, hr⟩
  · exact .inl h'
  · refine .inr ⟨g, cap, cur, h', h1, ?_, hr⟩
    have hg : g < w.heap.size := by
      rcases Nat.lt_or_ge g w.heap.size with h' | h'
      · exact h'
      · rw [Array.getElem?_eq_none h'] at h2; cases h2
    rw [hb.block g hg]; exact h2
theorem PrO.mono {w : World} {b b2 : Nat} {v : Value} {l : List Pr} (h : PrO w b v l) (hb : b2 ≤ b) : PrO w b2 v l := by
  refine ⟨h.1, ?_⟩
  rcases h.2 with h' | ⟨g, cap, cur, h', h1, hr⟩
  · exact .inl h'
  · exact .inr ⟨g, cap, cur, h', Nat.le_trans hb h1, hr⟩
theorem PrO.nil (w : World) (base : Nat) : PrO w base (.slice none 0 0) [] := World.ownsRow_nil _ _ _ _

/-- append(v, s...) of pairs. -/
theorem append_prs (base : Nat) (v s : Value) (xs us : List Pr) (w : World) (hown : PrO w base v xs) (hs : PrR w s us) (hb : (xs.length + us.length) * 32 ≤ 140737488355328) (hbase : base ≤ w.heap.size) :
    ∃ a' cap' w', (Builtin.append_ #[63, 63] 63 #[v, s]).run Tryz.prog w = .ok (.slice a' (xs.length + us.length) cap') w' ∧ PrO w' base (.slice a' (xs.length + us.length) cap') (xs ++ us) ∧ w.grownBy w' v.ownBlock := by
  obtain ⟨i0, hi, hz, hsz, hby⟩ := info_parts infoP
  obtain ⟨a, cap, rfl, hle, hnil, hc⟩ := hs
  have hf0 : ∃ a' c', v = .slice a' xs.length c' := hown.form
  unfold PrO at hown ⊢
  rw [List.length_append, prs_append]
  cases a with
  | none =>
    have h0 : us = [] := by
      cases us with
      | nil => rfl
      | cons u r => obtain ⟨g, o, he, _⟩ := hc 0 (by simp); cases he
    subst h0
    rw [hnil rfl]
    have hr := run_append_owned_none (P := Tryz.prog) w base 63 63 52 i0 2 Tryz.underlying63 hi v xs.length (prs xs) hown
    obtain ⟨a', c', rfl⟩ := hf0
    exact ⟨a', c', w, hr, by simpa [prs] using hown, ⟨rfl, rfl, rfl, Nat.le_refl _, fun _ _ _ => rfl⟩⟩
  | some ad =>
    obtain ⟨v', w', hr, hown', hgr, _⟩ := run_append_own (P := Tryz.prog) w base 63 63 52 i0 _ 2 32 Tryz.underlying63 hi hz hsz hby rfl (by decide) v xs.length (prs xs) hown ad us.length cap (prs us) (prs_length us) (fun j u hj => by
      have hj' := (List.getElem?_eq_some_iff.1 hj).1
      rw [prs_length] at hj'
      obtain ⟨g, o, he, c1, c2⟩ := hc (j / 2) (by omega)
      cases he
      have hg := prs_get us (j / 2) (by omega)
      rw [add_plain']
      rcases Nat.mod_two_eq_zero_or_one j with hm | hm
      · have e : j / 2 * 2 = j := by omega
        rw [e] at hg c1
        rw [hg.1] at hj; cases hj; exact c1
      · have e : j / 2 * 2 + 1 = j := by omega
        rw [Nat.add_assoc, e] at c2
        rw [e] at hg
        rw [hg.2] at hj; cases hj; exact c2) (prs_one us) (by unfold maxLen; omega) hb hbase
    have hf : ∃ a' c', v' = .slice a' (xs.length + us.length) c' := by
      rcases hown'.2 with ⟨rfl, h0⟩ | ⟨g, cap, cur, rfl, _⟩
      · exact ⟨none, 0, by rw [h0]⟩
      · exact ⟨_, _, rfl⟩
    obtain ⟨a', c', rfl⟩ := hf
    exact ⟨a', c', w', hr, hown', hgr⟩

theorem PrO.blk {w : World} {base : Nat} {v : Value} {l : List Pr} (h : PrO w base v l) : ∀ k, v.ownBlock = some k → base ≤ k ∧ k < w.heap.size := World.ownsRow.lt h
theorem prR_lit (w : World) (p : Pr) (t : TypeId) : PrR (w.alloc (.cells #[.string p.1, .string p.2] t)) (.slice (some ⟨w.heap.size, 0, none⟩) 1 1) [p] := by
  have hb := boxed_new w #[.string p.1, .string p.2] t
  refine ⟨_, _, rfl, Nat.le_refl _, fun h => (by cases h), fun j hj => ⟨_, _, rfl, ?_, ?_⟩⟩
  · have : j = 0 := by simpa using hj
    subst this
    exact hb.2 0 (by simp)
  · have : j = 0 := by simpa using hj
    subst this
    exact hb.2 1 (by simp)
/-- v = append(v, p). -/
theorem push_prs (base : Nat) (v : Value) (l : List Pr) (p : Pr) (t : TypeId) (w w0 : World) (B n : Nat) (hn : l.length = n) (hown : PrO w base v l) (hb : (n + 1) * 32 ≤ 140737488355328) (hbase : base ≤ w.heap.size) (hB : B ≤ base) (h0 : Below B w0 w) :
    ∃ a' cap' w', (Builtin.append_ #[63, 63] 63 #[v, .slice (some ⟨w.heap.size, 0, none⟩) 1 1]).run Tryz.prog (w.alloc (.cells #[.string p.1, .string p.2] t)) = .ok (.slice a' (n + 1) cap') w' ∧ PrO w' base (.slice a' (n + 1) cap') (l ++ [p]) ∧ Below B w0 w' ∧ w.heap.size ≤ w'.heap.size := by
  subst hn
  have ho : PrO (w.alloc (.cells #[.string p.1, .string p.2] t)) base v l := World.ownsRow.alloc hown _
  obtain ⟨a', cap', w', hr, hown', hg⟩ := append_prs base v _ l [p] _ ho (prR_lit w p t) (by simpa using hb) (by simp; omega)
  refine ⟨a', cap', w', hr, hown', ?_, ?_⟩
  · refine (h0.alloc (Nat.le_trans hB hbase) _).grown hg (by simp; omega) (fun k hk => Nat.le_trans hB (hown.blk k hk).1)
  · have := hg.size
    simp at this
    omega

end Go.Proofs.YtnaedmmfiiebaaaGreatDoor

namespace Go.Proofs.YtnaedmmfiiebaaaGreatDoor
open Go.RowKit

theorem zeroP_cells (n : Nat) : (Builtin.zeroCells (Value.agg #[.string ByteArray.empty, .string ByteArray.empty]).cells n).size = n * 2 := by
  simp [Builtin.zeroCells, Value.cells]

set_option maxHeartbeats 1000000 in
theorem grow_any (n : Nat) (w : World) (hn : n * 32 ≤ 140737488355328) :
    Calls Tryz.prog 130 #[.slice none 0 0, .int .i64 (n : Int)] w fun e w' => ∃ u, e = .returned u ∧ PrO w' w.heap.size u [] ∧ Below w.heap.size w w' := by
  obtain ⟨i0, hi, hz, hsz, hby⟩ := info_parts infoP
  have hd0 : decide ((n : Int) < 0) = false := decide_eq_false (by omega)
  by_cases h0 : 0 < n
  · have hrun := Lib.run_append_nil_zeros (P := Tryz.prog) w 63 3 63 52 i0 _ .i64 .i64 Tryz.underlying63 Tryz.underlying3 hi hz n h0 (by omega) (by omega) (by rw [hby]; omega)
    have hpos : (0 : Int) < (n : Int) := by omega
    have hw : IntKind.i64.wrap ((n : Int)) = (n : Int) := by rw [IntKind.wrap_i64]; omega
    generalize hcap : grownCap w n 0 52 = cap at *
    have hle : n ≤ cap := by rw [← hcap]; exact grownCap_ge _ _ _ _
    have hmx : cap ≤ maxLen := by rw [← hcap]; exact grownCap_le_maxLen _ _ _ _ (by unfold maxLen; omega)
    generalize hcs : Builtin.zeroCells _ n ++ Builtin.zeroCells _ (cap - n) = cs at hrun
    have hcsz : cs.size = cap * 2 := by rw [← hcs, Array.size_append, zeroP_cells, zeroP_cells]; omega
    have HO : Hid (PrO (w.drew.alloc (.cells cs 52)) w.heap.size (.slice (some ⟨w.heap.size, 0, none⟩) 0 cap) []) :=
      ⟨by simp [prs], .inr ⟨w.heap.size, cap, cs, rfl, Nat.le_refl _, heap_alloc_new w.drew _, Nat.zero_le _, hmx, hcsz, by simp [prs]⟩⟩
    have HB : Hid (Below w.heap.size w (w.drew.alloc (.cells cs 52))) := ((Below.refl _ _).drew).alloc (Nat.le_refl _) _
    clear hcs hcap hi hz hsz hby hcsz
    go_enter Tryz.func130, Tryz.ntmps130
    go_wp2_with (first | (at_builtin; refine Lib.wpList_append_run _ rfl (.tmp 20) (.tmp 21) 63 3 rfl _ _ rfl rfl _ _ hrun ?_))
    go_ret
    exact ⟨_, rfl, HO.out, HB.out⟩
  · obtain rfl : n = 0 := by omega
    go_enter Tryz.func130, Tryz.ntmps130
    go_wp2
    go_ret
    exact ⟨_, rfl, PrO.nil _ _, Below.refl _ _⟩

/-- How many pairs the first k lists have. -/
def lensTo (LL : List (List Pr)) (k : Nat) : Nat := ((LL.take k).flatten).length
theorem lensTo_succ (LL : List (List Pr)) (k : Nat) (h : k < LL.length) : lensTo LL (k + 1) = lensTo LL k + LL[k].length := by
  unfold lensTo
  rw [List.take_succ_eq_append_getElem h, List.flatten_append, List.length_append]; simp
theorem lensTo_le (LL : List (List Pr)) (k : Nat) : lensTo LL k ≤ LL.flatten.length := by
  unfold lensTo
  conv => rhs; rw [← List.take_append_drop k LL, List.flatten_append, List.length_append]
  omega

set_option maxHeartbeats 2000000 in
theorem concat_any (B m cap : Nat) (svs : List Value) (LL : List (List Pr)) (w : World) (hm : LL.length = m) (hmb : m ≤ 3) (hs : svs.length = m) (hbig : LL.flatten.length * 32 ≤ 140737488355328)
    (hc : ∀ j (h : j < svs.length), w.cell? ⟨B, j, none⟩ = some svs[j]) (hr : ∀ j (h : j < LL.length) (h' : j < svs.length), PrR w svs[j] LL[j]) :
    Calls Tryz.prog 84 #[.slice (some ⟨B, 0, none⟩) m cap] w fun e w' => ∃ u, e = .returned u ∧ PrO w' w.heap.size u LL.flatten ∧ Below w.heap.size w w' := by
  have HM := hide hm
  have HS := hide hs
  have HC := hide hc
  have HR := hide hr
  have HBIG := hide hbig
  obtain ⟨T, hT⟩ : ∃ T, T = LL.flatten.length := ⟨_, rfl⟩
  have HT := hide hT
  have hTb : T * 32 ≤ 140737488355328 := by rw [hT]; exact hbig
  have HL0 : Hid (lensTo LL 0 = 0) := by show _ = _; simp [lensTo]
  clear hm hs hc hr hbig hT
  go_enter Tryz.func84, Tryz.ntmps84
  go_wp2
  go_loop [3, 11] (fun r i => ∃ k : Nat, k ≤ m ∧ i = .int .i64 k ∧ r = .int .i64 (lensTo LL k : Int)) (fun _ i => m - (intOf i).toNat)
  case atStart => exact ⟨0, Nat.zero_le _, rfl, by rw [HL0.out]; rfl⟩
  case round =>
    obtain ⟨k, hk, rfl, rfl⟩ := hrel
    by_cases hlt : k < m
    · have hk1 : k < svs.length := by have := HS.out; omega
      have hk2 : k < LL.length := by have := HM.out; omega
      have c1 := HC.out k hk1
      obtain ⟨a, c, hf⟩ := (HR.out k hk2 hk1).form
      rw [hf] at c1
      have HSU := hide (lensTo_succ LL k hk2)
      have HLE := hide (lensTo_le LL (k + 1))
      obtain ⟨x, hx⟩ : ∃ x, x = lensTo LL k := ⟨_, rfl⟩
      obtain ⟨y, hy⟩ : ∃ y, y = lensTo LL (k + 1) := ⟨_, rfl⟩
      obtain ⟨z, hz⟩ : ∃ z, z = LL[k].length := ⟨_, rfl⟩
      rw [← hx, ← hy, ← hz] at HSU
      rw [← hy, ← HT.out] at HLE
      rw [← hx]
      rw [← hz] at c1
      have HY := hide hy
      have hw : IntKind.i64.wrap ((x : Int) + (z : Int)) = (y : Int) := by rw [IntKind.wrap_i64]; have := HSU.out; have := HLE.out; omega
      have hd0 : decide ((y : Int) < 0) = false := decide_eq_false (by omega)
      have hltI : (k : Int) < (m : Int) := by omega
      clear hx hy hz hf HC HR
      go_wp2
      go_round
      case rel => exact ⟨k + 1, by omega, by go_num, by rw [← HY.out]⟩
      case measure => simp [intOf]; omega
    · have hkm : k = m := by omega
      subst hkm
      have hall : lensTo LL k = T := by
        rw [HT.out]; unfold lensTo; rw [List.take_of_length_le (by rw [HM.out]; exact Nat.le_refl _)]
      rw [hall]
      have hltI : ¬ (k : Int) < (k : Int) := by omega
      have HG := hide (grow_any T w hTb)
      clear hall hlt hk
      go_wp2_with fail
      refine HG.out.mono ?_
      rintro e w1 ⟨u, rfl, hown, hb1⟩
      have HO := hide hown
      have HB1 := hide hb1
      clear hown hb1 HG
      go_wp2
      go_loopw [6, 27] (fun u i wr => ∃ j : Nat, j ≤ k ∧ i = .int .i64 j ∧ PrO wr w.heap.size u ((LL.take j).flatten) ∧ Below w.heap.size w wr) (fun _ i _ => k - (intOf i).toNat)
      case atStart => exact ⟨0, Nat.zero_le _, rfl, by simpa using HO.out, HB1.out⟩
      case round =>
        obtain ⟨j, hj, rfl, hown, hbw⟩ := hrel
        clear HO HB1
        by_cases hlt : j < k
        · have hk1 : j < svs.length := by have := HS.out; omega
          have hk2 : j < LL.length := by have := HM.out; omega
          have c0 := HC.out j hk1
          have c1 : wr.cell? ⟨B, j, none⟩ = some svs[j] := (hbw.cell (p := ⟨B, j, none⟩) (World.block_lt_of_cell? w _ c0)).trans c0
          have hr1 := (HR.out j hk2 hk1).below hbw
          have hle := lensTo_le LL (j + 1)
          rw [lensTo_succ LL j hk2, ← HT.out] at hle
          unfold lensTo at hle
          obtain ⟨a1, cp1, w2, hrun, hown1, hg1⟩ := append_prs w.heap.size _ _ _ _ wr hown hr1 (by omega) hbw.size
          have hb2 : Below w.heap.size w w2 := hbw.grown hg1 hbw.size (fun q hq => (hown.blk q hq).1)
          obtain ⟨a, c, hf⟩ := hr1.form
          obtain ⟨ua, uc, hu⟩ := hown.form
          subst hu
          rw [hf] at c1 hrun
          have hfl : (LL.take j).flatten ++ LL[j] = (LL.take (j + 1)).flatten := by
            rw [List.take_succ_eq_append_getElem hk2, List.flatten_append]; simp
          rw [hfl] at hown1
          generalize ((LL.take j).flatten).length = L1 at *
          generalize LL[j].length = L2 at *
          have HO2 := hide hown1
          have HB2 := hide hb2
          have hltI : (j : Int) < (k : Int) := by omega
          clear hf HC HR hown hown1 hbw hb2 hg1 hr1 c0 hle
          go_wp2_with (first | (at_builtin; refine wpList_append_run 63 rfl (.tmp 31) (.tmp 32) rfl rfl _ _ rfl rfl _ _ hrun ?_))
          clear hrun
          go_wp2
          go_roundw
          case rel => exact ⟨j + 1, by omega, by go_num, HO2.out, HB2.out⟩
          case measure => simp [intOf]; omega
        · have hall : LL.take j = LL := by rw [List.take_of_length_le]; have := HM.out; omega
          rw [hall] at hown
          have HO := hide hown
          have HB := hide hbw
          have hltI : ¬ (j : Int) < (k : Int) := by omega
          clear hown hbw hall HC HR
          go_wp2
          go_ret
          exact ⟨_, rfl, HO.out, HB.out⟩

set_option maxHeartbeats 400000 in
theorem behind_any (n : Nat) (b : Bool) (w : World) (hn : n ≤ 140737488355328) :
    Calls Tryz.prog 85 #[.int .i64 (n : Int), .bool b] w fun e w' => e = .returned (.int .i64 ((if b then n + 1 else n : Nat) : Int)) ∧ w = w' := by
  cases b with
  | true =>
    go_enter Tryz.func85, Tryz.ntmps85
    go_wp2
    go_ret
    exact ⟨by go_num, rfl⟩
  | false =>
    go_enter Tryz.func85, Tryz.ntmps85
    go_wp2
    go_ret
    exact ⟨rfl, rfl⟩

end Go.Proofs.YtnaedmmfiiebaaaGreatDoor

namespace Go.Proofs.YtnaedmmfiiebaaaGreatDoor.B
open Go.RowKit

theorem zeroK_cells (n : Nat) : (Builtin.zeroCells (Value.agg #[.string ByteArray.empty, .int .i64 0]).cells n).size = n * 2 := by
  simp [Builtin.zeroCells, Value.cells]

set_option maxHeartbeats 1000000 in
theorem kgrow_any (n : Nat) (w : World) (hn : n * 24 ≤ 140737488355328) :
    Calls Tryz.prog 234 #[.slice none 0 0, .int .i64 (n : Int)] w fun e w' => ∃ u, e = .returned u ∧ LkO w' w.heap.size u [] ∧ Below w.heap.size w w' := by
  obtain ⟨i0, hi, hz, hsz, hby⟩ := info_parts infoK
  have hd0 : decide ((n : Int) < 0) = false := decide_eq_false (by omega)
  by_cases h0 : 0 < n
  · have hrun := Lib.run_append_nil_zeros (P := Tryz.prog) w 148 3 148 179 i0 _ .i64 .i64 Tryz.underlying148 Tryz.underlying3 hi hz n h0 (by omega) (by omega) (by rw [hby]; omega)
    have hpos : (0 : Int) < (n : Int) := by omega
    have hw : IntKind.i64.wrap ((n : Int)) = (n : Int) := by rw [IntKind.wrap_i64]; omega
    generalize hcap : grownCap w n 0 179 = cap at *
    have hle : n ≤ cap := by rw [← hcap]; exact grownCap_ge _ _ _ _
    have hmx : cap ≤ maxLen := by rw [← hcap]; exact grownCap_le_maxLen _ _ _ _ (by unfold maxLen; omega)
    generalize hcs : Builtin.zeroCells _ n ++ Builtin.zeroCells _ (cap - n) = cs at hrun
    have hcsz : cs.size = cap * 2 := by rw [← hcs, Array.size_append, zeroK_cells, zeroK_cells]; omega
    have HO : Hid (LkO (w.drew.alloc (.cells cs 179)) w.heap.size (.slice (some ⟨w.heap.size, 0, none⟩) 0 cap) []) :=
      ⟨by simp [lks], .inr ⟨w.heap.size, cap, cs, rfl, Nat.le_refl _, heap_alloc_new w.drew _, Nat.zero_le _, hmx, hcsz, by simp [lks]⟩⟩
    have HB : Hid (Below w.heap.size w (w.drew.alloc (.cells cs 179))) := ((Below.refl _ _).drew).alloc (Nat.le_refl _) _
    clear hcs hcap hi hz hsz hby hcsz
    go_enter Tryz.func234, Tryz.ntmps234
    go_wp2_with (first | (at_builtin; refine Lib.wpList_append_run _ rfl (.tmp 20) (.tmp 21) 148 3 rfl _ _ rfl rfl _ _ hrun ?_))
    go_ret
    exact ⟨_, rfl, HO.out, HB.out⟩
  · obtain rfl : n = 0 := by omega
    go_enter Tryz.func234, Tryz.ntmps234
    go_wp2
    go_ret
    exact ⟨_, rfl, LkO.nil _ _, Below.refl _ _⟩

/-- How many links the first k lists have. -/
def lensToK (LL : List (List Lk)) (k : Nat) : Nat := ((LL.take k).flatten).length
theorem lensToK_succ (LL : List (List Lk)) (k : Nat) (h : k < LL.length) : lensToK LL (k + 1) = lensToK LL k + LL[k].length := by
  unfold lensToK
  rw [List.take_succ_eq_append_getElem h, List.flatten_append, List.length_append]; simp
theorem lensToK_le (LL : List (List Lk)) (k : Nat) : lensToK LL k ≤ LL.flatten.length := by
  unfold lensToK
  conv => rhs; rw [← List.take_append_drop k LL, List.flatten_append, List.length_append]
  omega

set_option maxHeartbeats 2000000 in
theorem kconcat_any (B m cap : Nat) (svs : List Value) (LL : List (List Lk)) (w : World) (hm : LL.length = m) (hmb : m ≤ 3) (hs : svs.length = m) (hbig : LL.flatten.length * 24 ≤ 140737488355328)
    (hc : ∀ j (h : j < svs.length), w.cell? ⟨B, j, none⟩ = some svs[j]) (hr : ∀ j (h : j < LL.length) (h' : j < svs.length), LkR w svs[j] LL[j]) :
    Calls Tryz.prog 205 #[.slice (some ⟨B, 0, none⟩) m cap] w fun e w' => ∃ u, e = .returned u ∧ LkO w' w.heap.size u LL.flatten ∧ Below w.heap.size w w' := by
  have HM := hide hm
  have HS := hide hs
  have HC := hide hc
  have HR := hide hr
  have HBIG := hide hbig
  obtain ⟨T, hT⟩ : ∃ T, T = LL.flatten.length := ⟨_, rfl⟩
  have HT := hide hT
  have hTb : T * 24 ≤ 140737488355328 := by rw [hT]; exact hbig
  have HL0 : Hid (lensToK LL 0 = 0) := by show _ = _; simp [lensToK]
  clear hm hs hc hr hbig hT
  go_enter Tryz.func205, Tryz.ntmps205
  go_wp2
  go_loop [3, 11] (fun r i => ∃ k : Nat, k ≤ m ∧ i = .int .i64 k ∧ r = .int .i64 (lensToK LL k : Int)) (fun _ i => m - (intOf i).toNat)
  case atStart => exact ⟨0, Nat.zero_le _, rfl, by rw [HL0.out]; rfl⟩
  case round =>
    obtain ⟨k, hk, rfl, rfl⟩ := hrel
    by_cases hlt : k < m
    · have hk1 : k < svs.length := by have := HS.out; omega
      have hk2 : k < LL.length := by have := HM.out; omega
      have c1 := HC.out k hk1
      obtain ⟨a, c, hf⟩ := (HR.out k hk2 hk1).form
      rw [hf] at c1
      have HSU := hide (lensToK_succ LL k hk2)
      have HLE := hide (lensToK_le LL (k + 1))
      obtain ⟨x, hx⟩ : ∃ x, x = lensToK LL k := ⟨_, rfl⟩
      obtain ⟨y, hy⟩ : ∃ y, y = lensToK LL (k + 1) := ⟨_, rfl⟩
      obtain ⟨z, hz⟩ : ∃ z, z = LL[k].length := ⟨_, rfl⟩
      rw [← hx, ← hy, ← hz] at HSU
      rw [← hy, ← HT.out] at HLE
      rw [← hx]
      rw [← hz] at c1
      have HY := hide hy
      have hw : IntKind.i64.wrap ((x : Int) + (z : Int)) = (y : Int) := by rw [IntKind.wrap_i64]; have := HSU.out; have := HLE.out; omega
      have hd0 : decide ((y : Int) < 0) = false := decide_eq_false (by omega)
      have hltI : (k : Int) < (m : Int) := by omega
      clear hx hy hz hf HC HR
      go_wp2
      go_round
      case rel => exact ⟨k + 1, by omega, by go_num, by rw [← HY.out]⟩
      case measure => simp [intOf]; omega
    · have hkm : k = m := by omega
      subst hkm
      have hall : lensToK LL k = T := by
        rw [HT.out]; unfold lensToK; rw [List.take_of_length_le (by rw [HM.out]; exact Nat.le_refl _)]
      rw [hall]
      have hltI : ¬ (k : Int) < (k : Int) := by omega
      have HG := hide (kgrow_any T w hTb)
      clear hall hlt hk
      go_wp2_with fail
      refine HG.out.mono ?_
      rintro e w1 ⟨u, rfl, hown, hb1⟩
      have HO := hide hown
      have HB1 := hide hb1
      clear hown hb1 HG
      go_wp2
      go_loopw [6, 27] (fun u i wr => ∃ j : Nat, j ≤ k ∧ i = .int .i64 j ∧ LkO wr w.heap.size u ((LL.take j).flatten) ∧ Below w.heap.size w wr) (fun _ i _ => k - (intOf i).toNat)
      case atStart => exact ⟨0, Nat.zero_le _, rfl, by simpa using HO.out, HB1.out⟩
      case round =>
        obtain ⟨j, hj, rfl, hown, hbw⟩ := hrel
        clear HO HB1
        by_cases hlt : j < k
        · have hk1 : j < svs.length := by have := HS.out; omega
          have hk2 : j < LL.length := by have := HM.out; omega
          have c0 := HC.out j hk1
          have c1 : wr.cell? ⟨B, j, none⟩ = some svs[j] := (hbw.cell (p := ⟨B, j, none⟩) (World.block_lt_of_cell? w _ c0)).trans c0
          have hr1 := (HR.out j hk2 hk1).below hbw
          have hle := lensToK_le LL (j + 1)
          rw [lensToK_succ LL j hk2, ← HT.out] at hle
          unfold lensToK at hle
          obtain ⟨a1, cp1, w2, hrun, hown1, hg1⟩ := append_lks w.heap.size _ _ _ _ wr hown hr1 (by omega) hbw.size
          have hb2 : Below w.heap.size w w2 := hbw.grown hg1 hbw.size (fun q hq => (hown.blk q hq).1)
          obtain ⟨a, c, hf⟩ := hr1.form
          obtain ⟨ua, uc, hu⟩ := hown.form
          subst hu
          rw [hf] at c1 hrun
          have hfl : (LL.take j).flatten ++ LL[j] = (LL.take (j + 1)).flatten := by
            rw [List.take_succ_eq_append_getElem hk2, List.flatten_append]; simp
          rw [hfl] at hown1
          generalize ((LL.take j).flatten).length = L1 at *
          generalize LL[j].length = L2 at *
          have HO2 := hide hown1
          have HB2 := hide hb2
          have hltI : (j : Int) < (k : Int) := by omega
          clear hf HC HR hown hown1 hbw hb2 hg1 hr1 c0 hle
          go_wp2_with (first | (at_builtin; refine wpList_append_run 148 rfl (.tmp 31) (.tmp 32) rfl rfl _ _ rfl rfl _ _ hrun ?_))
          clear hrun
          go_wp2
          go_roundw
          case rel => exact ⟨j + 1, by omega, by go_num, HO2.out, HB2.out⟩
          case measure => simp [intOf]; omega
        · have hall : LL.take j = LL := by rw [List.take_of_length_le]; have := HM.out; omega
          rw [hall] at hown
          have HO := hide hown
          have HB := hide hbw
          have hltI : ¬ (j : Int) < (k : Int) := by omega
          clear hown hbw hall HC HR
          go_wp2
          go_ret
          exact ⟨_, rfl, HO.out, HB.out⟩

end Go.Proofs.YtnaedmmfiiebaaaGreatDoor.B
