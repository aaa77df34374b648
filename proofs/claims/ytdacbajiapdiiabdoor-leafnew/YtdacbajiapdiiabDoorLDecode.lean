import Derived.Test.YtdacbajiapdiiabDoorLPairOf
import Derived.Test.YtdacbajiapdiiabDoorChk2
import Derived.Test.YtdacbajiapdiiabDoorCRead
namespace Go.Proofs.YtdacbajiapdiiabDoor
open Go.RowKit

/-- What the list holds when k pairs are read. -/
def dcAt (L : List Pr) (k : Nat) : List Value := prs (L.take k) ++ List.replicate ((L.length - k) * 2) (.string ByteArray.empty)
theorem dcAt_len (L : List Pr) (k : Nat) (h : k ≤ L.length) : (dcAt L k).length = L.length * 2 := by
  unfold dcAt; rw [List.length_append, prs_length, List.length_take, List.length_replicate]; omega
theorem dcAt_set (L : List Pr) (k : Nat) (h : k < L.length) : ((dcAt L k).set (k * 2) (.string L[k].1)).set (k * 2 + 1) (.string L[k].2) = dcAt L (k + 1) := by
  have hl : (prs (L.take k)).length = k * 2 := by rw [prs_length, List.length_take]; omega
  unfold dcAt
  rw [List.set_append_right _ _ (by omega), hl, Nat.sub_self, show (L.length - k) * 2 = (L.length - (k + 1)) * 2 + 1 + 1 by omega, List.replicate_succ, List.replicate_succ, List.set_cons_zero]
  rw [List.set_append_right _ _ (by omega), hl, show k * 2 + 1 - k * 2 = 1 by omega, List.set_cons_succ, List.set_cons_zero, List.take_succ_eq_append_getElem h, prs_append, List.append_assoc]
  rfl
theorem dcAt_zero (L : List Pr) : dcAt L 0 = List.replicate (L.length * 2) (.string ByteArray.empty) := by simp [dcAt, prs]
theorem dcAt_all (L : List Pr) : dcAt L L.length = prs L := by simp [dcAt]
theorem made_two (z : Value) (n : Nat) : (madeCells #[z, z] n).toList = List.replicate n z := by
  apply List.ext_getElem?
  intro j
  by_cases hj : j < n
  · rcases Nat.mod_two_eq_zero_or_one j with h | h <;> simp [madeCells, hj, h]
  · simp [madeCells, hj]
theorem own_below2 {w w' : World} {base e n : Nat} {v : Value} {xs : List Value} (h : w.ownsRow base e 2 v n xs) (hb : Below w.heap.size w w') : w'.ownsRow base e 2 v n xs := by
  refine ⟨h.1, ?_⟩
  rcases h.2 with h' | ⟨g, cap, cur, h', h1, h2, hr⟩
  · exact .inl h'
  · refine .inr ⟨g, cap, cur, h', h1, ?_, hr⟩
    have hg : g < w.heap.size := by
      rcases Nat.lt_or_ge g w.heap.size with h' | h'
      · exact h'
      · rw [Array.getElem?_eq_none h'] at h2; cases h2
    rw [hb.block g hg]; exact h2

/-- What Decode answers. -/
def DecV (A : Nat → Addr) (c : Int) (s : ByteArray) (base : Nat) (e : Ending) (w : World) : Prop :=
  (0 ≤ c ∧ DecOk c.toNat s.data.toList ∧ ∃ u, e = .returned (.tuple #[u, .nilIface]) ∧ PrO w base u (decL c.toNat s.data.toList)) ∨
    (¬ (0 ≤ c ∧ DecOk c.toNat s.data.toList) ∧ e = .returned (.tuple #[.slice none 0 0, .iface 128 (.pointer (some (A 1)))]))

set_option maxRecDepth 20000 in
set_option maxHeartbeats 4000000 in
theorem ldec_any (A : Nat → Addr) (c : Int) (s : ByteArray) (w : World) (hE : ErrC A w) :
    Calls Tryd.prog 6 #[.int .i64 c, .string s] w fun e w' => DecV A c s w.heap.size e w' ∧ Below w.heap.size w w' := by
  have HRD := hide (read_any A c s w hE.1)
  have HE := hide hE
  obtain ⟨i0, hi, hz, hsz, hby⟩ := info_parts infoP
  clear hE
  obtain ⟨Q, hQ⟩ : ∃ Q : Ending → World → Prop, Q = fun e w' => DecV A c s w.heap.size e w' ∧ Below w.heap.size w w' := ⟨_, rfl⟩
  rw [← hQ]
  have HQ := hide hQ
  clear hQ
  go_enter Tryd.func6, Tryd.ntmps6
  go_wp2_with fail
  refine HRD.out.mono ?_
  rintro e w1 ⟨⟨hc0, hok, g, rfl, hown⟩ | ⟨hno, rfl⟩, hb1⟩
  · obtain ⟨n, rfl⟩ := Int.eq_ofNat_of_zero_le hc0
    simp only [Int.toNat_natCast] at hok hown ⊢
    have hn := hok.1.1
    obtain ⟨B, hB⟩ : ∃ B, B = s.data.toList := ⟨_, rfl⟩
    obtain ⟨CB, hCB⟩ : ∃ CB, CB = cellsB B n := ⟨_, rfl⟩
    have hCl : CB.length = n := by rw [hCB, cellsB_len]
    rw [← hB] at hok hown
    rw [← hCB] at hown
    have hCsz : ∀ x ∈ CB, x.size ≤ 4072 := fun x hx => by
      rw [hCB] at hx
      obtain ⟨j, hj, rfl⟩ := List.getElem_of_mem hx
      rw [cellsB_len] at hj
      rw [← bsize, cellsB_get, cellB_len hok j hj]
      have := endB_le hok (j + 1) (by omega)
      omega
    have hLL : (CB.map pairC).length = n := by rw [List.length_map, hCl]
    obtain ⟨wm, hmk, hown0, hg0⟩ := run_make_full (P := Tryd.prog) w1 w1.heap.size 24 45 i0 _ 2 Tryd.underlying24 hi hz hsz .i64 .i64 n (by rw [hby]; omega) (by unfold maxLen; omega) (Nat.le_refl _)
    have hz0 : (madeCells (Value.agg #[.string ByteArray.empty, .string ByteArray.empty]).cells (n * 2)).toList = dcAt (CB.map pairC) 0 := by
      rw [dcAt_zero, hLL]; exact made_two _ _
    rw [hz0] at hown0
    have hbm : Below w1.heap.size w1 wm := (Below.refl _ _).grown hg0 (Nat.le_refl _) (fun j hj => by cases hj)
    obtain ⟨b, hb⟩ : ∃ b, b = w1.heap.size := ⟨_, rfl⟩
    rw [← hb] at hmk hown0
    have HB := hide hb
    have HO := hide hown0
    have HBM := hide hbm
    have HB1 := hide hb1
    have HTX := hide (rowR_of_owns hown).strs
    have HOK := hide hok
    have HCL := hide hCl
    have HCS := hide hCsz
    have HLL := hide hLL
    have HCB := hide hCB
    have HBB := hide hB
    clear hb hown0 hbm hg0 hi hz hsz hby hz0 hb1 HRD hown hok hCl hCsz hLL hCB hB hc0
    go_wp2
    clear hmk
    go_loopw [27] (fun i wr => ∃ k : Nat, k ≤ n ∧ i = .int .i64 k ∧ wr.ownsRow b 45 2 (.slice (some ⟨b, 0, none⟩) n n) n (dcAt (CB.map pairC) k) ∧ (∀ j (h : j < CB.length), j < k → okC CB[j] = true) ∧ Below w1.heap.size w1 wr) (fun i _ => n - (intOf i).toNat)
    case atStart => exact ⟨0, Nat.zero_le _, rfl, HO.out, fun j _ h => absurd h (Nat.not_lt_zero _), HBM.out⟩
    case round =>
      obtain ⟨k, hk, rfl, hown, hpre, hbw⟩ := hrel
      clear HO HBM
      have HP := hide hpre
      clear hpre
      by_cases hlt : k < n
      · have hkl : k < CB.length := by have := HCL.out; omega
        have hkL : k < (CB.map pairC).length := by rw [HLL.out]; exact hlt
        have htx := HTX.out.below hbw
        obtain ⟨ta, tc, hte, _, hcc⟩ := htx
        obtain ⟨g', o', ha, f1⟩ := hcc k hkl
        simp only [Value.slice.injEq] at hte
        obtain ⟨rfl, -⟩ := hte
        simp only [Option.some.injEq, Addr.mk.injEq, and_true] at ha
        obtain ⟨rfl, rfl⟩ := ha
        rw [Nat.zero_add] at f1
        have HPO := hide (fun W => pairOf_any CB[k] W (HCS.out _ (List.getElem_mem _)))
        have HSET : Hid (((dcAt (CB.map pairC) k).set (k * 2) (.string (pairC CB[k]).1)).set (k * 2 + 1) (.string (pairC CB[k]).2) = dcAt (CB.map pairC) (k + 1)) := by
          have := dcAt_set (CB.map pairC) k hkL
          simp only [List.getElem_map] at this
          exact this
        have HNX : Hid (okC CB[k] = true → ∀ j (h : j < CB.length), j < k + 1 → okC CB[j] = true) := fun hl j h hj => by
          by_cases he : j = k
          · subst he; exact hl
          · exact HP.out j h (by omega)
        have HNO : Hid (okC CB[k] = false → ¬ (0 ≤ (n : Int) ∧ DecOk (n : Int).toNat s.data.toList)) := fun hl hd => by
          have := hd.2.2.1
          rw [← HBB.out, Int.toNat_natCast, ← HCB.out] at this
          have h2 := this CB[k] (List.getElem_mem _)
          rw [hl] at h2; cases h2
        obtain ⟨ck, hck⟩ : ∃ ck, ck = CB[k] := ⟨_, rfl⟩
        rw [← hck] at f1 HPO HSET HNX HNO
        have HBW := hide hbw
        have HOW := hide hown
        have HLEN := hide (dcAt_len (CB.map pairC) k (by omega))
        have hltI : (k : Int) < (n : Int) := by omega
        have j0 : (0 : Int) ≤ (k : Int) := by omega
        clear hck hcc hbw hown
        go_wp2_with fail
        refine (HPO.out _).mono ?_
        rintro e w2 ⟨⟨hok1, rfl⟩ | ⟨hno1, x, y, rfl⟩, hb2⟩
        · have HNX2 := hide (HNX.out hok1)
          obtain ⟨p, hp⟩ : ∃ p, p = pairC ck := ⟨_, rfl⟩
          rw [← hp] at HSET ⊢
          have hbn := below_new w2 (.cells #[.string p.1, .string p.2] 45)
          have ho2 := own_below2 HOW.out (Below.next hb2 hbn)
          have hq : ∀ j, j < n * 2 → ∃ u, (w2.alloc (.cells #[.string p.1, .string p.2] 45)).cell? ⟨b, j, none⟩ = some u := fun j hj => by
            rw [World.ownsRow.cellAt ho2 j hj]
            exact ⟨_, List.getElem?_eq_getElem (by rw [HLEN.out, HLL.out]; exact hj)⟩
          obtain ⟨u1, q1⟩ := hq (k * 2) (by omega)
          obtain ⟨u2, q2⟩ := hq (k * 2 + 1) (by omega)
          have z1 := World.ownsRow.frozenAt ho2 (k * 2)
          have z2 := World.ownsRow.frozenAt ho2 (k * 2 + 1)
          have hst := (World.ownsRow.stored (World.ownsRow.stored ho2 (k * 2) (.string p.1)).1 (k * 2 + 1) (.string p.2)).1
          rw [HSET.out] at hst
          have HO2 := hide hst
          have hbb : w1.heap.size ≤ b := by rw [HB.out]; exact Nat.le_refl _
          have HB2 : Hid (Below w1.heap.size w1 (((w2.alloc (.cells #[.string p.1, .string p.2] 45)).setCell ⟨b, k * 2, none⟩ (.string p.1)).setCell ⟨b, k * 2 + 1, none⟩ (.string p.2))) := ((Below.next HBW.out (Below.next hb2 hbn)).setCell hbb _).setCell hbb _
          clear hp hb2 hbn ho2 hq hst HSET HOW HBW HPO HNX HNO hok1 f1
          go_wp2
          go_roundw
          case rel => exact ⟨k + 1, by omega, by go_num, HO2.out, HNX2.out, HB2.out⟩
          case measure => simp [intOf]; omega
        · have HNO2 := hide (HNO.out hno1)
          have hbn := below_new w2 (.cells #[.string x, .string y] 45)
          have HB2 := hide (Below.next HB1.out (Below.next HBW.out (Below.next hb2 hbn)))
          have k1 : (w2.alloc (.cells #[.string x, .string y] 45)).cell? ⟨0, 0, none⟩ = some (.iface 128 (.pointer (some (A 1)))) := ((HE.out.below HB2.out).1.1 1 (by decide)).1
          clear hb2 hbn HSET HOW HBW HPO HNX HNO hno1 f1
          go_wp2
          go_quiet (fail)
          go_wp2
          rw [HQ.out]
          exact ⟨.inr ⟨HNO2.out, rfl⟩, below_drewN' HB2.out _⟩
      · have hkn : k = n := by omega
        rw [hkn, ← HLL.out, dcAt_all, HLL.out] at hown
        have hpo : PrO wr b (.slice (some ⟨b, 0, none⟩) n n) (CB.map pairC) := by unfold PrO; rw [HLL.out]; exact hown
        have hoks : OkL (CB.map pairC) := fun p hp => by
          obtain ⟨c0, hc0, rfl⟩ := List.mem_map.1 hp
          have := HCS.out c0 hc0
          have h1 := pairC_k c0
          have h2 := pairC_v c0
          have h3 := (keyC_le c0.data.toList).1
          omega
        have HBF := hide (Below.next HB1.out hbw)
        have HCK := hide (lcheck_any A _ (CB.map pairC) true wr hoks (by rw [HLL.out]; omega) hpo.at (HE.out.below HBF.out))
        have HPO := hide (hpo.mono (show w.heap.size ≤ b by rw [HB.out]; exact HB1.out.size))
        have HALL : Hid (∀ x ∈ CB, okC x = true) := fun x hx => by
          obtain ⟨j, hj, rfl⟩ := List.getElem_of_mem hx
          exact HP.out j hj (by have := HCL.out; omega)
        have hltI : ¬ (k : Int) < (n : Int) := by omega
        have HDL : Hid (decL (n : Int).toNat s.data.toList = CB.map pairC) := by show _ = _; rw [Int.toNat_natCast, ← HBB.out, HCB.out]; rfl
        have HDO : Hid (DecOk (n : Int).toNat s.data.toList ↔ chk (CB.map pairC) true = none) := by
          show _ ↔ _
          rw [Int.toNat_natCast, ← HBB.out]
          unfold DecOk
          rw [← HCB.out]
          exact ⟨fun h => h.2.2, fun h => ⟨HOK.out, HALL.out, h⟩⟩
        clear hown hbw hpo hoks HP HTX hkn
        cases hck : chk (CB.map pairC) true with
        | none =>
          rw [hck] at HCK
          have HD := hide (HDO.out.2 hck)
          clear hck
          go_wp2_with fail
          refine HCK.out.mono ?_
          rintro e w3 ⟨rfl, hb3⟩
          have HO3 := hide (HPO.out.below hb3)
          have HB3 := hide (Below.next HBF.out hb3)
          clear hb3 HCK HPO HBF
          unfold errV
          go_wp2
          rw [HQ.out]
          exact ⟨.inl ⟨by omega, HD.out, _, rfl, by rw [HDL.out]; exact HO3.out⟩, HB3.out⟩
        | some m =>
          rw [hck] at HCK
          have HD : Hid (¬ (0 ≤ (n : Int) ∧ DecOk (n : Int).toNat s.data.toList)) := fun h => by
            have := HDO.out.1 h.2
            rw [hck] at this; cases this
          have hnn := fun W => iface_ne_nil (some (A m)) W
          clear hck
          go_wp2_with fail
          refine HCK.out.mono ?_
          rintro e w3 ⟨rfl, hb3⟩
          have HB3 := hide (Below.next HBF.out hb3)
          have k1 : w3.cell? ⟨0, 0, none⟩ = some (.iface 128 (.pointer (some (A 1)))) := ((HE.out.below HB3.out).1.1 1 (by decide)).1
          clear hb3 HCK HPO HBF
          unfold errV
          go_wp2
          go_quiet (fail)
          go_wp2
          rw [HQ.out]
          exact ⟨.inr ⟨HD.out, rfl⟩, below_drewN' HB3.out _⟩
  · have HNO : Hid (¬ (0 ≤ c ∧ DecOk c.toNat s.data.toList)) := fun h => hno ⟨h.1, h.2.1⟩
    have HB1 := hide hb1
    have k1 : w1.cell? ⟨0, 0, none⟩ = some (.iface 128 (.pointer (some (A 1)))) := ((HE.out.below hb1).1.1 1 (by decide)).1
    have hnn := fun W => iface_ne_nil (some (A 1)) W
    clear hb1 hno HRD hi hz hsz hby
    go_wp2
    go_quiet (fail)
    go_wp2
    rw [HQ.out]
    exact ⟨.inr ⟨HNO.out, rfl⟩, below_drewN' HB1.out _⟩

end Go.Proofs.YtdacbajiapdiiabDoor
