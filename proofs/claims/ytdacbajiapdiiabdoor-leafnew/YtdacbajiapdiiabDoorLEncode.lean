import Derived.Test.YtdacbajiapdiiabDoorLEnc
import Derived.Test.YtdacbajiapdiiabDoorChk2
import Derived.Test.YtdacbajiapdiiabDoorLay2
import Derived.Test.YtdacbajiapdiiabDoorCNum
namespace Go.Proofs.YtdacbajiapdiiabDoor
open Go.RowKit

/-- The texts of the cells that are laid, k of them. -/
def txAt (l : List Pr) (k : Nat) : List Value := strs ((l.take k).map cellP) ++ List.replicate (l.length - k) (.string ByteArray.empty)
theorem txAt_set (l : List Pr) (k : Nat) (h : k < l.length) : (txAt l k).set k (.string (cellP l[k])) = txAt l (k + 1) := by
  have hl : (strs ((l.take k).map cellP)).length = k := by rw [strs_length, List.length_map, List.length_take]; omega
  unfold txAt
  rw [List.set_append_right _ _ (by omega), hl, Nat.sub_self, List.take_succ_eq_append_getElem h, List.map_append, strs_append, show l.length - k = l.length - (k + 1) + 1 by omega, List.replicate_succ, List.set_cons_zero, List.append_assoc]
  rfl
theorem txAt_len (l : List Pr) (k : Nat) (h : k ≤ l.length) : (txAt l k).length = l.length := by
  unfold txAt; rw [List.length_append, strs_length, List.length_map, List.length_take, List.length_replicate]; omega
theorem txAt_zero (l : List Pr) : txAt l 0 = List.replicate l.length (.string ByteArray.empty) := by simp [txAt, strs]
theorem txAt_all (l : List Pr) : txAt l l.length = strs (l.map cellP) := by simp [txAt]
theorem own_below1 {w w' : World} {base e n : Nat} {v : Value} {xs : List Value} (h : w.ownsRow base e 1 v n xs) (hb : Below w.heap.size w w') : w'.ownsRow base e 1 v n xs := by
  refine ⟨h.1, ?_⟩
  rcases h.2 with h' | ⟨g, cap, cur, h', h1, h2, hr⟩
  · exact .inl h'
  · refine .inr ⟨g, cap, cur, h', h1, ?_, hr⟩
    have hg : g < w.heap.size := by
      rcases Nat.lt_or_ge g w.heap.size with h' | h'
      · exact h'
      · rw [Array.getElem?_eq_none h'] at h2; cases h2
    rw [hb.block g hg]; exact h2

/-- What Encode answers. -/
def EncV (A : Nat → Addr) (l : List Pr) (e : Ending) : Prop :=
  (chk l true = none ∧ e = .returned (.tuple #[.string (encL l), .nilIface])) ∨ (∃ k, chk l true = some k ∧ e = .returned (.tuple #[.string ⟨#[]⟩, errV A (some k)]))

set_option maxRecDepth 20000 in
set_option maxHeartbeats 2000000 in
theorem lenc_any (A : Nat → Addr) (v : Value) (l : List Pr) (w : World) (hok : OkL l) (hm : l.length ≤ 140737488355328) (hr : PrR w v l) (hE : ErrC A w) :
    Calls Tryd.prog 11 #[v] w fun e w' => EncV A l e ∧ Below w.heap.size w w' := by
  have HCK := hide (lcheck_any A v l true w hok hm hr hE)
  have HE := hide hE
  obtain ⟨i0, hi, hz, hsz, hby⟩ := info_parts info9
  obtain ⟨a, cap, rfl, hcap, _, hc⟩ := hr
  have HC := hide hc
  cases hck : chk l true with
  | some k =>
    rw [hck] at HCK
    have hnn := fun W => iface_ne_nil (some (A k)) W
    have HV : Hid (chk l true = some k) := hck
    clear hc hcap hE hok hi hz hsz hby hck
    go_enter Tryd.func11, Tryd.ntmps11
    go_wp2_with fail
    refine HCK.out.mono ?_
    rintro e w1 ⟨rfl, hb1⟩
    unfold errV
    go_wp2
    go_ret2
    exact ⟨.inr ⟨k, HV.out, rfl⟩, hb1⟩
  | none =>
    rw [hck] at HCK
    obtain ⟨h1, h2, h3, h4, h5⟩ := chk_none hck
    have hlen := szL_len l
    have HMAY := hide h1
    have HSZ : Hid (sizeL (l.map cellP) ≤ 4072) := by rw [size_cellP]; exact h3
    have hnl : l.length ≤ 814 := by omega
    have HV : Hid (chk l true = none) := hck
    obtain ⟨n, hn⟩ : ∃ n, n = l.length := ⟨_, rfl⟩
    rw [← hn] at hnl HCK ⊢
    have HN := hide hn
    clear hc hcap hE hok hck h1 h2 h3 h4 h5 hlen hn hm
    go_enter Tryd.func11, Tryd.ntmps11
    go_wp2_with fail
    refine HCK.out.mono ?_
    rintro e w1 ⟨rfl, hb1⟩
    obtain ⟨wm, hmk, hown0, hg0⟩ := run_make_full (P := Tryd.prog) w1 w1.heap.size 53 9 i0 _ 1 Tryd.underlying53 hi hz hsz .i64 .i64 n (by rw [hby]; omega) (by unfold maxLen; omega) (Nat.le_refl _)
    have hz0 : (madeCells (Value.string ByteArray.empty).cells (n * 1)).toList = txAt l 0 := by
      rw [txAt_zero, Nat.mul_one, HN.out]; exact toList_madeCells_one _ _
    rw [hz0] at hown0
    have hbm : Below w1.heap.size w1 wm := (Below.refl _ _).grown hg0 (Nat.le_refl _) (fun j hj => by cases hj)
    obtain ⟨b, hb⟩ : ∃ b, b = w1.heap.size := ⟨_, rfl⟩
    rw [← hb] at hmk hown0
    have HB := hide hb
    have HO := hide hown0
    have HBM := hide (Below.next hb1 hbm)
    have HB1 := hide hb1
    clear hb hown0 hbm hg0 hi hz hsz hby hz0 hb1 HCK
    unfold errV
    go_wp2
    clear hmk
    go_loopw [18] (fun i wr => ∃ k : Nat, k ≤ n ∧ i = .int .i64 k ∧ wr.ownsRow b 9 1 (.slice (some ⟨b, 0, none⟩) n n) n (txAt l k) ∧ Below w.heap.size w wr) (fun i _ => n - (intOf i).toNat)
    case atStart => exact ⟨0, Nat.zero_le _, rfl, HO.out, HBM.out⟩
    case round =>
      obtain ⟨k, hk, rfl, hown, hbw⟩ := hrel
      clear HO HBM
      by_cases hlt : k < n
      · have hkl : k < l.length := by have := HN.out; omega
        obtain ⟨g, o, rfl, f1, f2⟩ := HC.out k hkl
        have c1 : wr.cell? ⟨g, o + k * 2, none⟩ = some (.string l[k].1) := (hbw.cell (p := ⟨g, o + k * 2, none⟩) (World.block_lt_of_cell? w _ f1)).trans f1
        have c2 : wr.cell? ⟨g, o + k * 2 + 1, none⟩ = some (.string l[k].2) := (hbw.cell (p := ⟨g, o + k * 2 + 1, none⟩) (World.block_lt_of_cell? w _ f2)).trans f2
        have hp0 := may_parts' (HMAY.out l[k] (List.getElem_mem _))
        have HSET := hide (txAt_set l k hkl)
        have hbn := below_new wr (.cells #[.string l[k].1, .string l[k].2] 45)
        have HO1 := hide (own_below1 hown hbn)
        have HBW1 := hide (Below.next hbw hbn)
        have HZ := hide (fun W => cell_any l[k] W hp0.2.1 (by omega))
        obtain ⟨p, hp⟩ : ∃ p, p = l[k] := ⟨_, rfl⟩
        rw [← hp] at c1 c2 HSET HO1 HBW1 HZ
        have HLEN := hide (txAt_len l k (by omega))
        have hltI : (k : Int) < (n : Int) := by omega
        have j0 : (0 : Int) ≤ (k : Int) := by omega
        clear hp HC f1 f2 hbw hown hp0 hbn
        go_wp2_with fail
        refine (HZ.out _).mono ?_
        rintro e w2 ⟨rfl, hb2⟩
        have ho1 := own_below1 HO1.out hb2
        have q1 : ∃ u, w2.cell? ⟨b, k, none⟩ = some u := by
          rw [World.ownsRow.cellAt ho1 k (by omega)]
          exact ⟨_, List.getElem?_eq_getElem (by rw [HLEN.out]; exact hkl)⟩
        obtain ⟨u, q1⟩ := q1
        have z1 : w2.frozen? ⟨b, k, none⟩ = false := World.ownsRow.frozenAt ho1 k
        obtain ⟨z, hz⟩ : ∃ z, z = cellP p := ⟨_, rfl⟩
        rw [← hz] at HSET ⊢
        have hst := (World.ownsRow.stored ho1 k (.string z)).1
        rw [HSET.out] at hst
        have HO2 := hide hst
        have HB2 : Hid (Below w.heap.size w (w2.setCell ⟨b, k, none⟩ (.string z))) := (Below.next HBW1.out hb2).setCell (by rw [HB.out]; exact HB1.out.size) _
        clear hb2 HBW1 HZ c1 c2 ho1 hst hz HSET HO1
        go_wp2
        go_roundw
        case rel => exact ⟨k + 1, by omega, by go_num, HO2.out, HB2.out⟩
        case measure => simp [intOf]; omega
      · have hkn : k = l.length := by have := HN.out; omega
        rw [hkn, txAt_all] at hown
        have hs := (rowR_of_owns hown).strs
        have HLY := hide (lay_any A _ (l.map cellP) wr (by have := HSZ.out; omega) hs (HE.out.below hbw).1)
        have HBW := hide hbw
        have hltI : ¬ (k : Int) < (n : Int) := by have := HN.out; omega
        have HKN := hide hkn
        clear HC hbw hown hkn hs
        go_wp2_with fail
        refine HLY.out.mono ?_
        rintro e w3 ⟨hv, hb3⟩
        have hv2 : e = .returned (.tuple #[.string (encL l), .nilIface]) := by
          rcases hv with ⟨_, h⟩ | ⟨h, _⟩
          · exact h
          · exact absurd HSZ.out h
        subst hv2
        have HB3 := hide (Below.next HBW.out hb3)
        clear hv hb3 HLY
        go_wp2
        go_ret2
        exact ⟨.inl ⟨HV.out, rfl⟩, HB3.out⟩

end Go.Proofs.YtdacbajiapdiiabDoor
