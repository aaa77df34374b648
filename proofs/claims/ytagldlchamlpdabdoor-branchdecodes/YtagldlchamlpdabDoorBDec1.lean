import Derived.Test.YtagldlchamlpdabDoorBrMath3
import Derived.Test.YtagldlchamlpdabDoorBasf
import Derived.Test.YtagldlchamlpdabDoorRdStr
import Derived.Deep.RegionHeld3
namespace Go.Proofs.YtagldlchamlpdabDoor
open Go.RowKit

def kidC (c : ByteArray) : Int := if c.size = 4 then (beNat c.data.toList : Int) else 0

set_option maxRecDepth 20000 in
set_option maxHeartbeats 1000000 in
theorem childof_any (c : ByteArray) (w : World) :
    Calls Tryd.prog 54 #[.string c] w fun e w' => e = .returned (.tuple #[.int .i64 (kidC c), .bool (decide (c.size = 4))]) ∧ Below w.heap.size w w' := by
  by_cases h4 : c.size = 4
  · have hv : kidC c = (beNat c.data.toList : Int) := by unfold kidC; rw [if_pos h4]
    have hlt := beNat_lt c.data.toList
    have hl : c.data.toList.length = 4 := by rw [bsize, h4]
    rw [hl] at hlt
    have hcv := run_bytes_of_string (P := Tryd.prog) w 9 96 5 c Tryd.underlying9 Tryd.underlying96 Tryd.underlying5
    generalize grownCap w c.size 0 5 = cap at hcv
    have hnew := heap_alloc_new w.drew (.cells (bytesRow c cap) 5 ((bytesRow c cap).size, (bytesRow c cap).size + 1))
    have hbn : Below w.heap.size w (w.drew.alloc (.cells (bytesRow c cap) 5 ((bytesRow c cap).size, (bytesRow c cap).size + 1))) := ((Below.refl _ _).drew).alloc (Nat.le_refl _) _
    have hsz : w.heap.size < (w.drew.alloc (.cells (bytesRow c cap) 5 ((bytesRow c cap).size, (bytesRow c cap).size + 1))).heap.size := by
      simp
    generalize w.drew.alloc (.cells (bytesRow c cap) 5 ((bytesRow c cap).size, (bytesRow c cap).size + 1)) = W1 at *
    have HG := hide (get_ok w.heap.size 0 cap c.data.toList W1 (by omega) (by omega) hsz (fun j hj => by
      rw [Nat.zero_add, cell_of_row W1 w.heap.size j _ _ _ hnew, bytesRow_at c cap j (by simpa using hj)]
      simp))
    rw [hl] at HG
    rw [h4] at hcv
    obtain ⟨m, hm⟩ : ∃ m, m = beNat c.data.toList := ⟨_, rfl⟩
    rw [← hm] at HG hlt hv
    have hw : IntKind.i64.wrap (m : Int) = (m : Int) := by rw [IntKind.wrap_i64]; omega
    have hd : decide (c.size = 4) = true := decide_eq_true h4
    have h4I : (c.size : Int) = 4 := by omega
    have hbe : ((c.size : Int) != 4) = false := by simp [h4I]
    have HV := hide hv
    have HD := hide hd
    have HB := hide hbn
    clear hm hlt hv hd hnew hbn hsz hl h4 h4I
    go_enter Tryd.func54, Tryd.ntmps54
    go_wp2_with fail
    refine HG.out.mono ?_
    rintro e w2 ⟨rfl, hb2⟩
    have HB2 := hide (Below.next HB.out hb2)
    clear hb2 HG hcv
    go_wp2
    go_quiet (fail)
    go_wp2
    go_ret2
    exact ⟨by rw [HV.out, HD.out]; rfl, below_drewN' HB2.out _⟩
  · have hv : kidC c = 0 := by unfold kidC; rw [if_neg h4]
    have hd : decide (c.size = 4) = false := decide_eq_false h4
    have hbe : ((c.size : Int) != 4) = true := by rw [bne_iff_ne]; omega
    have HV := hide hv
    have HD := hide hd
    clear hv hd h4
    go_enter Tryd.func54, Tryd.ntmps54
    go_wp2
    go_ret2
    exact ⟨by rw [HV.out, HD.out]; rfl, Below.refl _ _⟩

set_option maxRecDepth 20000 in
set_option maxHeartbeats 2000000 in
theorem linkof_any (c : ByteArray) (w : World) (hc : c.size ≤ 4072) :
    Calls Tryd.prog 79 #[.string c] w fun e w' => ∃ (k : ByteArray) (x : Int), e = .returned (.tuple #[.agg #[.string k, .int .i64 x], .bool (okK c)]) ∧ (okK c = true → (k, x) = linkC c) ∧ Below w.heap.size w w' := by
  have q0 := below_new w (.cells #[.string ⟨#[]⟩, .int .i64 0] 54)
  have x0 := RowAt.new w #[.string ⟨#[]⟩, .int .i64 0] 54
  by_cases h5 : c.size < 5
  · have hno : okK c = false := decide_eq_false (fun h => by omega)
    have HNO := hide hno
    have HQ := hide q0
    have HX := hide x0
    have h5I : (c.size : Int) < 5 := by omega
    clear hno q0 x0 h5
    go_enter Tryd.func79, Tryd.ntmps79
    go_wp2
    refine bodyPost_ret (results_row_tmp rfl _ _ w.heap.size 54 _ (0, 0) _ rfl HX.out Tryd.underlying54 rfl (by kernel_rfl)) rfl ⟨_, _, by rw [HNO.out]; rfl, fun h => (by rw [HNO.out] at h; cases h), HQ.out⟩
  · have h5' : 5 ≤ c.size := by omega
    obtain ⟨e, he⟩ : ∃ e, e = c.size - 4 := ⟨_, rfl⟩
    have hw : IntKind.i64.wrap ((c.size : Int) - 4) = (e : Int) := by rw [IntKind.wrap_i64]; omega
    have h5I : ¬ (c.size : Int) < 5 := by omega
    have i1 : (1 : Int) ≤ (e : Int) := by omega
    have i2 : (e : Int) ≤ (c.size : Int) := by omega
    have i3 : (0 : Int) ≤ (e : Int) := by omega
    have htl : (c.extract e c.size).size = 4 := by rw [ByteArray.size_extract]; omega
    have hkl : (c.extract 1 e).size = c.size - 5 := by rw [ByteArray.size_extract]; omega
    have htl2 : (c.extract e c.size).data.toList = c.data.toList.drop (c.size - 4) := by
      rw [ext_listK, List.take_of_length_le (by rw [List.length_drop, bsize]; exact Nat.le_refl _), he]
    have HCO := hide (fun W => childof_any (c.extract e c.size) W)
    have hkc : kidC (c.extract e c.size) = (linkC c).2 := by unfold kidC; rw [if_pos htl, htl2]; rfl
    rw [hkc, decide_eq_true htl] at HCO
    have HLK : Hid ((c.extract 1 e, (linkC c).2) = linkC c) := by show _ = _; rw [he]; rfl
    have h0 : 0 < c.size := by omega
    have hb0 : c.data.toList.getD 0 0 = c[0] := by
      rw [List.getD_eq_getElem?_getD, List.getElem?_eq_getElem (by rw [bsize]; exact h0)]; rfl
    have HOK : Hid (okK c = decide ((c[0].toNat : Int) = ((c.extract 1 e).size : Int))) := by
      show _ = _
      unfold okK
      rw [hb0, hkl]
      congr 1
      apply propext
      constructor
      · rintro ⟨_, h⟩; omega
      · intro h; exact ⟨h5', by omega⟩
    obtain ⟨kk, hkk⟩ : ∃ kk, kk = c.extract 1 e := ⟨_, rfl⟩
    obtain ⟨tt, htt⟩ : ∃ tt, tt = c.extract e c.size := ⟨_, rfl⟩
    obtain ⟨x2, hx2⟩ : ∃ x, x = (linkC c).2 := ⟨_, rfl⟩
    have HKK := hide hkk
    have HX2 := hide hx2
    have hex1 : c.extract 1 e = kk := hkk.symm
    have hex2 : c.extract e c.size = tt := htt.symm
    rw [← hkk] at HLK HOK
    rw [← htt, ← hx2] at HCO
    rw [← hx2] at HLK
    have HQ := hide q0
    have HX := hide x0
    clear h5 h5' he htl hkl htl2 hkc hb0 q0 x0 hkk htt hx2
    go_enter Tryd.func79, Tryd.ntmps79
    go_wp2_with fail
    refine (HCO.out _).mono ?_
    rintro e w1 ⟨rfl, hb1⟩
    have HB1 := hide (Below.next HQ.out hb1)
    have hx := HX.out.below hb1
    have r0 := hx.c0
    have r1 := hx.c1
    have z0 := hx.free 0
    have z1 := hx.free 1
    have HXX := hide hx
    obtain ⟨y, hy⟩ : ∃ y : Int, y = (c[0].toNat : Int) := ⟨_, rfl⟩
    have hy' : (c[0].toNat : Int) = y := hy.symm
    rw [← hy] at HOK
    obtain ⟨ok, hok⟩ : ∃ ok, ok = okK c := ⟨_, rfl⟩
    have HOV := hide hok
    have hbe : (y == (kk.size : Int)) = ok := by rw [hok, HOK.out]; rfl
    have h0I : (0 : Int) < (c.size : Int) := by omega
    have hyb : 0 ≤ y ∧ y < 256 := by have := c[0].toNat_lt; omega
    have hwy : IntKind.i64.wrap y = y := by rw [IntKind.wrap_i64]; omega
    clear hb1 hx HCO hok hy hyb
    go_wp2_with fail
    go_region_held3 (fun _ => True) (go_keep) (fail)
    all_goals
      clear r0 r1 z0 z1 hbe hwy hy'
      go_wp2_with fail
      exact bodyPost_ret (results_row_tmp rfl _ _ w.heap.size 54 _ (0, 0) _ rfl (HXX.out.two _ _).drew Tryd.underlying54 rfl (by kernel_rfl)) rfl ⟨kk, x2, by rw [← HOV.out]; rfl, fun _ => HLK.out, below_drewB (below_two HB1.out (Nat.le_refl _))⟩

/-- What the list of links holds when k are laid. -/
def lkAt (cs : List ByteArray) (k : Nat) : List Lk := (cs.take k).map linkC ++ List.replicate (cs.length - k) (⟨#[]⟩, 0)
theorem lkAt_len (cs : List ByteArray) (k : Nat) (h : k ≤ cs.length) : (lkAt cs k).length = cs.length := by
  unfold lkAt; rw [List.length_append, List.length_map, List.length_take, List.length_replicate]; omega
theorem lkAt_set (cs : List ByteArray) (k : Nat) (h : k < cs.length) : (lkAt cs k).set k (linkC cs[k]) = lkAt cs (k + 1) := by
  have hl : ((cs.take k).map linkC).length = k := by rw [List.length_map, List.length_take]; omega
  unfold lkAt
  rw [List.set_append_right _ _ (by omega), hl, Nat.sub_self, List.take_succ_eq_append_getElem h, List.map_append, show cs.length - k = cs.length - (k + 1) + 1 by omega, List.replicate_succ, List.set_cons_zero, List.append_assoc]
  rfl
theorem lkAt_all (cs : List ByteArray) : lkAt cs cs.length = cs.map linkC := by simp [lkAt]
theorem lks_rep : ∀ n : Nat, lks (List.replicate n ((⟨#[]⟩ : ByteArray), (0 : Int))) = (madeCells (Value.agg #[.string ByteArray.empty, .int .i64 0]).cells (n * 2)).toList := by
  intro n
  apply List.ext_getElem
  · rw [lks_length, List.length_replicate, Array.length_toList, size_madeCells]
  · intro j h1 h2
    rw [lks_length, List.length_replicate] at h1
    have hg := lks_get (List.replicate n ((⟨#[]⟩ : ByteArray), (0 : Int))) (j / 2) (by rw [List.length_replicate]; omega)
    rw [List.getElem_replicate] at hg
    have e2 : (madeCells (Value.agg #[.string ByteArray.empty, .int .i64 0]).cells (n * 2)).toList[j] = (#[Value.string ByteArray.empty, Value.int .i64 0])[j % 2]! := by
      simp [madeCells, Value.cells]
    rw [e2]
    rcases Nat.mod_two_eq_zero_or_one j with hm | hm
    · have e : j / 2 * 2 = j := by omega
      rw [e] at hg
      rw [hm]
      exact (List.getElem?_eq_some_iff.1 hg.1).2
    · have e : j / 2 * 2 + 1 = j := by omega
      rw [e] at hg
      rw [hm]
      exact (List.getElem?_eq_some_iff.1 hg.2).2

set_option maxRecDepth 20000 in
set_option maxHeartbeats 2000000 in
theorem linksof_any (ga : Nat) (oo n cap : Nat) (cs : List ByteArray) (w : World) (hn : n = cs.length) (hnb : n ≤ 2036) (hcs : ∀ c ∈ cs, c.size ≤ 4072)
    (hc : ∀ j (h : j < cs.length), w.cell? ⟨ga, oo + j, none⟩ = some (.string cs[j])) (a : Option Addr) (ha : 0 < n → a = some ⟨ga, oo, none⟩) :
    Calls Tryd.prog 55 #[.slice a n cap] w fun e w' => ((cs.all okK = true ∧ ∃ u, e = .returned (.tuple #[u, .bool true]) ∧ LkO w' w.heap.size u (cs.map linkC)) ∨ (cs.all okK = false ∧ e = .returned (.tuple #[.slice none 0 0, .bool false]))) ∧ Below w.heap.size w w' := by
  obtain ⟨i0, hi, hz, hsz, hby⟩ := info_parts infoK
  obtain ⟨wm, hmk, hown0, hg0⟩ := run_make_full (P := Tryd.prog) w w.heap.size 28 54 i0 _ 2 Tryd.underlying28 hi hz hsz .i64 .i64 n (by rw [hby]; omega) (by unfold maxLen; omega) (Nat.le_refl _)
  rw [← lks_rep n] at hown0
  have hl0 : lkAt cs 0 = List.replicate n ((⟨#[]⟩ : ByteArray), (0 : Int)) := by simp [lkAt, hn]
  rw [← hl0] at hown0
  have hown : LkO wm w.heap.size (.slice (some ⟨w.heap.size, 0, none⟩) n n) (lkAt cs 0) := by
    unfold LkO
    rw [lkAt_len cs 0 (Nat.zero_le _), ← hn]
    exact hown0
  have hbm : Below w.heap.size w wm := (Below.refl _ _).grown hg0 (Nat.le_refl _) (fun j hj => by cases hj)
  obtain ⟨b, hb⟩ : ∃ b, b = w.heap.size := ⟨_, rfl⟩
  rw [← hb] at hmk hown
  have HB := hide hb
  have HO := hide hown
  have HBM := hide hbm
  have HC := hide hc
  have HN := hide hn
  have HCS := hide hcs
  have HA := hide ha
  obtain ⟨Q, hQ⟩ : ∃ Q : Ending → World → Prop, Q = fun e w' => ((cs.all okK = true ∧ ∃ u, e = .returned (.tuple #[u, .bool true]) ∧ LkO w' w.heap.size u (cs.map linkC)) ∨ (cs.all okK = false ∧ e = .returned (.tuple #[.slice none 0 0, .bool false]))) ∧ Below w.heap.size w w' := ⟨_, rfl⟩
  rw [← hQ]
  have HQQ := hide hQ
  clear hQ hb hown hbm hc hn hcs ha hown0 hg0 hi hz hsz hby hl0
  go_enter Tryd.func55, Tryd.ntmps55
  go_wp2
  clear hmk
  go_loopw [14] (fun i wr => ∃ k : Nat, k ≤ n ∧ i = .int .i64 k ∧ LkO wr b (.slice (some ⟨b, 0, none⟩) n n) (lkAt cs k) ∧ (∀ j (h : j < cs.length), j < k → okK cs[j] = true) ∧ Below w.heap.size w wr) (fun i _ => n - (intOf i).toNat)
  case atStart => exact ⟨0, Nat.zero_le _, rfl, HO.out, fun j _ h => absurd h (Nat.not_lt_zero _), HBM.out⟩
  case round =>
    obtain ⟨k, hk, rfl, hown, hpre, hbw⟩ := hrel
    clear HO HBM
    have HP := hide hpre
    clear hpre
    by_cases hlt : k < n
    · have hkl : k < cs.length := by have := HN.out; omega
      have ha := HA.out (by omega)
      subst ha
      have f1 := HC.out k hkl
      have c1 : wr.cell? ⟨ga, oo + k, none⟩ = some (.string cs[k]) := (hbw.cell (p := ⟨ga, oo + k, none⟩) (World.block_lt_of_cell? w _ f1)).trans f1
      have HLO := hide (linkof_any cs[k] wr (HCS.out cs[k] (List.getElem_mem _)))
      have HST := hide (lkAt_set cs k hkl)
      have HNX : Hid (okK cs[k] = true → ∀ j (h : j < cs.length), j < k + 1 → okK cs[j] = true) := fun hl j h hj => by
        by_cases he : j = k
        · subst he; exact hl
        · exact HP.out j h (by omega)
      have HNO : Hid (okK cs[k] = false → cs.all okK = false) := fun hl => by rw [List.all_eq_false]; exact ⟨cs[k], List.getElem_mem _, by simp [hl]⟩
      have HLL := hide (lkAt_len cs k (by omega))
      have hltI : (k : Int) < (n : Int) := by omega
      have j0 : (0 : Int) ≤ (k : Int) := by omega
      have HO := hide hown
      have HBW := hide hbw
      obtain ⟨ck, hck⟩ : ∃ ck, ck = cs[k] := ⟨_, rfl⟩
      rw [← hck] at c1 HLO HST HNX HNO
      clear hown hbw f1 hck
      go_wp2_with fail
      refine HLO.out.mono ?_
      rintro e w1 ⟨kk, xx, rfl, hlk, hb1⟩
      have q1 := below_new w1 (.cells #[.string kk, .int .i64 xx] 54)
      have x1 := RowAt.new w1 #[.string kk, .int .i64 xx] 54
      have HBW1 := hide (Below.next HBW.out (Below.next hb1 q1))
      have ho := (HO.out.below hb1).below q1
      have r0 := x1.c0
      have r1 := x1.c1
      clear hb1 q1 HLO
      cases hok : okK ck with
      | false =>
        have HNO2 := hide (HNO.out hok)
        clear HNX HNO hok hlk ho x1 c1
        go_wp2
        rw [HQQ.out]
        exact ⟨.inr ⟨HNO2.out, rfl⟩, HBW1.out⟩
      | true =>
        have hlk2 := hlk hok
        have HNX2 := hide (HNX.out hok)
        obtain ⟨⟨t1, s1⟩, ⟨t2, s2⟩, z1, z2⟩ := ho.spot k (by rw [HLL.out]; exact hkl)
        have hw := ho.wrote k (kk, xx)
        rw [hlk2, HST.out, ← hlk2] at hw
        dsimp only at hw
        have HOW := hide hw
        have hbge : w.heap.size ≤ b := by rw [HB.out]; exact Nat.le_refl _
        have HBX := hide ((HBW1.out.setCell (p := ⟨b, k * 2, none⟩) hbge (.string kk)).setCell (p := ⟨b, k * 2 + 1, none⟩) hbge (.int .i64 xx))
        clear hlk hlk2 HNX HNO hok ho hw x1 c1
        go_wp2
        go_roundw
        case rel => exact ⟨k + 1, by omega, by go_num, HOW.out, HNX2.out, HBX.out⟩
        case measure => simp [intOf]; omega
    · have hkn : k = cs.length := by have := HN.out; omega
      rw [hkn, lkAt_all] at hown
      have HO := hide hown
      have HBW := hide hbw
      have HALL : Hid (cs.all okK = true) := List.all_eq_true.2 (fun c hc => by
        obtain ⟨i, hi, rfl⟩ := List.getElem_of_mem hc
        exact HP.out i hi (by omega))
      have hltI : ¬ (k : Int) < (n : Int) := by have := HN.out; omega
      clear hown hbw HP hkn
      go_wp2
      rw [HQQ.out]
      refine ⟨.inl ⟨HALL.out, _, rfl, ?_⟩, HBW.out⟩
      rw [← HB.out]; exact HO.out

end Go.Proofs.YtagldlchamlpdabDoor
