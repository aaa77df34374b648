import Derived.Test.YtlopimdnjookeabGreatDoorA3b
import Derived.Test.YtlopimdnjookeabGreatDoorSortLay
import Derived.Sort.OwnSortedInts
namespace Go.Proofs.YtlopimdnjookeabGreatDoor.V
open Go.RowKit Go.Maps Go.Sort

theorem Tryz.info3 : (Tryz.prog.info? 3).map (fun i => (i.zero, i.size, i.bytes)) = some (some (.int .i64 0), 1, 8) := by kernel_rfl
theorem sort_any (g cap : Nat) (zs : List Int) (w : World) (hH : Holds (Value.int .i64) w g 0 zs.toArray) (hg : g < w.heap.size) (hz : zs.length < 4611686018427387904) :
    Calls Tryz.prog 33 #[.slice (some ⟨g, 0, none⟩) zs.length cap] w fun e w' => e = .returned (.tuple #[]) ∧ ∃ n os, w' = grow (putRow (Value.int .i64) (Sort.ahead w n) g 0 (zs.mergeSort fun x y => decide (x ≤ y)).toArray) os :=
  Any.slices_Sort_int Tryz.lays189 g 0 cap zs w hH hg hz

/-- No key twice; a key is on the list just where the map has it and it is no longer to come. -/
def CollI (l : List Sec) (left : Lit → Bool) (ks : List Int) : Prop := ks.Nodup ∧ ∀ x : Int, x ∈ ks ↔ (Maps.has (durD l) (.int .i64 x) = true ∧ left (.int .i64 x) = false)
theorem CollI.start (l : List Sec) : CollI l (Maps.has (durD l)) [] := ⟨List.nodup_nil, fun x => by cases Maps.has (durD l) (.int .i64 x) <;> simp⟩
theorem CollI.step {l : List Sec} {left : Lit → Bool} {ks : List Int} (h : CollI l left ks) {x : Int} {y : DataW Unit} (hlk : left (.int .i64 x) = true) (hat : ∀ zd, (durD l).atKey (.int .i64 x) zd = y) : CollI l (fun z => left z && !z.sameKey (.int .i64 x)) (ks ++ [x]) := by
  have hhas : Maps.has (durD l) (.int .i64 x) = true := Maps.has_true_of_atKey hat
  have hnew : x ∉ ks := fun hx => by have := ((h.2 x).1 hx).2; rw [hlk] at this; cases this
  refine ⟨List.nodup_append.2 ⟨h.1, by simp, fun a ha b hb => by simp at hb; subst hb; exact fun e => hnew (e ▸ ha)⟩, fun y => ?_⟩
  by_cases hy : y = x
  · subst hy; simp [hhas, Lit.sameKey]
  · simp [h.2 y, hy, Lit.sameKey]
theorem CollI.sorted {l : List Sec} {left : Lit → Bool} {ks : List Int} (h : CollI l left ks) (hl : ∀ kl, left kl = false) (hr : l.Pairwise fun x y => x.ix < y.ix) : (ks.mergeSort fun x y => decide (x ≤ y)) = l.map Sec.ix := by
  have hnd : (l.map Sec.ix).Nodup := List.pairwise_map.2 (hr.imp fun {a b} hab e => by omega)
  have hp : ks.Perm (l.map Sec.ix) := (List.perm_ext_iff_of_nodup h.1 hnd).2 fun x => by
    rw [h.2 x, hl, durD_has, List.any_eq_true]
    simp only [decide_eq_true_eq, and_true, List.mem_map]
  refine List.Perm.eq_of_pairwise (le := fun a b => decide (a ≤ b) = true) (fun a b _ _ h1 h2 => ?_) (List.pairwise_mergeSort (fun a b c h1 h2 => ?_) (fun a b => ?_) ks) ?_ ((List.mergeSort_perm ks _).trans hp)
  · simp only [decide_eq_true_eq] at h1 h2; omega
  · simp only [decide_eq_true_eq] at *; omega
  · simp only [Bool.or_eq_true, decide_eq_true_eq]; omega
  · exact List.pairwise_map.2 (hr.imp fun {a b} hab => by simp only [decide_eq_true_eq]; omega)
theorem int_one (ks : List Int) : ∀ u ∈ ks.map (Value.int .i64), u.oneCell' = true := fun u hu => by
  obtain ⟨x, _, rfl⟩ := List.mem_map.1 hu; rfl

theorem rise_find : ∀ (l : List Sec), l.Pairwise (fun x y => x.ix < y.ix) → ∀ x ∈ l, l.find? (fun y => decide (y.ix = x.ix)) = some x
  | [], _, _, h => by simp at h
  | y :: r, hp, x, h => by
    obtain ⟨h1, h2⟩ := List.pairwise_cons.1 hp
    rcases List.mem_cons.1 h with rfl | hx
    · simp
    · have := h1 x hx
      rw [List.find?_cons_of_neg (by simp; omega)]
      exact rise_find r h2 x hx
theorem sec_str (w : World) (t : ByteArray) (ht : t.size = 512) : (convert 33 9 (.slice (some ⟨w.heap.size, 0, none⟩) 512 512)).run Tryz.prog (w.alloc (.cells (u8s (bl t)).toArray 75)) = .ok (.string t) (w.alloc (.cells (u8s (bl t)).toArray 75)) := by
  have hnew := heap_alloc_new w (.cells (u8s (bl t)).toArray 75)
  have h := run_convert_bytes_back (P := Tryz.prog) (w.alloc (.cells (u8s (bl t)).toArray 75)) 33 9 5 ⟨w.heap.size, 0, none⟩ 512 (bl t) Tryz.underlying33 Tryz.underlying5 Tryz.underlying9 (fun j hj => by
    rw [Addr.add_mid, cell_of_row _ _ _ _ _ _ hnew, Nat.zero_add]
    simpa using u8s_get (bl t) j hj)
  rw [bl_len, ht] at h
  rw [h]
  exact congrArg (fun x => Result.ok (Value.string x) _) (mkb_bl t)
/-- What the second loop of Durable holds. -/
structure DurInv (w wr : World) (g cap : Nat) (l : List Sec) (v : Value) (k : Nat) : Prop where
  keys : wr.ownsRow w.heap.size 3 1 (.slice (some ⟨g, 0, none⟩) l.length cap) l.length ((l.map Sec.ix).map (Value.int .i64))
  row : wr.ownsRow w.heap.size 72 2 v k (secCells (l.take k))
  bel : Below w.heap.size w wr
/-- What the first loop of Durable holds. -/
structure KeyInv (w w1 wr : World) (mb n : Nat) (l : List Sec) (v : Value) (left : Lit → Bool) (cnt : Nat) (ks : List Int) : Prop where
  rg : wr.ranges Tryz.prog 3 secR mb w1.heap.size n (durD l) left cnt
  len : ks.length + cnt ≤ l.length
  row : wr.ownsRow w.heap.size 3 1 v ks.length (ks.map (Value.int .i64))
  nn : v ≠ .slice none 0 0
  col : CollI l left ks
  bel : Below w.heap.size w wr

set_option maxRecDepth 100000 in
set_option maxHeartbeats 1600000 in
theorem durable_any (b : Nat) (F : Nat → Prop) (d : Dev) (w : World) (h : DevAt w b F d) :
    Calls Tryz.prog 8 #[.pointer (some ⟨b, 0, none⟩)] w fun e w' => ∃ v', e = .returned v' ∧ w'.ownsRow w.heap.size 72 2 v' d.dur.length (secCells d.dur) ∧ Below w.heap.size w w' := by
  have HK : Hid (DevAt w b F d) := h
  obtain ⟨i0, hi, hz0, hz1, hz2⟩ := info_parts Tryz.info3
  obtain ⟨mb, nb, pv, av, Dn, h⟩ := h
  have c1 : w.cell? ⟨b, 1, none⟩ = some (.map (some mb)) := h.cell 1
  have hown := h.mapD
  have hbl := hown.lt
  have hdl := h.ok.dur_len
  have hsz := durD_size d.dur
  have hbm : b < w.heap.size := World.block_lt_of_cell? w _ c1
  have HR : Hid (d.dur.Pairwise fun x y => x.ix < y.ix) := h.ok.rise
  have hmk : Maps.size (durD d.dur) ≤ maxLen := by rw [hsz]; unfold maxLen; omega
  have hby : i0.bytes * Maps.size (durD d.dur) ≤ 281474976710656 := by rw [hz2, hsz]; omega
  clear h
  go_enter Tryz.func8, Tryz.ntmps8
  go_wp2_with (first
    | (at_len; refine wpList_len_own _ rfl _ 43 rfl 3 75 Tryz.underlying43 _ mb _ _ rfl hown ?_)
    | (at_make; refine wpList_make_own _ rfl _ _ 73 rfl w.heap.size 3 i0 (.int .i64 0) 1 Tryz.underlying73 hi hz0 hz1 _ _ _ (Maps.size (durD d.dur)) rfl rfl rfl hby hmk (Nat.le_refl _) ?_; intro w1 hrow1 hg1; have c1' : w1.cell? ⟨b, 1, none⟩ = some (.map (some mb)) := (World.cell?_of_block (a := ⟨b, 1, none⟩) (hg1.block b hbm (by simp))).trans c1)
    | (at_range; refine wpList_range_own _ rfl _ 43 rfl 3 75 klaw Tryz.underlying43 _ mb _ _ rfl (hown.kept hg1 (by simp)) ?_; intro w0 hrg0 hg0 hs0))
  go_frame
  rw [hsz] at hrow1
  go_loopw [3] (fun v wr => ∃ left cnt ks, KeyInv w w1 wr mb d.dur.length d.dur v left cnt ks) (fun _ wr => wr.rangeLeft mb w1.heap.size)
  case atStart =>
    exact ⟨_, _, [], hrg0, by rw [hsz]; simp, hrow1.kept hg0 (Or.inr (by simp [Value.ownBlock])), by simp, CollI.start _,
      ((Below.refl _ _).grown hg1 (Nat.le_refl _) (fun j hj => by cases hj)).grown hg0 hg1.size (fun j hj => by cases hj)⟩
  case round =>
    obtain ⟨left, cnt, ks, inv⟩ := hrel
    have hrg := inv.rg
    have INV : Hid (KeyInv w w1 wr mb d.dur.length d.dur _ left cnt ks) := inv
    clear inv hrow1 hrg0 hg0
    go_wp2_with (first
      | (at_next; refine wpList_next_ranges _ rfl _ rfl 3 klaw secR (Value.int .i64) arr (fun key kl hk => by obtain ⟨x, rfl, _⟩ := Maps.keyOf_int_inv Tryz.underlying3 hk; exact ⟨x, rfl⟩) (fun v y hv => by obtain ⟨c, _, rfl, _⟩ := secR_inv hv; exact ⟨c, rfl⟩) mb w1.heap.size _ _ _ _ rfl hrg ?_ ?_))
    · intro hc0 hl0
      have hrow := INV.out.row
      obtain ⟨g, cap, cur, hv3, hbase, hb, h1, h2, h3, h4⟩ : ∃ g cap cur, _ = Value.slice (some ⟨g, 0, none⟩) ks.length cap ∧ w.heap.size ≤ g ∧ wr.heap[g]? = some (.cells cur 3 (0, 0)) ∧ ks.length ≤ cap ∧ cap ≤ maxLen ∧ cur.size = cap * 1 ∧ cur.toList.take (ks.length * 1) = ks.map (Value.int .i64) := by
        rcases hrow.2 with ⟨hnil, _⟩ | h
        · exact absurd hnil INV.out.nn
        · exact h
      subst hv3
      have hH : Holds (Value.int .i64) wr g 0 ks.toArray := holds_of_blockI hb (by simpa using h4)
      have hgl : g < wr.heap.size := (Array.getElem?_eq_some_iff.1 hb).1
      have hkl := INV.out.len
      have hS := INV.out.col.sorted hl0 HR.out
      have hc := sort_any g cap ks wr hH hgl (by omega)
      rw [hS] at hc
      have hlen : ks.length = d.dur.length := by
        have := congrArg List.length hS
        rw [List.length_mergeSort, List.length_map] at this
        exact this
      have hrow5 : ∀ n os, (grow (putRow (Value.int .i64) (Sort.ahead wr n) g 0 (d.dur.map Sec.ix).toArray) os).ownsRow w.heap.size 3 1 (.slice (some ⟨g, 0, none⟩) ks.length cap) ks.length ((d.dur.map Sec.ix).map (Value.int .i64)) := fun n os => ownsRow_sortedI (by rw [List.length_map]; exact hlen.symm) hbase hb h1 h2 h3
      have hg5 : ∀ n os, wr.grownBy (grow (putRow (Value.int .i64) (Sort.ahead wr n) g 0 (d.dur.map Sec.ix).toArray) os) (some g) := fun n os => grownBy_sortedI _
      obtain ⟨N, hN⟩ : ∃ N, N = ks.length := ⟨_, rfl⟩
      have HNL : Hid (N = d.dur.length) := hN.trans hlen
      have HSC : Hid (Calls Tryz.prog 33 #[.slice (some ⟨g, 0, none⟩) N cap] wr fun e w' => e = .returned (.tuple #[]) ∧ w'.ownsRow w.heap.size 3 1 (.slice (some ⟨g, 0, none⟩) N cap) N ((d.dur.map Sec.ix).map (Value.int .i64)) ∧ Below w.heap.size w w') := by
        rw [hN]
        refine hc.mono ?_
        rintro e w' ⟨rfl, n, os, rfl⟩
        exact ⟨rfl, hrow5 n os, INV.out.bel.grown (hg5 n os) INV.out.bel.size (fun j hj => by cases hj; exact hbase)⟩
      rw [← hN]
      clear hc hS hrow5 hg5 hH hb h1 h2 h3 h4 hrow INV hlen hN hl0 hc0 hrg hgl hkl c1' hsz hmk hby hg1 hs0 hi hz0 hz1 hz2
      obtain ⟨i1, hi, hz0, hz1, hz2⟩ := info_parts Tryz.info72
      go_wp2_with fail
      refine HSC.out.mono ?_
      rintro e w5 ⟨rfl, hr5, hb5⟩
      have HR5 : Hid (w5.ownsRow w.heap.size 3 1 (.slice (some ⟨g, 0, none⟩) N cap) N ((d.dur.map Sec.ix).map (Value.int .i64)) ∧ Below w.heap.size w w5) := ⟨hr5, hb5⟩
      have hb5s := hb5.size
      have hNb : N ≤ 8388615 := by rw [HNL.out]; exact hdl
      clear HSC hr5 hb5
      go_wp2_with (first
        | (at_make; refine wpList_make_own _ rfl _ _ 38 rfl w.heap.size 72 i1 (.agg #[.int .i64 0, .string ⟨#[]⟩]) 2 Tryz.underlying38 hi hz0 hz1 _ _ _ N rfl rfl rfl (by rw [hz2]; omega) (by unfold maxLen; omega) hb5s ?_; intro w6 hrow6 hg6))
      have HI : Hid (DurInv w w6 g cap d.dur (.slice (some ⟨w5.heap.size, 0, none⟩) 0 N) 0) := ⟨by
        have hx := HR5.out.1
        rw [HNL.out] at hx
        exact owns_block hx fun j hj => hg6.block j (owns_blk hx j hj).2.1 (by simp), hrow6, HR5.out.2.trans ⟨hg6.os, hg6.tape, hg6.output, hg6.size, fun k hk => hg6.block k (Nat.lt_of_lt_of_le hk hb5s) (by simp)⟩⟩
      clear hrow6 hg6 HR5
      go_wp2_with fail
      go_loopw [5, 35] (fun v i wr => ∃ k, k ≤ N ∧ i = .int .i64 (k : Int) ∧ DurInv w wr g cap d.dur v k) (fun _ i _ => N - (intOf i).toNat)
      case atStart => exact ⟨0, Nat.zero_le _, rfl, HI.out⟩
      case round =>
        obtain ⟨k, hk, rfl, inv⟩ := hrel
        have INV : Hid (DurInv w wr g cap d.dur _ k) := inv
        have hrow := inv.row
        clear inv HI
        obtain ⟨va, vc, hve, -⟩ := owns_form hrow
        subst hve
        by_cases hlt : k < N
        · have hkd : k < d.dur.length := by rw [← HNL.out]; exact hlt
          have hmem := List.getElem_mem hkd
          have hdev := HK.out.below INV.out.bel
          obtain ⟨mb', nb', pv', av', Dn', h'⟩ := hdev
          have x1 : wr.cell? ⟨b, 1, none⟩ = some (.map (some mb')) := h'.cell 1
          have hok := HK.out.ok.dur _ hmem
          have hs1 := HK.out.ok.s1
          obtain ⟨v1, ps, hrun, hv1⟩ := h'.mapD.lookup klaw Tryz.underlying43 (zeroA _) (secR_arr zsec_size) (kkey (i := d.dur[k].ix) hok.1.lo (by have := hok.1.hi; omega))
          rw [durD_at, rise_find d.dur HR.out _ hmem] at hv1
          obtain ⟨t', ht', rfl, he⟩ := secR_inv hv1
          simp only [Prod.mk.injEq, DataW.lit.injEq, Lit.string.injEq] at he
          obtain rfl : t' = d.dur[k].dat := (bl_inj he.1).symm
          have x2 : wr.cell? ⟨g, k, none⟩ = some (.int .i64 d.dur[k].ix) := owns_cell INV.out.keys rfl k _ (by simp [hkd])
          obtain ⟨x, hx⟩ : ∃ x, x = d.dur[k] := ⟨_, rfl⟩
          rw [← hx] at hrun x2 ht'
          have HX : Hid (x = d.dur[k]) := hx
          obtain ⟨xi, xd⟩ := x
          simp only [] at hrun x2 ht'
          have hst := zstore wr xd ht'
          have hcv := sec_str wr xd ht'
          have hbs := INV.out.bel.size
          have hb1 := below_new wr (.cells (u8s (bl xd)).toArray 75)
          have hrowA := owns_below hrow hb1
          obtain ⟨cs, hcs⟩ : ∃ cs, cs = (u8s (bl xd)).toArray := ⟨_, rfl⟩
          obtain ⟨V, hV⟩ : ∃ V, V = arr xd := ⟨_, rfl⟩
          rw [← hcs] at hst hcv hb1 hrowA
          rw [← hV] at hst hrun
          have hB2 := boxed_new (wr.alloc (.cells cs 75)) #[.int .i64 xi, .string xd] 72
          clear hx hv1 he ht' hcs hV h' hok hmem
          go_wp2_with (first
            | (refine wpList_store_eq rfl 75 _ _ rfl _ _ rfl rfl hst ?_)
            | (at_builtin; refine wpList_append_lies _ rfl _ _ 38 rfl w.heap.size 72 i1 (.agg #[.int .i64 0, .string ⟨#[]⟩]) 2 24 Tryz.underlying38 hi hz0 hz1 hz2 rfl (by decide) _ _ _ rfl (hrowA.alloc _) ⟨wr.heap.size + 1, 0, none⟩ 1 1 [.int .i64 xi, .string xd] rfl rfl ?c1 ?c2 ?c3 ?c4 ?c5 ?c6 (wr.heap.size + 1 + 1) ?c7 ?_))
          case c2 => exact ⟨rfl, rfl⟩
          case c4 => unfold maxLen; omega
          case c5 => omega
          case c6 => omega
          intro g2 cap2 w7 hown7 hgrow7 hat7 hlg7
          have hB3 : Below w.heap.size w ((wr.alloc (.cells cs 75)).alloc (.cells #[.int .i64 xi, .string xd] 72)) := (INV.out.bel.alloc (by omega) _).alloc (by simp; omega) _
          have V7 : DurInv w w7 g cap d.dur (.slice (some ⟨g2, 0, none⟩) (k + 1) cap2) (k + 1) := by
            refine ⟨?_, ?_, hB3.grown hgrow7 (by simp; omega) (fun j hj => (owns_blk hrow j hj).1)⟩
            · have k1 := owns_below (owns_below INV.out.keys hb1) (below_new (wr.alloc (.cells cs 75)) (.cells #[.int .i64 xi, .string xd] 72))
              refine owns_block k1 fun j hj => hgrow7.block j (owns_blk k1 j hj).2.1 fun e => ?_
              obtain ⟨_, _, c', hc'⟩ := owns_blk hrow j e.symm
              obtain ⟨_, _, c'', hc''⟩ := owns_blk INV.out.keys j hj
              rw [hc'] at hc''; simp at hc''
            · rw [take_next' _ k hkd, secCells_app, ← HX.out]
              exact hown7
          clear hown7 hgrow7 hat7 hlg7 hB3 hB2 hrowA hb1 hst hcv hrun INV hrow x1 x2
          go_wp2_with fail
          go_roundw
          case rel => exact ⟨k + 1, by omega, by go_num, V7⟩
          case measure => simp [intOf]; omega
        · have hke : k = d.dur.length := by rw [← HNL.out]; omega
          have V := INV.out
          go_wp2_with fail
          go_ret
          have vr := V.row
          rw [show List.take k d.dur = d.dur from List.take_of_length_le (by omega)] at vr
          refine ⟨.slice va k vc, rfl, ?_, V.bel⟩
          rw [← hke]
          exact vr
    · intro x c kl yd yp w2 cnt2 hkey hlk hv hat hrg2 hlt hg2 hs2 hen
      obtain ⟨x', ex, rfl, hwx⟩ := Maps.keyOf_int_inv Tryz.underlying3 hkey
      cases ex
      have hrow := INV.out.row
      have hrow2 := hrow.kept hg2 (Or.inr (row_ne_iter hrow hrg).symm)
      have hkl := INV.out.len
      have hbs := INV.out.bel.size
      have hen2 := hen
      clear hs2 hen hv
      obtain ⟨va, vc, hve, -⟩ := owns_form hrow
      subst hve
      go_wp2_with (first
        | (at_builtin; refine wpList_append_own _ rfl _ _ 73 rfl w.heap.size 3 i0 (.int .i64 0) 1 8 Tryz.underlying73 hi hz0 hz1 hz2 rfl (by decide) _ _ _ rfl (hrow2.alloc _) ⟨w2.heap.size, 0, none⟩ 1 1 [.int .i64 x] rfl rfl (cell_one_new _ _ _) (by simp [Value.oneCell']) (by unfold maxLen; omega) (by omega) (by have := hg2.size; simp; omega) ?_; intro v' w3 hown' hg3 hnil3))
      have hrg3 := (hrg2.alloc _).kept hg3 (row_ne_low hrow2 hbl) (row_ne_iter hrow2 hrg2)
      refine ⟨⟨_, cnt2, ks ++ [x], hrg3, by simp; omega, by simpa using hown', fun hv' => by have := (hnil3.1 hv').2; omega, INV.out.col.step hlk hat, ?_⟩, by rw [hrg3.left_eq, hrg.left_eq]; exact hlt⟩
      exact ((INV.out.bel.grown hg2 hbs (fun j hj => by cases hj; exact hg1.size)).alloc (by have := hg2.size; omega) _).grown hg3 (by have := hg2.size; simp; omega) (fun j hj => (hrow2.lt j hj).1)



end Go.Proofs.YtlopimdnjookeabGreatDoor.V
