import Derived.Test.YtagldlchamlpdabDoorBEncode
import Derived.Test.YtagldlchamlpdabDoorPck2
import Derived.Test.YtagldlchamlpdabDoorBEditF
import Derived.Test.YtagldlchamlpdabDoorBCut
import Derived.Test.YtagldlchamlpdabDoorBJoin
import Derived.Test.YtagldlchamlpdabDoorSam2
import Derived.Test.YtagldlchamlpdabDoorErs2
import Derived.Test.YtagldlchamlpdabDoorMat2
namespace Go.Proofs.YtagldlchamlpdabDoor
open Go.RowKit

theorem PickAt.uniq2 {l : List Lk} {key : ByteArray} {p q : Nat} (h : PickAt l key p) (k : PickAt l key q) : p = q := by
  rcases Nat.lt_trichotomy p q with hl | hl | hl
  · obtain ⟨j, rfl⟩ : ∃ j, q = j + 1 := ⟨q - 1, by omega⟩
    have h1 := h.2.1 j (by have := k.1; omega) (by omega)
    rw [k.2.2 j (by have := k.1; omega) rfl] at h1
    cases h1
  · exact hl
  · obtain ⟨j, rfl⟩ : ∃ j, p = j + 1 := ⟨p - 1, by omega⟩
    have h1 := k.2.1 j (by have := h.1; omega) (by omega)
    rw [h.2.2 j (by have := h.1; omega) rfl] at h1
    cases h1
/-- The link that anew writes. -/
def zLk : Lk := (⟨#[122, 122, 122, 122]⟩, 5)
theorem zset_twice {l : List Lk} {n : Nat} (hn : l.length = n) (h8 : 8 ≤ n) (h5 : (l.getD 2 (⟨#[]⟩, 0)).2 = 5) : chkB 2 (l.set (n - 1) zLk) true ≠ none := fun h => by
  obtain ⟨_, _, _, _, hnd, _⟩ := chkB_none h
  have hl : (l.set (n - 1) zLk).length = n := by rw [List.length_set, hn]
  have e1 : (kids 2 (l.set (n - 1) zLk))[3]? = some 5 := by
    unfold kids
    rw [List.getElem?_cons_succ, List.getElem?_map, List.getElem?_set_ne (by omega)]
    rw [List.getD_eq_getElem?_getD, List.getElem?_eq_getElem (by omega)] at h5
    rw [List.getElem?_eq_getElem (by omega)]
    simpa using h5
  have e2 : (kids 2 (l.set (n - 1) zLk))[n]? = some 5 := by
    unfold kids
    obtain ⟨m, rfl⟩ : ∃ m, n = m + 1 := ⟨n - 1, by omega⟩
    rw [List.getElem?_cons_succ, List.getElem?_map, Nat.add_sub_cancel, List.getElem?_set_self (by omega)]
    rfl
  have hk : (kids 2 (l.set (n - 1) zLk)).length = n + 1 := by unfold kids; rw [List.length_cons, List.length_map, hl]
  obtain ⟨h3, v3⟩ := List.getElem?_eq_some_iff.1 e1
  obtain ⟨hn', vn⟩ := List.getElem?_eq_some_iff.1 e2
  exact (List.pairwise_iff_getElem.1 hnd) 3 n h3 hn' (by omega) (v3.trans vn.symm)
theorem fine_cut {l : List Lk} {i c : Nat} (h8 : 8 ≤ l.length) (hs : ∀ p ∈ l, p.1.size ≤ 255) (h : CutN 3 (gapP (szsK l)) (szsK l) i c) : c = 0 := by
  rcases h with ⟨h1, _⟩ | ⟨_, hf, _⟩ | ⟨_, _, _, h⟩
  · rw [szsK_len] at h1; omega
  · refine absurd (fun j hj => ?_) hf
    rw [szsK_get l j hj]
    have := hs (l[j]'(by rw [szsK_len] at hj; exact hj)) (List.getElem_mem _)
    unfold szK
    omega
  · exact h

/-- One block alone may have turned. -/
structure Only1 (g : Nat) (w w' : World) : Prop where
  size : w.heap.size ≤ w'.heap.size
  block : ∀ j, j < w.heap.size → j ≠ g → w'.heap[j]? = w.heap[j]?
theorem Only1.row {g b : Nat} {w w' : World} {cs : Array Value} {t : TypeId} (h : Only1 g w w') (hr : RowAt w b cs t) (hne : b ≠ g) : RowAt w' b cs t := (h.block b hr.lt hne).trans hr
theorem Only1.below {g : Nat} {w w' w2 : World} (h : Only1 g w w') (hb : Below w'.heap.size w' w2) : Only1 g w w2 :=
  ⟨Nat.le_trans h.size hb.size, fun j hj hne => (hb.block j (Nat.lt_of_lt_of_le hj h.size)).trans (h.block j hj hne)⟩

set_option maxRecDepth 20000 in
set_option maxHeartbeats 40000000 in
theorem anew_any (A : Nat → Addr) (g n cap base : Nat) (l : List Lk) (w0 w : World) (hn : l.length = n) (h8 : 8 ≤ n) (h60 : n ≤ 60) (hsz : ∀ p ∈ l, p.1.size ≤ 255) (h5 : (l.getD 2 (⟨#[]⟩, 0)).2 = 5) (ho : LkO w base (.slice (some ⟨g, 0, none⟩) n cap) l) (hE : ErrsG 13 gAll A w0) (hw : Below w0.heap.size w0 w) (hbase : w0.heap.size ≤ base) :
    Calls Tryd.prog 25 #[.agg #[.int .i64 2, .slice (some ⟨g, 0, none⟩) n cap]] w fun e w' => e = .returned (.bool true) ∧ Below w0.heap.size w0 w' ∧ Only1 g w w' := by
  obtain ⟨hbg, hgw⟩ := ho.blk g rfl
  have q0 := below_new w (.cells #[.int .i64 2, .slice (some ⟨g, 0, none⟩) n cap] 30)
  have x0 := RowAt.new w #[.int .i64 2, .slice (some ⟨g, 0, none⟩) n cap] 30
  generalize hW0 : w.alloc (.cells #[.int .i64 2, .slice (some ⟨g, 0, none⟩) n cap] 30) = W0 at *
  have HBA := hide (Below.next hw q0)
  have HO0 := hide (ho.below q0)
  have HX0 := hide x0
  have HQ0 := hide q0
  have HE := hide hE
  have HG : Hid (w0.heap.size ≤ g ∧ g < w.heap.size) := ⟨Nat.le_trans hbase hbg, hgw⟩
  have HNL := hide hn
  have hok : OkK l := fun p hp => Nat.le_trans (hsz p hp) (by decide)
  have HEN : Hid (Calls Tryd.prog 12 #[.agg #[.int .i64 2, .slice (some ⟨g, 0, none⟩) n cap]] W0 fun e w' => ∃ (s : ByteArray) (ev : Value), e = .returned (.tuple #[.string s, ev]) ∧ ((ev = .nilIface ∧ s.toList ≠ []) ∨ ∃ k, ev = .iface 167 (.pointer (some (A k)))) ∧ Below W0.heap.size W0 w') := by
    refine (benc_any A 2 _ l W0 hok (by omega) HO0.out.at (errK_all (hE.keep HBA.out))).mono ?_
    rintro e w' ⟨hv, hb⟩
    rcases hv with ⟨hck, rfl⟩ | ⟨k, _, rfl⟩
    · refine ⟨_, _, rfl, .inl ⟨rfl, fun h => ?_⟩, hb⟩
      have h1 : (encK 2 l).data.toList = layL (cellsK 2 l) := by simp [encK]
      have h2 := layL_len (cellsK 2 l) (by rw [size_cellsK]; exact (chkB_none hck).2.2.2.2.2.1)
      rw [← h1] at h2
      have h3 : (encK 2 l).data.toList = [] := (ByteArray.toList_eq _).symm.trans h
      rw [h3] at h2
      cases h2
    · exact ⟨_, _, rfl, .inr ⟨k, rfl⟩, hb⟩
  obtain ⟨l', hl'⟩ : ∃ x, x = l.set (n - 1) zLk := ⟨_, rfl⟩
  have hln : l'.length = n := by rw [hl', List.length_set, hn]
  have hsz' : ∀ p ∈ l', p.1.size ≤ 255 := fun p hp => by
    rw [hl'] at hp
    rcases List.mem_or_eq_of_mem_set hp with h | h
    · exact hsz p h
    · rw [h]; decide
  have hck : chkB 2 l' true ≠ none := by rw [hl']; exact zset_twice hn h8 h5
  obtain ⟨kk, hkk⟩ : ∃ kk, chkB 2 l' true = some kk := Option.ne_none_iff_exists'.1 hck
  have HSZ := hide hsz'
  have HLN := hide hln
  have HKK := hide hkk
  have HL' := hide hl'
  have hw1 : IntKind.i64.wrap ((n : Int) - 1) = ((n - 1 : Nat) : Int) := by rw [IntKind.wrap_i64]; omega
  have p0 := x0.c0
  have p1 := x0.c1
  clear ho hE hw q0 x0 hsz h5 hok hln hsz' hck hkk hl' hn hbg hgw
  go_enter Tryd.func25, Tryd.ntmps25
  go_wp2_with fail
  refine HEN.out.mono ?_
  rintro e w1 ⟨s, ev0, rfl, hs0, hb1⟩
  have HS0 := hide hs0
  have HB1 := hide hb1
  have x1 := HX0.out.below hb1
  have ho1 := HO0.out.below hb1
  have hown : w1.ownsRow base 54 2 (.slice (some ⟨g, 0, none⟩) n cap) n (lks l) := by
    have := ho1
    unfold LkO at this
    rwa [HNL.out] at this
  obtain ⟨u1, c1⟩ : ∃ u, w1.cell? ⟨g, (n - 1) * 2, none⟩ = some u := by
    rw [World.ownsRow.cellAt hown ((n - 1) * 2) (by omega)]
    exact ⟨_, List.getElem?_eq_getElem (by rw [lks_length]; have := HNL.out; omega)⟩
  obtain ⟨u2, c2⟩ : ∃ u, w1.cell? ⟨g, (n - 1) * 2 + 1, none⟩ = some u := by
    rw [World.ownsRow.cellAt hown ((n - 1) * 2 + 1) (by omega)]
    exact ⟨_, List.getElem?_eq_getElem (by rw [lks_length]; have := HNL.out; omega)⟩
  have f1 : w1.frozen? ⟨g, (n - 1) * 2, none⟩ = false := World.ownsRow.frozenAt hown _
  have f2 : w1.frozen? ⟨g, (n - 1) * 2 + 1, none⟩ = false := World.ownsRow.frozenAt hown _
  have y0 := x1.c0
  have y1 := x1.c1
  have hne : ¬ w.heap.size = g := by have := HG.out; omega
  have hne2 : ¬ g = w.heap.size := by omega
  have hlt : ((n - 1 : Nat) : Int) < (n : Int) := by omega
  have hge : (0 : Int) ≤ ((n - 1 : Nat) : Int) := by omega
  -- the world behind the store
  have hoW : LkO ((w1.setCell ⟨g, (n - 1) * 2, none⟩ (.string ⟨#[122, 122, 122, 122]⟩)).setCell ⟨g, (n - 1) * 2 + 1, none⟩ (.int .i64 5)) base (.slice (some ⟨g, 0, none⟩) n cap) l' := by
    have := ho1.wrote (n - 1) zLk
    rw [← HL'.out] at this
    exact this
  have hxW := (x1.other (j := (n - 1) * 2) hne (.string ⟨#[122, 122, 122, 122]⟩)).other (j := (n - 1) * 2 + 1) hne (.int .i64 5)
  have hbW : Below w0.heap.size w0 ((w1.setCell ⟨g, (n - 1) * 2, none⟩ (.string ⟨#[122, 122, 122, 122]⟩)).setCell ⟨g, (n - 1) * 2 + 1, none⟩ (.int .i64 5)) := ((Below.next HBA.out hb1).setCell (p := ⟨g, (n - 1) * 2, none⟩) HG.out.1 _).setCell (p := ⟨g, (n - 1) * 2 + 1, none⟩) HG.out.1 _
  have hon : Only1 g w ((w1.setCell ⟨g, (n - 1) * 2, none⟩ (.string ⟨#[122, 122, 122, 122]⟩)).setCell ⟨g, (n - 1) * 2 + 1, none⟩ (.int .i64 5)) := by
    have hb := Below.next HQ0.out hb1
    refine ⟨?_, fun j hj hne => ?_⟩
    · simpa using hb.size
    · rw [Below.heap_setCell _ _ _ _ hne, Below.heap_setCell _ _ _ _ hne]
      exact hb.block j hj
  have HS1 : Hid (w.heap.size < w1.heap.size) := by have h1 := HB1.out.size; have h2 := x1.lt; exact h2
  have s2 : ((w1.setCell ⟨g, (n - 1) * 2, none⟩ (.string ⟨#[122, 122, 122, 122]⟩)).setCell ⟨g, (n - 1) * 2 + 1, none⟩ (.int .i64 5)).heap.size = w1.heap.size := by simp
  have q3 := below_new ((w1.setCell ⟨g, (n - 1) * 2, none⟩ (.string ⟨#[122, 122, 122, 122]⟩)).setCell ⟨g, (n - 1) * 2 + 1, none⟩ (.int .i64 5)) (.cells #[.int .i64 2, .slice none 0 0] 30)
  have x3 := RowAt.new ((w1.setCell ⟨g, (n - 1) * 2, none⟩ (.string ⟨#[122, 122, 122, 122]⟩)).setCell ⟨g, (n - 1) * 2 + 1, none⟩ (.int .i64 5)) #[.int .i64 2, .slice none 0 0] 30
  rw [s2] at x3
  have hbX : Below w0.heap.size w0 (((w1.setCell ⟨g, (n - 1) * 2, none⟩ (.string ⟨#[122, 122, 122, 122]⟩)).setCell ⟨g, (n - 1) * 2 + 1, none⟩ (.int .i64 5)).alloc (.cells #[.int .i64 2, .slice none 0 0] 30)) := Below.next hbW q3
  have hsz3 : w0.heap.size ≤ (((w1.setCell ⟨g, (n - 1) * 2, none⟩ (.string ⟨#[122, 122, 122, 122]⟩)).setCell ⟨g, (n - 1) * 2 + 1, none⟩ (.int .i64 5)).alloc (.cells #[.int .i64 2, .slice none 0 0] 30)).heap.size := hbX.size
  obtain ⟨a3, c3, w4, hrun, ho4, hgr⟩ := append_lks (((w1.setCell ⟨g, (n - 1) * 2, none⟩ (.string ⟨#[122, 122, 122, 122]⟩)).setCell ⟨g, (n - 1) * 2 + 1, none⟩ (.int .i64 5)).alloc (.cells #[.int .i64 2, .slice none 0 0] 30)).heap.size (.slice none 0 0) (.slice (some ⟨g, 0, none⟩) n cap) [] l' (((w1.setCell ⟨g, (n - 1) * 2, none⟩ (.string ⟨#[122, 122, 122, 122]⟩)).setCell ⟨g, (n - 1) * 2 + 1, none⟩ (.int .i64 5)).alloc (.cells #[.int .i64 2, .slice none 0 0] 30)) (LkO.nil _ _) (hoW.below q3).at (by rw [HLN.out]; simp only [List.length_nil]; omega) (Nat.le_refl _)
  rw [List.length_nil, HLN.out, Nat.zero_add] at hrun ho4
  rw [List.nil_append] at ho4
  have hb4 : Below (((w1.setCell ⟨g, (n - 1) * 2, none⟩ (.string ⟨#[122, 122, 122, 122]⟩)).setCell ⟨g, (n - 1) * 2 + 1, none⟩ (.int .i64 5)).alloc (.cells #[.int .i64 2, .slice none 0 0] 30)).heap.size (((w1.setCell ⟨g, (n - 1) * 2, none⟩ (.string ⟨#[122, 122, 122, 122]⟩)).setCell ⟨g, (n - 1) * 2 + 1, none⟩ (.int .i64 5)).alloc (.cells #[.int .i64 2, .slice none 0 0] 30)) w4 := (Below.refl _ _).grown hgr (Nat.le_refl _) (fun k hk => by cases hk)
  have x4 := x3.below hb4
  have xb4 := (hxW.below q3).below hb4
  have z5 := (hxW.below q3).c0
  have z6 := (hxW.below q3).c1
  have z0 := x4.c0
  have z1 := x4.c1
  have z2 := x4.free 1
  have z3 := xb4.c0
  have z4 := xb4.c1
  have n1 : ¬ w.heap.size = w1.heap.size := by have := HS1.out; omega
  have n2 : ¬ w1.heap.size = w.heap.size := by omega
  have n3 : ¬ g = w1.heap.size := by have := HS1.out; have := HG.out; omega
  have n4 : ¬ w1.heap.size = g := by omega
  have hxc : RowAt (w4.setCell ⟨w1.heap.size, 1, none⟩ (.slice a3 n c3)) w1.heap.size #[.int .i64 2, .slice a3 n c3] 30 := x4.one (.slice a3 n c3)
  have hxb : RowAt (w4.setCell ⟨w1.heap.size, 1, none⟩ (.slice a3 n c3)) w.heap.size #[.int .i64 2, .slice (some ⟨g, 0, none⟩) n cap] 30 := xb4.other (j := 1) n1 (.slice a3 n c3)
  have hoc : LkR (w4.setCell ⟨w1.heap.size, 1, none⟩ (.slice a3 n c3)) (.slice a3 n c3) l' := (ho4.put (g := w1.heap.size) (j := 1) (fun h => by have h1 := (ho4.blk _ h).1; have h2 : w1.heap.size < (((w1.setCell ⟨g, (n - 1) * 2, none⟩ (.string ⟨#[122, 122, 122, 122]⟩)).setCell ⟨g, (n - 1) * 2 + 1, none⟩ (.int .i64 5)).alloc (.cells #[.int .i64 2, .slice none 0 0] 30)).heap.size := x3.lt; omega) (.slice a3 n c3)).at
  have hob : LkR (w4.setCell ⟨w1.heap.size, 1, none⟩ (.slice a3 n c3)) (.slice (some ⟨g, 0, none⟩) n cap) l' := (((hoW.below q3).below hb4).put (g := w1.heap.size) (j := 1) (fun h => n3 (by simpa [Value.ownBlock] using h)) (.slice a3 n c3)).at
  have hbV : Below w0.heap.size w0 (w4.setCell ⟨w1.heap.size, 1, none⟩ (.slice a3 n c3)) := (Below.next hbX hb4).setCell (p := ⟨w1.heap.size, 1, none⟩) (by have h1 := HBA.out.size; have h2 := HB1.out.size; show w0.heap.size ≤ w1.heap.size; omega) _
  have honV : Only1 g w (w4.setCell ⟨w1.heap.size, 1, none⟩ (.slice a3 n c3)) := by
    have h1 := (hon.below q3).below hb4
    refine ⟨by simpa using h1.size, fun j hj hne => ?_⟩
    rw [Below.heap_setCell _ _ _ _ (by have := HS1.out; show j ≠ w1.heap.size; omega)]
    exact h1.block j hj hne
  have HXC := hide hxc
  have HXB := hide hxb
  have HOC := hide hoc
  have HOB := hide hob
  have HBV := hide hbV
  have HONV := hide honV
  clear hoW hxW hbW hon hs0 hb1 x1 ho1 hown HEN p0 p1 HO0 HX0 q3 x3 s2 hbX hsz3 ho4 hgr hb4 x4 xb4 hxc hxb hoc hob hbV honV
  go_wp2_with (first | (at_builtin; refine wpList_append_run 28 rfl (.tmp 45) (.tmp 47) rfl rfl _ _ rfl rfl _ _ hrun ?_))
  clear hrun y0 y1 c1 c2 z0 z1 z2 z3 z4 z5 z6
  generalize w4.setCell ⟨w1.heap.size, 1, none⟩ (.slice a3 n c3) = V at *
  have hll : l'.length = n := HLN.out
  have hok' : OkK l' := fun p hp => Nat.le_trans (HSZ.out p hp) (by decide)
  have hEV : ErrsG 13 gAll A V := HE.out.keep HBV.out
  obtain ⟨ek, hek⟩ : ∃ x : Value, x = .iface 167 (.pointer (some (A kk))) := ⟨_, rfl⟩
  obtain ⟨zz, hzz⟩ : ∃ x : Int, x = wsz (szB l') := ⟨_, rfl⟩
  obtain ⟨nk, hnk⟩ : ∃ x : Int, x = (numE (some kk) : Int) := ⟨_, rfl⟩
  have hkinds := chkB_kinds 2 l' true
  rw [HKK.out] at hkinds
  have HENC : Hid (∀ x, LkR V x l' → ∀ W, Below V.heap.size V W → Calls Tryd.prog 12 #[.agg #[.int .i64 2, x]] W fun e w' => e = .returned (.tuple #[.string ⟨#[]⟩, ek]) ∧ Below W.heap.size W w') := fun x hx W h => by
    refine (benc_any A 2 x l' W hok' (by omega) (hx.below h) (errK_all (hEV.keep h))).mono ?_
    rintro e w' ⟨hv, hb⟩
    rcases hv with ⟨hc, _⟩ | ⟨k, hk, rfl⟩
    · rw [HKK.out] at hc; cases hc
    · rw [HKK.out] at hk
      cases hk
      exact ⟨by rw [hek]; rfl, hb⟩
  have HCUT : Hid (∀ x, LkR V x l' → ∀ W, Below V.heap.size V W → Calls Tryd.prog 17 #[.agg #[.int .i64 2, x]] W fun e w' => ∃ (i : Nat) (hi : i < l'.length) (xa ya : Option Addr) (xc yc n1 n2 : Nat), e = .returned (.tuple #[.agg #[.int .i64 2, .slice xa n1 xc], .string l'[i].1, .agg #[.int .i64 l'[i].2, .slice ya n2 yc], .nilIface]) ∧ CutN 3 (gapP (szsK l')) (szsK l') i 0 ∧ LkR w' (.slice xa n1 xc) (l'.take i) ∧ LkR w' (.slice ya n2 yc) (l'.drop (i + 1)) ∧ Below W.heap.size W w') := fun x hx W h => by
    refine (bcut_any A 2 x l' W hok' (by omega) (hx.below h) (errC_all (hEV.keep h))).mono ?_
    rintro e w' ⟨⟨i, c, ky, f1, f2, u1, u2, ev, rfl, hcn, hno, hcs⟩, hb⟩
    have hc0 := fine_cut (by omega) HSZ.out hcn
    subst hc0
    have hev := numOf_nil hno
    subst hev
    rcases hcs with ⟨_, ⟨hi, rfl, rfl, rfl⟩, o1, o2, _⟩ | ⟨h, _⟩
    · obtain ⟨xa, xc, hu⟩ := o1.form
      obtain ⟨ya, yc, hu2⟩ := o2.form
      subst hu hu2
      exact ⟨i, hi, xa, ya, xc, yc, _, _, rfl, hcn, o1.at, o2.at, hb⟩
    · exact absurd rfl h
  have HREM : Hid (∀ x, LkR V x l' → ∀ W, Below V.heap.size V W → Calls Tryd.prog 22 #[.agg #[.int .i64 2, x], .int .i64 2] W fun e w' => ∃ xa m xc, e = .returned (.tuple #[.agg #[.int .i64 2, .slice xa m xc], .nilIface]) ∧ LkR w' (.slice xa m xc) (remL l' 2) ∧ Below W.heap.size W w') := fun x hx W h => by
    refine (brem_any A 2 2 x l' W (by omega) (hx.below h) (errC_all (hEV.keep h))).mono ?_
    rintro e w' ⟨hv, hb⟩
    rcases hv with ⟨_, u, rfl, ho⟩ | ⟨hg, _⟩
    · obtain ⟨xa, xc, hu⟩ := ho.form
      subst hu
      exact ⟨xa, _, xc, rfl, ho.at, hb⟩
    · simp only [hasLk, Bool.and_eq_false_iff, decide_eq_false_iff_not] at hg
      omega
  have HJN : Hid (∀ x, LkR V x l' → ∀ W, Below V.heap.size V W → Calls Tryd.prog 18 #[.agg #[.int .i64 2, x], .string ⟨#[126]⟩, .agg #[.int .i64 2, x]] W fun e w' => ∃ xa m xc, e = .returned (.agg #[.int .i64 2, .slice xa m xc]) ∧ LkR w' (.slice xa m xc) (joinL l' ⟨#[126]⟩ 2 l') ∧ Below W.heap.size W w') := fun x hx W h => by
    refine (bjoin_any 2 2 ⟨#[126]⟩ x x l' l' W (by omega) (hx.below h) (hx.below h)).mono ?_
    rintro e w' ⟨u, rfl, ho, hb⟩
    obtain ⟨xa, xc, hu⟩ := ho.form
    subst hu
    exact ⟨xa, _, xc, rfl, ho.at, hb⟩
  have HSI : Hid (∀ x, LkR V x l' → ∀ W, Below V.heap.size V W → Calls Tryd.prog 26 #[.agg #[.int .i64 2, x]] W fun e w' => e = .returned (.int .i64 zz) ∧ Below W.heap.size W w') := fun x hx W h => by
    rw [hzz]; exact bsize_any 2 x l' W hok' (by omega) (hx.below h)
  have HPI : Hid (∀ x, LkR V x l' → ∀ W, Below V.heap.size V W → Calls Tryd.prog 19 #[.agg #[.int .i64 2, x], .string ⟨#[122, 122, 122, 122]⟩] W fun e w' => ∃ p : Nat, e = .returned (.int .i64 (p : Int)) ∧ PickAt l' ⟨#[122, 122, 122, 122]⟩ p ∧ Below W.heap.size W w') := fun x hx W h => by
    refine (bpick_any 2 x l' _ W (by omega) (hx.below h)).mono ?_
    rintro e w' ⟨⟨p, rfl, hp⟩, hb⟩
    exact ⟨p, rfl, hp, hb⟩
  have HCK : Hid (∀ x, LkR V x l' → ∀ W, Below V.heap.size V W → Calls Tryd.prog 11 #[.agg #[.int .i64 2, x], .bool true] W fun e w' => e = .returned ek ∧ Below W.heap.size W w') := fun x hx W h => by
    have := bcheck_any A 2 x l' true W hok' (by omega) (hx.below h) (errK_all (hEV.keep h))
    rw [HKK.out] at this
    rw [hek]
    exact this
  have HNK : Hid (∀ W, Below V.heap.size V W → Calls Tryd.prog 10 #[ek] W fun e w' => e = .returned (.int .i64 nk) ∧ W = w') := fun W h => by
    rw [hek, hnk]; exact num_errK A (some kk) W (hEV.keep h) hkinds
  have HNN : Hid (∀ W, Below V.heap.size V W → Calls Tryd.prog 10 #[.nilIface] W fun e w' => e = .returned (.int .i64 0) ∧ W = w') := fun W h => num_errK A none W (hEV.keep h) (.inl rfl)
  have HLB : Hid (l'.length ≤ 60) := by show _ ≤ _; omega
  have hnn : (nk == nk) = true := by simp
  have hzq : (zz == zz) = true := by simp
  clear hll hok' hEV hek hzz hnk hkinds HKK HSZ HLN HL'
  refine (HENC.out _ HOB.out V (Below.refl _ _)).mono ?_
  rintro e v1 ⟨rfl, hb1⟩
  have HB1 := hide hb1
  have p0 := (HXC.out.below hb1).c0
  have p1 := (HXC.out.below hb1).c1
  clear hb1
  go_wp2_with fail
  clear p0 p1
  refine (HENC.out _ HOC.out v1 HB1.out).mono ?_
  rintro e v2 ⟨rfl, hb2⟩
  have HB2 := hide (Below.next HB1.out hb2)
  have p0 := (HXB.out.below HB2.out).c0
  have p1 := (HXB.out.below HB2.out).c1
  clear hb2 HB1 HENC
  go_wp2_with fail
  clear p0 p1
  refine (HCUT.out _ HOB.out v2 HB2.out).mono ?_
  rintro e v3 ⟨i, hi, xa, ya, xc, yc, n5, n6, rfl, hcn, r1, r2, hb3⟩
  obtain ⟨ky, hky⟩ : ∃ x, x = l'[i].1 := ⟨_, rfl⟩
  obtain ⟨fr, hfr⟩ : ∃ x, x = l'[i].2 := ⟨_, rfl⟩
  rw [← hky, ← hfr]
  have HKY := hide hky
  have HFR := hide hfr
  have HCN := hide hcn
  have q1 := below_new v3 (.cells #[.int .i64 2, .slice xa n5 xc] 30)
  have x1 := RowAt.new v3 #[.int .i64 2, .slice xa n5 xc] 30
  have q2 := below_new (v3.alloc (.cells #[.int .i64 2, .slice xa n5 xc] 30)) (.cells #[.int .i64 fr, .slice ya n6 yc] 30)
  have x2 := RowAt.new (v3.alloc (.cells #[.int .i64 2, .slice xa n5 xc] 30)) #[.int .i64 fr, .slice ya n6 yc] 30
  have s2 : (v3.alloc (.cells #[.int .i64 2, .slice xa n5 xc] 30)).heap.size = v3.heap.size + 1 := by simp
  rw [s2] at x2
  have x3 := x1.below q2
  have hbn := Below.next q1 q2
  have HB4 := hide (Below.next HB2.out (Below.next hb3 hbn))
  have HR1 := hide (r1.below hbn)
  have HR2 := hide (r2.below hbn)
  have HX1 := hide x3
  have HX2 := hide x2
  have p0 := (HXC.out.below HB4.out).c0
  have p1 := (HXC.out.below HB4.out).c1
  clear hb3 hky hfr hcn q1 x1 q2 x2 s2 x3 hbn r1 r2 HB2
  go_wp2_with fail
  clear p0 p1
  generalize (v3.alloc (.cells #[.int .i64 2, .slice xa n5 xc] 30)).alloc (.cells #[.int .i64 fr, .slice ya n6 yc] 30) = V4 at *
  obtain ⟨bb, hbb⟩ : ∃ b, b = v3.heap.size + 1 := ⟨_, rfl⟩
  obtain ⟨ba, hba⟩ : ∃ b, b = v3.heap.size := ⟨_, rfl⟩
  rw [← hbb] at HX2 ⊢
  rw [← hba] at HX1 ⊢
  clear hba hbb
  refine (HCUT.out _ HOC.out V4 HB4.out).mono ?_
  rintro e v5 ⟨i', hi', za, ta, zc, tc, n7, n8, rfl, hcn', r3, r4, hb5⟩
  obtain ⟨hii, _⟩ := CutN.unique hcn' HCN.out
  subst hii
  rw [← HKY.out, ← HFR.out]
  have q1 := below_new v5 (.cells #[.int .i64 2, .slice za n7 zc] 30)
  have x1 := RowAt.new v5 #[.int .i64 2, .slice za n7 zc] 30
  have q2 := below_new (v5.alloc (.cells #[.int .i64 2, .slice za n7 zc] 30)) (.cells #[.int .i64 fr, .slice ta n8 tc] 30)
  have x2 := RowAt.new (v5.alloc (.cells #[.int .i64 2, .slice za n7 zc] 30)) #[.int .i64 fr, .slice ta n8 tc] 30
  have s2 : (v5.alloc (.cells #[.int .i64 2, .slice za n7 zc] 30)).heap.size = v5.heap.size + 1 := by simp
  rw [s2] at x2
  have x3 := x1.below q2
  have hbn := Below.next q1 q2
  have hb6 := Below.next hb5 hbn
  have HB6 := hide (Below.next HB4.out hb6)
  have HS1 := hide (HR1.out.below hb6)
  have HS2 := hide (HR2.out.below hb6)
  have HR3 := hide (r3.below hbn)
  have HR4 := hide (r4.below hbn)
  have HX3 := hide x3
  have HX4 := hide x2
  have p0 := (HX1.out.below hb6).c0
  have p1 := (HX1.out.below hb6).c1
  have p2 := x3.c0
  have p3 := x3.c1
  have HX1b := hide (HX1.out.below hb6)
  have HX2b := hide (HX2.out.below hb6)
  clear hb5 hcn' q1 x1 q2 x2 s2 x3 hbn r3 r4 HB4 hb6 HX1 HX2 HR1 HR2 HCUT HCN
  go_wp2_with fail
  clear p0 p1 p2 p3
  generalize (v5.alloc (.cells #[.int .i64 2, .slice za n7 zc] 30)).alloc (.cells #[.int .i64 fr, .slice ta n8 tc] 30) = V6 at *
  obtain ⟨bd, hbd⟩ : ∃ b, b = v5.heap.size + 1 := ⟨_, rfl⟩
  obtain ⟨bc, hbc⟩ : ∃ b, b = v5.heap.size := ⟨_, rfl⟩
  rw [← hbd] at HX4 ⊢
  rw [← hbc] at HX3 ⊢
  clear hbd hbc
  refine (sameb_same 2 _ _ (l'.take i') V6 (by rw [List.length_take]; have := HLB.out; omega) HS1.out HR3.out).mono ?_
  rintro e v7 ⟨rfl, hb7⟩
  have HB7 := hide (Below.next HB6.out hb7)
  have p0 := (HX2b.out.below hb7).c0
  have p1 := (HX2b.out.below hb7).c1
  have p2 := (HX4.out.below hb7).c0
  have p3 := (HX4.out.below hb7).c1
  have HS2b := hide (HS2.out.below hb7)
  have HR4b := hide (HR4.out.below hb7)
  clear hb7 HB6 HX1b HX3 HS1 HR3 HS2 HR4
  go_wp2_with fail
  clear p0 p1 p2 p3
  refine (sameb_same fr _ _ (l'.drop (i' + 1)) v7 (by rw [List.length_drop]; have := HLB.out; omega) HS2b.out HR4b.out).mono ?_
  rintro e v8 ⟨rfl, hb8⟩
  have HB8 := hide (Below.next HB7.out hb8)
  have p0 := (HXB.out.below HB8.out).c0
  have p1 := (HXB.out.below HB8.out).c1
  clear hb8 HB7 HS2b HR4b HX2b HX4
  go_wp2_with fail
  clear p0 p1
  refine (HREM.out _ HOB.out v8 HB8.out).mono ?_
  rintro e v9 ⟨xa, m9, xc, rfl, r9, hb9⟩
  have q1 := below_new v9 (.cells #[.int .i64 2, .slice xa m9 xc] 30)
  have x1 := RowAt.new v9 #[.int .i64 2, .slice xa m9 xc] 30
  have HB10 := hide (Below.next HB8.out (Below.next hb9 q1))
  have HR9 := hide (r9.below q1)
  have HX9 := hide x1
  have p0 := (HXC.out.below HB10.out).c0
  have p1 := (HXC.out.below HB10.out).c1
  clear hb9 q1 x1 r9 HB8
  go_wp2_with fail
  clear p0 p1
  generalize v9.alloc (.cells #[.int .i64 2, .slice xa m9 xc] 30) = V10 at *
  obtain ⟨be, hbe⟩ : ∃ b, b = v9.heap.size := ⟨_, rfl⟩
  rw [← hbe] at HX9 ⊢
  clear hbe
  refine (HREM.out _ HOC.out V10 HB10.out).mono ?_
  rintro e v11 ⟨za, m11, zc, rfl, r11, hb11⟩
  have q1 := below_new v11 (.cells #[.int .i64 2, .slice za m11 zc] 30)
  have x1 := RowAt.new v11 #[.int .i64 2, .slice za m11 zc] 30
  have hb12 := Below.next hb11 q1
  have HB12 := hide (Below.next HB10.out hb12)
  have HS9 := hide (HR9.out.below hb12)
  have HR11 := hide (r11.below q1)
  have HX11 := hide x1
  have HX9b := hide (HX9.out.below hb12)
  clear hb11 q1 x1 r11 HB10 HR9 HX9 hb12 HREM
  have p0 := HX9b.out.c0
  have p1 := HX9b.out.c1
  have p2 := HX11.out.c0
  have p3 := HX11.out.c1
  have p4 := (HXB.out.below HB12.out).c0
  have p5 := (HXB.out.below HB12.out).c1
  have p6 := (HXC.out.below HB12.out).c0
  have p7 := (HXC.out.below HB12.out).c1
  go_wp2_with fail
  generalize v11.alloc (.cells #[.int .i64 2, .slice za m11 zc] 30) = V12 at *
  obtain ⟨bf, hbf⟩ : ∃ b, b = v11.heap.size := ⟨_, rfl⟩
  rw [← hbf] at HX11 p2 p3 ⊢
  clear hbf
  have HSA : Hid (∀ W, Below V12.heap.size V12 W → Calls Tryd.prog 9 #[.agg #[.int .i64 2, .slice xa m9 xc], .agg #[.int .i64 2, .slice za m11 zc]] W fun e w' => e = .returned (.bool true) ∧ Below W.heap.size W w') := fun W h => sameb_same 2 _ _ (remL l' 2) W (by have := HLB.out; unfold remL; rw [List.length_append, List.length_take, List.length_drop]; omega) (HS9.out.below h) (HR11.out.below h)
  have HSJ : Hid (∀ W (ja jb : Option Addr) (ma mb ca cb : Nat), LkR W (.slice ja ma ca) (joinL l' ⟨#[126]⟩ 2 l') → LkR W (.slice jb mb cb) (joinL l' ⟨#[126]⟩ 2 l') → Calls Tryd.prog 9 #[.agg #[.int .i64 2, .slice ja ma ca], .agg #[.int .i64 2, .slice jb mb cb]] W fun e w' => e = .returned (.bool true) ∧ Below W.heap.size W w') := fun W ja jb ma mb ca cb r1 r2 => sameb_same 2 _ _ (joinL l' ⟨#[126]⟩ 2 l') W (by have := HLB.out; unfold joinL; rw [List.length_append, List.length_cons]; omega) r1 r2
  go_region_held3 (fun w' => w'.cell? ⟨be, 0, none⟩ = some (.int .i64 2) ∧ w'.cell? ⟨be, 1, none⟩ = some (.slice xa m9 xc) ∧ w'.cell? ⟨bf, 0, none⟩ = some (.int .i64 2) ∧ w'.cell? ⟨bf, 1, none⟩ = some (.slice za m11 zc) ∧ w'.cell? ⟨w.heap.size, 0, none⟩ = some (.int .i64 2) ∧ w'.cell? ⟨w.heap.size, 1, none⟩ = some (.slice (some ⟨g, 0, none⟩) n cap) ∧ w'.cell? ⟨w1.heap.size, 0, none⟩ = some (.int .i64 2) ∧ w'.cell? ⟨w1.heap.size, 1, none⟩ = some (.slice a3 n c3)) (go_keep)
    (first
      | (go_at_call_of 9 (Value.agg #[Value.int IntKind.i64 2, Value.slice xa m9 xc]); refine (HSA.out _ ?_).mono ?_; (exact (Below.refl _ _).drew); rintro e y1 ⟨rfl, hb⟩; have HY1 := hide (undrewB hb); clear hb; have d0 := (HX9b.out.below HY1.out).c0; have d1 := (HX9b.out.below HY1.out).c1; have d2 := (HX11.out.below HY1.out).c0; have d3 := (HX11.out.below HY1.out).c1; have d4 := (HXB.out.below (Below.next HB12.out HY1.out)).c0; have d5 := (HXB.out.below (Below.next HB12.out HY1.out)).c1; have d6 := (HXC.out.below (Below.next HB12.out HY1.out)).c0; have d7 := (HXC.out.below (Below.next HB12.out HY1.out)).c1)
      | (go_at_call_of 18 (Value.agg #[Value.int IntKind.i64 2, Value.slice (some ⟨g, 0, none⟩) n cap]); refine (HJN.out (.slice (some ⟨g, 0, none⟩) n cap) HOB.out _ ?_).mono ?_; (exact Below.next HB12.out HY1.out); rintro e y2 ⟨ja, ma, ca, rfl, rj, hb⟩; have HY2 := hide (Below.next HY1.out hb); have HJ1 := hide rj; clear hb rj; have d0 := (HX9b.out.below HY2.out).c0; have d1 := (HX9b.out.below HY2.out).c1; have d2 := (HX11.out.below HY2.out).c0; have d3 := (HX11.out.below HY2.out).c1; have d4 := (HXB.out.below (Below.next HB12.out HY2.out)).c0; have d5 := (HXB.out.below (Below.next HB12.out HY2.out)).c1; have d6 := (HXC.out.below (Below.next HB12.out HY2.out)).c0; have d7 := (HXC.out.below (Below.next HB12.out HY2.out)).c1)
      | (go_at_call_of 18 (Value.agg #[Value.int IntKind.i64 2, Value.slice a3 n c3]); refine (HJN.out (.slice a3 n c3) HOC.out _ ?_).mono ?_; (exact Below.next HB12.out HY2.out); rintro e y3 ⟨jb, mb, cb, rfl, rj, hb⟩; have HY3 := hide (Below.next HY2.out hb); have HJ2 := hide rj; have HJ3 := hide (HJ1.out.below hb); clear hb rj; have d0 := (HX9b.out.below HY3.out).c0; have d1 := (HX9b.out.below HY3.out).c1; have d2 := (HX11.out.below HY3.out).c0; have d3 := (HX11.out.below HY3.out).c1; have d4 := (HXB.out.below (Below.next HB12.out HY3.out)).c0; have d5 := (HXB.out.below (Below.next HB12.out HY3.out)).c1; have d6 := (HXC.out.below (Below.next HB12.out HY3.out)).c0; have d7 := (HXC.out.below (Below.next HB12.out HY3.out)).c1)
      | (go_at_call_of 9 (Value.agg #[Value.int IntKind.i64 2, Value.slice ja ma ca]); refine (HSJ.out _ _ _ _ _ _ _ HJ3.out HJ2.out).mono ?_; rintro e y4 ⟨rfl, hb⟩; have HY4 := hide (Below.next HY3.out hb); clear hb; have d0 := (HX9b.out.below HY4.out).c0; have d1 := (HX9b.out.below HY4.out).c1; have d2 := (HX11.out.below HY4.out).c0; have d3 := (HX11.out.below HY4.out).c1; have d4 := (HXB.out.below (Below.next HB12.out HY4.out)).c0; have d5 := (HXB.out.below (Below.next HB12.out HY4.out)).c1; have d6 := (HXC.out.below (Below.next HB12.out HY4.out)).c0; have d7 := (HXC.out.below (Below.next HB12.out HY4.out)).c1))
  clear p0 p1 p2 p3 p4 p5 p6 p7
  try clear d0 d1 d2 d3 d4 d5 d6 d7
  have HB13 := hide (Below.next HB12.out HY4.out)
  clear HSA HSJ HJN HJ1 HJ2 HJ3 HY1 HY2 HY3 HY4 HS9 HR11 HX9b HX11 HB12
  go_wp2_with fail
  refine (HNK.out y4 HB13.out).mono ?_
  rintro e z1 ⟨rfl, rfl⟩
  go_wp2_with fail
  refine (HNK.out y4 HB13.out).mono ?_
  rintro e z1 ⟨rfl, rfl⟩
  go_wp2_with fail
  refine (HNN.out y4 HB13.out).mono ?_
  rintro e z1 ⟨rfl, rfl⟩
  go_wp2_with fail
  refine (HNN.out y4 HB13.out).mono ?_
  rintro e z1 ⟨rfl, rfl⟩
  go_wp2_with fail
  refine (HNN.out y4 HB13.out).mono ?_
  rintro e z1 ⟨rfl, rfl⟩
  go_wp2_with fail
  refine (HNN.out y4 HB13.out).mono ?_
  rintro e z1 ⟨rfl, rfl⟩
  have p4 := (HXB.out.below HB13.out).c0
  have p5 := (HXB.out.below HB13.out).c1
  have p6 := (HXC.out.below HB13.out).c0
  have p7 := (HXC.out.below HB13.out).c1
  go_wp2_with fail
  go_region_held3 (fun w' => w'.cell? ⟨w.heap.size, 0, none⟩ = some (.int .i64 2) ∧ w'.cell? ⟨w.heap.size, 1, none⟩ = some (.slice (some ⟨g, 0, none⟩) n cap) ∧ w'.cell? ⟨w1.heap.size, 0, none⟩ = some (.int .i64 2) ∧ w'.cell? ⟨w1.heap.size, 1, none⟩ = some (.slice a3 n c3)) (go_keep)
    (first
      | (go_at_call_of 26 (Value.agg #[Value.int IntKind.i64 2, Value.slice (some ⟨g, 0, none⟩) n cap]); refine (HSI.out (.slice (some ⟨g, 0, none⟩) n cap) HOB.out _ HB13.out.drew).mono ?_; rintro e u1 ⟨rfl, hb⟩; have HU1 := hide (Below.next HB13.out (undrewB hb)); clear hb; have d0 := (HXB.out.below HU1.out).c0; have d1 := (HXB.out.below HU1.out).c1; have d2 := (HXC.out.below HU1.out).c0; have d3 := (HXC.out.below HU1.out).c1)
      | (go_at_call_of 26 (Value.agg #[Value.int IntKind.i64 2, Value.slice a3 n c3]); refine (HSI.out (.slice a3 n c3) HOC.out _ HU1.out).mono ?_; rintro e u2 ⟨rfl, hb⟩; have HU2 := hide (Below.next HU1.out hb); clear hb; have d0 := (HXB.out.below HU2.out).c0; have d1 := (HXB.out.below HU2.out).c1; have d2 := (HXC.out.below HU2.out).c0; have d3 := (HXC.out.below HU2.out).c1)
      | (go_at_call_of 19 (Value.agg #[Value.int IntKind.i64 2, Value.slice (some ⟨g, 0, none⟩) n cap]); refine (HPI.out (.slice (some ⟨g, 0, none⟩) n cap) HOB.out _ HU2.out).mono ?_; rintro e u3 ⟨p, rfl, hp, hb⟩; have HU3 := hide (Below.next HU2.out hb); have HP := hide hp; have hpq : ((p : Int) == (p : Int)) = true := (by simp); clear hb hp; have d0 := (HXB.out.below HU3.out).c0; have d1 := (HXB.out.below HU3.out).c1; have d2 := (HXC.out.below HU3.out).c0; have d3 := (HXC.out.below HU3.out).c1)
      | (go_at_call_of 19 (Value.agg #[Value.int IntKind.i64 2, Value.slice a3 n c3]); refine (HPI.out (.slice a3 n c3) HOC.out _ HU3.out).mono ?_; rintro e u4 ⟨p', rfl, hp, hb⟩; have hpp := HP.out.uniq2 hp; subst hpp; have HU4 := hide (Below.next HU3.out hb); clear hb hp; have d0 := (HXB.out.below HU4.out).c0; have d1 := (HXB.out.below HU4.out).c1; have d2 := (HXC.out.below HU4.out).c0; have d3 := (HXC.out.below HU4.out).c1)
      | (go_at_call_of 11 (Value.agg #[Value.int IntKind.i64 2, Value.slice (some ⟨g, 0, none⟩) n cap]); refine (HCK.out (.slice (some ⟨g, 0, none⟩) n cap) HOB.out _ HU4.out).mono ?_; rintro e u5 ⟨rfl, hb⟩; have HU5 := hide (Below.next HU4.out hb); clear hb; have d0 := (HXB.out.below HU5.out).c0; have d1 := (HXB.out.below HU5.out).c1; have d2 := (HXC.out.below HU5.out).c0; have d3 := (HXC.out.below HU5.out).c1)
      | (go_at_call_of 11 (Value.agg #[Value.int IntKind.i64 2, Value.slice a3 n c3]); refine (HCK.out (.slice a3 n c3) HOC.out _ HU5.out).mono ?_; rintro e u6 ⟨rfl, hb⟩; have HU6 := hide (Below.next HU5.out hb); clear hb; have d0 := (HXB.out.below HU6.out).c0; have d1 := (HXB.out.below HU6.out).c1; have d2 := (HXC.out.below HU6.out).c0; have d3 := (HXC.out.below HU6.out).c1)
      | (go_at_call 10; refine (HNK.out _ ?_).mono ?_; (first | exact HU6.out | exact HU5.out); rintro e u7 ⟨rfl, rfl⟩))
  have HBF := hide (Below.next HBV.out HU6.out)
  have HOF := hide (HONV.out.below HU6.out)
  have hkt : (ky.toList == ky.toList) = true := by simp
  clear p4 p5 p6 p7
  rcases HS0.out with ⟨rfl, hs⟩ | ⟨k0, rfl⟩
  · have hse : s.toList.isEmpty = false := by
      cases h : s.toList with
      | nil => exact absurd h hs
      | cons x r => rfl
    go_wp2
    go_ret
    exact ⟨by first | rfl | (show Ending.returned (Value.bool (!s.toList.isEmpty)) = _; rw [hse]; rfl), HBF.out, HOF.out⟩
  · have hnn2 := fun W => iface_ne_nil (some (A k0)) W
    go_wp2
    go_ret
    exact ⟨rfl, HBF.out, HOF.out⟩

end Go.Proofs.YtagldlchamlpdabDoor
