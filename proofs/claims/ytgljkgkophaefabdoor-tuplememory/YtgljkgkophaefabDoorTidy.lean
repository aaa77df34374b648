import Derived.Test.YtgljkgkophaefabDoorTwins
import Derived.Test.YtgljkgkophaefabDoorOrd2
namespace Go.Proofs.YtgljkgkophaefabDoor
open Go.RowKit

theorem ret_int {k : IntKind} {a b : Int} (h : a = b) : Ending.returned (.int k a) = .returned (.int k b) := by rw [h]
set_option maxHeartbeats 400000 in
theorem pick_any (k n : Int) (w : World) (hn0 : 1 ≤ n) (hn : n ≤ 1125899906842624) (_hk1 : -9223372036854775808 ≤ k) (_hk2 : k ≤ 9223372036854775807) :
    Calls Tryd.prog 23 #[.int .i64 k, .int .i64 n] w fun e w' => ∃ r : Nat, e = .returned (.int .i64 (r : Int)) ∧ (r : Int) < n ∧ w = w' := by
  have hlt : k.tmod n < n := Int.tmod_lt_of_pos k (by omega)
  have hgt : -n < k.tmod n := by
    have h2 := Int.tmod_lt_of_pos (-k) (b := n) (by omega)
    rw [Int.neg_tmod] at h2
    omega
  have hne : ¬ n = 0 := by omega
  have h1 : ¬ n < 1 := by omega
  by_cases hneg : k.tmod n < 0
  · go_enter Tryd.func23, Tryd.ntmps23
    go_wp2
    all_goals go_ret
    all_goals (refine ⟨(k.tmod n + n).toNat, ret_int (by omega), by omega, rfl⟩)
  · go_enter Tryd.func23, Tryd.ntmps23
    go_wp2
    all_goals go_ret
    all_goals (refine ⟨(k.tmod n).toNat, ret_int (by omega), by omega, rfl⟩)
set_option maxHeartbeats 400000 in
theorem head_any (s : ByteArray) (w : World) (hs : s.size ≤ 140737488351232) :
    Calls Tryd.prog 24 #[.string s, .int .i64 12] w fun e w' => ∃ t, e = .returned (.string t) ∧ t.size ≤ 12 ∧ w = w' := by
  by_cases h : s.size ≤ 12
  · go_enter Tryd.func24, Tryd.ntmps24
    go_wp2
    go_ret
    exact ⟨s, rfl, h, rfl⟩
  · go_enter Tryd.func24, Tryd.ntmps24
    go_wp2
    go_ret
    exact ⟨_, rfl, by simp [ByteArray.size_extract]; omega, rfl⟩

/-- An item of a tidy list. -/
structure ItemT (inner : List It → Prop) (x : It) : Prop where
  fit : fits x = true
  ok : x.Ok
  text : x.text.size ≤ 12
  list : x.kind = 5 → inner x.list
def TidyT : Nat → List It → Prop
  | 0, l => l.length ≤ 4 ∧ ∀ x ∈ l, ItemT (fun _ => False) x
  | r + 1, l => l.length ≤ 4 ∧ ∀ x ∈ l, ItemT (TidyT r) x
theorem firstF_none {f : It → Nat} : ∀ {l : List It}, (∀ x ∈ l, f x = 0) → firstF f l = 0
  | [], _ => rfl
  | y :: r, h => by simp only [firstF]; rw [if_pos (h y (by simp)), firstF_none (fun x hx => h x (by simp [hx]))]
theorem oneF_none {rec : List It → Nat} {x : It} (h1 : fits x = true) (h2 : x.kind = 5 → rec x.list = 0) : oneF rec x = 0 := by
  unfold oneF
  rw [if_neg (by simp [h1])]
  split
  · exact h2 ‹_›
  · rfl
theorem TidyT.fault : ∀ (r : Nat) (l : List It), TidyT r l → faultR r l = 0
  | 0, l, h => by
    simp only [faultR]
    rw [if_neg (by have := h.1; omega)]
    exact firstF_none fun x hx => oneF_none (h.2 x hx).fit fun hk => ((h.2 x hx).list hk).elim
  | r + 1, l, h => by
    simp only [faultR]
    rw [if_neg (by have := h.1; omega)]
    exact firstF_none fun x hx => oneF_none (h.2 x hx).fit fun hk => TidyT.fault r _ ((h.2 x hx).list hk)
def lim : Nat → Nat
  | 0 => 108
  | r + 1 => 4 * (lim r + 2)
theorem lim_ge : ∀ r, 108 ≤ lim r
  | 0 => Nat.le_refl _
  | r + 1 => by have := lim_ge r; simp only [lim]; omega
theorem item_len (x : It) (n : Nat) (h : x.text.size ≤ 12) (hl : x.kind = 5 → (encL x.list).length ≤ n) (hn : 25 ≤ n) : x.enc.length ≤ n + 2 := by
  rw [x.enc_eq, List.length_cons]
  have hesc : ∀ t : List UInt8, (escL t).length ≤ 2 * t.length := by
    intro t
    induction t with
    | nil => simp [escL]
    | cons c r ih =>
      rw [escL_cons, List.length_append, List.length_cons]
      split <;> simp <;> omega
  have h1 := hesc x.text.data.toList
  have h2 : x.text.data.toList.length = x.text.size := by simp
  unfold bodyOf
  split
  · simp
  · split
    · simp [num8, be8]; omega
    · split
      · unfold encT; rw [List.length_append]; simp only [List.length_cons, List.length_nil]; omega
      · split
        · have := hl ‹_›; rw [List.length_append]; simp only [List.length_cons, List.length_nil]; omega
        · simp
theorem list_len (n : Nat) : ∀ l : List It, (∀ x ∈ l, x.enc.length ≤ n) → (encL l).length ≤ l.length * n
  | [], _ => by simp [encL]
  | x :: r, h => by
    have h1 := h x (by simp)
    have h2 := list_len n r (fun y hy => h y (by simp [hy]))
    simp only [encL, List.length_append, List.length_cons, Nat.add_mul, Nat.one_mul]
    omega
theorem TidyT.len : ∀ (r : Nat) (l : List It), TidyT r l → (encL l).length ≤ lim r
  | 0, l, h => by
    have h1 := list_len 27 l (fun x hx => item_len x 25 (h.2 x hx).text (fun hk => ((h.2 x hx).list hk).elim) (by omega))
    have h2 : l.length * 27 ≤ 4 * 27 := Nat.mul_le_mul_right _ h.1
    simp only [lim]
    omega
  | r + 1, l, h => by
    have h0 := lim_ge r
    have h1 := list_len (lim r + 2) l (fun x hx => item_len x (lim r) (h.2 x hx).text (fun hk => TidyT.len r _ ((h.2 x hx).list hk)) (by omega))
    have h2 : l.length * (lim r + 2) ≤ 4 * (lim r + 2) := Nat.mul_le_mul_right _ h.1
    simp only [lim]
    omega
theorem lim4 : lim 4 = 28328 := by decide
theorem TidyT.okR : ∀ (r : Nat) (l : List It), TidyT r l → OkR r l
  | 0, l, h => fun x hx => (h.2 x hx).ok
  | r + 1, l, h => fun x hx => ⟨(h.2 x hx).ok, by
      by_cases hk : x.kind = 5
      · exact TidyT.okR r _ ((h.2 x hx).list hk)
      · have : x.list = [] := by
          rcases fits_cases (h.2 x hx).fit with rfl | rfl | rfl | ⟨n, rfl⟩ | ⟨t, rfl⟩ | ⟨l, rfl⟩ <;> first | rfl | exact absurd rfl hk
        rw [this]
        cases r <;> intro y hy <;> simp at hy⟩

theorem wrap64_lo (n : Int) : -9223372036854775808 ≤ wrap64 n := by
  unfold wrap64; omega
theorem wrap64_hi (n : Int) : wrap64 n ≤ 9223372036854775807 := by
  unfold wrap64; omega
theorem four_one (a b : Int) (s : ByteArray) (x : Option Addr) (n c : Nat) : ∀ u ∈ [Value.int .i64 a, .int .i64 b, .string s, .slice x n c], u.oneCell' = true := by
  intro u hu; simp at hu; rcases hu with rfl | rfl | rfl | rfl <;> rfl
theorem fits_null : fits (.mk 1 0 ⟨#[]⟩ []) = true := by simp [fits, fitB, It.kind, It.num, It.text, It.list, ByteArray.toList_eq]
theorem fits_flag (r : Nat) (h : (r : Int) < 2) : fits (.mk 2 r ⟨#[]⟩ []) = true := by
  have : r = 0 ∨ r = 1 := by omega
  rcases this with rfl | rfl <;> simp [fits, fitB, It.kind, It.num, It.text, It.list, ByteArray.toList_eq]
theorem fits_num (n : Int) : fits (.mk 3 n ⟨#[]⟩ []) = true := by simp [fits, fitB, It.kind, It.text, It.list, ByteArray.toList_eq]
theorem fits_text (s : ByteArray) : fits (.mk 4 0 s []) = true := by simp [fits, fitB, It.kind, It.num, It.list]
theorem fits_list (l : List It) : fits (.mk 5 0 ⟨#[]⟩ l) = true := by simp [fits, fitB, It.kind, It.num, It.text, ByteArray.toList_eq]
theorem ok_mk {k n : Int} {t : ByteArray} (l : List It) (h1 : -9223372036854775808 ≤ k) (h2 : k ≤ 9223372036854775807) (h3 : -9223372036854775808 ≤ n) (h4 : n ≤ 9223372036854775807) (h5 : t.size ≤ 140737488351232) : (It.mk k n t l).Ok := ⟨h1, h2, h3, h4, h5⟩
/-- The round's own item, in its block, ahead of the append. -/
structure Boxd (wr w3 : World) (y : It) (yv : Value) : Prop where
  below : Below wr.heap.size wr w3
  c0 : w3.cell? ⟨wr.heap.size, 0, none⟩ = some (.int .i64 y.kind)
  c1 : w3.cell? ⟨wr.heap.size, 1, none⟩ = some (.int .i64 y.num)
  c2 : w3.cell? ⟨wr.heap.size, 2, none⟩ = some (.string y.text)
  c3 : w3.cell? ⟨wr.heap.size, 3, none⟩ = some yv
  inl : ItsAt w3 (fun g => wr.heap.size < g) yv y.list
/-- One more item: what the append leaves. -/
theorem tidy_push {w wr w3 w5 : World} {q : List It} {us : List Value} {v yv : Value} {y : It} {g cap H : Nat} (hbl : Below w.heap.size w wr) (hown : ItsOwn wr w.heap.size v q) (hbx : Boxd wr w3 y yv) (hok : y.Ok)
    (hus : us.length = q.length) (hoks : ∀ i (h : i < q.length), q[i].Ok) (hins : ∀ i (h : i < q.length) (h' : i < us.length), ItsAt w3 (fun g => w.heap.size ≤ g ∧ some g ≠ v.ownBlock ∧ g < w3.heap.size) us[i] q[i].list)
    {o : Obj} (hH : w3.heap.size + 1 = H)
    (hown5 : w5.ownsRow w.heap.size 43 4 (.slice (some ⟨g, 0, none⟩) (q.length + 1) cap) (q.length + 1) (cellsOf' q us ++ [.int .i64 y.kind, .int .i64 y.num, .string y.text, yv]))
    (hgrow : (w3.alloc o).grownBy w5 v.ownBlock) (hat : v.ownBlock = some g ∨ g = H) : ItsOwn w5 w.heap.size (.slice (some ⟨g, 0, none⟩) (q.length + 1) cap) (q ++ [y]) ∧ Below w.heap.size w w5 := by
  have hbk := hown.blk
  have n4 := below_new w3 o
  have hsz := hbl.size
  have hB := Below.next (Below.next hbl hbx.below) n4
  refine ⟨push_own (w4 := w3.alloc o) (H := H) hus hoks (fun i h h' => ?_) hok ?_ hown5 hgrow hat (by simp; omega), hB.grown hgrow hB.size (fun k hk => (hbk k hk).1)⟩
  · exact ((hins i h h').keep n4).imp fun k hk => ⟨hk.1, hk.2.1, Nat.lt_of_lt_of_le hk.2.2 n4.size⟩
  · refine (hbx.inl.keep n4).lt.imp fun k hk => ⟨by omega, fun e => ?_, hk.2⟩
    have := (hbk k e.symm).2
    omega
theorem boxd_new (wr : World) (y : It) (yv : Value) (hl : y.list = []) (hv : yv = .slice none 0 0) : Boxd wr (wr.alloc (.cells #[.int .i64 y.kind, .int .i64 y.num, .string y.text, yv] 43)) y yv := by
  have x1 := boxed_new wr #[.int .i64 y.kind, .int .i64 y.num, .string y.text, yv] 43
  refine ⟨below_new wr _, x1.2 0 (by simp), x1.2 1 (by simp), x1.2 2 (by simp), x1.2 3 (by simp), ?_⟩
  rw [hl, hv]; exact its_nil _ _ _ _
theorem cell_set_other (w : World) (b i j : Nat) (u : Value) (h : i ≠ j) : (w.setCell ⟨b, i, none⟩ u).cell? ⟨b, j, none⟩ = w.cell? ⟨b, j, none⟩ := World.cell?_setCell_other _ _ _ _ (fun e => h (congrArg Addr.off e))

set_option maxHeartbeats 1000000 in
theorem tidy_step (inner : List It → Prop) (d : Int) (hd0 : 0 ≤ d) (hd4 : d ≤ 4)
    (ih : d < 4 → ∀ (l : List It) (v : Value) (w : World), ItsAt w anyB v l → Calls Tryd.prog 7 #[v, .int .i64 (d + 1)] w fun e w' => ∃ v' q, e = .returned v' ∧ ItsOwn w' w.heap.size v' q ∧ inner q ∧ q.length ≤ 4 ∧ (q = [] → v' = .slice none 0 0) ∧ Below w.heap.size w w')
    (l : List It) (v : Value) (w : World) (hv : ItsAt w anyB v l) :
    Calls Tryd.prog 7 #[v, .int .i64 d] w fun e w' => ∃ v' q, e = .returned v' ∧ ItsOwn w' w.heap.size v' q ∧ (∀ x ∈ q, ItemT inner x) ∧ q.length ≤ 4 ∧ (q = [] → v' = .slice none 0 0) ∧ Below w.heap.size w w' := by
  obtain ⟨a, g, off, cap, l, vs, hlen, ha, hok, h0, h1, h2, h3, hin⟩ := hv
  obtain ⟨i0, hi, hz0, hz1, hz2⟩ := info_parts Tryd.info43
  have IH : Hid (d < 4 → ∀ (l : List It) (v : Value) (w : World), ItsAt w anyB v l → Calls Tryd.prog 7 #[v, .int .i64 (d + 1)] w fun e w' => ∃ v' q, e = .returned v' ∧ ItsOwn w' w.heap.size v' q ∧ inner q ∧ q.length ≤ 4 ∧ (q = [] → v' = .slice none 0 0) ∧ Below w.heap.size w w') := ih
  clear ih
  go_enter Tryd.func7, Tryd.ntmps7
  go_wp2_with fail
  go_loopw [5, 6] (fun v i wr => ∃ (j : Nat) (q : List It), j ≤ l.length ∧ j ≤ 4 ∧ q.length = j ∧ i = .int .i64 j ∧ ItsOwn wr w.heap.size v q ∧ (∀ x ∈ q, ItemT inner x) ∧ (q = [] → v = .slice none 0 0) ∧ Below w.heap.size w wr) (fun _ i _ => 4 - (intOf i).toNat)
  case atStart => exact ⟨0, [], Nat.zero_le _, Nat.zero_le _, rfl, rfl, ⟨[], rfl, by simpa [cellsOf'] using World.ownsRow_nil _ _ _ _, fun i h => absurd h (by simp), fun i h => absurd h (by simp)⟩, fun x hx => by simp at hx, fun _ => rfl, Below.refl _ _⟩
  case round =>
    obtain ⟨j, q, hj, hj4, hql, rfl, hown, hall, hnil, hbl⟩ := hrel
    have HQ : Hid (q.length = j ∧ ∀ x ∈ q, ItemT inner x) := ⟨hql, hall⟩
    have HNIL : Hid (q = [] → u5 = .slice none 0 0) := hnil
    clear hnil
    have hqb : q.length ≤ 4 := by omega
    clear hql hall
    by_cases hlt : j < l.length
    · by_cases hlt4 : j < 4
      · obtain ⟨rfl, -⟩ := ha (by omega)
        have c0 := cell_below hbl (h0 j hlt)
        have c1 := cell_below hbl (h1 j hlt)
        have c2 := cell_below hbl (h2 j hlt)
        have c3 := cell_below hbl (h3 j hlt)
        have ia := (hin j hlt).keep hbl
        obtain ⟨k1, k2, n1, n2, ts⟩ := hok j hlt
        have hk : l[j].kind = l[j].kind := rfl
        generalize l[j].kind = xk at *
        generalize l[j].num = xn at *
        generalize l[j].text = xt at *
        generalize l[j].list = xl at *
        generalize vs j = va at *
        clear h0 h1 h2 h3 hin hok ha hk
        have j0 : (0 : Int) ≤ (j : Int) := Int.natCast_nonneg _
        have j1 : (j : Int) < (l.length : Int) := by omega
        have PK : Hid (∀ w', Calls Tryd.prog 23 #[.int .i64 (wrap64 (xk - 1)), .int .i64 5] w' fun e w'' => ∃ r : Nat, e = .returned (.int .i64 (r : Int)) ∧ (r : Int) < 5 ∧ w' = w'') := fun w' => pick_any _ 5 w' (by decide) (by decide) (wrap64_lo _) (wrap64_hi _)
        have PN : Hid (∀ w', Calls Tryd.prog 23 #[.int .i64 xn, .int .i64 2] w' fun e w'' => ∃ r : Nat, e = .returned (.int .i64 (r : Int)) ∧ (r : Int) < 2 ∧ w' = w'') := fun w' => pick_any _ 2 w' (by decide) (by decide) n1 n2
        have HD : Hid (∀ w', Calls Tryd.prog 24 #[.string xt, .int .i64 12] w' fun e w'' => ∃ t, e = .returned (.string t) ∧ t.size ≤ 12 ∧ w' = w'') := fun w' => head_any xt w' ts
        clear k1 k2
        go_wp2_with fail
        refine (PK.out _).mono ?_
        rintro e w1 ⟨r, rfl, hr5, rfl⟩
        have lg : g < wr.heap.size := World.block_lt_of_cell? _ _ c0
        clear PK c0
        have hr : r = 0 ∨ r = 1 ∨ r = 2 ∨ r = 3 ∨ r = 4 := by omega
        rcases hr with rfl | rfl | rfl | rfl | rfl
        · clear hr5 PN HD c1 c2 c3 ia
          have HOK : Hid ((It.mk (1) (0) (⟨#[]⟩) []).Ok) := ok_mk _ (by decide) (by decide) (by decide) (by decide) (by decide)
          have HIT : Hid (ItemT inner (It.mk (1) (0) (⟨#[]⟩) [])) := ⟨fits_null, HOK.out, by decide, fun h => by cases h⟩
          have HBX : Boxd wr (wr.alloc (.cells #[.int .i64 1, .int .i64 0, .string ⟨#[]⟩, .slice none 0 0] 43)) (.mk (1) (0) (⟨#[]⟩) []) (.slice none 0 0) := boxd_new wr (.mk 1 0 ⟨#[]⟩ []) _ rfl rfl
          have HX : Hid (Boxd wr (wr.alloc (.cells #[.int .i64 1, .int .i64 0, .string ⟨#[]⟩, .slice none 0 0] 43)) (.mk (1) (0) (⟨#[]⟩) []) (.slice none 0 0)) := HBX
          obtain ⟨us, hus, how, hoks, hins⟩ := hown.keep HX.out.below
          have HN : Hid (∀ j u, [Value.int .i64 (1), .int .i64 (0), .string (⟨#[]⟩), .slice none 0 0][j]? = some u → ((wr.alloc (.cells #[.int .i64 1, .int .i64 0, .string ⟨#[]⟩, .slice none 0 0] 43)).alloc (.cells #[.int .i64 (1), .int .i64 (0), .string (⟨#[]⟩), .slice none 0 0] 43)).cell? ((⟨wr.heap.size + 1, 0, none⟩ : Addr).add j) = some u) := by
            have hnb := heap_alloc_new (wr.alloc (.cells #[.int .i64 1, .int .i64 0, .string ⟨#[]⟩, .slice none 0 0] 43)) (.cells #[.int .i64 (1), .int .i64 (0), .string (⟨#[]⟩), .slice none 0 0] 43)
            rw [show (wr.alloc (.cells #[.int .i64 1, .int .i64 0, .string ⟨#[]⟩, .slice none 0 0] 43)).heap.size = wr.heap.size + 1 by simp] at hnb
            exact World.news_of_block hnb
          have hm1 : q.length + 1 ≤ maxLen := by unfold maxLen; omega
          have hm2 : (q.length + 1) * 56 ≤ 140737488355328 := by omega
          have hm3 : w.heap.size ≤ wr.heap.size + 1 + 1 := by have := hbl.size; have := HX.out.below.size; simp at this; omega
          have x0 := HX.out.c0
          have x1 := HX.out.c1
          have x2 := HX.out.c2
          have x3 := HX.out.c3
          simp only [It.kind, It.num, It.text] at x0 x1 x2 x3
          go_wp2_with (first
            | (at_builtin; refine wpList_append_lies _ rfl _ _ 22 rfl w.heap.size 43 i0 (.agg #[.int .i64 0, .int .i64 0, .string ⟨#[]⟩, .slice none 0 0]) 4 56 Tryd.underlying22 hi hz0 hz1 hz2 rfl (by decide) _ _ _ rfl (how.alloc _) ⟨wr.heap.size + 1, 0, none⟩ 1 1 [.int .i64 (1), .int .i64 (0), .string (⟨#[]⟩), .slice none 0 0] rfl rfl HN.out (four_one _ _ _ _ _ _) (by decide) hm1 hm2 (by simp; omega) (wr.heap.size + 1 + 1) (by simp) ?_))
          intro g5 cap5 w5 hown5 hgrow hat hlg
          obtain ⟨HO5, HB5⟩ := tidy_push hbl hown HX.out HOK.out hus hoks hins (by simp) hown5 hgrow hat
          have HF : Hid (ItsOwn w5 w.heap.size (.slice (some ⟨g5, 0, none⟩) (q.length + 1) cap5) (q ++ [.mk (1) (0) (⟨#[]⟩) []]) ∧ Below w.heap.size w w5) := ⟨HO5, HB5⟩
          have HT : Hid (∀ x ∈ q ++ [It.mk (1) (0) (⟨#[]⟩) []], ItemT inner x) := fun x hx => by
            rcases List.mem_append.1 hx with h | h
            · exact HQ.out.2 x h
            · rw [List.mem_singleton.1 h]; exact HIT.out
          clear hown5 hgrow hat hlg HO5 HB5 hins hoks how hown hbl HX HN x0 x1 x2 x3
          have hqj := HQ.out.1
          go_wp2_with fail
          go_roundw
          case rel => exact ⟨j + 1, q ++ [.mk (1) (0) (⟨#[]⟩) []], by omega, by omega, by simp [hqj], by go_num, HF.out.1, HT.out, fun h => by simp at h, HF.out.2⟩
          case measure => simp [intOf]; omega
        · clear hr5 HD c2 c3 ia
          go_wp2_with fail
          refine (PN.out _).mono ?_
          rintro e w2 ⟨r2, rfl, hr2, rfl⟩
          clear PN c1
          have HOK : Hid ((It.mk (2) ((r2 : Int)) (⟨#[]⟩) []).Ok) := ok_mk _ (by decide) (by decide) (by omega) (by omega) (by decide)
          have HIT : Hid (ItemT inner (It.mk (2) ((r2 : Int)) (⟨#[]⟩) [])) := ⟨fits_flag r2 hr2, HOK.out, (by decide : (⟨#[]⟩ : ByteArray).size ≤ 12), fun h => by cases h⟩
          have HBX : Boxd wr (wr.alloc (.cells #[.int .i64 2, .int .i64 (r2 : Int), .string ⟨#[]⟩, .slice none 0 0] 43)) (.mk (2) ((r2 : Int)) (⟨#[]⟩) []) (.slice none 0 0) := boxd_new wr (.mk (2) ((r2 : Int)) (⟨#[]⟩) []) _ rfl rfl
          have HX : Hid (Boxd wr (wr.alloc (.cells #[.int .i64 2, .int .i64 (r2 : Int), .string ⟨#[]⟩, .slice none 0 0] 43)) (.mk (2) ((r2 : Int)) (⟨#[]⟩) []) (.slice none 0 0)) := HBX
          obtain ⟨us, hus, how, hoks, hins⟩ := hown.keep HX.out.below
          have HN : Hid (∀ j u, [Value.int .i64 (2), .int .i64 ((r2 : Int)), .string (⟨#[]⟩), .slice none 0 0][j]? = some u → ((wr.alloc (.cells #[.int .i64 2, .int .i64 (r2 : Int), .string ⟨#[]⟩, .slice none 0 0] 43)).alloc (.cells #[.int .i64 (2), .int .i64 ((r2 : Int)), .string (⟨#[]⟩), .slice none 0 0] 43)).cell? ((⟨wr.heap.size + 1, 0, none⟩ : Addr).add j) = some u) := by
            have hnb := heap_alloc_new (wr.alloc (.cells #[.int .i64 2, .int .i64 (r2 : Int), .string ⟨#[]⟩, .slice none 0 0] 43)) (.cells #[.int .i64 (2), .int .i64 ((r2 : Int)), .string (⟨#[]⟩), .slice none 0 0] 43)
            rw [show (wr.alloc (.cells #[.int .i64 2, .int .i64 (r2 : Int), .string ⟨#[]⟩, .slice none 0 0] 43)).heap.size = wr.heap.size + 1 by simp] at hnb
            exact World.news_of_block hnb
          have hm1 : q.length + 1 ≤ maxLen := by unfold maxLen; omega
          have hm2 : (q.length + 1) * 56 ≤ 140737488355328 := by omega
          have hm3 : w.heap.size ≤ wr.heap.size + 1 + 1 := by have := hbl.size; have := HX.out.below.size; simp at this; omega
          have x0 := HX.out.c0
          have x1 := HX.out.c1
          have x2 := HX.out.c2
          have x3 := HX.out.c3
          simp only [It.kind, It.num, It.text] at x0 x1 x2 x3
          go_wp2_with (first
            | (at_builtin; refine wpList_append_lies _ rfl _ _ 22 rfl w.heap.size 43 i0 (.agg #[.int .i64 0, .int .i64 0, .string ⟨#[]⟩, .slice none 0 0]) 4 56 Tryd.underlying22 hi hz0 hz1 hz2 rfl (by decide) _ _ _ rfl (how.alloc _) ⟨wr.heap.size + 1, 0, none⟩ 1 1 [.int .i64 (2), .int .i64 ((r2 : Int)), .string (⟨#[]⟩), .slice none 0 0] rfl rfl HN.out (four_one _ _ _ _ _ _) (by decide) hm1 hm2 (by simp; omega) (wr.heap.size + 1 + 1) (by simp) ?_))
          intro g5 cap5 w5 hown5 hgrow hat hlg
          obtain ⟨HO5, HB5⟩ := tidy_push hbl hown HX.out HOK.out hus hoks hins (by simp) hown5 hgrow hat
          have HF : Hid (ItsOwn w5 w.heap.size (.slice (some ⟨g5, 0, none⟩) (q.length + 1) cap5) (q ++ [.mk (2) ((r2 : Int)) (⟨#[]⟩) []]) ∧ Below w.heap.size w w5) := ⟨HO5, HB5⟩
          have HT : Hid (∀ x ∈ q ++ [It.mk (2) ((r2 : Int)) (⟨#[]⟩) []], ItemT inner x) := fun x hx => by
            rcases List.mem_append.1 hx with h | h
            · exact HQ.out.2 x h
            · rw [List.mem_singleton.1 h]; exact HIT.out
          clear hown5 hgrow hat hlg HO5 HB5 hins hoks how hown hbl HX HN x0 x1 x2 x3
          have hqj := HQ.out.1
          go_wp2_with fail
          go_roundw
          case rel => exact ⟨j + 1, q ++ [.mk (2) ((r2 : Int)) (⟨#[]⟩) []], by omega, by omega, by simp [hqj], by go_num, HF.out.1, HT.out, fun h => by simp at h, HF.out.2⟩
          case measure => simp [intOf]; omega
        · clear hr5 HD PN c2 c3 ia
          have HOK : Hid ((It.mk (3) (xn) (⟨#[]⟩) []).Ok) := ok_mk _ (by decide) (by decide) n1 n2 (by decide)
          have HIT : Hid (ItemT inner (It.mk (3) (xn) (⟨#[]⟩) [])) := ⟨fits_num xn, HOK.out, (by decide : (⟨#[]⟩ : ByteArray).size ≤ 12), fun h => by cases h⟩
          have HBX : Boxd wr (wr.alloc (.cells #[.int .i64 3, .int .i64 xn, .string ⟨#[]⟩, .slice none 0 0] 43)) (.mk (3) (xn) (⟨#[]⟩) []) (.slice none 0 0) := boxd_new wr (.mk (3) (xn) (⟨#[]⟩) []) _ rfl rfl
          have HX : Hid (Boxd wr (wr.alloc (.cells #[.int .i64 3, .int .i64 xn, .string ⟨#[]⟩, .slice none 0 0] 43)) (.mk (3) (xn) (⟨#[]⟩) []) (.slice none 0 0)) := HBX
          obtain ⟨us, hus, how, hoks, hins⟩ := hown.keep HX.out.below
          have HN : Hid (∀ j u, [Value.int .i64 (3), .int .i64 (xn), .string (⟨#[]⟩), .slice none 0 0][j]? = some u → ((wr.alloc (.cells #[.int .i64 3, .int .i64 xn, .string ⟨#[]⟩, .slice none 0 0] 43)).alloc (.cells #[.int .i64 (3), .int .i64 (xn), .string (⟨#[]⟩), .slice none 0 0] 43)).cell? ((⟨wr.heap.size + 1, 0, none⟩ : Addr).add j) = some u) := by
            have hnb := heap_alloc_new (wr.alloc (.cells #[.int .i64 3, .int .i64 xn, .string ⟨#[]⟩, .slice none 0 0] 43)) (.cells #[.int .i64 (3), .int .i64 (xn), .string (⟨#[]⟩), .slice none 0 0] 43)
            rw [show (wr.alloc (.cells #[.int .i64 3, .int .i64 xn, .string ⟨#[]⟩, .slice none 0 0] 43)).heap.size = wr.heap.size + 1 by simp] at hnb
            exact World.news_of_block hnb
          have hm1 : q.length + 1 ≤ maxLen := by unfold maxLen; omega
          have hm2 : (q.length + 1) * 56 ≤ 140737488355328 := by omega
          have hm3 : w.heap.size ≤ wr.heap.size + 1 + 1 := by have := hbl.size; have := HX.out.below.size; simp at this; omega
          have x0 := HX.out.c0
          have x1 := HX.out.c1
          have x2 := HX.out.c2
          have x3 := HX.out.c3
          simp only [It.kind, It.num, It.text] at x0 x1 x2 x3
          go_wp2_with (first
            | (at_builtin; refine wpList_append_lies _ rfl _ _ 22 rfl w.heap.size 43 i0 (.agg #[.int .i64 0, .int .i64 0, .string ⟨#[]⟩, .slice none 0 0]) 4 56 Tryd.underlying22 hi hz0 hz1 hz2 rfl (by decide) _ _ _ rfl (how.alloc _) ⟨wr.heap.size + 1, 0, none⟩ 1 1 [.int .i64 (3), .int .i64 (xn), .string (⟨#[]⟩), .slice none 0 0] rfl rfl HN.out (four_one _ _ _ _ _ _) (by decide) hm1 hm2 (by simp; omega) (wr.heap.size + 1 + 1) (by simp) ?_))
          intro g5 cap5 w5 hown5 hgrow hat hlg
          obtain ⟨HO5, HB5⟩ := tidy_push hbl hown HX.out HOK.out hus hoks hins (by simp) hown5 hgrow hat
          have HF : Hid (ItsOwn w5 w.heap.size (.slice (some ⟨g5, 0, none⟩) (q.length + 1) cap5) (q ++ [.mk (3) (xn) (⟨#[]⟩) []]) ∧ Below w.heap.size w w5) := ⟨HO5, HB5⟩
          have HT : Hid (∀ x ∈ q ++ [It.mk (3) (xn) (⟨#[]⟩) []], ItemT inner x) := fun x hx => by
            rcases List.mem_append.1 hx with h | h
            · exact HQ.out.2 x h
            · rw [List.mem_singleton.1 h]; exact HIT.out
          clear hown5 hgrow hat hlg HO5 HB5 hins hoks how hown hbl HX HN x0 x1 x2 x3
          have hqj := HQ.out.1
          go_wp2_with fail
          go_roundw
          case rel => exact ⟨j + 1, q ++ [.mk (3) (xn) (⟨#[]⟩) []], by omega, by omega, by simp [hqj], by go_num, HF.out.1, HT.out, fun h => by simp at h, HF.out.2⟩
          case measure => simp [intOf]; omega
        · clear hr5 PN c1 c3 ia
          go_wp2_with fail
          refine (HD.out _).mono ?_
          rintro e w2 ⟨t2, rfl, ht2, rfl⟩
          clear HD c2
          have HOK : Hid ((It.mk (4) (0) (t2) []).Ok) := ok_mk _ (by decide) (by decide) (by decide) (by decide) (by omega)
          have HIT : Hid (ItemT inner (It.mk (4) (0) (t2) [])) := ⟨fits_text t2, HOK.out, ht2, fun h => by cases h⟩
          have HBX : Boxd wr (wr.alloc (.cells #[.int .i64 4, .int .i64 0, .string t2, .slice none 0 0] 43)) (.mk (4) (0) (t2) []) (.slice none 0 0) := boxd_new wr (.mk (4) (0) (t2) []) _ rfl rfl
          have HX : Hid (Boxd wr (wr.alloc (.cells #[.int .i64 4, .int .i64 0, .string t2, .slice none 0 0] 43)) (.mk (4) (0) (t2) []) (.slice none 0 0)) := HBX
          obtain ⟨us, hus, how, hoks, hins⟩ := hown.keep HX.out.below
          have HN : Hid (∀ j u, [Value.int .i64 (4), .int .i64 (0), .string (t2), .slice none 0 0][j]? = some u → ((wr.alloc (.cells #[.int .i64 4, .int .i64 0, .string t2, .slice none 0 0] 43)).alloc (.cells #[.int .i64 (4), .int .i64 (0), .string (t2), .slice none 0 0] 43)).cell? ((⟨wr.heap.size + 1, 0, none⟩ : Addr).add j) = some u) := by
            have hnb := heap_alloc_new (wr.alloc (.cells #[.int .i64 4, .int .i64 0, .string t2, .slice none 0 0] 43)) (.cells #[.int .i64 (4), .int .i64 (0), .string (t2), .slice none 0 0] 43)
            rw [show (wr.alloc (.cells #[.int .i64 4, .int .i64 0, .string t2, .slice none 0 0] 43)).heap.size = wr.heap.size + 1 by simp] at hnb
            exact World.news_of_block hnb
          have hm1 : q.length + 1 ≤ maxLen := by unfold maxLen; omega
          have hm2 : (q.length + 1) * 56 ≤ 140737488355328 := by omega
          have hm3 : w.heap.size ≤ wr.heap.size + 1 + 1 := by have := hbl.size; have := HX.out.below.size; simp at this; omega
          have x0 := HX.out.c0
          have x1 := HX.out.c1
          have x2 := HX.out.c2
          have x3 := HX.out.c3
          simp only [It.kind, It.num, It.text] at x0 x1 x2 x3
          go_wp2_with (first
            | (at_builtin; refine wpList_append_lies _ rfl _ _ 22 rfl w.heap.size 43 i0 (.agg #[.int .i64 0, .int .i64 0, .string ⟨#[]⟩, .slice none 0 0]) 4 56 Tryd.underlying22 hi hz0 hz1 hz2 rfl (by decide) _ _ _ rfl (how.alloc _) ⟨wr.heap.size + 1, 0, none⟩ 1 1 [.int .i64 (4), .int .i64 (0), .string (t2), .slice none 0 0] rfl rfl HN.out (four_one _ _ _ _ _ _) (by decide) hm1 hm2 (by simp; omega) (wr.heap.size + 1 + 1) (by simp) ?_))
          intro g5 cap5 w5 hown5 hgrow hat hlg
          obtain ⟨HO5, HB5⟩ := tidy_push hbl hown HX.out HOK.out hus hoks hins (by simp) hown5 hgrow hat
          have HF : Hid (ItsOwn w5 w.heap.size (.slice (some ⟨g5, 0, none⟩) (q.length + 1) cap5) (q ++ [.mk (4) (0) (t2) []]) ∧ Below w.heap.size w w5) := ⟨HO5, HB5⟩
          have HT : Hid (∀ x ∈ q ++ [It.mk (4) (0) (t2) []], ItemT inner x) := fun x hx => by
            rcases List.mem_append.1 hx with h | h
            · exact HQ.out.2 x h
            · rw [List.mem_singleton.1 h]; exact HIT.out
          clear hown5 hgrow hat hlg HO5 HB5 hins hoks how hown hbl HX HN x0 x1 x2 x3
          have hqj := HQ.out.1
          go_wp2_with fail
          go_roundw
          case rel => exact ⟨j + 1, q ++ [.mk (4) (0) (t2) []], by omega, by omega, by simp [hqj], by go_num, HF.out.1, HT.out, fun h => by simp at h, HF.out.2⟩
          case measure => simp [intOf]; omega
        · clear hr5 PN HD c1 c2
          by_cases hd : d < 4
          · have hw : IntKind.i64.wrap (d + 1) = d + 1 := wrap_i64 _ (by omega) (by omega)
            have b1 := below_new wr (.cells #[.int .i64 5, .int .i64 0, .string ⟨#[]⟩, .slice none 0 0] 43)
            have bx := boxd_new wr (.mk 5 0 ⟨#[]⟩ []) (.slice none 0 0) rfl rfl
            have f1 : (wr.alloc (.cells #[.int .i64 5, .int .i64 0, .string ⟨#[]⟩, .slice none 0 0] 43)).frozen? ⟨wr.heap.size, 3, none⟩ = false := by simp
            have s1 : (wr.alloc (.cells #[.int .i64 5, .int .i64 0, .string ⟨#[]⟩, .slice none 0 0] 43)).heap.size = wr.heap.size + 1 := by simp
            have HP : Hid (Boxd wr (wr.alloc (.cells #[.int .i64 5, .int .i64 0, .string ⟨#[]⟩, .slice none 0 0] 43)) (.mk 5 0 ⟨#[]⟩ []) (.slice none 0 0) ∧ (wr.alloc (.cells #[.int .i64 5, .int .i64 0, .string ⟨#[]⟩, .slice none 0 0] 43)).frozen? ⟨wr.heap.size, 3, none⟩ = false ∧ (wr.alloc (.cells #[.int .i64 5, .int .i64 0, .string ⟨#[]⟩, .slice none 0 0] 43)).heap.size = wr.heap.size + 1 ∧ ItsAt (wr.alloc (.cells #[.int .i64 5, .int .i64 0, .string ⟨#[]⟩, .slice none 0 0] 43)) anyB va xl) := ⟨bx, f1, s1, ia.keep b1⟩
            obtain ⟨aa, ca, rfl⟩ := ia.form
            clear b1 bx f1 s1 ia
            go_wp2_with fail
            obtain ⟨bx, f1, s1, ia1⟩ := HP.out
            clear HP
            generalize wr.alloc (.cells #[.int .i64 5, .int .i64 0, .string ⟨#[]⟩, .slice none 0 0] 43) = W1 at *
            refine (IH.out hd _ _ _ ia1).mono ?_
            rintro e w2 ⟨uv, qi, rfl, hu, hinner, hq4, -, hb2⟩
            obtain ⟨ua, uc, rfl⟩ := hu.form
            have f2 : w2.frozen? ⟨wr.heap.size, 3, none⟩ = false := (hb2.frozen (p := ⟨wr.heap.size, 3, none⟩) (by show wr.heap.size < _; omega)).trans f1
            have e0 : w2.cell? ⟨wr.heap.size, 0, none⟩ = some (.int .i64 5) := cell_below hb2 bx.c0
            have e1 : w2.cell? ⟨wr.heap.size, 1, none⟩ = some (.int .i64 0) := cell_below hb2 bx.c1
            have e2 : w2.cell? ⟨wr.heap.size, 2, none⟩ = some (.string ⟨#[]⟩) := cell_below hb2 bx.c2
            have e3 : w2.cell? ⟨wr.heap.size, 3, none⟩ = some (.slice none 0 0) := cell_below hb2 bx.c3
            have HBX : Boxd wr (w2.setCell ⟨wr.heap.size, 3, none⟩ (.slice ua qi.length uc)) (.mk 5 0 ⟨#[]⟩ qi) (.slice ua qi.length uc) := by
              refine ⟨(Below.next bx.below hb2).setCell (Nat.le_refl _) _, ?_, ?_, ?_, ?_, ?_⟩
              · rw [cell_set_other _ _ _ _ _ (by decide)]; exact e0
              · rw [cell_set_other _ _ _ _ _ (by decide)]; exact e1
              · rw [cell_set_other _ _ _ _ _ (by decide)]; exact e2
              · exact World.cell?_setCell_same _ _ _ e3
              · exact ((hu.at' (by omega)).but (But.of_set w2 wr.heap.size 3 (.slice ua qi.length uc)) (fun g hg e => by have := Option.some.inj e; omega)).imp fun g hg => by omega
            have HOK : Hid ((It.mk 5 0 ⟨#[]⟩ qi).Ok) := ok_mk _ (by decide) (by decide) (by decide) (by decide) (by decide)
            have HIT : Hid (ItemT inner (It.mk 5 0 ⟨#[]⟩ qi)) := ⟨fits_list qi, HOK.out, (by decide : (⟨#[]⟩ : ByteArray).size ≤ 12), fun _ => hinner⟩
            clear f1 s1 ia1 hu hinner hb2 bx c3
            have HX : Hid (Boxd wr (w2.setCell ⟨wr.heap.size, 3, none⟩ (.slice ua qi.length uc)) (.mk (5) (0) (⟨#[]⟩) qi) (.slice ua qi.length uc)) := HBX
            obtain ⟨us, hus, how, hoks, hins⟩ := hown.keep HX.out.below
            have HN : Hid (∀ j u, [Value.int .i64 (5), .int .i64 (0), .string (⟨#[]⟩), .slice ua qi.length uc][j]? = some u → ((w2.setCell ⟨wr.heap.size, 3, none⟩ (.slice ua qi.length uc)).alloc (.cells #[.int .i64 (5), .int .i64 (0), .string (⟨#[]⟩), .slice ua qi.length uc] 43)).cell? ((⟨w2.heap.size, 0, none⟩ : Addr).add j) = some u) := by
              have hnb := heap_alloc_new (w2.setCell ⟨wr.heap.size, 3, none⟩ (.slice ua qi.length uc)) (.cells #[.int .i64 (5), .int .i64 (0), .string (⟨#[]⟩), .slice ua qi.length uc] 43)
              rw [show (w2.setCell ⟨wr.heap.size, 3, none⟩ (.slice ua qi.length uc)).heap.size = w2.heap.size by simp] at hnb
              exact World.news_of_block hnb
            have hm1 : q.length + 1 ≤ maxLen := by unfold maxLen; omega
            have hm2 : (q.length + 1) * 56 ≤ 140737488355328 := by omega
            have hm3 : w.heap.size ≤ w2.heap.size + 1 := by have := hbl.size; have := HX.out.below.size; simp at this; omega
            have x0 := HX.out.c0
            have x1 := HX.out.c1
            have x2 := HX.out.c2
            have x3 := HX.out.c3
            simp only [It.kind, It.num, It.text] at x0 x1 x2 x3
            go_wp2_with (first
              | (at_builtin; refine wpList_append_lies _ rfl _ _ 22 rfl w.heap.size 43 i0 (.agg #[.int .i64 0, .int .i64 0, .string ⟨#[]⟩, .slice none 0 0]) 4 56 Tryd.underlying22 hi hz0 hz1 hz2 rfl (by decide) _ _ _ rfl (how.alloc _) ⟨w2.heap.size, 0, none⟩ 1 1 [.int .i64 (5), .int .i64 (0), .string (⟨#[]⟩), .slice ua qi.length uc] rfl rfl HN.out (four_one _ _ _ _ _ _) (by decide) hm1 hm2 (by simp; omega) (w2.heap.size + 1) (by simp) ?_))
            intro g5 cap5 w5 hown5 hgrow hat hlg
            obtain ⟨HO5, HB5⟩ := tidy_push hbl hown HX.out HOK.out hus hoks hins (by simp) hown5 hgrow hat
            have HF : Hid (ItsOwn w5 w.heap.size (.slice (some ⟨g5, 0, none⟩) (q.length + 1) cap5) (q ++ [.mk (5) (0) (⟨#[]⟩) qi]) ∧ Below w.heap.size w w5) := ⟨HO5, HB5⟩
            have HT : Hid (∀ x ∈ q ++ [It.mk (5) (0) (⟨#[]⟩) qi], ItemT inner x) := fun x hx => by
              rcases List.mem_append.1 hx with h | h
              · exact HQ.out.2 x h
              · rw [List.mem_singleton.1 h]; exact HIT.out
            clear hown5 hgrow hat hlg HO5 HB5 hins hoks how hown hbl HX HN x0 x1 x2 x3
            have hqj := HQ.out.1
            go_wp2_with fail
            go_roundw
            case rel => exact ⟨j + 1, q ++ [.mk (5) (0) (⟨#[]⟩) qi], by omega, by omega, by simp [hqj], by go_num, HF.out.1, HT.out, fun h => by simp at h, HF.out.2⟩
            case measure => simp [intOf]; omega
          · clear c3 ia
            have HOK : Hid ((It.mk (1) (0) (⟨#[]⟩) []).Ok) := ok_mk _ (by decide) (by decide) (by decide) (by decide) (by decide)
            have HIT : Hid (ItemT inner (It.mk (1) (0) (⟨#[]⟩) [])) := ⟨fits_null, HOK.out, by decide, fun h => by cases h⟩
            have HBX : Boxd wr (wr.alloc (.cells #[.int .i64 1, .int .i64 0, .string ⟨#[]⟩, .slice none 0 0] 43)) (.mk (1) (0) (⟨#[]⟩) []) (.slice none 0 0) := boxd_new wr (.mk (1) (0) (⟨#[]⟩) []) _ rfl rfl
            have HX : Hid (Boxd wr (wr.alloc (.cells #[.int .i64 1, .int .i64 0, .string ⟨#[]⟩, .slice none 0 0] 43)) (.mk (1) (0) (⟨#[]⟩) []) (.slice none 0 0)) := HBX
            obtain ⟨us, hus, how, hoks, hins⟩ := hown.keep HX.out.below
            have HN : Hid (∀ j u, [Value.int .i64 (1), .int .i64 (0), .string (⟨#[]⟩), .slice none 0 0][j]? = some u → ((wr.alloc (.cells #[.int .i64 1, .int .i64 0, .string ⟨#[]⟩, .slice none 0 0] 43)).alloc (.cells #[.int .i64 (1), .int .i64 (0), .string (⟨#[]⟩), .slice none 0 0] 43)).cell? ((⟨wr.heap.size + 1, 0, none⟩ : Addr).add j) = some u) := by
              have hnb := heap_alloc_new (wr.alloc (.cells #[.int .i64 1, .int .i64 0, .string ⟨#[]⟩, .slice none 0 0] 43)) (.cells #[.int .i64 (1), .int .i64 (0), .string (⟨#[]⟩), .slice none 0 0] 43)
              rw [show (wr.alloc (.cells #[.int .i64 1, .int .i64 0, .string ⟨#[]⟩, .slice none 0 0] 43)).heap.size = wr.heap.size + 1 by simp] at hnb
              exact World.news_of_block hnb
            have hm1 : q.length + 1 ≤ maxLen := by unfold maxLen; omega
            have hm2 : (q.length + 1) * 56 ≤ 140737488355328 := by omega
            have hm3 : w.heap.size ≤ wr.heap.size + 1 + 1 := by have := hbl.size; have := HX.out.below.size; simp at this; omega
            have x0 := HX.out.c0
            have x1 := HX.out.c1
            have x2 := HX.out.c2
            have x3 := HX.out.c3
            simp only [It.kind, It.num, It.text] at x0 x1 x2 x3
            go_wp2_with (first
              | (at_builtin; refine wpList_append_lies _ rfl _ _ 22 rfl w.heap.size 43 i0 (.agg #[.int .i64 0, .int .i64 0, .string ⟨#[]⟩, .slice none 0 0]) 4 56 Tryd.underlying22 hi hz0 hz1 hz2 rfl (by decide) _ _ _ rfl (how.alloc _) ⟨wr.heap.size + 1, 0, none⟩ 1 1 [.int .i64 (1), .int .i64 (0), .string (⟨#[]⟩), .slice none 0 0] rfl rfl HN.out (four_one _ _ _ _ _ _) (by decide) hm1 hm2 (by simp; omega) (wr.heap.size + 1 + 1) (by simp) ?_))
            intro g5 cap5 w5 hown5 hgrow hat hlg
            obtain ⟨HO5, HB5⟩ := tidy_push hbl hown HX.out HOK.out hus hoks hins (by simp) hown5 hgrow hat
            have HF : Hid (ItsOwn w5 w.heap.size (.slice (some ⟨g5, 0, none⟩) (q.length + 1) cap5) (q ++ [.mk (1) (0) (⟨#[]⟩) []]) ∧ Below w.heap.size w w5) := ⟨HO5, HB5⟩
            have HT : Hid (∀ x ∈ q ++ [It.mk (1) (0) (⟨#[]⟩) []], ItemT inner x) := fun x hx => by
              rcases List.mem_append.1 hx with h | h
              · exact HQ.out.2 x h
              · rw [List.mem_singleton.1 h]; exact HIT.out
            clear hown5 hgrow hat hlg HO5 HB5 hins hoks how hown hbl HX HN x0 x1 x2 x3
            have hqj := HQ.out.1
            go_wp2_with fail
            go_roundw
            case rel => exact ⟨j + 1, q ++ [.mk (1) (0) (⟨#[]⟩) []], by omega, by omega, by simp [hqj], by go_num, HF.out.1, HT.out, fun h => by simp at h, HF.out.2⟩
            case measure => simp [intOf]; omega
      · clear h0 h1 h2 h3 hin hok ha
        go_wp2_with fail
        go_ret
        exact ⟨_, q, rfl, hown, HQ.out.2, hqb, HNIL.out, hbl⟩
    · clear h0 h1 h2 h3 hin hok ha
      go_wp2_with fail
      go_ret
      exact ⟨_, q, rfl, hown, HQ.out.2, hqb, HNIL.out, hbl⟩

theorem tidy_any (r : Nat) : ∀ (l : List It) (d : Int) (v : Value) (w : World), r ≤ 4 → d = 4 - r → ItsAt w anyB v l →
    Calls Tryd.prog 7 #[v, .int .i64 d] w fun e w' => ∃ v' q, e = .returned v' ∧ ItsOwn w' w.heap.size v' q ∧ TidyT r q ∧ q.length ≤ 4 ∧ (q = [] → v' = .slice none 0 0) ∧ Below w.heap.size w w' := by
  induction r with
  | zero =>
    intro l d v w _ hd hv
    refine (tidy_step (fun _ => False) d (by omega) (by omega) (fun h => by omega) l v w hv).mono ?_
    rintro e w' ⟨v', q, rfl, h1, h2, h3, h5, h4⟩
    exact ⟨v', q, rfl, h1, ⟨h3, h2⟩, h3, h5, h4⟩
  | succ r ih =>
    intro l d v w hr hd hv
    refine (tidy_step (TidyT r) d (by omega) (by omega) (fun _ l v w hv => ih l (d + 1) v w (by omega) (by omega) hv) l v w hv).mono ?_
    rintro e w' ⟨v', q, rfl, h1, h2, h3, h5, h4⟩
    exact ⟨v', q, rfl, h1, ⟨h3, h2⟩, h3, h5, h4⟩

end Go.Proofs.YtgljkgkophaefabDoor
