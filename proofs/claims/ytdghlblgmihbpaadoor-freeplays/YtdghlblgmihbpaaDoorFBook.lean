import Derived.Test.YtdghlblgmihbpaaDoorFStp
namespace Go.Proofs.YtdghlblgmihbpaaDoor
open Go.RowKit

def bls (T : Nat → Bool) (n : Nat) : List Value := (List.range n).map fun i => .bool (T i)
theorem bls_length (T : Nat → Bool) (n : Nat) : (bls T n).length = n := by simp [bls]
theorem bls_get (T : Nat → Bool) (n i : Nat) (h : i < n) : (bls T n)[i]? = some (.bool (T i)) := by simp [bls, h]
theorem bls_succ (T : Nat → Bool) (n : Nat) : bls T (n + 1) = bls T n ++ [.bool (T n)] := by simp [bls, List.range_succ]
theorem bls_set (T : Nat → Bool) (n id : Nat) (x : Bool) : (bls T n).set id (.bool x) = bls (upd T id x) n := by
  apply List.ext_getElem?
  intro i
  by_cases hi : i < n
  · by_cases he : i = id
    · subst he
      rw [List.getElem?_set_self (by rw [bls_length]; exact hi), bls_get _ _ _ hi, upd_self]
    · rw [List.getElem?_set_ne (fun h => he h.symm), bls_get _ _ _ hi, bls_get _ _ _ hi, upd_ne _ _ _ _ he]
  · rw [List.getElem?_eq_none (by rw [List.length_set, bls_length]; omega), List.getElem?_eq_none (by rw [bls_length]; omega)]
theorem info4 : (Tryd.prog.info? 4).map (fun i => (i.zero, i.size, i.bytes)) = some (some (.bool false), 1, 1) := by kernel_rfl

/-- A book's two blocks. -/
structure BookR (w : World) (b g c P : Nat) (T : Nat → Bool) : Prop where
  blk : w.heap[b]? = some (.cells #[.slice (some ⟨g, 0, none⟩) P c] 76 (0, 0))
  row : w.ownsRow 0 4 1 (.slice (some ⟨g, 0, none⟩) P c) P (bls T P)
theorem BookR.ltb {w : World} {b g c P : Nat} {T : Nat → Bool} (h : BookR w b g c P T) : b < w.heap.size := lt_of_heap h.blk
theorem BookR.ltg {w : World} {b g c P : Nat} {T : Nat → Bool} (h : BookR w b g c P T) : g < w.heap.size := (owns_blk h.row g rfl).2.1
theorem BookR.ne {w : World} {b g c P : Nat} {T : Nat → Bool} (h : BookR w b g c P T) : b ≠ g := fun e => by
  obtain ⟨cur, hc⟩ := (owns_blk h.row g rfl).2.2
  have := h.blk
  rw [e, hc] at this
  simp at this
theorem BookR.c0 {w : World} {b g c P : Nat} {T : Nat → Bool} (h : BookR w b g c P T) : w.cell? ⟨b, 0, none⟩ = some (.slice (some ⟨g, 0, none⟩) P c) := cell_of_row w b 0 _ _ _ h.blk
theorem BookR.cr {w : World} {b g c P : Nat} {T : Nat → Bool} (h : BookR w b g c P T) (i : Nat) (hi : i < P) : w.cell? ⟨g, i, none⟩ = some (.bool (T i)) := by
  rw [h.row.cellAt i (by omega)]; exact bls_get _ _ _ hi
theorem BookR.only {F : Nat → Prop} {w w' : World} {b g c P : Nat} {T : Nat → Bool} (h : BookR w b g c P T) (ho : Only F w w') (hb : ¬ F b) (hg : ¬ F g) : BookR w' b g c P T :=
  ⟨(ho.block b h.ltb hb).trans h.blk, owns_only h.row ho (fun k hk => by cases hk; exact hg)⟩
theorem BookR.below {w w' : World} {b g c P : Nat} {T : Nat → Bool} (h : BookR w b g c P T) (hb : Below w.heap.size w w') : BookR w' b g c P T :=
  h.only (Only.of_below (F := fun _ => False) hb) id id
theorem BookR.stored {w : World} {b g c P : Nat} {T : Nat → Bool} (h : BookR w b g c P T) (id : Nat) (x : Bool) : BookR (w.setCell ⟨g, id, none⟩ (.bool x)) b g c P (upd T id x) :=
  ⟨(Below.heap_setCell w ⟨g, id, none⟩ _ b h.ne).trans h.blk, by have := (h.row.stored id (.bool x)).1; rw [bls_set] at this; exact this⟩
theorem bls_congr {T T' : Nat → Bool} {n : Nat} (h : ∀ j, j < n → T j = T' j) : bls T n = bls T' n := by
  unfold bls
  apply List.map_congr_left
  intro a ha
  rw [h a (by simpa using ha)]

set_option maxHeartbeats 400000 in
theorem btree_any (b g c P : Nat) (T : Nat → Bool) (id : Int) (w : World) (h : BookR w b g c P T) : Calls Tryd.prog 40 #[.pointer (some ⟨b, 0, none⟩), .int .i64 id] w fun e w' => e = .returned (.bool (treeB P id)) ∧ w = w' := by
  have c0 := h.c0
  clear h
  by_cases h2 : 2 ≤ id
  · by_cases h3 : id < P
    · go_enter Tryd.func40, Tryd.ntmps40
      go_wp2
      go_ret
      exact ⟨by simp [treeB, h2, h3], rfl⟩
    · go_enter Tryd.func40, Tryd.ntmps40
      go_wp2
      go_ret
      exact ⟨by simp [treeB, h3], rfl⟩
  · go_enter Tryd.func40, Tryd.ntmps40
    go_wp2
    go_ret
    exact ⟨by simp [treeB]; omega, rfl⟩

set_option maxRecDepth 100000 in
set_option maxHeartbeats 1000000 in
theorem count_any (b g c P : Nat) (T : Nat → Bool) (w : World) (h : BookR w b g c P T) (hP : P ≤ 1048576) :
    Calls Tryd.prog 39 #[.pointer (some ⟨b, 0, none⟩)] w fun e w' => e = .returned (.int .i64 ((frl T P).length : Nat)) ∧ w = w' := by
  have c0 := h.c0
  have H := hide h
  clear h
  go_enter Tryd.func39, Tryd.ntmps39
  go_wp2_with fail
  go_loopw [3, 4] (fun f i wr => ∃ k : Nat, k ≤ P ∧ i = .int .i64 k ∧ f = .int .i64 ((frl T k).length : Nat) ∧ w = wr) (fun _ i _ => P - (intOf i).toNat)
  case atStart => exact ⟨0, Nat.zero_le _, rfl, rfl, rfl⟩
  case round =>
    obtain ⟨k, hk, rfl, rfl, rfl⟩ := hrel
    by_cases hlt : k < P
    · have cw := H.out.cr k hlt
      have hfl := frl_le T k
      have HT : Hid ((frl T (k + 1)).length = (frl T k).length + if T k then 0 else 1) := by
        show _ = _
        rw [frl, List.length_append]; cases T k <;> simp
      obtain ⟨z, hz⟩ : ∃ z, z = (frl T k).length := ⟨_, rfl⟩
      rw [← hz] at hfl HT ⊢
      clear hz
      cases hT : T k with
      | true =>
        rw [hT] at cw HT
        clear hT
        go_wp2
        go_roundw
        case rel => exact ⟨k + 1, by omega, by go_num, by rw [HT.out]; go_num, trivial⟩
        case measure => simp [intOf]; omega
      | false =>
        rw [hT] at cw HT
        clear hT
        go_wp2
        go_roundw
        case rel => exact ⟨k + 1, by omega, by go_num, by rw [HT.out]; go_num, trivial⟩
        case measure => simp [intOf]; omega
    · have he : k = P := by omega
      subst he
      go_wp2
      go_ret
      exact ⟨rfl, rfl⟩

end Go.Proofs.YtdghlblgmihbpaaDoor
