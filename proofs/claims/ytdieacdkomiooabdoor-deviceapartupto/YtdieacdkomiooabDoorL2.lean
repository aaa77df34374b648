import Derived.Test.YtdieacdkomiooabDoorL1
namespace Go.Proofs.YtdieacdkomiooabDoor
open Go.RowKit Go.Maps

set_option maxRecDepth 100000 in
set_option maxHeartbeats 800000 in
theorem sames_any (l : List Sec) (va vb : Value) (w : World) (ha : SecsIn w va l) (hb : SecsIn w vb l) :
    Calls Tryd.prog 51 #[va, vb] w fun e w' => e = .returned (.bool true) ∧ Below w.heap.size w w' := by
  obtain ⟨a, c, g, off, rfl, hl, ha1, ha2⟩ := ha
  obtain ⟨a', c', g', off', rfl, _, hb1, hb2⟩ := hb
  obtain ⟨n, hn⟩ : ∃ n, n = l.length := ⟨_, rfl⟩
  have HN : Hid (n = l.length) := hn
  rw [← hn] at hl ha1 hb1 ⊢
  have hne : ((n : Int) != (n : Int)) = false := by simp
  have HA : Hid (∀ j u, (secCells l)[j]? = some u → w.cell? ⟨g, off + j, none⟩ = some u) := ha2
  have HB : Hid (∀ j u, (secCells l)[j]? = some u → w.cell? ⟨g', off' + j, none⟩ = some u) := hb2
  clear ha2 hb2 hn
  go_enter Tryd.func51, Tryd.ntmps51
  go_wp2_with fail
  go_loopw [5] (fun i wr => ∃ k m, k ≤ n ∧ i = .int .i64 (k : Int) ∧ wr = w.drewN m) (fun i _ => n - (intOf i).toNat)
  case atStart => exact ⟨0, 0, Nat.zero_le _, rfl, rfl⟩
  case round =>
    obtain ⟨k, m, hk, rfl, rfl⟩ := hrel
    by_cases hlt : k < n
    · obtain rfl := ha1 (by omega)
      obtain rfl := hb1 (by omega)
      have hkl : k < l.length := by rw [← HN.out]; exact hlt
      obtain ⟨x0, x1⟩ := secCells_get l k hkl
      have p0 := HA.out _ _ x0
      have p1 := HA.out _ _ x1
      have q0 := HB.out _ _ x0
      have q1 := HB.out _ _ x1
      obtain ⟨xi, hxi⟩ : ∃ x, x = l[k].ix := ⟨_, rfl⟩
      obtain ⟨xd, hxd⟩ : ∃ x, x = l[k].dat := ⟨_, rfl⟩
      rw [← hxi] at p0 q0
      rw [← hxd] at p1 q1
      rw [← Nat.add_assoc] at p1 q1
      clear x0 x1 hxi hxd
      have j1 : (k : Int) < (n : Int) := by omega
      go_wp2_with fail
      go_quiet (fail)
      go_wp2_with fail
      exact ⟨⟨k + 1, _, by omega, by go_num, rfl⟩, by simp [intOf]; omega⟩
    · go_wp2_with fail
      go_ret
      exact ⟨rfl, below_drewN (Below.refl _ _) _⟩

/-- Bytes that are read. -/
def BytesIn (w : World) (v : Value) (l : List UInt8) : Prop := ∃ a cap g off, v = .slice a l.length cap ∧ l.length ≤ 140737488355328 ∧ (0 < l.length → a = some ⟨g, off, none⟩) ∧ ∀ j (h : j < l.length), w.cell? ⟨g, off + j, none⟩ = some (.int .u8 (l[j].toNat : Int))
theorem BytesIn.keep {w w' : World} {v : Value} {l : List UInt8} (h : BytesIn w v l) (hb : Below w.heap.size w w') : BytesIn w' v l := by
  obtain ⟨a, cap, g, off, h1, h2, h3, h4⟩ := h
  exact ⟨a, cap, g, off, h1, h2, h3, fun j hj => cell_below hb (h4 j hj)⟩
theorem bytesIn_own {w : World} {base : Nat} {v : Value} {l : List UInt8} (h : w.ownsRow base 5 1 v l.length (u8s l)) (hl : l.length ≤ 140737488355328) : BytesIn w v l := by
  obtain ⟨a, c, rfl, ha⟩ := owns_form h
  by_cases h0 : 0 < l.length
  · obtain ⟨g, rfl⟩ := ha h0
    exact ⟨_, c, g, 0, rfl, hl, fun _ => rfl, fun j hj => by rw [Nat.zero_add]; exact owns_cell h rfl j _ (u8s_get l j hj)⟩
  · exact ⟨a, c, 0, 0, rfl, hl, fun h => absurd h h0, fun j hj => absurd hj (by omega)⟩
theorem bytesAt_own {w : World} {base : Nat} {F : Nat → Prop} {v : Value} {l : List UInt8} (h : w.ownsRow base 5 1 v l.length (u8s l)) (hl : l.length ≤ 140737488355328) (hF : ∀ g, v.ownBlock = some g → ¬ F g) : BytesAt w F v l := by
  have hcap : ∀ a c, v = .slice a l.length c → l.length ≤ c := fun a c hv => by
    rcases h.2 with ⟨h', h0⟩ | ⟨g, cap, cur, h', _, _, h1, _⟩
    · rw [h0]; exact Nat.zero_le _
    · rw [h'] at hv; simp only [Value.slice.injEq] at hv; omega
  obtain ⟨a, c, rfl, ha⟩ := owns_form h
  by_cases h0 : 0 < l.length
  · obtain ⟨g, rfl⟩ := ha h0
    exact ⟨_, c, g, rfl, hcap _ _ rfl, hl, fun _ => ⟨rfl, hF g rfl⟩, fun j hj => owns_cell h rfl j _ (u8s_get l j hj)⟩
  · exact ⟨a, c, 0, rfl, hcap _ _ rfl, hl, fun h => absurd h h0, fun j hj => absurd hj (by omega)⟩

set_option maxRecDepth 100000 in
set_option maxHeartbeats 800000 in
theorem sameb_any (l : List UInt8) (va vb : Value) (w : World) (ha : BytesIn w va l) (hb : BytesIn w vb l) :
    Calls Tryd.prog 50 #[va, vb] w fun e w' => e = .returned (.bool true) ∧ Below w.heap.size w w' := by
  obtain ⟨a, c, g, off, rfl, hl, ha1, ha2⟩ := ha
  obtain ⟨a', c', g', off', rfl, _, hb1, hb2⟩ := hb
  obtain ⟨n, hn⟩ : ∃ n, n = l.length := ⟨_, rfl⟩
  have HN : Hid (n = l.length) := hn
  rw [← hn] at hl ha1 hb1 ⊢
  have hne : ((n : Int) != (n : Int)) = false := by simp
  have HA : Hid (∀ j (h : j < l.length), w.cell? ⟨g, off + j, none⟩ = some (.int .u8 (l[j].toNat : Int))) := ha2
  have HB : Hid (∀ j (h : j < l.length), w.cell? ⟨g', off' + j, none⟩ = some (.int .u8 (l[j].toNat : Int))) := hb2
  clear ha2 hb2 hn
  go_enter Tryd.func50, Tryd.ntmps50
  go_wp2_with fail
  go_loopw [5] (fun i wr => ∃ k m, k ≤ n ∧ i = .int .i64 (k : Int) ∧ wr = w.drewN m) (fun i _ => n - (intOf i).toNat)
  case atStart => exact ⟨0, 0, Nat.zero_le _, rfl, rfl⟩
  case round =>
    obtain ⟨k, m, hk, rfl, rfl⟩ := hrel
    by_cases hlt : k < n
    · obtain rfl := ha1 (by omega)
      obtain rfl := hb1 (by omega)
      have hkl : k < l.length := by rw [← HN.out]; exact hlt
      have p0 := HA.out k hkl
      have q0 := HB.out k hkl
      obtain ⟨x, hx⟩ : ∃ x, x = (l[k].toNat : Int) := ⟨_, rfl⟩
      rw [← hx] at p0 q0
      clear hx
      have j1 : (k : Int) < (n : Int) := by omega
      go_wp2_with fail
      go_quiet (fail)
      go_wp2_with fail
      exact ⟨⟨k + 1, _, by omega, by go_num, rfl⟩, by simp [intOf]; omega⟩
    · go_wp2_with fail
      go_ret
      exact ⟨rfl, below_drewN (Below.refl _ _) _⟩

end Go.Proofs.YtdieacdkomiooabDoor
