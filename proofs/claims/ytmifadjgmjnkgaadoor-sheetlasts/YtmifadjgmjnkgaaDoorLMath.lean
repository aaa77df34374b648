import Derived.Test.YtmifadjgmjnkgaaDoorLLoad
import Derived.Test.YtmifadjgmjnkgaaDoorLSheets
import Derived.Test.YtmifadjgmjnkgaaDoorVLast
namespace Go.Proofs.YtmifadjgmjnkgaaDoor
open Go.RowKit

theorem nat_count (n : Nat) : ∀ l : List Nat, l.Nodup → (∀ x ∈ l, x < n) → l.length ≤ n := by
  induction n with
  | zero =>
    intro l _ h
    match l with
    | [] => simp
    | x :: r => exact absurd (h x (by simp)) (by omega)
  | succ n ih =>
    intro l hn h
    have h1 := ih (l.erase n) (hn.erase n) (fun x hx => by
      have hx1 : x ∈ l := List.mem_of_mem_erase hx
      have hx2 : x ≠ n := fun e => by
        subst e
        exact (List.Nodup.not_mem_erase hn) hx
      have := h x hx1
      omega)
    have h2 : l.length ≤ (l.erase n).length + 1 := by
      rw [List.length_erase]; split <;> omega
    omega

theorem fm_congr {α β : Type} {l : List α} {f g : α → List β} (h : ∀ a ∈ l, f a = g a) : l.flatMap f = l.flatMap g := by
  rw [List.flatMap_def, List.flatMap_def, List.map_congr_left h]
/-- The device behind a Store that was synced. -/
def syncedD (d : V.Dev) (s : Sh) : V.Dev := { d with dur := V.syncD d.dur (V.chunks (s.id * 8) (page s) 8), pend := [], nw := wrap64 (d.nw + 8), ns := wrap64 (d.ns + 1) }
theorem sync_stored (d : V.Dev) (s : Sh) (hdd : d.dead = false) (ha : d.arms = []) : (storedD d s).sync = (syncedD d s, 0) := by
  obtain ⟨sz, dur, pend, arms, dead, nr, nw, ns⟩ := d
  simp only at hdd ha
  subst hdd ha
  rfl
theorem synced_own (d : V.Dev) (s : Sh) (hm : May s) : V.readB (syncedD d s) (s.id * 8) 8 = page s := by
  have hl := page_len s hm
  rw [V.readB_dur _ rfl]
  have e : (List.range 8).flatMap (fun i : Nat => V.bl (V.lasting (syncedD d s).dur (s.id * 8 + (i : Int)))) = (List.range 8).flatMap (fun i : Nat => ((page s).drop (i * 512)).take 512) := by
    apply fm_congr
    intro i hi
    have hi8 : i < 8 := List.mem_range.1 hi
    show V.bl (V.lasting (V.syncD d.dur (V.chunks (s.id * 8) (page s) 8)) (s.id * 8 + (i : Int))) = _
    rw [V.sync_chunks _ _ _ hl 8 (by decide), if_pos ⟨by omega, by omega⟩, V.bl_mkb, show (s.id * 8 + (i : Int) - s.id * 8).toNat = i by omega]
  rw [e, V.flat_chunks, List.take_of_length_le (by rw [hl]; decide)]
theorem synced_other (d : V.Dev) (s : Sh) (i : Int) (hm : May s) (hp : d.pend = []) (hne : i ≠ s.id) : V.readB (syncedD d s) (i * 8) 8 = V.readB d (i * 8) 8 := by
  have hl := page_len s hm
  rw [V.readB_dur _ rfl, V.readB_dur _ hp]
  apply fm_congr
  intro j hj
  have hj8 : j < 8 := List.mem_range.1 hj
  show V.bl (V.lasting (V.syncD d.dur (V.chunks (s.id * 8) (page s) 8)) (i * 8 + (j : Int))) = _
  rw [V.sync_chunks _ _ _ hl 8 (by decide), if_neg (by omega)]

/-- What the device holds: these sheets, each in its page. -/
structure Holds (sz : Int) (d : V.Dev) (L : List Sh) : Prop where
  size : d.size = sz
  pend : d.pend = []
  dead : d.dead = false
  arms : d.arms = []
  ids : (L.map Sh.id).Nodup
  at' : ∀ t ∈ L, May t ∧ t.txid < 18446744073709551616 ∧ (t.id + 1) * 8 ≤ sz ∧ V.readB d (t.id * 8) 8 = page t
theorem Holds.len {sz : Int} {d : V.Dev} {L : List Sh} (h : Holds sz d L) (hs : sz ≤ 4096) : L.length ≤ 512 := by
  have h1 := nat_count 512 (L.map fun t => t.id.toNat) (by
    have hn := h.ids
    unfold List.Nodup at hn ⊢
    rw [List.pairwise_map] at hn ⊢
    refine List.Pairwise.imp_of_mem ?_ hn
    intro a b ha hb hab e
    have h1 := (h.at' a ha).1.2.2.1.1
    have h2 := (h.at' b hb).1.2.2.1.1
    exact hab (by omega)) (fun x hx => by
    obtain ⟨t, ht, rfl⟩ := List.mem_map.1 hx
    have h1 := (h.at' t ht).1.2.2.1.1
    have h2 := (h.at' t ht).2.2.1
    omega)
  simpa using h1
theorem Holds.put {sz : Int} {d : V.Dev} {L : List Sh} (h : Holds sz d L) (s : Sh) (hm : May s) (hx : s.txid < 18446744073709551616) (hf : (s.id + 1) * 8 ≤ sz) : Holds sz (syncedD d s) (putL L s) := by
  refine ⟨h.size, rfl, h.dead, h.arms, ?_, ?_⟩
  · unfold putL
    rw [List.map_append, List.nodup_append]
    refine ⟨List.Nodup.sublist (List.Sublist.map _ List.filter_sublist) h.ids, by simp, ?_⟩
    intro a ha b hb
    obtain ⟨t, ht, rfl⟩ := List.mem_map.1 ha
    have hk := (List.mem_filter.1 ht).2
    simp only [List.map_cons, List.map_nil, List.mem_singleton] at hb
    subst hb
    exact of_decide_eq_true hk
  · intro t ht
    unfold putL at ht
    rcases List.mem_append.1 ht with ht | ht
    · obtain ⟨ht1, hk⟩ := List.mem_filter.1 ht
      obtain ⟨a1, a2, a3, a4⟩ := h.at' t ht1
      exact ⟨a1, a2, a3, by rw [synced_other d s t.id hm h.pend (of_decide_eq_true hk)]; exact a4⟩
    · simp only [List.mem_singleton] at ht
      subst ht
      exact ⟨hm, hx, hf, synced_own d t hm⟩
theorem Holds.loaded {sz : Int} {d : V.Dev} {L : List Sh} (h : Holds sz d L) : Holds sz (loadedD d) L := ⟨h.size, h.pend, h.dead, h.arms, h.ids, h.at'⟩
/-- Behind a failure of the power, and alive again. -/
def againD (d : V.Dev) : V.Dev := V.Dev.revive { d with dead := true }
theorem Holds.again {sz : Int} {d : V.Dev} {L : List Sh} (h : Holds sz d L) : Holds sz (againD d) L := ⟨h.size, h.pend, rfl, h.arms, h.ids, h.at'⟩

end Go.Proofs.YtmifadjgmjnkgaaDoor
