import Derived.Test.YtlopimdnjookeaaDoorMtStore
namespace Go.Proofs.YtlopimdnjookeaaDoor
open Go.RowKit

theorem settle_seen (x : V.Sec) : ∀ (l : List V.Fate) (seen : List Int) (dur : List V.Sec), (0 : Int) ∈ seen → V.settleD [x] seen dur l = dur
  | [], _, _, _ => rfl
  | f :: r, seen, dur, h => by
    unfold V.settleD
    have hc : f.ix < 0 ∨ (([x] : List V.Sec).length : Int) ≤ f.ix ∨ f.ix ∈ seen := by
      by_cases h0 : f.ix = 0
      · exact .inr (.inr (by rw [h0]; exact h))
      · simp only [List.length_cons, List.length_nil]; omega
    rw [if_pos hc]
    exact settle_seen x r seen dur h
theorem settle_one (x : V.Sec) : ∀ (l : List V.Fate) (seen : List Int) (dur : List V.Sec), (∀ f ∈ l, f.kind ≠ 3) → V.settleD [x] seen dur l = dur ∨ V.settleD [x] seen dur l = V.setD dur x.ix x.dat
  | [], _, _, _ => .inl rfl
  | f :: r, seen, dur, h => by
    have ih := settle_one x r seen dur (fun g hg => h g (by simp [hg]))
    unfold V.settleD
    by_cases hc : f.ix < 0 ∨ (([x] : List V.Sec).length : Int) ≤ f.ix ∨ f.ix ∈ seen
    · rw [if_pos hc]; exact ih
    · rw [if_neg hc]
      have h0 : f.ix = 0 := by
        simp only [List.length_cons, List.length_nil, not_or] at hc
        omega
      rw [h0, settle_seen x r (0 :: seen) _ (by simp)]
      unfold V.meetD
      rw [h0]
      simp only [Int.toNat_zero, List.getElem?_cons_zero]
      have h3 := h f (by simp)
      by_cases h2 : f.kind = 2
      · rw [if_pos h2]; exact .inr rfl
      · rw [if_neg h2, if_neg h3]; exact .inl rfl
theorem settle_none' : ∀ (l : List V.Fate) (seen : List Int) (dur : List V.Sec), V.settleD [] seen dur l = dur
  | [], _, _ => rfl
  | f :: r, seen, dur => by
    unfold V.settleD
    rw [if_pos (by simp only [List.length_nil]; omega)]
    exact settle_none' r seen dur

def sl (m : Mt) : Int := ((m.txid % 2 : Nat) : Int)
theorem sl_or (m : Mt) : sl m = 0 ∨ sl m = 1 := by unfold sl; omega
theorem chunks_one (a : Int) (p : List UInt8) (hl : p.length = 512) : V.chunks a p 1 = [⟨a, V.mkb p⟩] := by
  simp [V.chunks, V.chunk, List.range_succ, List.take_of_length_le (Nat.le_of_eq hl)]
theorem stored_eq (d : V.Dev) (m : Mt) : storedM d m = { d with pend := [⟨sl m * 8, V.mkb (mpage m)⟩], nw := wrap64 (d.nw + 1) } := by
  unfold storedM
  rw [chunks_one _ _ (mpage_len m)]; rfl
theorem readB_one (d : V.Dev) (s : Int) : V.readB d s 1 = V.bl (V.standing d s) := by
  simp [V.readB, List.range_succ]

/-- A device that stands still, and what its other slot holds is older than m. -/
structure Pr (sz pages : Int) (d : V.Dev) (m : Mt) : Prop where
  size : d.size = sz
  pend : d.pend = []
  dead : d.dead = false
  arms : d.arms = []
  len : (V.bl (V.lasting d.dur ((1 - sl m) * 8))).length = 512
  old : okM (V.bl (V.lasting d.dur ((1 - sl m) * 8))) pages (1 - sl m) → (parseM (V.bl (V.lasting d.dur ((1 - sl m) * 8)))).txid < m.txid
/-- .. and m lies in its own slot. -/
structure Tn (sz pages : Int) (d : V.Dev) (m : Mt) : Prop where
  pr : Pr sz pages d m
  own : V.bl (V.lasting d.dur (sl m * 8)) = mpage m

theorem choV_two (a0 ac : Addr) (m : Mt) (pages : Int) (R0 R8 : List UInt8) (hp : PagesOk pages) (hm : MayM m) (hx : m.txid < 18446744073709551616) (hpg : m.pages = pages)
    (h : (sl m = 0 ∧ R0 = mpage m ∧ (okM R8 pages 1 → (parseM R8).txid < m.txid)) ∨ (sl m = 1 ∧ R8 = mpage m ∧ (okM R0 pages 0 → (parseM R0).txid < m.txid))) :
    choV a0 ac R0 R8 pages = #[.agg m.cells.toArray, .nilIface] := by
  unfold choV
  rw [if_neg (by simpa using hp)]
  rcases h with ⟨hs, rfl, ho⟩ | ⟨hs, rfl, ho⟩
  · have hok : okM (mpage m) pages 0 := (okM_mpage m hm hx pages 0).2 ⟨hpg, hs⟩
    have hside : ¬ okM R8 pages 1 ∨ (parseM R8).txid < (parseM (mpage m)).txid := by
      by_cases h8 : okM R8 pages 1
      · exact .inr (by rw [parse_mpage m hm hx]; exact ho h8)
      · exact .inl h8
    rw [if_pos ⟨hok, hside⟩, parse_mpage m hm hx]
  · have hok : okM (mpage m) pages 1 := (okM_mpage m hm hx pages 1).2 ⟨hpg, hs⟩
    have hside : ¬ (okM R0 pages 0 ∧ (¬ okM (mpage m) pages 1 ∨ (parseM (mpage m)).txid < (parseM R0).txid)) := by
      rintro ⟨h0, h⟩
      rcases h with h | h
      · exact h hok
      · rw [parse_mpage m hm hx] at h
        have := ho h0
        omega
    rw [if_neg hside, if_pos hok, parse_mpage m hm hx]

theorem choV_dev (a0 ac : Addr) (m : Mt) (pages : Int) (d : V.Dev) (hp : PagesOk pages) (hm : MayM m) (hx : m.txid < 18446744073709551616) (hpg : m.pages = pages)
    (h1 : V.readB d (sl m * 8) 1 = mpage m) (h2 : okM (V.readB d ((1 - sl m) * 8) 1) pages (1 - sl m) → (parseM (V.readB d ((1 - sl m) * 8) 1)).txid < m.txid) :
    choV a0 ac (V.readB d 0 1) (V.readB d 8 1) pages = #[.agg m.cells.toArray, .nilIface] := by
  refine choV_two a0 ac m pages _ _ hp hm hx hpg ?_
  rcases sl_or m with hs | hs
  · rw [hs] at h1 h2
    exact .inl ⟨hs, h1, h2⟩
  · rw [hs] at h1 h2
    exact .inr ⟨hs, h1, h2⟩
theorem lens_dev (m : Mt) (d : V.Dev) (h1 : (V.readB d (sl m * 8) 1).length = 512) (h2 : (V.readB d ((1 - sl m) * 8) 1).length = 512) : (V.readB d 0 1).length = 512 ∧ (V.readB d 8 1).length = 512 := by
  rcases sl_or m with hs | hs
  · rw [hs] at h1 h2; exact ⟨h1, h2⟩
  · rw [hs] at h1 h2; exact ⟨h2, h1⟩

theorem standing_still (d : V.Dev) (hp : d.pend = []) (s : Int) : V.standing d s = V.lasting d.dur s := by
  unfold V.standing; rw [hp]; rfl
theorem stored_own (d : V.Dev) (m : Mt) : V.readB (storedM d m) (sl m * 8) 1 = mpage m := by
  rw [readB_one, stored_eq]
  unfold V.standing
  simp [V.lastIx, V.bl_mkb]
theorem stored_other (d : V.Dev) (m : Mt) : V.readB (storedM d m) ((1 - sl m) * 8) 1 = V.bl (V.lasting d.dur ((1 - sl m) * 8)) := by
  rw [readB_one, stored_eq]
  unfold V.standing
  have hne : ¬ sl m * 8 = (1 - sl m) * 8 := by rcases sl_or m with h | h <;> rw [h] <;> decide
  simp [V.lastIx, hne]
theorem mk_size (m : Mt) : (V.mkb (mpage m)).size = 512 := by rw [V.mkb_size, mpage_len]

/-- The device behind the Store and a Sync. -/
def syncM (d : V.Dev) (m : Mt) : V.Dev := { d with dur := V.setD d.dur (sl m * 8) (V.mkb (mpage m)), pend := [], nw := wrap64 (d.nw + 1), ns := wrap64 (d.ns + 1) }
theorem sync_stored (d : V.Dev) (m : Mt) (hd : d.dead = false) (ha : d.arms = []) : (storedM d m).sync = (syncM d m, 0) := by
  rw [stored_eq]
  obtain ⟨sz, dur, pend, arms, dead, nr, nw, ns⟩ := d
  simp only at hd ha
  subst hd ha
  rfl
theorem last_own (dur : List V.Sec) (m : Mt) : V.bl (V.lasting (V.setD dur (sl m * 8) (V.mkb (mpage m))) (sl m * 8)) = mpage m := by
  rw [V.lasting_set _ _ _ _ (mk_size m), if_pos rfl, V.bl_mkb]
theorem last_other (dur : List V.Sec) (m : Mt) : V.lasting (V.setD dur (sl m * 8) (V.mkb (mpage m))) ((1 - sl m) * 8) = V.lasting dur ((1 - sl m) * 8) := by
  have hne : ¬ sl m * 8 = (1 - sl m) * 8 := by rcases sl_or m with h | h <;> rw [h] <;> decide
  rw [V.lasting_set _ _ _ _ (mk_size m), if_neg hne]
theorem syncM_dur (d : V.Dev) (m : Mt) : (syncM d m).dur = V.setD d.dur (sl m * 8) (V.mkb (mpage m)) := rfl
theorem Pr.synced {sz pages : Int} {d : V.Dev} {m : Mt} (h : Pr sz pages d m) : Tn sz pages (syncM d m) m := by
  refine ⟨⟨h.size, rfl, h.dead, h.arms, ?_, ?_⟩, last_own d.dur m⟩
  · rw [syncM_dur, last_other]; exact h.len
  · rw [syncM_dur, last_other]; exact h.old
theorem Tn.next {sz pages : Int} {d : V.Dev} {m n : Mt} (h : Tn sz pages d m) (hm : MayM m) (hx : m.txid < 18446744073709551616) (hn : n.txid = m.txid + 1) : Pr sz pages d n := by
  have hs : 1 - sl n = sl m := by unfold sl; rw [hn]; omega
  refine ⟨h.pr.size, h.pr.pend, h.pr.dead, h.pr.arms, ?_, ?_⟩
  · rw [hs, h.own]; exact mpage_len m
  · rw [hs, h.own, parse_mpage m hm hx]
    intro _
    omega
theorem Tn.same {sz pages : Int} {d d' : V.Dev} {m : Mt} (h : Tn sz pages d m) (hd : d'.dur = d.dur) (hp : d'.pend = []) (hs : d'.size = d.size) (ha : d'.arms = d.arms) (hl : d'.dead = false) : Tn sz pages d' m :=
  ⟨⟨hs.trans h.pr.size, hp, hl, ha.trans h.pr.arms, by rw [hd]; exact h.pr.len, by rw [hd]; exact h.pr.old⟩, by rw [hd]; exact h.own⟩
theorem Tn.crash {sz pages : Int} {d : V.Dev} {m : Mt} (h : Tn sz pages d m) (l : List V.Fate) : Tn sz pages (d.crash l).revive m := by
  have e : (d.crash l).revive = { d with dead := false } := by
    unfold V.Dev.crash
    rw [h.pr.dead]
    simp only [Bool.false_eq_true, if_false]
    unfold V.Dev.kill V.Dev.revive
    rw [h.pr.pend, settle_none']
  rw [e]
  exact h.same rfl h.pr.pend rfl rfl rfl
theorem stored_crash {sz pages : Int} {d : V.Dev} {m n : Mt} (h : Tn sz pages d m) (hm : MayM m) (hx : m.txid < 18446744073709551616) (hn : n.txid = m.txid + 1) (l : List V.Fate) (hl : ∀ f ∈ l, f.kind ≠ 3) :
    Tn sz pages ((storedM d n).crash l).revive m ∨ Tn sz pages ((storedM d n).crash l).revive n := by
  have hp := h.next hm hx hn
  have e : ((storedM d n).crash l).revive = { storedM d n with dur := V.settleD [⟨sl n * 8, V.mkb (mpage n)⟩] [] d.dur l, pend := [], dead := false } := by
    rw [stored_eq]
    unfold V.Dev.crash
    rw [show ({ d with pend := [⟨sl n * 8, V.mkb (mpage n)⟩], nw := wrap64 (d.nw + 1) } : V.Dev).dead = false from h.pr.dead]
    rfl
  rcases settle_one ⟨sl n * 8, V.mkb (mpage n)⟩ l [] d.dur hl with hd | hd
  · left
    rw [e, hd]
    exact h.same rfl rfl rfl rfl rfl
  · right
    rw [e, hd]
    exact hp.synced.same rfl rfl rfl rfl rfl
theorem Tn.reads {sz pages : Int} {d : V.Dev} {m : Mt} (h : Tn sz pages d m) : V.readB d (sl m * 8) 1 = mpage m ∧ V.readB d ((1 - sl m) * 8) 1 = V.bl (V.lasting d.dur ((1 - sl m) * 8)) := by
  rw [readB_one, readB_one, standing_still d h.pr.pend, standing_still d h.pr.pend]
  exact ⟨h.own, rfl⟩
theorem fresh (sz pages : Int) (m : Mt) (d : V.Dev) (hd : d.dur = []) (hz : d.size = sz) (hp : d.pend = []) (hl : d.dead = false) (ha : d.arms = []) (hpg : PagesOk pages) : Pr sz pages d m := by
  have hb : V.bl (V.lasting d.dur ((1 - sl m) * 8)) = List.replicate 512 0 := by
    rw [hd]
    show V.bl V.zsec = _
    rw [V.zsec, V.bl_mkb]; rfl
  refine ⟨hz, hp, hl, ha, by rw [hb, List.length_replicate], ?_⟩
  rw [hb]
  rintro ⟨_, h, _⟩
  have : (parseM (List.replicate 512 0)).pages = 0 := by decide
  rw [this] at h
  have := hpg.1
  omega

end Go.Proofs.YtlopimdnjookeaaDoor
