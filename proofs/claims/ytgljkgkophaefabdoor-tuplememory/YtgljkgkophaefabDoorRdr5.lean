import Derived.Test.YtgljkgkophaefabDoorRdr4
namespace Go.Proofs.YtgljkgkophaefabDoor
open Go.RowKit

theorem ItsOwn.sole {w w' : World} {rb base : Nat} {v : Value} {l : List It} (h : ItsOwn w base v l) (hs : Sole rb w w') (hr : rb < base) : ItsOwn w' base v l := by
  obtain ⟨us, hus, how, hok, hin⟩ := h
  exact ⟨us, hus, owns_sole how hs hr, hok, fun i h h' => (Sole.its (hin i h h') hs (fun g hg => by have := hg.1; omega)).imp fun g hg => ⟨hg.1, hg.2.1, Nat.lt_of_lt_of_le hg.2.2 hs.size⟩⟩
/-- So far the list's items are l, and cur is left. -/
structure MidL (d r : Nat) (t : List UInt8) (l : List It) (cur : List UInt8) : Prop where
  len : l.length ≤ 16
  each : ∀ x ∈ l, VI r x
  eq : t = encL l ++ cur
  all : ∀ m b, VL r m → t = encL m ++ fin d b → ∃ m2, m = l ++ m2 ∧ cur = encL m2 ++ fin d b
theorem fin_item {d r : Nat} {x : It} {s b : List UInt8} (hx : VI r x) (h : x.enc ++ s = fin d b) : False := by
  rw [x.enc_eq] at h
  cases d with
  | zero => cases h
  | succ d =>
    simp only [fin, List.cons_append, List.cons.injEq] at h
    have k := hx.kind
    have := byteOf_nat x.kind
    rw [h.1, Int.emod_eq_of_lt (by omega) (by omega)] at this
    have : ((0 : UInt8).toNat : Int) = 0 := rfl
    omega
theorem MidL.snoc {d r : Nat} {t : List UInt8} {l : List It} {x : It} {b : List UInt8} (h : MidL d r t l (x.enc ++ b)) (hx : VI r x) (hl : l.length < 16) : MidL d r t (l ++ [x]) b := by
  refine ⟨by simp; omega, fun y hy => ?_, ?_, fun m b' hm e => ?_⟩
  · rcases List.mem_append.1 hy with h' | h'
    · exact h.each y h'
    · rw [List.mem_singleton.1 h']; exact hx
  · rw [h.eq, encL_append, List.append_assoc]; simp [encL]
  · obtain ⟨m2, rfl, e2⟩ := h.all m b' hm e
    cases m2 with
    | nil => simp only [encL, List.nil_append] at e2; exact (fin_item hx e2).elim
    | cons y m2 =>
      simp only [encL, List.append_assoc] at e2
      obtain ⟨rfl, e3⟩ := enc_uniq hx (hm.each y (by simp)) e2
      exact ⟨m2, by simp, e3⟩
/-- The list does not end here, and no item stands here: then there is none. -/
theorem MidL.stuck {d r : Nat} {t cur : List UInt8} {l : List It} (h : MidL d r t l cur) (he : ∀ b, cur ≠ fin d b) (hx : l.length < 16 → ∀ x b, VI r x → cur ≠ x.enc ++ b) : ∀ m b, VL r m → t ≠ encL m ++ fin d b := fun m b hm e => by
  obtain ⟨m2, rfl, e2⟩ := h.all m b hm e
  cases m2 with
  | nil => simp only [encL, List.nil_append] at e2; exact he b e2
  | cons y m2 =>
    simp only [encL, List.append_assoc] at e2
    have := hm.len
    simp only [List.length_append, List.length_cons] at this
    exact hx (by omega) y _ (hm.each y (by simp)) e2
theorem MidL.done {d r : Nat} {t : List UInt8} {l : List It} {b : List UInt8} (h : MidL d r t l (fin d b)) : t = encL l ++ fin d b ∧ VL r l := ⟨h.eq, h.len, h.each⟩
/-- Does a list end here? Both depths in one. -/
theorem atEnd_any (rb d : Nat) (t : List UInt8) (w : World) (hr : RdAt w rb (S t)) :
    Calls Tryd.prog 37 #[.pointer (some ⟨rb, 0, none⟩), .int .i64 (d : Int)] w fun e w' => (∃ b, t = fin d b ∧ e = .returned (.bool true) ∧ Rest rb w w' b) ∨ ((∀ b, t ≠ fin d b) ∧ e = .returned (.bool false) ∧ Rest rb w w' t) := by
  cases d with
  | zero =>
    refine (atEnd_top rb t w hr).mono ?_
    rintro e w' ⟨rfl, hb⟩
    cases t with
    | nil => exact .inl ⟨[], rfl, rfl, hr.keep hb, Sole.of_below hb⟩
    | cons c t => exact .inr ⟨(fun b h => by cases h), rfl, hr.keep hb, Sole.of_below hb⟩
  | succ d =>
    refine (atEnd_in rb _ (by omega) t w hr).mono ?_
    rintro e w' (⟨b, rfl, rfl, hR⟩ | ⟨hno, rfl, hb⟩)
    · exact .inl ⟨b, rfl, rfl, hR⟩
    · exact .inr ⟨hno, rfl, hr.keep hb, Sole.of_below hb⟩

/-- One more item: what the append leaves. -/
theorem rd_push {base : Nat} {w1 w2 w5 : World} {q : List It} {us : List Value} {v yv : Value} {y : It} {g cap H : Nat} (hb1 : base ≤ w1.heap.size) (h12 : w1.heap.size ≤ w2.heap.size) (hbk : ∀ k, v.ownBlock = some k → base ≤ k ∧ k < w1.heap.size) (hok : y.Ok)
    (hus : us.length = q.length) (hoks : ∀ i (h : i < q.length), q[i].Ok) (hins : ∀ i (h : i < q.length) (h' : i < us.length), ItsAt w2 (fun g => base ≤ g ∧ some g ≠ v.ownBlock ∧ g < w2.heap.size) us[i] q[i].list) (hin : ItsAt w2 (fun g => w1.heap.size ≤ g) yv y.list)
    {o : Obj} (hH : w2.heap.size + 1 = H)
    (hown5 : w5.ownsRow base 43 4 (.slice (some ⟨g, 0, none⟩) (q.length + 1) cap) (q.length + 1) (cellsOf' q us ++ [.int .i64 y.kind, .int .i64 y.num, .string y.text, yv]))
    (hgrow : (w2.alloc o).grownBy w5 v.ownBlock) (hat : v.ownBlock = some g ∨ g = H) : ItsOwn w5 base (.slice (some ⟨g, 0, none⟩) (q.length + 1) cap) (q ++ [y]) ∧ Below base w2 w5 := by
  have n4 := below_new w2 o
  refine ⟨push_own (w4 := w2.alloc o) (H := H) hus hoks (fun i h h' => ?_) hok ?_ hown5 hgrow hat (by simp; omega), ?_⟩
  · exact ((hins i h h').keep n4).imp fun k hk => ⟨hk.1, hk.2.1, Nat.lt_of_lt_of_le hk.2.2 n4.size⟩
  · refine (hin.keep n4).lt.imp fun k hk => ⟨by omega, fun e => ?_, hk.2⟩
    have := (hbk k e.symm).2
    omega
  · exact ((Below.refl base w2).alloc (by omega) _).grown hgrow (by simp; omega) (fun k hk => (hbk k hk).1)

set_option maxHeartbeats 1000000 in
theorem items_step (aT : Addr) (rb d r : Nat) (hd : d + r = 4) (hn : rb ≠ 1) (hI : ∀ r', r = r' + 1 → ItemsC aT rb (d + 1) r') : ItemsC aT rb d r := by
  intro t w ht hr hs
  obtain ⟨i0, hi, hz0, hz1, hz2⟩ := info_parts Tryd.info43
  have hlt := hr.lt
  have IT : Hid (∀ (t : List UInt8) (w : World), TextAt aT w → RdAt w rb (S t) → t.length ≤ 65536 → Calls Tryd.prog 39 #[.pointer (some ⟨rb, 0, none⟩), .int .i64 (d : Int)] w fun e w' => (∃ x lv b, t = x.enc ++ b ∧ VI r x ∧ e = .returned (.agg #[.int .i64 x.kind, .int .i64 x.num, .string x.text, lv]) ∧ ItsAt w' (fun g => w.heap.size ≤ g) lv x.list ∧ Rest rb w w' b) ∨ (e = gone aT ∧ Sole rb w w' ∧ ∀ x b, VI r x → t ≠ x.enc ++ b)) := fun t w a b c => item_any aT rb d r hd hn hI t w a b c
  clear hI
  go_enter Tryd.func28, Tryd.ntmps28
  go_wp2_with fail
  go_loopw [5] (fun v wr => ∃ (l : List It) (cur : List UInt8) (a : Option Addr) (c : Nat), v = .slice a l.length c ∧ MidL d r t l cur ∧ ItsOwn wr w.heap.size v l ∧ Rest rb w wr cur) (fun v _ => 17 - lenOf v)
  case atStart => exact ⟨[], t, none, 0, rfl, ⟨by simp, fun x hx => by simp at hx, rfl, fun m b _ e => ⟨m, rfl, e⟩⟩, ⟨[], rfl, by simpa [cellsOf'] using World.ownsRow_nil _ _ _ _, fun i h => absurd h (by simp), fun i h => absurd h (by simp)⟩, hr, Sole.refl _ _⟩
  case round =>
    obtain ⟨l, cur, al, cl, rfl, hM, hown, hR⟩ := hrel
    have hT := ht.sole hR.sole hn
    have hcl : cur.length ≤ 65536 := by
      have := congrArg List.length hM.eq
      rw [List.length_append] at this
      omega
    have hl16 := hM.len
    have HM : Hid (MidL d r t l cur) := hM
    have E := atEnd_any rb d cur wr hR.at_
    have HR0 : Hid (Rest rb w wr cur) := hR
    have hsz := hR.sole.size
    have HT : Hid (TextAt aT w) := ht
    clear hM hR ht hr hs hT
    go_wp2_with fail
    refine E.mono ?_
    rintro e w1 (⟨b, rfl, rfl, hR⟩ | ⟨hno, rfl, hR⟩)
    · have HF := HM.out.done
      have HR1 : Hid (Rest rb w w1 b) := HR0.out.trans hR
      have HO : Hid (ItsOwn w1 w.heap.size (.slice al l.length cl) l) := hown.sole hR.sole hlt
      have HFF : Hid (t = encL l ++ fin d b ∧ VL r l) := HF
      clear hR HF E HM HR0 hown IT
      go_wp2_with fail
      go_ret
      exact .inl ⟨l, _, b, HFF.out.1, HFF.out.2, rfl, HO.out, HR1.out⟩
    · have hR1 := HR0.out.trans hR
      have HT1 := HT.out.sole hR1.sole hn
      have hown1 := hown.sole hR.sole hlt
      have hsz1 := hR1.sole.size
      have HNO : Hid (∀ b, cur ≠ fin d b) := hno
      have HR1 : Hid (Rest rb w w1 cur) := hR1
      clear E hown HR0 hR hno
      by_cases h16 : l.length = 16
      · have g16 : ((l.length : Int) == 16) = true := by simp; omega
        have G := giveUp_any aT (.pointer (some ⟨rb, 0, none⟩)) w1 HT1
        have NO : Hid (∀ m b, VL r m → t ≠ encL m ++ fin d b) := HM.out.stuck HNO.out (fun h => by omega)
        clear hR1 HT1 hown1 HM IT
        go_wp2_with fail
        refine G.mono ?_
        rintro e w2 ⟨rfl, rfl⟩
        exact ⟨rfl, .inr ⟨rfl, HR1.out.sole, NO.out⟩⟩
      · have g16 : ((l.length : Int) == 16) = false := by simp; omega
        have hl15 : l.length ≤ 15 := by omega
        have X := IT.out cur w1 HT1 hR1.at_ hcl
        clear IT hR1 HT1
        go_wp2_with fail
        refine X.mono ?_
        rintro e w2 (⟨x, lv, b, rfl, hx, rfl, hlv, hR2⟩ | ⟨rfl, hS, hxno⟩)
        · obtain ⟨la, lc, rfl⟩ := hlv.form
          have HM2 : Hid (MidL d r t (l ++ [x]) b) := HM.out.snoc hx (by omega)
          have HR2 : Hid (Rest rb w w2 b) := HR1.out.trans hR2
          have hbk := hown1.blk
          have h12 := hR2.sole.size
          obtain ⟨us, hus, how, hoks, hins⟩ := hown1.sole hR2.sole hlt
          have hm1 : l.length + 1 ≤ maxLen := by unfold maxLen; omega
          have hm2 : (l.length + 1) * 56 ≤ 140737488355328 := by omega
          have HN : Hid (∀ j u, [Value.int .i64 x.kind, .int .i64 x.num, .string x.text, .slice la x.list.length lc][j]? = some u → (w2.alloc (.cells #[.int .i64 x.kind, .int .i64 x.num, .string x.text, .slice la x.list.length lc] 43)).cell? ((⟨w2.heap.size, 0, none⟩ : Addr).add j) = some u) := World.news_of_block (heap_alloc_new w2 _)
          have HX : Hid (x.Ok ∧ ItsAt w2 (fun g => w1.heap.size ≤ g) (.slice la x.list.length lc) x.list) := ⟨hx.ok, hlv⟩
          have HBK : Hid (∀ k, (Value.slice al l.length cl).ownBlock = some k → w.heap.size ≤ k ∧ k < w1.heap.size) := hbk
          clear HM HNO X hx hlv hown1 hR2 hbk HR1
          go_wp2_with (first
            | (at_builtin; refine wpList_append_lies _ rfl _ _ 22 rfl w.heap.size 43 i0 (.agg #[.int .i64 0, .int .i64 0, .string ⟨#[]⟩, .slice none 0 0]) 4 56 Tryd.underlying22 hi hz0 hz1 hz2 rfl (by decide) _ _ _ rfl (how.alloc _) ⟨w2.heap.size, 0, none⟩ 1 1 [.int .i64 x.kind, .int .i64 x.num, .string x.text, .slice la x.list.length lc] rfl rfl HN.out (four_one _ _ _ _ _ _) (by decide) hm1 hm2 (by simp; omega) (w2.heap.size + 1) (by simp) ?_))
          intro g5 cap5 w5 hown5 hgrow hat hlg
          obtain ⟨HO5, HB5⟩ := rd_push hsz1 h12 HBK.out HX.out.1 hus hoks hins HX.out.2 rfl hown5 hgrow hat
          have HF : Hid (ItsOwn w5 w.heap.size (.slice (some ⟨g5, 0, none⟩) (l.length + 1) cap5) (l ++ [x])) := HO5
          have HR5 : Hid (Rest rb w w5 b) := ⟨HR2.out.at_.keepB HB5 hlt, HR2.out.sole.then HB5 rfl⟩
          clear hown5 hgrow hat hlg HO5 HB5 hins hoks how HX HN HR2
          go_wp2_with fail
          go_roundw
          case rel => exact ⟨l ++ [x], b, some ⟨g5, 0, none⟩, cap5, by simp, HM2.out, HF.out, HR5.out⟩
          case measure => simp [lenOf]; omega
        · have NO : Hid (∀ m b, VL r m → t ≠ encL m ++ fin d b) := HM.out.stuck HNO.out (fun _ => hxno)
          exact ⟨rfl, .inr ⟨rfl, HR1.out.sole.trans hS, NO.out⟩⟩

theorem items_any (aT : Addr) (rb : Nat) (hn : rb ≠ 1) : ∀ r d, d + r = 4 → ItemsC aT rb d r
  | 0, d, hd => items_step aT rb d 0 hd hn (fun r' e => by cases e)
  | r + 1, d, hd => items_step aT rb d (r + 1) hd hn (fun r' e => by cases e; exact items_any aT rb hn r (d + 1) (by omega))

end Go.Proofs.YtgljkgkophaefabDoor
