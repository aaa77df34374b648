import Derived.Test.YtgljkgkophaefabDoorRdrT4
namespace Go.Proofs.YtgljkgkophaefabDoor
open Go.RowKit

set_option maxHeartbeats 1000000 in
theorem itemsT_step (aT : Addr) (rb d r : Nat) (hd : d + r = 4) (hn : rb ≠ 1) (hI : ∀ r', r = r' + 1 → ItemsCT aT rb (d + 1) r') : ItemsCT aT rb d r := by
  intro t w ht hr hs
  obtain ⟨i0, hi, hz0, hz1, hz2⟩ := info_parts Tryd.info43
  have hlt := hr.lt
  have IT : Hid (∀ (t : List UInt8) (w : World), TextAt aT w → RdAt w rb (S t) → t.length ≤ 65536 → Calls Tryd.prog 39 #[.pointer (some ⟨rb, 0, none⟩), .int .i64 (d : Int)] w fun e w' => (∃ x lv b, t = x.enc ++ b ∧ VI r x ∧ e = .returned (.agg #[.int .i64 x.kind, .int .i64 x.num, .string x.text, lv]) ∧ TrN w' w.heap.size lv x.list ∧ Rest rb w w' b) ∨ (e = gone aT ∧ Sole rb w w' ∧ ∀ x b, VI r x → t ≠ x.enc ++ b)) := fun t w a b c => itemT_any aT rb d r hd hn hI t w a b c
  clear hI
  go_enter Tryd.func28, Tryd.ntmps28
  go_wp2_with fail
  go_loopw [5] (fun v wr => ∃ (l : List It) (cur : List UInt8) (a : Option Addr) (c : Nat), v = .slice a l.length c ∧ MidL d r t l cur ∧ TrN wr w.heap.size v l ∧ Rest rb w wr cur) (fun v _ => 17 - lenOf v)
  case atStart => exact ⟨[], t, none, 0, rfl, ⟨by simp, fun x hx => by simp at hx, rfl, fun m b _ e => ⟨m, rfl, e⟩⟩, TrN.nil _ _, hr, Sole.refl _ _⟩
  case round =>
    obtain ⟨l, cur, al, cl, rfl, hM, hown, hR⟩ := hrel
    have hT := ht.sole hR.sole hn
    have hcl : cur.length ≤ 65536 := by
      have := congrArg List.length hM.eq
      rw [List.length_append] at this
      omega
    have hl16 := hM.len
    have HM : Hid (MidL d r t l cur) := hM
    have E := atEnd_any rb d cur wr hR.at_
    have HR0 : Hid (Rest rb w wr cur) := hR
    have hsz := hR.sole.size
    have HT : Hid (TextAt aT w) := ht
    clear hM hR ht hr hs hT
    go_wp2_with fail
    refine E.mono ?_
    rintro e w1 (⟨b, rfl, rfl, hR⟩ | ⟨hno, rfl, hR⟩)
    · have HF := HM.out.done
      have HR1 : Hid (Rest rb w w1 b) := HR0.out.trans hR
      have HO : Hid (TrN w1 w.heap.size (.slice al l.length cl) l) := hown.sole hR.sole hlt
      have HFF : Hid (t = encL l ++ fin d b ∧ VL r l) := HF
      clear hR HF E HM HR0 hown IT
      go_wp2_with fail
      go_ret
      exact .inl ⟨l, _, b, HFF.out.1, HFF.out.2, rfl, HO.out, HR1.out⟩
    · have hR1 := HR0.out.trans hR
      have HT1 := HT.out.sole hR1.sole hn
      have hown1 := hown.sole hR.sole hlt
      have hsz1 := hR1.sole.size
      have HNO : Hid (∀ b, cur ≠ fin d b) := hno
      have HR1 : Hid (Rest rb w w1 cur) := hR1
      clear E hown HR0 hR hno
      by_cases h16 : l.length = 16
      · have g16 : ((l.length : Int) == 16) = true := by simp; omega
        have G := giveUp_any aT (.pointer (some ⟨rb, 0, none⟩)) w1 HT1
        have NO : Hid (∀ m b, VL r m → t ≠ encL m ++ fin d b) := HM.out.stuck HNO.out (fun h => by omega)
        clear hR1 HT1 hown1 HM IT
        go_wp2_with fail
        refine G.mono ?_
        rintro e w2 ⟨rfl, rfl⟩
        exact ⟨rfl, .inr ⟨rfl, HR1.out.sole, NO.out⟩⟩
      · have g16 : ((l.length : Int) == 16) = false := by simp; omega
        have hl15 : l.length ≤ 15 := by omega
        have X := IT.out cur w1 HT1 hR1.at_ hcl
        clear IT hR1 HT1
        go_wp2_with fail
        refine X.mono ?_
        rintro e w2 (⟨x, lv, b, rfl, hx, rfl, hlv, hR2⟩ | ⟨rfl, hS, hxno⟩)
        · obtain ⟨la, lc, rfl⟩ := hlv.form
          have HM2 : Hid (MidL d r t (l ++ [x]) b) := HM.out.snoc hx (by omega)
          have HR2 : Hid (Rest rb w w2 b) := HR1.out.trans hR2
          have h12 := hR2.sole.size
          obtain ⟨bs1, htr1, hlow1⟩ := hown1
          have hlt1 := htr1.lt
          have htr2 := htr1.sole hR2.sole (fun hm => by have := hlow1 rb hm; omega)
          obtain ⟨us, bss, hus, hbss, how, hoks, hins, hnd, hfl, hbk⟩ := htr2.parts
          obtain ⟨bx, hy2, hhigh⟩ := hlv
          have hm1 : l.length + 1 ≤ maxLen := by unfold maxLen; omega
          have hm2 : (l.length + 1) * 56 ≤ 140737488355328 := by omega
          have HN : Hid (∀ j u, [Value.int .i64 x.kind, .int .i64 x.num, .string x.text, .slice la x.list.length lc][j]? = some u → (w2.alloc (.cells #[.int .i64 x.kind, .int .i64 x.num, .string x.text, .slice la x.list.length lc] 43)).cell? ((⟨w2.heap.size, 0, none⟩ : Addr).add j) = some u) := World.news_of_block (heap_alloc_new w2 _)
          have HX : Hid (x.Ok ∧ Tr w2 (.slice la x.list.length lc) x.list bx ∧ ∀ k ∈ bx, w1.heap.size ≤ k) := ⟨hx.ok, hy2, hhigh⟩
          have HLOW : Hid ((∀ k ∈ bss.flatten, w.heap.size ≤ k ∧ k < w1.heap.size ∧ (Value.slice al l.length cl).ownBlock ≠ some k) ∧ bss.flatten.Nodup) := ⟨fun k hk => ⟨hlow1 k (hfl k hk).1, hlt1 k (hfl k hk).1, (hfl k hk).2⟩, hnd⟩
          have HINS : Hid (∀ i (h : i < l.length) (h1 : i < us.length) (h2 : i < bss.length), Tr w2 us[i] l[i].list bss[i]) := hins
          have HBK : Hid (∀ k, (Value.slice al l.length cl).ownBlock = some k → w.heap.size ≤ k ∧ k < w1.heap.size) := fun k hk => ⟨hlow1 k (hbk k hk), hlt1 k (hbk k hk)⟩
          clear HM HNO X hx hy2 hhigh htr1 htr2 hlow1 hlt1 hfl hnd hR2 hbk HR1 hins
          go_wp2_with (first
            | (at_builtin; refine wpList_append_lies _ rfl _ _ 22 rfl 0 43 i0 (.agg #[.int .i64 0, .int .i64 0, .string ⟨#[]⟩, .slice none 0 0]) 4 56 Tryd.underlying22 hi hz0 hz1 hz2 rfl (by decide) _ _ _ rfl (how.alloc _) ⟨w2.heap.size, 0, none⟩ 1 1 [.int .i64 x.kind, .int .i64 x.num, .string x.text, .slice la x.list.length lc] rfl rfl HN.out (four_one _ _ _ _ _ _) (by decide) hm1 hm2 (Nat.zero_le _) (w2.heap.size + 1) (by simp) ?_))
          intro g5 cap5 w5 hown5 hgrow hat hlg
          have HT5 := Tr.push h12 HX.out.1 HX.out.2.1 HX.out.2.2 (by omega) hus hbss hoks HINS.out HLOW.out.2 (fun k hk => ⟨(HLOW.out.1 k hk).2.1, (HLOW.out.1 k hk).2.2⟩) (fun k hk => (HBK.out k hk).2) rfl hown5 hgrow hat
          have HO5 : TrN w5 w.heap.size (.slice (some ⟨g5, 0, none⟩) (l.length + 1) cap5) (l ++ [x]) := by
            refine ⟨_, HT5, fun k hk => ?_⟩
            rcases List.mem_cons.1 hk with rfl | hk
            · rcases hat with e | e
              · exact (HBK.out _ e).1
              · omega
            · rw [List.flatten_append] at hk
              rcases List.mem_append.1 hk with hk | hk
              · exact (HLOW.out.1 k hk).1
              · have := HX.out.2.2 k (by simpa using hk)
                omega
          have HB5 : Below w.heap.size w2 w5 := ((Below.refl w.heap.size w2).alloc (by omega) _).grown hgrow (by simp; omega) (fun k hk => (HBK.out k hk).1)
          have HF : Hid (TrN w5 w.heap.size (.slice (some ⟨g5, 0, none⟩) (l.length + 1) cap5) (l ++ [x])) := HO5
          have HR5 : Hid (Rest rb w w5 b) := ⟨HR2.out.at_.keepB HB5 hlt, HR2.out.sole.then HB5 rfl⟩
          clear hown5 hgrow hat hlg HO5 HB5 HT5 HINS HLOW HBK hoks how HX HN HR2
          go_wp2_with fail
          go_roundw
          case rel => exact ⟨l ++ [x], b, some ⟨g5, 0, none⟩, cap5, by simp, HM2.out, HF.out, HR5.out⟩
          case measure => simp [lenOf]; omega
        · have NO : Hid (∀ m b, VL r m → t ≠ encL m ++ fin d b) := HM.out.stuck HNO.out (fun _ => hxno)
          exact ⟨rfl, .inr ⟨rfl, HR1.out.sole.trans hS, NO.out⟩⟩

theorem itemsT_any (aT : Addr) (rb : Nat) (hn : rb ≠ 1) : ∀ r d, d + r = 4 → ItemsCT aT rb d r
  | 0, d, hd => itemsT_step aT rb d 0 hd hn (fun r' e => by cases e)
  | r + 1, d, hd => itemsT_step aT rb d (r + 1) hd hn (fun r' e => by cases e; exact itemsT_any aT rb hn r (d + 1) (by omega))

end Go.Proofs.YtgljkgkophaefabDoor
