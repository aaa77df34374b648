import Derived.Test.YtgljkgkophaefaaDoorPl2
import Derived.Test.YtgljkgkophaefaaDoorRdr5
namespace Go.Proofs.YtgljkgkophaefaaDoor
open Go.RowKit

/-- So far the items are l. -/
def MidPL (d r : Nat) (s : ByteArray) (i0 : Nat) (l : List It) (i : Nat) (lo : Bool) : Prop := ∀ m b, VL r m → D s i0 = encL m ++ fin d b → lo = false ∧ ∃ m2, m = l ++ m2 ∧ D s i = encL m2 ++ fin d b
theorem MidPL.snoc {d r : Nat} {s : ByteArray} {i0 i j : Nat} {l : List It} {c : UInt8} {x : It} {lo lo' : Bool} (h : MidPL d r s i0 l i lo) (hd : D s i = c :: D s (i + 1)) (hc : ∀ b, c :: D s (i + 1) ≠ fin d b)
    (hx : ∀ y b, VI r y → c :: D s (i + 1) = y.enc ++ b → x = y ∧ D s j = b ∧ lo' = false) : MidPL d r s i0 (l ++ [x]) j lo' := fun m b hm e => by
  obtain ⟨_, m2, rfl, e2⟩ := h m b hm e
  rw [hd] at e2
  cases m2 with
  | nil => simp only [encL, List.nil_append] at e2; exact (hc b e2).elim
  | cons y m3 =>
    simp only [encL, List.append_assoc] at e2
    obtain ⟨rfl, e3, e4⟩ := hx y _ (hm.each y (by simp)) e2
    exact ⟨e4, m3, by simp, e3⟩
theorem encL_nil {m : List It} (h : encL m = []) : m = [] := by
  cases m with
  | nil => rfl
  | cons y m => simp only [encL, y.enc_eq] at h; cases h

set_option maxHeartbeats 2000000 in
theorem pitems_step (pb d r : Nat) (hd : d + r = 4) (hI : ∀ r', r = r' + 1 → PItemsC pb (d + 1) r') : PItemsC pb d r := by
  intro s i0 w hp hi0 hs
  obtain ⟨q0, hi, hz0, hz1, hz2⟩ := info_parts Tryd.info43
  have hlt := hp.lt
  cases d with
  | zero =>
    have IT : Hid (∀ (c : UInt8) (i : Nat) (w : World), PlAt w pb s i false → i ≤ s.size → Calls Tryd.prog 38 #[.pointer (some ⟨pb, 0, none⟩), .int .i64 (c.toNat : Int), .int .i64 ((0 : Nat) : Int)] w (PItemR pb r c s i w)) := fun c i w a b => pitem_any pb 0 r hd hI c s i w a b hs
    clear hI
    obtain ⟨dd, hdd⟩ : ∃ dd : Int, dd = ((0 : Nat) : Int) := ⟨_, rfl⟩
    rw [← hdd] at IT ⊢
    clear hdd
    have hdi : (((0 : Nat) == 0) : Bool) = true := rfl
    rw [hdi]
    clear hdi
    go_enter Tryd.func24, Tryd.ntmps24
    go_wp2_with fail
    go_loopw [7] (fun v wr => ∃ (l : List It) (i : Nat) (lo : Bool) (a : Option Addr) (c : Nat), v = .slice a l.length c ∧ (encL l).length + 9 * i0 ≤ 9 * i ∧ l.length + i0 ≤ i ∧ i ≤ s.size ∧ MidPL 0 r s i0 l i lo ∧ ItsOwn wr w.heap.size v l ∧ Pst pb w wr s i lo) (fun v _ => s.size + 1 - lenOf v)
    case atStart => exact ⟨[], i0, false, none, 0, rfl, by simp [encL], by simp, hi0, fun m b _ e => ⟨rfl, m, rfl, e⟩, ⟨[], rfl, by simpa [cellsOf'] using World.ownsRow_nil _ _ _ _, fun i h => absurd h (by simp), fun i h => absurd h (by simp)⟩, hp, Sole.refl _ _⟩
    case round =>
      obtain ⟨l, i, lo, al, cl, rfl, hl9, hli, his, hM, hown, hP⟩ := hrel
      have HM : Hid (MidPL 0 r s i0 l i lo) := hM
      have e0 := hP.at_.c0
      have e1 := hP.at_.c1
      have e2 := hP.at_.c2
      have HP : Hid (Pst pb w wr s i lo) := hP
      have hsz := hP.sole.size
      clear hM hp hP
      cases lo with
      | true =>
        go_wp2_with fail
        go_ret
        exact ⟨l, _, i, true, rfl, hown, hl9, hli, his, HP.out, fun m b hm e => by cases (HM.out m b hm e).1⟩
      | false =>
        by_cases hend : i = s.size
        · have g1 : ((i : Int) == (s.size : Int)) = true := by simp [hend]
          have HD : Hid (D s i = []) := D_end (by omega)
          have HF : Hid (∀ m b, VL r m → D s i0 = encL m ++ fin 0 b → l = m) := fun m b hm e => by
            obtain ⟨_, m2, rfl, e2⟩ := HM.out m b hm e
            rw [HD.out] at e2
            have : m2 = [] := encL_nil (by simpa [fin] using e2.symm)
            simp [this]
          subst hend
          have HO : Hid (∀ n, ItsOwn (wr.drewN n) w.heap.size (.slice al l.length cl) l) := fun n => hown.keep (below_drewN (Below.refl _ _) n)
          have HQ : Hid (∀ n, Pst pb w (wr.drewN n) s s.size false) := fun n => HP.out.keep (below_drewN (Below.refl _ _) n)
          clear hown HM IT
          go_wp2_with fail
          go_quiet (fail)
          go_wp2_with fail
          go_ret
          exact ⟨l, _, s.size, false, rfl, HO.out _, hl9, hli, his, HQ.out _, fun m b hm e => ⟨HF.out m b hm e, rfl, rfl⟩⟩
        · have g1 : ((i : Int) == (s.size : Int)) = false := by simp; omega
          have B : Hid (∀ n, Calls Tryd.prog 37 #[.pointer (some ⟨pb, 0, none⟩)] (wr.drewN n) fun e w' => (∃ c, i < s.size ∧ D s i = c :: D s (i + 1) ∧ e = .returned (.int .i64 (c.toNat : Int)) ∧ Pst pb (wr.drewN n) w' s (i + 1) false) ∨ (i = s.size ∧ D s i = [] ∧ e = .returned (.int .i64 0) ∧ Pst pb (wr.drewN n) w' s i true)) := fun n => byte_any pb s i false _ (HP.out.keep (below_drewN (Below.refl _ _) n)).at_ his hs
          have HO : Hid (∀ n, ItsOwn (wr.drewN n) w.heap.size (.slice al l.length cl) l) := fun n => hown.keep (below_drewN (Below.refl _ _) n)
          have HQ : Hid (∀ n, Pst pb w (wr.drewN n) s i false) := fun n => HP.out.keep (below_drewN (Below.refl _ _) n)
          clear hown HP
          go_wp2_with fail
          go_quiet (fail)
          go_wp2_with fail
          refine (B.out _).mono ?_
          rintro e w1 (⟨c, hi1, hd1, rfl, hP1⟩ | ⟨hi1, _⟩)
          · have HD : Hid (D s i = c :: D s (i + 1)) := hd1
            have HP1 : Hid (Pst pb w w1 s (i + 1) false) := (HQ.out _).trans hP1
            have hown1 := (HO.out _).sole hP1.sole hlt
            have hsz1 := HP1.out.sole.size
            have hc0 := hi1
            have hcc : ((c.toNat : Int) == 0) = true ∨ ((c.toNat : Int) == 0) = false := by cases ((c.toNat : Int) == 0) <;> simp
            clear hP1 HQ HO hd1
            rcases hcc with hcc | hcc
            all_goals
              have X := IT.out c (i + 1) w1 HP1.out.at_ hi1
              have HC : Hid (∀ b, c :: D s (i + 1) ≠ fin 0 b) := fun b h => by cases h
              clear IT hc0 B e0 e1 e2
              go_wp2_with fail
              refine X.mono ?_
              rintro e w2 ⟨x, lv, j, lo', rfl, hok, hle, hij, hjs, hlv, hP2, hF2⟩
              obtain ⟨la, lc, rfl⟩ := hlv.form
              have HM2 : Hid (MidPL 0 r s i0 (l ++ [x]) j lo') := HM.out.snoc HD.out HC.out hF2
              have bA := below_new w2 (.cells #[.int .i64 x.kind, .int .i64 x.num, .string x.text, .slice la x.list.length lc] 43)
              have HP2 : Hid (Pst pb w (w2.alloc (.cells #[.int .i64 x.kind, .int .i64 x.num, .string x.text, .slice la x.list.length lc] 43)) s j lo') := (HP1.out.trans hP2).keep bA
              have hbk := hown1.blk
              have h12b := hP2.sole.size
              have h12 : w1.heap.size ≤ (w2.alloc (.cells #[.int .i64 x.kind, .int .i64 x.num, .string x.text, .slice la x.list.length lc] 43)).heap.size := Nat.le_trans hP2.sole.size bA.size
              obtain ⟨us, hus, how, hoks, hins⟩ := (hown1.sole hP2.sole hlt).keep bA
              have hm1 : l.length + 1 ≤ maxLen := by unfold maxLen; omega
              have hm2 : (l.length + 1) * 56 ≤ 140737488355328 := by omega
              have HN : Hid (∀ j u, [Value.int .i64 x.kind, .int .i64 x.num, .string x.text, .slice la x.list.length lc][j]? = some u → ((w2.alloc (.cells #[.int .i64 x.kind, .int .i64 x.num, .string x.text, .slice la x.list.length lc] 43)).alloc (.cells #[.int .i64 x.kind, .int .i64 x.num, .string x.text, .slice la x.list.length lc] 43)).cell? ((⟨w2.heap.size + 1, 0, none⟩ : Addr).add j) = some u) := World.news_of_block (heap_alloc2_new w2 _ _)
              have HX : Hid (x.Ok ∧ ItsAt (w2.alloc (.cells #[.int .i64 x.kind, .int .i64 x.num, .string x.text, .slice la x.list.length lc] 43)) (fun g => w1.heap.size ≤ g) (.slice la x.list.length lc) x.list) := ⟨hok, hlv.keep bA⟩
              have HBK : Hid (∀ k, (Value.slice al l.length cl).ownBlock = some k → w.heap.size ≤ k ∧ k < w1.heap.size) := hbk
              have HLE : Hid ((encL (l ++ [x])).length + 9 * i0 ≤ 9 * j) := by
                show _ ≤ _
                rw [encL_append, List.length_append]
                simp only [encL, List.append_nil]
                omega
              clear HM HC X hok hlv hown1 hP2 hbk HP1 hF2 HD hle bA
              generalize hxk : x.kind = xk at *
              generalize hxn : x.num = xn at *
              generalize hxt : x.text = xt at *
              go_wp2_with (first
                | (at_builtin; refine wpList_append_lies _ rfl _ _ 22 rfl w.heap.size 43 q0 (.agg #[.int .i64 0, .int .i64 0, .string ⟨#[]⟩, .slice none 0 0]) 4 56 Tryd.underlying22 hi hz0 hz1 hz2 rfl (by decide) _ _ _ rfl (how.alloc _) ⟨w2.heap.size + 1, 0, none⟩ 1 1 [.int .i64 xk, .int .i64 xn, .string xt, .slice la x.list.length lc] rfl rfl HN.out (four_one _ _ _ _ _ _) (by decide) hm1 hm2 (by simp; omega) (w2.heap.size + 1 + 1) (by simp) ?_))
              intro g5 cap5 w5 hown5 hgrow hat hlg
              subst hxk hxn hxt
              obtain ⟨HO5, HB5⟩ := rd_push hsz1 h12 HBK.out HX.out.1 hus hoks hins HX.out.2 (by simp) hown5 hgrow hat
              have HF : Hid (ItsOwn w5 w.heap.size (.slice (some ⟨g5, 0, none⟩) (l.length + 1) cap5) (l ++ [x])) := HO5
              have HR5 : Hid (Pst pb w w5 s j lo') := ⟨HP2.out.at_.keepB HB5 hlt, HP2.out.sole.then HB5 rfl⟩
              clear hown5 hgrow hat hlg HO5 HB5 hins hoks how HX HN HP2
              go_wp2_with fail
              go_roundw
              case rel => exact ⟨l ++ [x], j, lo', some ⟨g5, 0, none⟩, cap5, by simp, HLE.out, by simp; omega, hjs, HM2.out, HF.out, HR5.out⟩
              case measure => simp [lenOf]; omega
          · omega
  | succ d =>
    have IT : Hid (∀ (c : UInt8) (i : Nat) (w : World), PlAt w pb s i false → i ≤ s.size → Calls Tryd.prog 38 #[.pointer (some ⟨pb, 0, none⟩), .int .i64 (c.toNat : Int), .int .i64 (((d + 1) : Nat) : Int)] w (PItemR pb r c s i w)) := fun c i w a b => pitem_any pb (d + 1) r hd hI c s i w a b hs
    clear hI
    obtain ⟨dd, hdd⟩ : ∃ dd : Int, dd = (((d + 1) : Nat) : Int) := ⟨_, rfl⟩
    rw [← hdd] at IT ⊢
    clear hdd
    have hdi : ((((d + 1) : Nat) == 0) : Bool) = false := rfl
    rw [hdi]
    clear hdi
    go_enter Tryd.func24, Tryd.ntmps24
    go_wp2_with fail
    go_loopw [7] (fun v wr => ∃ (l : List It) (i : Nat) (lo : Bool) (a : Option Addr) (c : Nat), v = .slice a l.length c ∧ (encL l).length + 9 * i0 ≤ 9 * i ∧ l.length + i0 ≤ i ∧ i ≤ s.size ∧ MidPL (d + 1) r s i0 l i lo ∧ ItsOwn wr w.heap.size v l ∧ Pst pb w wr s i lo) (fun v _ => s.size + 1 - lenOf v)
    case atStart => exact ⟨[], i0, false, none, 0, rfl, by simp [encL], by simp, hi0, fun m b _ e => ⟨rfl, m, rfl, e⟩, ⟨[], rfl, by simpa [cellsOf'] using World.ownsRow_nil _ _ _ _, fun i h => absurd h (by simp), fun i h => absurd h (by simp)⟩, hp, Sole.refl _ _⟩
    case round =>
      obtain ⟨l, i, lo, al, cl, rfl, hl9, hli, his, hM, hown, hP⟩ := hrel
      have HM : Hid (MidPL (d + 1) r s i0 l i lo) := hM
      have e0 := hP.at_.c0
      have e1 := hP.at_.c1
      have e2 := hP.at_.c2
      have HP : Hid (Pst pb w wr s i lo) := hP
      have hsz := hP.sole.size
      clear hM hp hP
      cases lo with
      | true =>
        go_wp2_with fail
        go_ret
        exact ⟨l, _, i, true, rfl, hown, hl9, hli, his, HP.out, fun m b hm e => by cases (HM.out m b hm e).1⟩
      | false =>
        have B : Hid (∀ n, Calls Tryd.prog 37 #[.pointer (some ⟨pb, 0, none⟩)] (wr.drewN n) fun e w' => (∃ c, i < s.size ∧ D s i = c :: D s (i + 1) ∧ e = .returned (.int .i64 (c.toNat : Int)) ∧ Pst pb (wr.drewN n) w' s (i + 1) false) ∨ (i = s.size ∧ D s i = [] ∧ e = .returned (.int .i64 0) ∧ Pst pb (wr.drewN n) w' s i true)) := fun n => byte_any pb s i false _ (HP.out.keep (below_drewN (Below.refl _ _) n)).at_ his hs
        have HO : Hid (∀ n, ItsOwn (wr.drewN n) w.heap.size (.slice al l.length cl) l) := fun n => hown.keep (below_drewN (Below.refl _ _) n)
        have HQ : Hid (∀ n, Pst pb w (wr.drewN n) s i false) := fun n => HP.out.keep (below_drewN (Below.refl _ _) n)
        clear hown HP
        go_wp2_with fail
        go_quiet (fail)
        go_wp2_with fail
        refine (B.out _).mono ?_
        rintro e w1 (⟨c, hi1, hd1, rfl, hP1⟩ | ⟨hi1, hd1, rfl, hP1⟩)
        · have HD : Hid (D s i = c :: D s (i + 1)) := hd1
          have HP1 : Hid (Pst pb w w1 s (i + 1) false) := (HQ.out _).trans hP1
          have hown1 := (HO.out _).sole hP1.sole hlt
          have hsz1 := HP1.out.sole.size
          clear hP1 HQ HO hd1
          by_cases hc : c = 0
          · subst hc
            have HF : Hid (∀ m b, VL r m → D s i0 = encL m ++ fin (d + 1) b → l = m ∧ D s (i + 1) = b) := fun m b hm e => by
              obtain ⟨_, m2, rfl, e2⟩ := HM.out m b hm e
              rw [HD.out] at e2
              cases m2 with
              | nil => exact ⟨by simp, by simpa [encL, fin] using e2⟩
              | cons y m3 =>
                simp only [encL, List.append_assoc] at e2
                exact (fin_item (d := d + 1) (b := D s (i + 1)) (hm.each y (by simp)) e2.symm).elim
            clear IT B HM e0 e1 e2
            go_wp2_with fail
            go_ret
            exact ⟨l, _, i + 1, false, rfl, hown1, by omega, by omega, hi1, HP1.out, fun m b hm e => ⟨(HF.out m b hm e).1, by rw [(HF.out m b hm e).2], rfl⟩⟩
          · have hcc : ((c.toNat : Int) == 0) = false := by simp; intro e; exact hc (UInt8.toNat_inj.1 (by rw [e]; rfl))
            have HCC : Hid (c ≠ 0) := hc
            have hc0 := hi1
            clear hc
            have X := IT.out c (i + 1) w1 HP1.out.at_ hi1
            have HC : Hid (∀ b, c :: D s (i + 1) ≠ fin (d + 1) b) := fun b h => HCC.out (List.cons.inj h).1
            clear IT hc0 B e0 e1 e2
            go_wp2_with fail
            refine X.mono ?_
            rintro e w2 ⟨x, lv, j, lo', rfl, hok, hle, hij, hjs, hlv, hP2, hF2⟩
            obtain ⟨la, lc, rfl⟩ := hlv.form
            have HM2 : Hid (MidPL (d + 1) r s i0 (l ++ [x]) j lo') := HM.out.snoc HD.out HC.out hF2
            have bA := below_new w2 (.cells #[.int .i64 x.kind, .int .i64 x.num, .string x.text, .slice la x.list.length lc] 43)
            have HP2 : Hid (Pst pb w (w2.alloc (.cells #[.int .i64 x.kind, .int .i64 x.num, .string x.text, .slice la x.list.length lc] 43)) s j lo') := (HP1.out.trans hP2).keep bA
            have hbk := hown1.blk
            have h12b := hP2.sole.size
            have h12 : w1.heap.size ≤ (w2.alloc (.cells #[.int .i64 x.kind, .int .i64 x.num, .string x.text, .slice la x.list.length lc] 43)).heap.size := Nat.le_trans hP2.sole.size bA.size
            obtain ⟨us, hus, how, hoks, hins⟩ := (hown1.sole hP2.sole hlt).keep bA
            have hm1 : l.length + 1 ≤ maxLen := by unfold maxLen; omega
            have hm2 : (l.length + 1) * 56 ≤ 140737488355328 := by omega
            have HN : Hid (∀ j u, [Value.int .i64 x.kind, .int .i64 x.num, .string x.text, .slice la x.list.length lc][j]? = some u → ((w2.alloc (.cells #[.int .i64 x.kind, .int .i64 x.num, .string x.text, .slice la x.list.length lc] 43)).alloc (.cells #[.int .i64 x.kind, .int .i64 x.num, .string x.text, .slice la x.list.length lc] 43)).cell? ((⟨w2.heap.size + 1, 0, none⟩ : Addr).add j) = some u) := World.news_of_block (heap_alloc2_new w2 _ _)
            have HX : Hid (x.Ok ∧ ItsAt (w2.alloc (.cells #[.int .i64 x.kind, .int .i64 x.num, .string x.text, .slice la x.list.length lc] 43)) (fun g => w1.heap.size ≤ g) (.slice la x.list.length lc) x.list) := ⟨hok, hlv.keep bA⟩
            have HBK : Hid (∀ k, (Value.slice al l.length cl).ownBlock = some k → w.heap.size ≤ k ∧ k < w1.heap.size) := hbk
            have HLE : Hid ((encL (l ++ [x])).length + 9 * i0 ≤ 9 * j) := by
              show _ ≤ _
              rw [encL_append, List.length_append]
              simp only [encL, List.append_nil]
              omega
            clear HM HC X hok hlv hown1 hP2 hbk HP1 hF2 HD hle bA
            generalize hxk : x.kind = xk at *
            generalize hxn : x.num = xn at *
            generalize hxt : x.text = xt at *
            go_wp2_with (first
              | (at_builtin; refine wpList_append_lies _ rfl _ _ 22 rfl w.heap.size 43 q0 (.agg #[.int .i64 0, .int .i64 0, .string ⟨#[]⟩, .slice none 0 0]) 4 56 Tryd.underlying22 hi hz0 hz1 hz2 rfl (by decide) _ _ _ rfl (how.alloc _) ⟨w2.heap.size + 1, 0, none⟩ 1 1 [.int .i64 xk, .int .i64 xn, .string xt, .slice la x.list.length lc] rfl rfl HN.out (four_one _ _ _ _ _ _) (by decide) hm1 hm2 (by simp; omega) (w2.heap.size + 1 + 1) (by simp) ?_))
            intro g5 cap5 w5 hown5 hgrow hat hlg
            subst hxk hxn hxt
            obtain ⟨HO5, HB5⟩ := rd_push hsz1 h12 HBK.out HX.out.1 hus hoks hins HX.out.2 (by simp) hown5 hgrow hat
            have HF : Hid (ItsOwn w5 w.heap.size (.slice (some ⟨g5, 0, none⟩) (l.length + 1) cap5) (l ++ [x])) := HO5
            have HR5 : Hid (Pst pb w w5 s j lo') := ⟨HP2.out.at_.keepB HB5 hlt, HP2.out.sole.then HB5 rfl⟩
            clear hown5 hgrow hat hlg HO5 HB5 hins hoks how HX HN HP2
            go_wp2_with fail
            go_roundw
            case rel => exact ⟨l ++ [x], j, lo', some ⟨g5, 0, none⟩, cap5, by simp, HLE.out, by simp; omega, hjs, HM2.out, HF.out, HR5.out⟩
            case measure => simp [lenOf]; omega
        · have HP1 : Hid (Pst pb w w1 s i true) := (HQ.out _).trans hP1
          have hown1 := (HO.out _).sole hP1.sole hlt
          have HF : Hid (∀ m b, VL r m → D s i0 = encL m ++ fin (d + 1) b → False) := fun m b hm e => by
            obtain ⟨_, m2, rfl, e2⟩ := HM.out m b hm e
            rw [hd1] at e2
            have := congrArg List.length e2
            simp [fin] at this
          clear IT B HM e0 e1 e2 hP1 HQ HO
          go_wp2_with fail
          go_ret
          exact ⟨l, _, i, true, rfl, hown1, hl9, hli, his, HP1.out, fun m b hm e => (HF.out m b hm e).elim⟩

theorem pitems_any (pb : Nat) : ∀ r d, d + r = 4 → PItemsC pb d r
  | 0, d, hd => pitems_step pb d 0 hd (fun r' e => by cases e)
  | r + 1, d, hd => pitems_step pb d (r + 1) hd (fun r' e => by cases e; exact pitems_any pb r (d + 1) (by omega))

end Go.Proofs.YtgljkgkophaefaaDoor
