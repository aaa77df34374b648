import Derived.Test.YtocfedakjcghnaaDoorSpotLaw
import Derived.ArgAppend
namespace Go.Proofs.YtocfedakjcghnaaDoor
open Go.RowKit

/-- Of the blocks that were there all but those of F are as they were. -/
structure Only (F : Nat → Prop) (w w' : World) : Prop where
  os : w'.os = w.os
  tape : w'.tape = w.tape
  output : w'.output = w.output
  size : w.heap.size ≤ w'.heap.size
  block : ∀ k, k < w.heap.size → ¬ F k → w'.heap[k]? = w.heap[k]?
theorem Only.refl (F : Nat → Prop) (w : World) : Only F w w := ⟨rfl, rfl, rfl, Nat.le_refl _, fun _ _ _ => rfl⟩
theorem Only.trans {F : Nat → Prop} {a b c : World} (h : Only F a b) (k : Only F b c) : Only F a c :=
  ⟨k.os.trans h.os, k.tape.trans h.tape, k.output.trans h.output, Nat.le_trans h.size k.size, fun i hi hn => (k.block i (Nat.lt_of_lt_of_le hi h.size) hn).trans (h.block i hi hn)⟩
theorem Only.of_below {F : Nat → Prop} {w w' : World} (h : Below w.heap.size w w') : Only F w w' := ⟨h.os, h.tape, h.output, h.size, fun k hk _ => h.block k hk⟩
theorem Only.set {F : Nat → Prop} {g : Nat} (hF : F g) (o : Nat) (w : World) (u : Value) : Only F w (w.setCell ⟨g, o, none⟩ u) :=
  ⟨rfl, rfl, rfl, by simp [World.setCell], fun k _ hn => Below.heap_setCell w ⟨g, o, none⟩ u k (fun e => hn (by rw [e]; exact hF))⟩
theorem Only.cell {F : Nat → Prop} {w w' : World} (h : Only F w w') {a : Addr} {v : Value} (hc : w.cell? a = some v) (hn : ¬ F a.block) : w'.cell? a = some v :=
  (World.cell?_of_block (a := a) (h.block a.block (World.block_lt_of_cell? w a hc) hn)).trans hc

def Rows3 (a : Nat → Option Addr) (n : Nat → Nat) (U : Nat → List Value) (w : World) : Prop := ∀ i, i < 3 → w.ownsRow 0 9 1 (.slice (a i) (n i) (n i)) (n i) (U i)
def In3 (a : Nat → Option Addr) (k : Nat) : Prop := ∃ i, i < 3 ∧ a i = some ⟨k, 0, none⟩
theorem Rows3.below {a : Nat → Option Addr} {n : Nat → Nat} {U : Nat → List Value} {w w' : World} (h : Rows3 a n U w) (hb : Below w.heap.size w w') : Rows3 a n U w' := fun i hi => owns_below (h i hi) hb
theorem owns_setCell_ne {w : World} {base e n g j : Nat} {v u : Value} {us : List Value} (h : w.ownsRow base e 1 v n us) (hne : v.ownBlock ≠ some g) : (w.setCell ⟨g, j, none⟩ u).ownsRow base e 1 v n us := by
  refine ⟨h.1, ?_⟩
  rcases h.2 with h' | ⟨g', cap, cur, rfl, hb, hg, hnc, hcm, hcs, htk⟩
  · exact .inl h'
  · exact .inr ⟨g', cap, cur, rfl, hb, (Below.heap_setCell w ⟨g, j, none⟩ u g' (fun e => hne (by rw [e]; rfl))).trans hg, hnc, hcm, hcs, htk⟩
theorem Rows3.form {a : Nat → Option Addr} {n : Nat → Nat} {U : Nat → List Value} {w : World} (h : Rows3 a n U w) {i : Nat} (hi : i < 3) (hn : 0 < n i) : ∃ g, a i = some ⟨g, 0, none⟩ ∧ g < w.heap.size := by
  obtain ⟨g, c, he, _, hl⟩ := (h i hi).form hn
  simp only [Value.slice.injEq] at he
  exact ⟨g, he.1, hl⟩
def putU (U : Nat → List Value) (i k : Nat) (u : Value) : Nat → List Value := fun j => if j = i then (U i).set k u else U j
theorem Rows3.set {a : Nat → Option Addr} {n : Nat → Nat} {U : Nat → List Value} {w : World} (h : Rows3 a n U w) (hd : ∀ i j g, i < 3 → j < 3 → a i = some ⟨g, 0, none⟩ → a j = some ⟨g, 0, none⟩ → i = j) {i k g : Nat} (hi : i < 3) (ha : a i = some ⟨g, 0, none⟩) (u : Value) : Rows3 a n (putU U i k u) (w.setCell ⟨g, k, none⟩ u) := by
  intro j hj
  unfold putU
  by_cases hji : j = i
  · subst hji
    rw [if_pos rfl]
    have h1 := h j hj
    rw [ha] at h1 ⊢
    exact (h1.stored k u).1
  · rw [if_neg hji]
    refine owns_setCell_ne (h j hj) (fun e => hji ?_)
    cases haj : a j with
    | none => rw [haj] at e; cases e
    | some ad =>
      rw [haj] at e
      have hb : ad.block = g := Option.some.inj e
      rcases (h j hj).2 with ⟨h', _⟩ | ⟨g', cap, cur, h', _⟩
      · rw [haj] at h'; cases h'
      · rw [haj] at h'
        simp only [Value.slice.injEq, Option.some.injEq] at h'
        have had := h'.1
        rw [had] at hb
        exact hd j i g hj hi (by rw [haj, had, ← hb]) ha

theorem putU_ne (U : Nat → List Value) (i k : Nat) (u : Value) (j : Nat) (h : j ≠ i) : putU U i k u j = U j := if_neg h
theorem putU_eq (U : Nat → List Value) (i k : Nat) (u : Value) : putU U i k u i = (U i).set k u := if_pos rfl
theorem Rows3.len {a : Nat → Option Addr} {n : Nat → Nat} {U : Nat → List Value} {w : World} (h : Rows3 a n U w) {i : Nat} (hi : i < 3) : (U i).length = n i := by
  have := (h i hi).1; omega
/-- A list that is full is grown by one text. -/
theorem grow_full {w : World} {a : Option Addr} {n : Nat} {us : List Value} (x : ByteArray) (h : w.ownsRow 0 9 1 (.slice a n n) n us) (hn : n ≤ 100000) :
    ∃ a' c' w', (Builtin.append_ #[24, 24] 24 #[.slice a n n, .slice (some ⟨w.heap.size, 0, none⟩) 1 1]).run Tryd.prog (w.alloc (.cells #[.string x] 9)) = .ok (.slice a' (n + 1) c') w' ∧ w'.ownsRow w.heap.size 9 1 (.slice a' (n + 1) c') (n + 1) (us ++ [.string x]) ∧ Below w.heap.size w w' := by
  have hb := below_new w (.cells #[.string x] 9)
  have h2 := owns_below h hb
  rcases h.2 with ⟨h', h0⟩ | ⟨g, cap, cur, h', _⟩
  · simp only [Value.slice.injEq] at h'
    obtain ⟨rfl, rfl, -⟩ := h'
    have hu : us = [] := List.length_eq_zero_iff.1 (by have := h.1; omega)
    subst hu
    obtain ⟨a', c', w', hr, ho, hg⟩ := append_row 24 9 _ 16 info9 Tryd.underlying24 rfl w.heap.size 0 (.slice none 0 0) [] (w.alloc (.cells #[.string x] 9)) (World.ownsRow_nil _ _ _ _) (.slice (some ⟨w.heap.size, 0, none⟩) 1 1) (strs [x]) (lit_row w (strs [x]) 9 1 rfl (by decide)) (strs_one _) (by rw [strs_length]; show (0 + 1) * 16 ≤ _; decide) (by decide) (by simp)
    rw [strs_length] at hr ho
    exact ⟨a', c', w', hr, ho, hb.grown hg (by simp) (fun j hj => by cases hj)⟩
  · simp only [Value.slice.injEq] at h'
    obtain ⟨rfl, -, -⟩ := h'
    obtain ⟨i0, hi, hz, hsz, hby⟩ := info_parts info9
    have hl := h.1
    obtain ⟨v', w', hr, ho, hg⟩ := run_append_arg_grows (P := Tryd.prog) (w.alloc (.cells #[.string x] 9)) 24 24 9 i0 _ 1 16 Tryd.underlying24 hi hz hsz hby rfl (by decide) ⟨g, 0, none⟩ n n us hl (fun j u hj => by
      have hj' := (List.getElem?_eq_some_iff.1 hj).1
      rw [add_plain', Nat.zero_add, h2.cellAt j (by omega)]; exact hj) ⟨w.heap.size, 0, none⟩ 1 1 [.string x] rfl (fun j u hj => by
      obtain ⟨a', c', he, _, _, hcc⟩ := lit_row w (strs [x]) 9 1 rfl (by decide)
      cases he
      obtain ⟨g', o', hgo, hcell⟩ := hcc j u hj
      cases hgo
      rw [add_plain']; exact hcell) (by omega) (by unfold maxLen; omega) (by omega)
    have hf : ∃ a' c', v' = .slice a' (n + 1) c' := by
      rcases ho.2 with ⟨_, h0⟩ | ⟨g, cap, cur, rfl, _⟩
      · omega
      · exact ⟨_, _, rfl⟩
    obtain ⟨a', c', rfl⟩ := hf
    have hbw : Below w.heap.size w w' := hb.grown hg (by simp) (fun j hj => by cases hj)
    refine ⟨a', c', w', hr, ?_, hbw⟩
    refine ⟨ho.1, ?_⟩
    rcases ho.2 with h' | ⟨g', cap, cur, he, hbg, rest⟩
    · exact .inl h'
    · exact .inr ⟨g', cap, cur, he, by simp at hbg; omega, rest⟩

/-- The mark of a list. -/
def mS (i : Nat) : ByteArray := ⟨#[109, UInt8.ofNat i]⟩
theorem mark_conv (w : World) (i : Nat) (hi : i < 3) : (convert 46 9 (.slice (some ⟨w.heap.size, 0, none⟩) 2 2)).run Tryd.prog (w.alloc (.cells #[.int .u8 109, .int .u8 (i : Int)] 5)).drew = .ok (.string (mS i)) (w.alloc (.cells #[.int .u8 109, .int .u8 (i : Int)] 5)).drew := by
  have hl : (#[.int .u8 109, .int .u8 (i : Int)] : Array Value) = (u8s [109, UInt8.ofNat i]).toArray := by
    have : (UInt8.ofNat i).toNat = i := by simp; omega
    simp [u8s, this]
  rw [hl]
  have hr : RowT 5 (w.alloc (.cells (u8s [109, UInt8.ofNat i]).toArray 5)).drew w.heap.size [109, UInt8.ofNat i] := rowT_new _ _ _
  exact run_str _ _ [109, UInt8.ofNat i] ⟨some ⟨w.heap.size, 0, none⟩, 2, rfl, fun j hj => ⟨w.heap.size, 0, rfl, by rw [Nat.zero_add]; exact hr.cell j hj⟩⟩ (by simp)

set_option maxRecDepth 100000 in
set_option maxHeartbeats 16000000 in
theorem lone_any (bl : Nat) (a : Nat → Option Addr) (n : Nat → Nat) (U0 : Nat → List Value) (w : World) (hn : ∀ i, i < 3 → n i ≤ 2036) (hr : Rows3 a n U0 w)
    (hd : ∀ i j g, i < 3 → j < 3 → a i = some ⟨g, 0, none⟩ → a j = some ⟨g, 0, none⟩ → i = j) (hbl : ¬ In3 a bl)
    (hc : ∀ i, i < 3 → w.cell? ⟨bl, i, none⟩ = some (.slice (a i) (n i) (n i))) :
    Calls Tryd.prog 13 #[.slice (some ⟨bl, 0, none⟩) 3 3] w fun e w' => e = .returned (.bool true) ∧ Only (In3 a) w w' := by
  have HN := hide hn
  have HR := hide hr
  have HD := hide hd
  have HBL := hide hbl
  have HC := hide hc
  clear hn hr hd hbl hc
  go_enter Tryd.func13, Tryd.ntmps13
  go_wp2_with fail
  go_loopw [3] (fun i wr => ∃ (k : Nat) (U : Nat → List Value), k ≤ 3 ∧ i = .int .i64 k ∧ Rows3 a n U wr ∧ (∀ j, j < k → ∀ q, q < n j → (U j)[q]? = some (.string (mS j))) ∧ Only (In3 a) w wr) (fun i _ => 3 - (intOf i).toNat)
  case atStart => exact ⟨0, U0, by omega, rfl, HR.out, fun j h => by omega, Only.refl _ _⟩
  case round =>
    obtain ⟨i, U, hi, rfl, hrows, hmk, honly⟩ := hrel
    have HRW := hide hrows
    have HMK := hide hmk
    have HON := hide honly
    clear hrows hmk honly HR
    by_cases hi3 : i < 3
    · have hi3I : (i : Int) < 3 := by omega
      have hnI := HN.out i hi3
      obtain ⟨m, hm⟩ : ∃ m, m = n i := ⟨_, rfl⟩
      have hm36 : m ≤ 2036 := by omega
      have HM := hide hm
      clear hnI hm
      generalize wr = W1 at *
      go_wp2_with fail
      go_loopw [4] (fun kk wr => ∃ (k : Nat) (U : Nat → List Value), k ≤ m ∧ kk = .int .i64 k ∧ Rows3 a n U wr ∧ (∀ j, j < i → ∀ q, q < n j → (U j)[q]? = some (.string (mS j))) ∧ (∀ q, q < k → (U i)[q]? = some (.string (mS i))) ∧ Only (In3 a) w wr) (fun kk _ => m - (intOf kk).toNat)
      case atStart => exact ⟨0, U, Nat.zero_le _, rfl, HRW.out, HMK.out, fun q h => by omega, HON.out⟩
      case round =>
        clear HRW HMK HON
        obtain ⟨k, U2, hk, rfl, hrows, hmk, hmi, honly⟩ := hrel
        have hci : wr.cell? ⟨bl, i, none⟩ = some (.slice (a i) m m) := by
          have := honly.cell (HC.out i hi3) HBL.out
          rw [← HM.out] at this; exact this
        by_cases hkm : k < m
        · obtain ⟨g, hag, hgl⟩ := hrows.form hi3 (by rw [← HM.out]; omega)
          have hnb : ¬ bl = g := fun e => HBL.out ⟨i, hi3, by rw [e]; exact hag⟩
          have hnb2 : ¬ g = bl := fun e => hnb e.symm
          have hown := hrows i hi3
          rw [hag, ← HM.out] at hown
          have ce := hown.cellAt k (by omega)
          rw [List.getElem?_eq_getElem (by rw [hown.1]; omega)] at ce
          generalize (U2 i)[k]'(by rw [hown.1]; omega) = old at ce
          have cz := hown.frozenAt k
          rw [hag] at hci
          have hwu : IntKind.u8.wrap (i : Int) = (i : Int) := by rw [IntKind.wrap_u8]; omega
          have hcv := mark_conv wr i hi3
          have hbn := below_new wr (.cells #[.int .u8 109, .int .u8 (i : Int)] 5)
          have y1 : (wr.alloc (.cells #[.int .u8 109, .int .u8 (i : Int)] 5)).cell? ⟨bl, i, none⟩ = some (.slice (some ⟨g, 0, none⟩) m m) := (hbn.cell (World.block_lt_of_cell? wr _ hci)).trans hci
          have hown2 := owns_below hown hbn
          have y2 : (wr.alloc (.cells #[.int .u8 109, .int .u8 (i : Int)] 5)).cell? ⟨g, k, none⟩ = some old := (hbn.cell (World.block_lt_of_cell? wr _ ce)).trans ce
          have y3 := hown2.frozenAt k
          have HRN := hide (hrows.below hbn)
          have hkI : (k : Int) < (m : Int) := by omega
          have k0 : (0 : Int) ≤ (k : Int) := by omega
          have i0 : (0 : Int) ≤ (i : Int) := by omega
          have HRW := hide hrows
          have HMK := hide hmk
          have HMI := hide hmi
          have HON := hide honly
          have HAG := hide hag
          have HOW := hide hown
          clear hrows hmk hmi honly hag hown hown2 hbn
          go_wp2_with fail
          go_region
          have hset : Rows3 a n (putU U2 i k (.string (mS i))) ((wr.setCell ⟨g, k, none⟩ (.string (mS i))).alloc (.cells #[.int .u8 109, .int .u8 (i : Int)] 5)).drew := fun j hj => (((HRW.out.set HD.out hi3 HAG.out (.string (mS i)) (k := k)).below (below_new _ (.cells #[.int .u8 109, .int .u8 (i : Int)] 5))) j hj)
          have hon2 : Only (In3 a) w ((wr.setCell ⟨g, k, none⟩ (.string (mS i))).alloc (.cells #[.int .u8 109, .int .u8 (i : Int)] 5)).drew := by
            have h := (HON.out.trans (Only.set ⟨i, hi3, HAG.out⟩ k wr (.string (mS i)))).trans (Only.of_below (below_new (wr.setCell ⟨g, k, none⟩ (.string (mS i))) (.cells #[.int .u8 109, .int .u8 (i : Int)] 5)))
            exact ⟨h.os, h.tape, h.output, h.size, h.block⟩
          have hul : (U2 i).length = m := by rw [HRW.out.len hi3, HM.out]
          have HST := hide hset
          have HO2 := hide hon2
          have HUL := hide hul
          clear hset hon2 hul
          go_wp2
          go_roundw
          case rel =>
            refine ⟨k + 1, putU U2 i k (.string (mS i)), by omega, by go_num, HST.out, fun j hj q hq => ?_, fun q hq => ?_, HO2.out⟩
            · rw [putU_ne _ _ _ _ _ (by omega)]; exact HMK.out j hj q hq
            · rw [putU_eq]
              by_cases hqk : q = k
              · subst hqk; rw [List.getElem?_set_self (by rw [HUL.out]; exact hkm)]
              · rw [List.getElem?_set_ne (by omega)]; exact HMI.out q (by omega)
          case measure => simp [intOf]; omega
        · have hkI : ¬ (k : Int) < (m : Int) := by omega
          have HRW := hide hrows
          have HMK := hide hmk
          have HMI := hide hmi
          have HON := hide honly
          have i0 : (0 : Int) ≤ (i : Int) := by omega
          clear hrows hmk hmi honly
          go_wp2
          go_roundw
          case rel =>
            refine ⟨i + 1, U2, by omega, by go_num, HRW.out, fun j hj q hq => ?_, HON.out⟩
            by_cases hji : j = i
            · subst hji; exact HMI.out q (by rw [← HM.out] at hq; omega)
            · exact HMK.out j (by omega) q hq
          case measure => simp [intOf]; omega
    · have HI3 : Hid (∀ j, j < 3 → ∀ q, q < n j → (U j)[q]? = some (.string (mS j))) := fun j hj q hq => HMK.out j (by omega) q hq
      have hi3I : ¬ (i : Int) < 3 := by omega
      clear HMK hi
      generalize wr = W1 at *
      go_wp2_with fail
      clear hi3I hi3
      go_loopw [5, 6] (fun gr i wr => ∃ (k G : Nat), k ≤ 3 ∧ i = .int .i64 k ∧ gr = .int .i64 (G : Int) ∧ 64 * k ≤ G ∧ G ≤ 2100 * k ∧ Rows3 a n U wr ∧ Only (In3 a) w wr) (fun _ i _ => 3 - (intOf i).toNat)
      case atStart => exact ⟨0, 0, by omega, rfl, rfl, by omega, by omega, HRW.out, HON.out⟩
      case round =>
        clear HRW HON
        obtain ⟨i, G, hi, rfl, rfl, hG1, hG2, hrows, honly⟩ := hrel
        have HRW := hide hrows
        have HON := hide honly
        clear hrows honly
        by_cases hi3 : i < 3
        · have hi3I : (i : Int) < 3 := by omega
          have i0 : (0 : Int) ≤ (i : Int) := by omega
          obtain ⟨m, hm⟩ : ∃ m, m = n i := ⟨_, rfl⟩
          have hm36 : m ≤ 2036 := by have := HN.out i hi3; omega
          have hci : wr.cell? ⟨bl, i, none⟩ = some (.slice (a i) m m) := by
            have := HON.out.cell (HC.out i hi3) HBL.out
            rw [← hm] at this; exact this
          have HOW : Hid (wr.ownsRow 0 9 1 (.slice (a i) m m) m (U i)) := by
            have := HRW.out i hi3
            rw [← hm] at this; exact this
          generalize a i = ai at *
          clear hm
          generalize wr = W2 at *
          go_wp2_with fail
          clear hci
          go_loopw [7, 8] (fun mo kk wr => ∃ (k c : Nat) (am : Option Addr) (us : List Value), k ≤ 64 ∧ kk = .int .i64 k ∧ mo = .slice am (m + k) c ∧ ((k = 0 ∧ am = ai ∧ c = m ∧ wr = W2) ∨ (1 ≤ k ∧ wr.ownsRow W2.heap.size 9 1 (.slice am (m + k) c) (m + k) us ∧ Below W2.heap.size W2 wr))) (fun _ kk _ => 64 - (intOf kk).toNat)
          case atStart => exact ⟨0, m, ai, [], by omega, rfl, rfl, .inl ⟨rfl, rfl, rfl, rfl⟩⟩
          case round =>
            obtain ⟨k, c, am, us, hk, rfl, rfl, hst⟩ := hrel
            obtain ⟨mk, hmk⟩ : ∃ mk, mk = m + k := ⟨_, rfl⟩
            by_cases hk64 : k < 64
            · have hk64I : (k : Int) < 64 := by omega
              have hnx : ∃ a' c' us' w', (Builtin.append_ #[24, 24] 24 #[.slice am mk c, .slice (some ⟨wr.heap.size, 0, none⟩) 1 1]).run Tryd.prog (wr.alloc (.cells #[.string ⟨#[109, 111, 114, 101]⟩] 9)) = .ok (.slice a' (mk + 1) c') w' ∧ w'.ownsRow W2.heap.size 9 1 (.slice a' (mk + 1) c') (mk + 1) us' ∧ Below W2.heap.size W2 w' := by
                rcases hst with ⟨hk0, rfl, rfl, rfl⟩ | ⟨_, ho, hb⟩
                · have hmm : mk = c := by omega
                  subst hmm
                  obtain ⟨a', c', w', h1, h2, h3⟩ := grow_full ⟨#[109, 111, 114, 101]⟩ HOW.out (by omega)
                  exact ⟨a', c', _, w', h1, h2, h3⟩
                · rw [← hmk] at ho
                  obtain ⟨a', c', w', h1, h2, hg⟩ := append_row 24 9 _ 16 info9 Tryd.underlying24 rfl W2.heap.size mk (.slice am mk c) us (wr.alloc (.cells #[.string ⟨#[109, 111, 114, 101]⟩] 9)) (owns_below ho (below_new _ _)) (.slice (some ⟨wr.heap.size, 0, none⟩) 1 1) (strs [⟨#[109, 111, 114, 101]⟩]) (lit_row wr (strs [⟨#[109, 111, 114, 101]⟩]) 9 1 rfl (by decide)) (strs_one _) (by rw [strs_length]; show (mk + 1) * 16 ≤ _; omega) (by decide) (by have := hb.size; simp; omega)
                  rw [strs_length] at h1 h2
                  exact ⟨a', c', _, w', h1, h2, (hb.alloc (by have := hb.size; omega) _).grown hg (by have := hb.size; simp; omega) (fun j hj => (ho.lt j hj).1)⟩
              obtain ⟨a', c', us', w', hrun, ho', hb'⟩ := hnx
              rw [← hmk]
              have HO' := hide ho'
              have HB' := hide hb'
              have HMK2 := hide hmk
              clear hst ho' hb' hmk
              go_wp2_with (first | (at_builtin; refine wpList_append_run 24 rfl (.tmp 50) (.tmp 51) rfl rfl _ _ rfl rfl _ _ hrun ?_))
              go_roundw
              case rel => exact ⟨k + 1, c', a', us', by omega, by go_num, by rw [HMK2.out]; rfl, .inr ⟨by omega, by have := HO'.out; rw [HMK2.out] at this; exact this, HB'.out⟩⟩
              case measure => simp [intOf]; omega
            · have hk64I : ¬ (k : Int) < 64 := by omega
              have hbw : Below W2.heap.size W2 wr := by
                rcases hst with ⟨hk0, _⟩ | ⟨_, _, hb⟩
                · omega
                · exact hb
              have HR3 := hide (HRW.out.below hbw)
              have HO3 : Hid (Only (In3 a) w wr) := HON.out.trans (Only.of_below hbw)
              have hwg : IntKind.i64.wrap ((G : Int) + (mk : Int)) = ((G + mk : Nat) : Int) := by rw [IntKind.wrap_i64]; omega
              rw [← hmk]
              have HMK2 := hide hmk
              clear hst hbw hmk
              obtain ⟨G2, hG⟩ : ∃ G2, G2 = G + mk := ⟨_, rfl⟩
              rw [← hG] at hwg
              have HG2 := hide hG
              clear hG
              go_wp2
              go_roundw
              case rel => exact ⟨i + 1, G2, by omega, by go_num, rfl, by have := HG2.out; have := HMK2.out; omega, by have := HG2.out; have := HMK2.out; omega, HR3.out, HO3.out⟩
              case measure => simp [intOf]; omega
        · have hi3I : ¬ (i : Int) < 3 := by omega
          have HGG : Hid (192 ≤ G ∧ G ≤ 6300) := ⟨by omega, by omega⟩
          clear hi hG1 hG2
          generalize wr = W2 at *
          go_wp2_with fail
          clear hi3I hi3
          go_loopw [9] (fun ii wr => ∃ k : Nat, k ≤ 3 ∧ ii = .int .i64 k ∧ Below W2.heap.size W2 wr) (fun ii _ => 3 - (intOf ii).toNat)
          case atStart => exact ⟨0, by omega, rfl, Below.refl _ _⟩
          case round =>
            obtain ⟨x, hx, rfl, hbw⟩ := hrel
            by_cases hx3 : x < 3
            · have hx3I : (x : Int) < 3 := by omega
              have x0 : (0 : Int) ≤ (x : Int) := by omega
              obtain ⟨m, hm⟩ : ∃ m, m = n x := ⟨_, rfl⟩
              have hm36 : m ≤ 2036 := by have := HN.out x hx3; omega
              have hci : W2.cell? ⟨bl, x, none⟩ = some (.slice (a x) m m) := by
                have := HON.out.cell (HC.out x hx3) HBL.out
                rw [← hm] at this; exact this
              have HOW : Hid (W2.ownsRow 0 9 1 (.slice (a x) m m) m (U x) ∧ ∀ q, q < m → (U x)[q]? = some (.string (mS x))) := by
                have h := HRW.out x hx3
                have h2 := HI3.out x hx3
                rw [← hm] at h h2
                exact ⟨h, h2⟩
              generalize a x = ax at *
              have HBW := hide hbw
              clear hm hbw
              generalize wr = W3 at *
              go_wp2_with fail
              go_loopw [10] (fun kk wr => ∃ k : Nat, k ≤ m ∧ kk = .int .i64 k ∧ Below W2.heap.size W2 wr) (fun kk _ => m - (intOf kk).toNat)
              case atStart => exact ⟨0, by omega, rfl, HBW.out⟩
              case round =>
                clear HBW
                obtain ⟨k, hk, rfl, hbw⟩ := hrel
                have hc3 : wr.cell? ⟨bl, x, none⟩ = some (.slice ax m m) := (hbw.cell (p := ⟨bl, x, none⟩) (World.block_lt_of_cell? W2 _ hci)).trans hci
                by_cases hkm : k < m
                · obtain ⟨g, c', he, _, hgl⟩ := HOW.out.1.form (by omega)
                  simp only [Value.slice.injEq] at he
                  obtain ⟨rfl, -, -⟩ := he
                  have ce2 : W2.cell? ⟨g, k, none⟩ = some (.string (mS x)) := by
                    rw [HOW.out.1.cellAt k (by omega)]; exact HOW.out.2 k hkm
                  have ce : wr.cell? ⟨g, k, none⟩ = some (.string (mS x)) := (hbw.cell (p := ⟨g, k, none⟩) hgl).trans ce2
                  have hbn := below_new wr (.cells #[.int .u8 109, .int .u8 (x : Int)] 5)
                  have y1 := (hbn.cell (World.block_lt_of_cell? wr _ hc3)).trans hc3
                  have y2 := (hbn.cell (World.block_lt_of_cell? wr _ ce)).trans ce
                  have hwu : IntKind.u8.wrap (x : Int) = (x : Int) := by rw [IntKind.wrap_u8]; omega
                  have hcv := mark_conv wr x hx3
                  have hkI : (k : Int) < (m : Int) := by omega
                  have k0 : (0 : Int) ≤ (k : Int) := by omega
                  have HB2 : Hid (Below W2.heap.size W2 (wr.alloc (.cells #[.int .u8 109, .int .u8 (x : Int)] 5)).drew) := (hbw.alloc (by have := hbw.size; omega) _).drew
                  clear hbw hbn ce2 hgl
                  generalize mS x = mx at *
                  go_wp2_with fail
                  go_region
                  go_wp2
                  go_roundw
                  case rel => exact ⟨k + 1, by omega, by go_num, HB2.out⟩
                  case measure => simp [intOf]; omega
                · have hkI : ¬ (k : Int) < (m : Int) := by omega
                  have HB2 := hide hbw
                  clear hbw
                  go_wp2
                  go_roundw
                  case rel => exact ⟨x + 1, by omega, by go_num, HB2.out⟩
                  case measure => simp [intOf]; omega
            · have hx3I : ¬ (x : Int) < 3 := by omega
              have hG : (192 : Int) ≤ (G : Int) := by have := HGG.out; omega
              have HB2 : Hid (Only (In3 a) w wr) := HON.out.trans (Only.of_below hbw)
              clear hbw
              go_wp2
              go_ret
              exact ⟨rfl, HB2.out⟩

end Go.Proofs.YtocfedakjcghnaaDoor
