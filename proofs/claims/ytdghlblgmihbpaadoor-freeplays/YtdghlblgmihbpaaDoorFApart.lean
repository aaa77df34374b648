import Derived.Test.YtdghlblgmihbpaaDoorFGrow
namespace Go.Proofs.YtdghlblgmihbpaaDoor
open Go.RowKit

/-- N lists, each in a block of its own. -/
def RowsN (N : Nat) (a : Nat → Option Addr) (n c : Nat → Nat) (U : Nat → List Value) (w : World) : Prop := ∀ i, i < N → w.ownsRow 0 3 1 (.slice (a i) (n i) (c i)) (n i) (U i)
def InN (N : Nat) (a : Nat → Option Addr) (k : Nat) : Prop := ∃ i, i < N ∧ a i = some ⟨k, 0, none⟩
def DjN (N : Nat) (a : Nat → Option Addr) : Prop := ∀ i j g, i < N → j < N → a i = some ⟨g, 0, none⟩ → a j = some ⟨g, 0, none⟩ → i = j
theorem RowsN.below {N : Nat} {a : Nat → Option Addr} {n c : Nat → Nat} {U : Nat → List Value} {w w' : World} (h : RowsN N a n c U w) (hb : Below w.heap.size w w') : RowsN N a n c U w' := fun i hi => owns_below (h i hi) hb
theorem RowsN.form {N : Nat} {a : Nat → Option Addr} {n c : Nat → Nat} {U : Nat → List Value} {w : World} (h : RowsN N a n c U w) {i : Nat} (hi : i < N) (hn : 0 < n i) : ∃ g, a i = some ⟨g, 0, none⟩ ∧ g < w.heap.size := by
  obtain ⟨g, c, he, _, hl⟩ := (h i hi).form hn
  simp only [Value.slice.injEq] at he
  exact ⟨g, he.1, hl⟩
theorem slice_blk {w : World} {base e n m c : Nat} {a : Option Addr} {xs : List Value} (h : w.ownsRow base e 1 (.slice a n c) m xs) (k : Nat) (hk : (Value.slice a n c).ownBlock = some k) : a = some ⟨k, 0, none⟩ := by
  rcases h.2 with ⟨h', _⟩ | ⟨g, cap, cur, h', _⟩
  · rw [h'] at hk; simp [Value.ownBlock] at hk
  · rw [h'] at hk
    simp only [Value.slice.injEq] at h'
    simp only [Value.ownBlock, Option.some.injEq] at hk
    rw [h'.1, hk]
/-- Other lists keep what they have when the block of one turns. -/
theorem RowsN.turn {N : Nat} {a : Nat → Option Addr} {n c : Nat → Nat} {U : Nat → List Value} {w w' : World} (h : RowsN N a n c U w) (hd : DjN N a) {i g : Nat} (hi : i < N) (hg : a i = some ⟨g, 0, none⟩) (ho : Only (fun k => k = g) w w') (us : List Value) (hr : w'.ownsRow 0 3 1 (.slice (a i) (n i) (c i)) (n i) us) : RowsN N a n c (fun j => if j = i then us else U j) w' := by
  intro j hj
  by_cases hji : j = i
  · subst hji; simp only [if_pos]; exact hr
  · simp only [if_neg hji]
    exact owns_only (h j hj) ho (fun k hk e => hji (hd j i g hj hi (by rw [← show k = g from e]; exact slice_blk (h j hj) k hk) hg))

def mkV (i : Nat) : Value := .int .i64 (-10 - (i : Int))
set_option maxRecDepth 100000 in
set_option maxHeartbeats 16000000 in
theorem apart_any (bl N lc : Nat) (a : Nat → Option Addr) (n c : Nat → Nat) (U0 : Nat → List Value) (w : World) (hN : N ≤ 2932031007330) (hn : ∀ i, i < N → n i ≤ 1048576) (hr : RowsN N a n c U0 w) (hd : DjN N a) (hbl : ¬ InN N a bl)
    (hc : ∀ i, i < N → w.cell? ⟨bl, i, none⟩ = some (.slice (a i) (n i) (c i))) :
    Calls Tryd.prog 32 #[.slice (some ⟨bl, 0, none⟩) N lc] w fun e w' => e = .returned (.bool true) ∧ Only (InN N a) w w' := by
  have HN := hide hn
  have HR := hide hr
  have HD := hide hd
  have HBL := hide hbl
  have HC := hide hc
  clear hn hr hd hbl hc
  go_enter Tryd.func32, Tryd.ntmps32
  go_wp2_with fail
  go_loopw [3] (fun i wr => ∃ (k : Nat) (U : Nat → List Value), k ≤ N ∧ i = .int .i64 k ∧ RowsN N a n c U wr ∧ (∀ j, j < k → ∀ q, q < n j → (U j)[q]? = some (mkV j)) ∧ Only (InN N a) w wr) (fun i _ => N - (intOf i).toNat)
  case atStart => exact ⟨0, U0, Nat.zero_le _, rfl, HR.out, fun j h => by omega, Only.refl _ _⟩
  case round =>
    obtain ⟨i, U, hi, rfl, hrows, hmk, honly⟩ := hrel
    have HRW := hide hrows
    have HMK := hide hmk
    have HON := hide honly
    clear hrows hmk honly HR
    by_cases hi3 : i < N
    · have hi3I : (i : Int) < (N : Int) := by omega
      have i0 : (0 : Int) ≤ (i : Int) := by omega
      obtain ⟨m, hm⟩ : ∃ m, m = n i := ⟨_, rfl⟩
      have hm36 : m ≤ 1048576 := by have := HN.out i hi3; omega
      have HM := hide hm
      clear hm
      generalize wr = W1 at *
      go_wp2_with fail
      go_loopw [4] (fun kk wr => ∃ (k : Nat) (U : Nat → List Value), k ≤ m ∧ kk = .int .i64 k ∧ RowsN N a n c U wr ∧ (∀ j, j < i → ∀ q, q < n j → (U j)[q]? = some (mkV j)) ∧ (∀ q, q < k → (U i)[q]? = some (mkV i)) ∧ Only (InN N a) w wr) (fun kk _ => m - (intOf kk).toNat)
      case atStart => exact ⟨0, U, Nat.zero_le _, rfl, HRW.out, HMK.out, fun q h => by omega, HON.out⟩
      case round =>
        clear HRW HMK HON
        obtain ⟨k, U2, hk, rfl, hrows, hmk, hmi, honly⟩ := hrel
        have hci : wr.cell? ⟨bl, i, none⟩ = some (.slice (a i) m (c i)) := by
          have := honly.cell (HC.out i hi3) HBL.out
          rw [← HM.out] at this; exact this
        by_cases hkm : k < m
        · obtain ⟨g, hag, hgl⟩ := hrows.form hi3 (by rw [← HM.out]; omega)
          have hnb : ¬ bl = g := fun e => HBL.out ⟨i, hi3, by rw [e]; exact hag⟩
          have hnb2 : ¬ g = bl := fun e => hnb e.symm
          have hown := hrows i hi3
          rw [hag, ← HM.out] at hown
          have ce := hown.cellAt k (by omega)
          rw [List.getElem?_eq_getElem (by rw [hown.1]; omega)] at ce
          generalize (U2 i)[k]'(by rw [hown.1]; omega) = old at ce
          have cz := hown.frozenAt k
          rw [hag] at hci
          have hkI : (k : Int) < (m : Int) := by omega
          have k0 : (0 : Int) ≤ (k : Int) := by omega
          have hul : (U2 i).length = m := by have := hown.1; omega
          have HST : Hid (RowsN N a n c (fun j => if j = i then (U2 i).set k (mkV i) else U2 j) (wr.setCell ⟨g, k, none⟩ (.int .i64 (-10 - (i : Int))))) :=
            hrows.turn HD.out hi3 hag (Only.set (F := fun k => k = g) rfl _ _ _) _ (by rw [hag, ← HM.out]; exact (hown.stored k (mkV i)).1)
          have HO2 : Hid (Only (InN N a) w (wr.setCell ⟨g, k, none⟩ (.int .i64 (-10 - (i : Int))))) := honly.trans (Only.set (F := InN N a) ⟨i, hi3, hag⟩ k wr _)
          have HMK := hide hmk
          have HMI := hide hmi
          have HUL := hide hul
          clear hrows hmk hmi honly hag hown hul
          go_wp2
          go_roundw
          case rel =>
            refine ⟨k + 1, fun j => if j = i then (U2 i).set k (mkV i) else U2 j, by omega, by go_num, HST.out, fun j hj q hq => ?_, fun q hq => ?_, HO2.out⟩
            · simp only [if_neg (show ¬ j = i by omega)]; exact HMK.out j hj q hq
            · simp only [if_pos]
              by_cases hqk : q = k
              · subst hqk; rw [List.getElem?_set_self (by rw [HUL.out]; exact hkm)]
              · rw [List.getElem?_set_ne (by omega)]; exact HMI.out q (by omega)
          case measure => simp [intOf]; omega
        · have hkI : ¬ (k : Int) < (m : Int) := by omega
          have HRW := hide hrows
          have HMK := hide hmk
          have HMI := hide hmi
          have HON := hide honly
          clear hrows hmk hmi honly
          go_wp2
          go_roundw
          case rel =>
            refine ⟨i + 1, U2, by omega, by go_num, HRW.out, fun j hj q hq => ?_, HON.out⟩
            by_cases hji : j = i
            · subst hji; exact HMI.out q (by rw [← HM.out] at hq; omega)
            · exact HMK.out j (by omega) q hq
          case measure => simp [intOf]; omega
    · have HI3 : Hid (∀ j, j < N → ∀ q, q < n j → (U j)[q]? = some (mkV j)) := fun j hj q hq => HMK.out j (by omega) q hq
      have hi3I : ¬ (i : Int) < (N : Int) := by omega
      clear HMK
      generalize wr = W1 at *
      go_wp2_with fail
      clear hi3I hi3 hi
      go_loopw [5, 6] (fun gr i wr => ∃ (k G : Nat), k ≤ N ∧ i = .int .i64 k ∧ gr = .int .i64 (G : Int) ∧ 64 * k ≤ G ∧ G ≤ 1048640 * k ∧ RowsN N a n c U wr ∧ Only (InN N a) w wr) (fun _ i _ => N - (intOf i).toNat)
      case atStart => exact ⟨0, 0, Nat.zero_le _, rfl, rfl, by omega, by omega, HRW.out, HON.out⟩
      case round =>
        clear HRW HON
        obtain ⟨i, G, hi, rfl, rfl, hG1, hG2, hrows, honly⟩ := hrel
        have HRW := hide hrows
        have HON := hide honly
        clear hrows honly
        by_cases hi3 : i < N
        · have hi3I : (i : Int) < (N : Int) := by omega
          have i0 : (0 : Int) ≤ (i : Int) := by omega
          obtain ⟨m, hm⟩ : ∃ m, m = n i := ⟨_, rfl⟩
          have hm36 : m ≤ 1048576 := by have := HN.out i hi3; omega
          have hci : wr.cell? ⟨bl, i, none⟩ = some (.slice (a i) m (c i)) := by
            have := HON.out.cell (HC.out i hi3) HBL.out
            rw [← hm] at this; exact this
          have HOW : Hid (wr.ownsRow 0 3 1 (.slice (a i) m (c i)) m (U i)) := by
            have := HRW.out i hi3
            rw [← hm] at this; exact this
          have HM := hide hm
          clear hm
          generalize wr = W2 at *
          go_wp2_with fail
          go_loopw [7, 8] (fun mo q wr => ∃ (k : Nat) (am : Option Addr) (cm : Nat) (us : List Value), k ≤ 64 ∧ q = .int .i64 k ∧ mo = .slice am (m + k) cm ∧ wr.ownsRow 0 3 1 (.slice am (m + k) cm) (m + k) us ∧ Hid ((am = a i ∧ cm = c i ∧ us.take m = U i) ∨ ∃ g, am = some ⟨g, 0, none⟩ ∧ W2.heap.size ≤ g) ∧ wr.ownsRow 0 3 1 (.slice (a i) m (c i)) m (U i) ∧ Only (fun k => a i = some ⟨k, 0, none⟩) W2 wr) (fun _ q _ => 64 - (intOf q).toNat)
          case atStart => exact ⟨0, a i, c i, U i, by omega, rfl, rfl, HOW.out, .inl ⟨rfl, rfl, List.take_of_length_le (by have := HOW.out.1; omega)⟩, HOW.out, Only.refl _ _⟩
          case round =>
            obtain ⟨k, am, cm, us, hk, rfl, rfl, hmo, HST, hrow, ho⟩ := hrel
            by_cases hk64 : k < 64
            · have hk64I : (k : Int) < 64 := by omega
              obtain ⟨a2, c2, w2, hrun, ho2, hway⟩ := grow_i (-2) hmo (by omega)
              have hnx : ((a2 = a i ∧ c2 = c i ∧ (us ++ [Value.int .i64 (-2)]).take m = U i) ∨ ∃ g, a2 = some ⟨g, 0, none⟩ ∧ W2.heap.size ≤ g) ∧ w2.ownsRow 0 3 1 (.slice (a i) m (c i)) m (U i) ∧ Only (fun k => a i = some ⟨k, 0, none⟩) W2 w2 := by
                rcases hway with ⟨g, hg, ha2, hc2, hon⟩ | ⟨hbel, g, hg, hge⟩
                · rcases HST.out with ⟨h1, h2, h3⟩ | ⟨g', h1, h2⟩
                  · have hlen : m ≤ us.length := by have := hmo.1; omega
                    have htk : (us ++ [Value.int .i64 (-2)]).take m = U i := by rw [List.take_append_of_le_length hlen]; exact h3
                    have hai : a i = some ⟨g, 0, none⟩ := by rw [← h1]; exact hg
                    refine ⟨.inl ⟨by rw [ha2, h1], by rw [hc2, h2], htk⟩, ?_, ?_⟩
                    · have := ho2
                      rw [ha2, hc2, h1, h2, hai] at this
                      have h4 := owns_prefix (n := m) this (by omega)
                      rw [htk] at h4
                      rw [hai]; exact h4
                    · exact ho.trans (hon.imp (fun k _ h => by rw [show k = g from h]; exact hai))
                  · have hgg : g = g' := by rw [h1] at hg; cases hg; rfl
                    subst hgg
                    refine ⟨.inr ⟨g, by rw [ha2]; exact h1, h2⟩, ?_, ho.next hon (fun k hk2 h => by have : k = g := h; omega)⟩
                    refine owns_only hrow hon (fun k hk2 e => ?_)
                    have : k = g := e
                    subst this
                    have := slice_blk HOW.out k hk2
                    have h5 := (owns_blk HOW.out k hk2).2.1
                    omega
                · exact ⟨.inr ⟨g, hg, Nat.le_trans ho.size hge⟩, owns_below hrow hbel, ho.trans (Only.of_below hbel)⟩
              obtain ⟨hn1, hn2, hn3⟩ := hnx
              have H1 := hide hn1
              have H2 := hide hn2
              have H3 := hide hn3
              have HO2 := hide ho2
              obtain ⟨mk, hmk⟩ : ∃ mk, mk = m + k := ⟨_, rfl⟩
              rw [← hmk] at hrun HO2 ⊢
              have HMK2 := hide hmk
              clear hmo HST hrow ho ho2 hway hn1 hn2 hn3 hmk
              go_wp2_with (first | (at_builtin; refine wpList_append_run 28 rfl (.tmp 48) (.tmp 49) rfl rfl _ _ rfl rfl _ _ hrun ?_))
              go_roundw
              case rel => exact ⟨k + 1, a2, c2, _, by omega, by go_num, by rw [HMK2.out]; rfl, by rw [← Nat.add_assoc, ← HMK2.out]; exact HO2.out, H1.out, H2.out, H3.out⟩
              case measure => simp [intOf]; omega
            · have hk64I : ¬ (k : Int) < 64 := by omega
              have hke : k = 64 := by omega
              have HR3 : Hid (RowsN N a n c U wr) := fun j hj => by
                by_cases hji : j = i
                · subst hji; rw [← HM.out]; exact hrow
                · exact owns_only (HRW.out j hj) ho (fun k hk2 e => hji (HD.out j i k hj hi3 (slice_blk (HRW.out j hj) k hk2) e))
              have HO3 : Hid (Only (InN N a) w wr) := HON.out.trans (ho.imp (fun k _ h => ⟨i, hi3, h⟩))
              have hwg : IntKind.i64.wrap ((G : Int) + ((m + k : Nat) : Int)) = ((G + (m + k) : Nat) : Int) := by rw [IntKind.wrap_i64]; omega
              obtain ⟨mk, hmk⟩ : ∃ mk, mk = m + k := ⟨_, rfl⟩
              rw [← hmk] at hwg ⊢
              obtain ⟨G2, hG⟩ : ∃ G2, G2 = G + mk := ⟨_, rfl⟩
              rw [← hG] at hwg
              have HG2 : Hid (64 * (i + 1) ≤ G2 ∧ G2 ≤ 1048640 * (i + 1)) := by show _ ∧ _; omega
              clear hmo HST hrow ho hmk hG
              go_wp2
              go_roundw
              case rel => exact ⟨i + 1, G2, by omega, by go_num, by first | rfl | go_num, HG2.out.1, HG2.out.2, HR3.out, HO3.out⟩
              case measure => simp [intOf]; omega
        · have hi3I : ¬ (i : Int) < (N : Int) := by omega
          have hiN : i = N := by omega
          have HGG : Hid (64 * N ≤ G ∧ G ≤ 1048640 * N) := by show _ ∧ _; subst hiN; exact ⟨hG1, hG2⟩
          clear hi hG1 hG2 hiN
          generalize wr = W2 at *
          go_wp2_with fail
          clear hi3I hi3
          go_loopw [9] (fun ii wr => ∃ k : Nat, k ≤ N ∧ ii = .int .i64 k ∧ W2 = wr) (fun ii _ => N - (intOf ii).toNat)
          case atStart => exact ⟨0, Nat.zero_le _, rfl, rfl⟩
          case round =>
            obtain ⟨x, hx, rfl, rfl⟩ := hrel
            by_cases hx3 : x < N
            · have hx3I : (x : Int) < (N : Int) := by omega
              have x0 : (0 : Int) ≤ (x : Int) := by omega
              obtain ⟨m, hm⟩ : ∃ m, m = n x := ⟨_, rfl⟩
              have hm36 : m ≤ 1048576 := by have := HN.out x hx3; omega
              have hci : W2.cell? ⟨bl, x, none⟩ = some (.slice (a x) m (c x)) := by
                have := HON.out.cell (HC.out x hx3) HBL.out
                rw [← hm] at this; exact this
              have HOW : Hid (W2.ownsRow 0 3 1 (.slice (a x) m (c x)) m (U x) ∧ ∀ q, q < m → (U x)[q]? = some (mkV x)) := by
                have h := HRW.out x hx3
                have h2 := HI3.out x hx3
                rw [← hm] at h h2
                exact ⟨h, h2⟩
              generalize a x = ax at *
              generalize c x = cx at *
              clear hm
              go_wp2_with fail
              go_loopw [10] (fun kk wr => ∃ k : Nat, k ≤ m ∧ kk = .int .i64 k ∧ W2 = wr) (fun kk _ => m - (intOf kk).toNat)
              case atStart => exact ⟨0, by omega, rfl, rfl⟩
              case round =>
                obtain ⟨k, hk, rfl, rfl⟩ := hrel
                by_cases hkm : k < m
                · obtain ⟨g, c', he, _, hgl⟩ := HOW.out.1.form (by omega)
                  simp only [Value.slice.injEq] at he
                  obtain ⟨rfl, -, -⟩ := he
                  have ce : W2.cell? ⟨g, k, none⟩ = some (.int .i64 (-10 - (x : Int))) := by
                    rw [HOW.out.1.cellAt k (by omega)]; exact HOW.out.2 k hkm
                  have hkI : (k : Int) < (m : Int) := by omega
                  have k0 : (0 : Int) ≤ (k : Int) := by omega
                  have hne : ((-10 - (x : Int)) != (-10 - (x : Int))) = false := by simp
                  clear hgl
                  go_wp2
                  go_roundw
                  case rel => exact ⟨k + 1, by omega, by go_num, trivial⟩
                  case measure => simp [intOf]; omega
                · have hkI : ¬ (k : Int) < (m : Int) := by omega
                  go_wp2
                  go_roundw
                  case rel => exact ⟨x + 1, by omega, by go_num, trivial⟩
                  case measure => simp [intOf]; omega
            · have hx3I : ¬ (x : Int) < (N : Int) := by omega
              have hw64 : IntKind.i64.wrap (64 * (N : Int)) = 64 * (N : Int) := by rw [IntKind.wrap_i64]; omega
              have hG : (64 : Int) * (N : Int) ≤ (G : Int) := by have := HGG.out; omega
              go_wp2
              go_ret
              exact ⟨rfl, HON.out⟩

end Go.Proofs.YtdghlblgmihbpaaDoor
