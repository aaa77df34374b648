import Derived.Test.YtnggkkfncaidnaaGreatDoorAppItem
import Derived.Test.YtnggkkfncaidnaaGreatDoorFault
namespace Go.Proofs.YtnggkkfncaidnaaGreatDoor
open Go.RowKit

set_option maxHeartbeats 1000000 in
theorem appItems_any (k : Nat) : AppItems k := by
  induction k with
  | zero => intro l lv o v base w hk; cases l <;> simp at hk
  | succ k ih =>
    intro l lv o v base w hk hbase hv ho hsz
    obtain ⟨a, g, off, cap, l, vs, hlen, ha, hok, h0, h1, h2, h3, hin⟩ := hv
    have HH : Hid (AppItems k ∧ SizeOf.sizeOf l ≤ k + 1) := ⟨ih, hk⟩
    clear ih hk
    go_enter Tryz.func66, Tryz.ntmps66
    go_wp2_with fail
    go_loopw [0, 5] (fun v i wr => ∃ (j : Nat) (p : List UInt8) (a : Option Addr) (c : Nat), j ≤ l.length ∧ i = .int .i64 j ∧ v = .slice a p.length c ∧ Wrote o (encL (l.take j)) p ∧ wr.ownsRow base 5 1 v p.length (u8s p) ∧ Below base w wr) (fun _ i _ => l.length - (intOf i).toNat)
    case atStart =>
      obtain ⟨a, c, e⟩ := owns_form ho
      exact ⟨0, o, a, c, Nat.zero_le _, rfl, e, by simpa [encL] using Wrote.nil o, ho, Below.refl _ _⟩
    case round =>
      obtain ⟨j, p, ap, cp, hj, rfl, rfl, hwr, hown, hbl⟩ := hrel
      have hbs := hbl.size
      have hpb : p.length ≤ 100000000000000 := by
        have h1 := hwr.most
        have h2 := encL_take_le l j
        omega
      have HW : Hid (Wrote o (encL (l.take j)) p) := hwr
      have HZ : Hid (o.length + (encL l).length ≤ 100000000000000) := hsz
      clear hwr hsz ho
      by_cases hlt : j < l.length
      · by_cases hp : p.length ≤ 65536
        · obtain ⟨rfl, hgb⟩ := ha (by omega)
          have cel : ∀ {oo : Nat} {u : Value}, w.cell? ⟨g, oo, none⟩ = some u → wr.cell? ⟨g, oo, none⟩ = some u := fun {_oo _u} hc => (hbl.cell (p := ⟨g, _oo, none⟩) hgb).trans hc
          have c0 := cel (h0 j hlt)
          have c1 := cel (h1 j hlt)
          have c2 := cel (h2 j hlt)
          have c3 := cel (h3 j hlt)
          have ia := (hin j hlt).keepB hbl
          have hokj := hok j hlt
          have HS : Hid (encL (l.take (j + 1)) = encL (l.take j) ++ l[j].enc) := encL_take_succ l j hlt
          have HL : Hid (p.length + l[j].enc.length ≤ 100000000000000) := by
            have h1 := HW.out.most
            have h2 := encL_take_le l (j + 1)
            rw [HS.out, List.length_append] at h2
            have := HZ.out
            show _ ≤ _
            omega
          have AI : Hid (∀ v' w', base ≤ w'.heap.size → ItsAt w' (fun g => g < base) (vs j) l[j].list → w'.ownsRow base 5 1 v' p.length (u8s p) → Calls Tryz.prog 91 #[v', .agg #[.int .i64 l[j].kind, .int .i64 l[j].num, .string l[j].text, vs j]] w' fun e w'' => ∃ v'' o1, e = .returned v'' ∧ Wrote p l[j].enc o1 ∧ w''.ownsRow base 5 1 v'' o1.length (u8s o1) ∧ Below base w' w'') := fun v' w' x y z =>
            appItem_any k HH.out.1 l[j] (vs j) p v' base w' (by have := list_lt_of_get hlt; have := HH.out.2; omega) hokj x y z HL.out
          generalize l[j] = x at *
          generalize vs j = va at *
          have j0 : (0 : Int) ≤ (j : Int) := Int.natCast_nonneg _
          have j1 : (j : Int) < (l.length : Int) := by omega
          have hp2 : (p.length : Int) ≤ 65536 := by omega
          clear h0 h1 h2 h3 hin hok ha cel hokj HL
          generalize x.kind = xk at *
          generalize x.num = xn at *
          generalize x.text = xt at *
          go_wp2_with fail
          refine (AI.out _ _ (by omega) ia hown).mono ?_
          rintro e w3 ⟨v3, o3, rfl, hw3, hown3, hb3⟩
          have HQ : Hid (Wrote o (encL (l.take (j + 1))) o3) := by
            show Wrote _ _ _
            rw [HS.out]; exact HW.out.next hw3
          have HB : Hid (Below base w w3) := hbl.trans hb3
          obtain ⟨a3, c3', rfl⟩ := owns_form hown3
          have HO : Hid (w3.ownsRow base 5 1 (.slice a3 o3.length c3') o3.length (u8s o3)) := hown3
          clear hw3 hown3 hb3 hbl hown ia AI HW HS c0 c1 c2 c3
          go_wp2_with fail
          go_roundw
          case rel => exact ⟨j + 1, o3, a3, c3', by omega, by go_num, rfl, HQ.out, HO.out, HB.out⟩
          case measure => simp [intOf]; omega
        · have HQ : Hid (Wrote o (encL l) p) := by
            have e : encL l = encL (l.take j) ++ encL (l.drop j) := by rw [← encL_append, List.take_append_drop]
            show Wrote _ _ _
            rw [e]; exact HW.out.skip _ (by omega)
          have hp2 : ¬ (p.length : Int) ≤ 65536 := by omega
          clear h0 h1 h2 h3 hin hok ha HW
          go_wp2_with fail
          go_ret
          first | exact ⟨_, p, rfl, HQ.out, hown, hbl⟩ | exact ⟨_, rfl, p, HQ.out, hown, hbl⟩
      · have hke : j = l.length := by omega
        have HQ : Hid (Wrote o (encL l) p) := by
          have := HW.out
          rwa [List.take_of_length_le (by omega)] at this
        subst hke
        clear h0 h1 h2 h3 hin hok ha HW
        go_wp2_with fail
        go_ret
        first | exact ⟨_, p, rfl, HQ.out, hown, hbl⟩ | exact ⟨_, rfl, p, HQ.out, hown, hbl⟩

/-- What Pack answers: the text, and the fault's number. -/
def packF (l : List It) : Nat := if faultR 4 l = 0 then (if 65536 < (encL l).length then 3 else 0) else faultR 4 l
def packT (l : List It) : ByteArray := if packF l = 0 then ⟨(encL l).toArray⟩ else ⟨#[]⟩

theorem conv_back {w : World} {base : Nat} {v : Value} {o : List UInt8} (h : w.ownsRow base 5 1 v o.length (u8s o)) : (convert 54 9 v).run Tryz.prog w = .ok (.string ⟨o.toArray⟩) w := by
  by_cases h0 : o.length = 0
  · obtain rfl := List.length_eq_zero_iff.1 h0
    rcases h.2 with ⟨h', _⟩ | ⟨g, cap, cur, h', _⟩
    · rw [h']; kernel_rfl
    · rw [h']; exact run_convert_bytes_back (P := Tryz.prog) w 54 9 5 ⟨g, 0, none⟩ cap [] Tryz.underlying54 Tryz.underlying5 Tryz.underlying9 (fun j hj => by simp at hj)
  · obtain ⟨g, cap, rfl, hb, hlt⟩ := h.form (by omega)
    exact run_convert_bytes_back (P := Tryz.prog) w 54 9 5 ⟨g, 0, none⟩ cap o Tryz.underlying54 Tryz.underlying5 Tryz.underlying9 (fun j hj => by
      have := h.cellAt j (by omega)
      rw [u8s_get o j hj] at this
      rw [show (⟨g, 0, none⟩ : Addr).add j = ⟨g, j, none⟩ by unfold Addr.add; split <;> simp_all]
      exact this)

set_option maxHeartbeats 2000000 in
set_option maxRecDepth 100000 in
theorem pack_any (aA aM : Addr) (l : List It) (v : Value) (w : World) (hv : ItsAt w anyB v l) (he : Errs2 aA aM w) (hsz : faultR 4 l = 0 → (encL l).length ≤ 100000000000000) :
    Calls Tryz.prog 47 #[v] w fun e w' => e = .returned (.tuple #[.string (packT l), errOf aA aM (packF l)]) ∧ Below w.heap.size w w' := by
  go_enter Tryz.func47, Tryz.ntmps47
  go_wp2_with fail
  refine (fault_any aA aM 4 l _ v w (by omega) (by rfl) hv he).mono ?_
  rintro e w1 ⟨rfl, hb1⟩
  by_cases hf : faultR 4 l = 0
  · have hE : errOf aA aM (faultR 4 l) = .nilIface := by rw [hf]; rfl
    rw [hE]
    have hs := hsz hf
    have hv1 : ItsAt w1 (fun g => g < w1.heap.size) v l := (hv.keep hb1).weak fun g hg _ => hg
    have AI : Hid (Calls Tryz.prog 66 #[.slice none 0 0, v] w1 fun e w' => ∃ v' o1, e = .returned v' ∧ Wrote [] (encL l) o1 ∧ w'.ownsRow w1.heap.size 5 1 v' o1.length (u8s o1) ∧ Below w1.heap.size w1 w') :=
      appItems_any _ l v [] (.slice none 0 0) w1.heap.size w1 (Nat.le_refl _) (Nat.le_refl _) hv1 (World.ownsRow_nil _ _ _ _) (by simpa using hs)
    have q2 := (he.keep hb1).many
    have HF : Hid (faultR 4 l = 0) := hf
    clear hE hf hsz hv hv1
    go_wp2_with fail
    refine AI.out.mono ?_
    rintro e w2 ⟨v2, o2, rfl, hw2, hown2, hb2⟩
    have q3 := cell_below hb2 q2
    have hb3 : Below w.heap.size w w2 := Below.next hb1 hb2
    have hcv := conv_back hown2
    obtain ⟨a2, c2, rfl⟩ := owns_form hown2
    clear AI hown2 hb2 hb1 q2
    by_cases hlen : (encL l).length ≤ 65536
    · have e2 : o2 = encL l := by simpa using hw2.fits (by simpa using hlen)
      have HP : Hid (packF l = 0 ∧ packT l = ⟨o2.toArray⟩) := by
        have h1 : packF l = 0 := by unfold packF; rw [if_pos HF.out, if_neg (by omega)]
        exact ⟨h1, by unfold packT; rw [if_pos h1, e2]⟩
      have hol : o2.length ≤ 65536 := by rw [e2]; exact hlen
      clear e2 hw2 HF hlen hs
      go_wp2_with fail
      go_ret2
      exact ⟨by rw [HP.out.1, HP.out.2]; rfl, hb3⟩
    · have h1 := hw2.over (by simpa using (show 65536 < (encL l).length by omega))
      have HP : Hid (packF l = 3 ∧ packT l = ⟨#[]⟩) := by
        have h1 : packF l = 3 := by unfold packF; rw [if_pos HF.out, if_pos (by omega)]
        exact ⟨h1, by unfold packT; rw [if_neg (by omega)]⟩
      clear hw2 HF hlen hcv hs
      go_wp2_with fail
      go_quiet (fail)
      go_wp2_with fail
      go_ret2
      exact ⟨by rw [HP.out.1, HP.out.2]; rfl, below_drewN hb3 _⟩
  · obtain ⟨aE, hE⟩ : ∃ aE, errOf aA aM (faultR 4 l) = .iface 167 (.pointer (some aE)) := by
      unfold errOf
      rw [if_neg hf]
      split
      · exact ⟨aA, rfl⟩
      · exact ⟨aM, rfl⟩
    have HP : Hid (packF l = faultR 4 l ∧ packT l = ⟨#[]⟩) := by
      have h1 : packF l = faultR 4 l := by unfold packF; rw [if_neg hf]
      exact ⟨h1, by unfold packT; rw [if_neg (by rw [h1]; exact hf)]⟩
    have HE : Hid (errOf aA aM (faultR 4 l) = .iface 167 (.pointer (some aE))) := hE
    rw [hE]
    clear hE hf hsz hv
    go_wp2_with fail
    go_ret2
    exact ⟨by rw [HP.out.1, HP.out.2, HE.out]; rfl, hb1⟩

end Go.Proofs.YtnggkkfncaidnaaGreatDoor
