import Derived.Test.YtageokjobbjddaaGreatDoorAppItem
import Derived.Test.YtageokjobbjddaaGreatDoorFault
import Derived.Test.YtageokjobbjddaaGreatDoorGRB
import Derived.Test.YtageokjobbjddaaGreatDoorGRC
namespace Go.Proofs.YtageokjobbjddaaGreatDoor
open Go.RowKit

set_option maxHeartbeats 1000000 in
theorem appItems_any (k : Nat) : AppItems k := by
  induction k with
  | zero => intro l lv o v base w hk; cases l <;> simp at hk
  | succ k ih =>
    intro l lv o v base w hk hbase hv ho hsz
    obtain ⟨a, g, off, cap, l, vs, hlen, ha, hok, h0, h1, h2, h3, hin⟩ := hv
    have HH : Hid (AppItems k ∧ SizeOf.sizeOf l ≤ k + 1) := ⟨ih, hk⟩
    clear ih hk
    go_enter Tryz.func51, Tryz.ntmps51
    go_wp2_with fail
    go_loopw [0, 5] (fun v i wr => ∃ (j : Nat) (p : List UInt8) (a : Option Addr) (c : Nat), j ≤ l.length ∧ i = .int .i64 j ∧ v = .slice a p.length c ∧ Wrote o (encL (l.take j)) p ∧ wr.ownsRow base 5 1 v p.length (u8s p) ∧ Below base w wr) (fun _ i _ => l.length - (intOf i).toNat)
    case atStart =>
      obtain ⟨a, c, e⟩ := owns_form ho
      exact ⟨0, o, a, c, Nat.zero_le _, rfl, e, by simpa [encL] using Wrote.nil o, ho, Below.refl _ _⟩
    case round =>
      obtain ⟨j, p, ap, cp, hj, rfl, rfl, hwr, hown, hbl⟩ := hrel
      have hbs := hbl.size
      have hpb : p.length ≤ 100000000000000 := by
        have h1 := hwr.most
        have h2 := encL_take_le l j
        omega
      have HW : Hid (Wrote o (encL (l.take j)) p) := hwr
      have HZ : Hid (o.length + (encL l).length ≤ 100000000000000) := hsz
      clear hwr hsz ho
      by_cases hlt : j < l.length
      · by_cases hp : p.length ≤ 65536
        · obtain ⟨rfl, hgb⟩ := ha (by omega)
          have cel : ∀ {oo : Nat} {u : Value}, w.cell? ⟨g, oo, none⟩ = some u → wr.cell? ⟨g, oo, none⟩ = some u := fun {_oo _u} hc => (hbl.cell (p := ⟨g, _oo, none⟩) hgb).trans hc
          have c0 := cel (h0 j hlt)
          have c1 := cel (h1 j hlt)
          have c2 := cel (h2 j hlt)
          have c3 := cel (h3 j hlt)
          have ia := (hin j hlt).keepB hbl
          have hokj := hok j hlt
          have HS : Hid (encL (l.take (j + 1)) = encL (l.take j) ++ l[j].enc) := encL_take_succ l j hlt
          have HL : Hid (p.length + l[j].enc.length ≤ 100000000000000) := by
            have h1 := HW.out.most
            have h2 := encL_take_le l (j + 1)
            rw [HS.out, List.length_append] at h2
            have := HZ.out
            show _ ≤ _
            omega
          have AI : Hid (∀ v' w', base ≤ w'.heap.size → ItsAt w' (fun g => g < base) (vs j) l[j].list → w'.ownsRow base 5 1 v' p.length (u8s p) → Calls Tryz.prog 77 #[v', .agg #[.int .i64 l[j].kind, .int .i64 l[j].num, .string l[j].text, vs j]] w' fun e w'' => ∃ v'' o1, e = .returned v'' ∧ Wrote p l[j].enc o1 ∧ w''.ownsRow base 5 1 v'' o1.length (u8s o1) ∧ Below base w' w'') := fun v' w' x y z =>
            appItem_any k HH.out.1 l[j] (vs j) p v' base w' (by have := list_lt_of_get hlt; have := HH.out.2; omega) hokj x y z HL.out
          generalize l[j] = x at *
          generalize vs j = va at *
          have j0 : (0 : Int) ≤ (j : Int) := Int.natCast_nonneg _
          have j1 : (j : Int) < (l.length : Int) := by omega
          have hp2 : (p.length : Int) ≤ 65536 := by omega
          clear h0 h1 h2 h3 hin hok ha cel hokj HL
          generalize x.kind = xk at *
          generalize x.num = xn at *
          generalize x.text = xt at *
          go_wp2_with fail
          refine (AI.out _ _ (by omega) ia hown).mono ?_
          rintro e w3 ⟨v3, o3, rfl, hw3, hown3, hb3⟩
          have HQ : Hid (Wrote o (encL (l.take (j + 1))) o3) := by
            show Wrote _ _ _
            rw [HS.out]; exact HW.out.next hw3
          have HB : Hid (Below base w w3) := hbl.trans hb3
          obtain ⟨a3, c3', rfl⟩ := owns_form hown3
          have HO : Hid (w3.ownsRow base 5 1 (.slice a3 o3.length c3') o3.length (u8s o3)) := hown3
          clear hw3 hown3 hb3 hbl hown ia AI HW HS c0 c1 c2 c3
          go_wp2_with fail
          go_roundw
          case rel => exact ⟨j + 1, o3, a3, c3', by omega, by go_num, rfl, HQ.out, HO.out, HB.out⟩
          case measure => simp [intOf]; omega
        · have HQ : Hid (Wrote o (encL l) p) := by
            have e : encL l = encL (l.take j) ++ encL (l.drop j) := by rw [← encL_append, List.take_append_drop]
            show Wrote _ _ _
            rw [e]; exact HW.out.skip _ (by omega)
          have hp2 : ¬ (p.length : Int) ≤ 65536 := by omega
          clear h0 h1 h2 h3 hin hok ha HW
          go_wp2_with fail
          go_ret
          first | exact ⟨_, p, rfl, HQ.out, hown, hbl⟩ | exact ⟨_, rfl, p, HQ.out, hown, hbl⟩
      · have hke : j = l.length := by omega
        have HQ : Hid (Wrote o (encL l) p) := by
          have := HW.out
          rwa [List.take_of_length_le (by omega)] at this
        subst hke
        clear h0 h1 h2 h3 hin hok ha HW
        go_wp2_with fail
        go_ret
        first | exact ⟨_, p, rfl, HQ.out, hown, hbl⟩ | exact ⟨_, rfl, p, HQ.out, hown, hbl⟩

/-- What Pack answers: the text, and the fault's number. -/
def packF (l : List It) : Nat := if faultR 4 l = 0 then (if 65536 < (encL l).length then 3 else 0) else faultR 4 l
def packT (l : List It) : ByteArray := if packF l = 0 then ⟨(encL l).toArray⟩ else ⟨#[]⟩

theorem conv_back {w : World} {base : Nat} {v : Value} {o : List UInt8} (h : w.ownsRow base 5 1 v o.length (u8s o)) : (convert 48 9 v).run Tryz.prog w = .ok (.string ⟨o.toArray⟩) w := by
  by_cases h0 : o.length = 0
  · obtain rfl := List.length_eq_zero_iff.1 h0
    rcases h.2 with ⟨h', _⟩ | ⟨g, cap, cur, h', _⟩
    · rw [h']; kernel_rfl
    · rw [h']; exact run_convert_bytes_back (P := Tryz.prog) w 48 9 5 ⟨g, 0, none⟩ cap [] Tryz.underlying48 Tryz.underlying5 Tryz.underlying9 (fun j hj => by simp at hj)
  · obtain ⟨g, cap, rfl, hb, hlt⟩ := h.form (by omega)
    exact run_convert_bytes_back (P := Tryz.prog) w 48 9 5 ⟨g, 0, none⟩ cap o Tryz.underlying48 Tryz.underlying5 Tryz.underlying9 (fun j hj => by
      have := h.cellAt j (by omega)
      rw [u8s_get o j hj] at this
      rw [show (⟨g, 0, none⟩ : Addr).add j = ⟨g, j, none⟩ by unfold Addr.add; split <;> simp_all]
      exact this)

set_option maxHeartbeats 2000000 in
set_option maxRecDepth 100000 in
theorem pack_any (aA aM : Addr) (l : List It) (v : Value) (w : World) (hv : ItsAt w anyB v l) (he : Errs2 aA aM w) (hsz : faultR 4 l = 0 → (encL l).length ≤ 100000000000000) :
    Calls Tryz.prog 39 #[v] w fun e w' => e = .returned (.tuple #[.string (packT l), errOf aA aM (packF l)]) ∧ Below w.heap.size w w' := by
  go_enter Tryz.func39, Tryz.ntmps39
  go_wp2_with fail
  refine (fault_any aA aM 4 l _ v w (by omega) (by rfl) hv he).mono ?_
  rintro e w1 ⟨rfl, hb1⟩
  by_cases hf : faultR 4 l = 0
  · have hE : errOf aA aM (faultR 4 l) = .nilIface := by rw [hf]; rfl
    rw [hE]
    have hs := hsz hf
    have hv1 : ItsAt w1 (fun g => g < w1.heap.size) v l := (hv.keep hb1).weak fun g hg _ => hg
    have AI : Hid (Calls Tryz.prog 51 #[.slice none 0 0, v] w1 fun e w' => ∃ v' o1, e = .returned v' ∧ Wrote [] (encL l) o1 ∧ w'.ownsRow w1.heap.size 5 1 v' o1.length (u8s o1) ∧ Below w1.heap.size w1 w') :=
      appItems_any _ l v [] (.slice none 0 0) w1.heap.size w1 (Nat.le_refl _) (Nat.le_refl _) hv1 (World.ownsRow_nil _ _ _ _) (by simpa using hs)
    have q2 := (he.keep hb1).many
    have HF : Hid (faultR 4 l = 0) := hf
    clear hE hf hsz hv hv1
    go_wp2_with fail
    refine AI.out.mono ?_
    rintro e w2 ⟨v2, o2, rfl, hw2, hown2, hb2⟩
    have q3 := cell_below hb2 q2
    have hb3 : Below w.heap.size w w2 := Below.next hb1 hb2
    have hcv := conv_back hown2
    obtain ⟨a2, c2, rfl⟩ := owns_form hown2
    clear AI hown2 hb2 hb1 q2
    by_cases hlen : (encL l).length ≤ 65536
    · have e2 : o2 = encL l := by simpa using hw2.fits (by simpa using hlen)
      have HP : Hid (packF l = 0 ∧ packT l = ⟨o2.toArray⟩) := by
        have h1 : packF l = 0 := by unfold packF; rw [if_pos HF.out, if_neg (by omega)]
        exact ⟨h1, by unfold packT; rw [if_pos h1, e2]⟩
      have hol : o2.length ≤ 65536 := by rw [e2]; exact hlen
      clear e2 hw2 HF hlen hs
      go_wp2_with fail
      go_ret2
      exact ⟨by rw [HP.out.1, HP.out.2]; rfl, hb3⟩
    · have h1 := hw2.over (by simpa using (show 65536 < (encL l).length by omega))
      have HP : Hid (packF l = 3 ∧ packT l = ⟨#[]⟩) := by
        have h1 : packF l = 3 := by unfold packF; rw [if_pos HF.out, if_pos (by omega)]
        exact ⟨h1, by unfold packT; rw [if_neg (by omega)]⟩
      clear hw2 HF hlen hcv hs
      go_wp2_with fail
      go_quiet (fail)
      go_wp2_with fail
      go_ret2
      exact ⟨by rw [HP.out.1, HP.out.2]; rfl, below_drewN hb3 _⟩
  · obtain ⟨aE, hE⟩ : ∃ aE, errOf aA aM (faultR 4 l) = .iface 166 (.pointer (some aE)) := by
      unfold errOf
      rw [if_neg hf]
      split
      · exact ⟨aA, rfl⟩
      · exact ⟨aM, rfl⟩
    have HP : Hid (packF l = faultR 4 l ∧ packT l = ⟨#[]⟩) := by
      have h1 : packF l = faultR 4 l := by unfold packF; rw [if_neg hf]
      exact ⟨h1, by unfold packT; rw [if_neg (by rw [h1]; exact hf)]⟩
    have HE : Hid (errOf aA aM (faultR 4 l) = .iface 166 (.pointer (some aE))) := hE
    rw [hE]
    clear hE hf hsz hv
    go_wp2_with fail
    go_ret2
    exact ⟨by rw [HP.out.1, HP.out.2, HE.out]; rfl, hb1⟩

end Go.Proofs.YtageokjobbjddaaGreatDoor

namespace Go.Proofs.YtageokjobbjddaaGreatDoor
open Go.RowKit

end Go.Proofs.YtageokjobbjddaaGreatDoor

namespace Go.Proofs.YtageokjobbjddaaGreatDoor
open Go.RowKit

theorem cells_news {w : World} {base g n c : Nat} {o : List UInt8} (h : w.ownsRow base 5 1 (.slice (some ⟨g, 0, none⟩) n c) o.length (u8s o)) : ∀ j u, (u8s o)[j]? = some u → w.cell? ((⟨g, 0, none⟩ : Addr).add j) = some u := fun j u hu => by
  have hj : j < o.length := by
    rcases Nat.lt_or_ge j o.length with h' | h'
    · exact h'
    · rw [List.getElem?_eq_none (by rw [u8s_length]; exact h')] at hu; cases hu
  have hn : n = o.length := by
    rcases h.2 with ⟨h', _⟩ | ⟨_, _, _, h', _⟩
    · cases h'
    · cases h'; rfl
  subst hn
  have := h.cellAt j (by omega)
  rw [hu] at this
  rw [show (⟨g, 0, none⟩ : Addr).add j = ⟨g, j, none⟩ by unfold Addr.add; split <;> simp_all]
  exact this
theorem pushed0 {base : Nat} {wr w1 : World} {o es : List UInt8} {v v' : Value} (hb : base ≤ wr.heap.size) (hown : wr.ownsRow base 5 1 v o.length (u8s o))
    (hown' : w1.ownsRow base 5 1 v' (o.length + es.length) (u8s o ++ u8s es)) (hgrow : wr.grownBy w1 v.ownBlock) : w1.ownsRow base 5 1 v' (o ++ es).length (u8s (o ++ es)) ∧ Below base wr w1 := by
  refine ⟨by rw [u8s_append, List.length_append]; exact hown', ?_⟩
  exact (Below.refl base wr).grown hgrow hb (fun k hk => (hown.lt k hk).1)
theorem own_lit (w : World) (base : Nat) (c : UInt8) (H : Nat) (hb : base ≤ H) (hH : w.heap.size = H) : (w.alloc (.cells #[.int .u8 (c.toNat : Int)] 5)).ownsRow base 5 1 (.slice (some ⟨H, 0, none⟩) 1 1) [c].length (u8s [c]) := by
  subst hH
  exact ⟨rfl, .inr ⟨w.heap.size, 1, _, rfl, hb, heap_alloc_new w _, Nat.le_refl _, by unfold maxLen; decide, rfl, rfl⟩⟩

theorem enc_pos (x : It) : 0 < x.enc.length := by rw [x.enc_eq]; simp
theorem encL_pos (l : List It) (h : l ≠ []) : 0 < (encL l).length := by
  cases l with
  | nil => exact absurd rfl h
  | cons x r => simp only [encL, List.length_append]; have := enc_pos x; omega

end Go.Proofs.YtageokjobbjddaaGreatDoor

namespace Go.Proofs.YtageokjobbjddaaGreatDoor
open Go.RowKit

theorem ret_i64 {a b : Int} (h : a = b) : Ending.returned (.int .i64 a) = .returned (.int .i64 b) := by rw [h]
end Go.Proofs.YtageokjobbjddaaGreatDoor

namespace Go.Proofs.YtageokjobbjddaaGreatDoor
open Go.RowKit

theorem faultR_kinds (r : Nat) : ∀ l, faultR r l = 0 ∨ faultR r l = 1 ∨ faultR r l = 3 := by
  have first : ∀ (f : It → Nat), (∀ x, f x = 0 ∨ f x = 1 ∨ f x = 3) → ∀ l, firstF f l = 0 ∨ firstF f l = 1 ∨ firstF f l = 3 := by
    intro f hf l
    induction l with
    | nil => exact .inl rfl
    | cons x r ih =>
      simp only [firstF]
      split
      · exact ih
      · exact hf x
  have one : ∀ (rec : List It → Nat), (∀ l, rec l = 0 ∨ rec l = 1 ∨ rec l = 3) → ∀ x, oneF rec x = 0 ∨ oneF rec x = 1 ∨ oneF rec x = 3 := by
    intro rec hr x
    unfold oneF
    split
    · exact .inr (.inl rfl)
    · split
      · exact hr _
      · exact .inl rfl
  induction r with
  | zero =>
    intro l
    simp only [faultR]
    split
    · exact .inr (.inr rfl)
    · exact first _ (one _ fun _ => .inr (.inr rfl)) l
  | succ r ih =>
    intro l
    simp only [faultR]
    split
    · exact .inr (.inr rfl)
    · exact first _ (one _ ih) l
theorem packF_kinds (l : List It) : packF l = 0 ∨ packF l = 1 ∨ packF l = 3 := by
  unfold packF
  split
  · split
    · exact .inr (.inr rfl)
    · exact .inl rfl
  · exact faultR_kinds 4 l

/-- A list that may be, but for its text, has a text that a machine can hold if its parts were counted. -/
theorem enc_le (k : Nat) : ∀ l : List It, SizeOf.sizeOf l ≤ k → (encL l).length ≤ 12 * cntL l := by
  induction k with
  | zero => intro l h; cases l <;> simp at h
  | succ k ih =>
    intro l
    induction l with
    | nil => intro _; simp [encL]
    | cons x r ihr =>
      intro h
      have h1 : SizeOf.sizeOf (x :: r) = 1 + SizeOf.sizeOf x + SizeOf.sizeOf r := rfl
      have h2 := It.list_lt x
      have hx := ih x.list (by omega)
      have hr := ihr (by omega)
      simp only [encL, cntL, List.length_append, It.cnt_eq, It.enc_eq, List.length_cons]
      have hesc : (encT x.text.data.toList).length ≤ 2 * x.text.size + 2 := by
        have : ∀ t : List UInt8, (escL t).length ≤ 2 * t.length := by
          intro t
          induction t with
          | nil => simp [escL]
          | cons c r ih =>
            have e : escL (c :: r) = (if c = 0 then [0, 255] else [c]) ++ escL r := by simp [escL]
            rw [e, List.length_append, List.length_cons]
            split <;> simp <;> omega
        have h := this x.text.data.toList
        unfold encT
        rw [List.length_append]
        simp only [List.length_cons, List.length_nil]
        have e : x.text.data.toList.length = x.text.size := by simp
        omega
      have hb : (bodyOf x.kind x.num x.text.data.toList (encL x.list)).length ≤ 8 + (2 * x.text.size + 2) + ((encL x.list).length + 1) := by
        unfold bodyOf
        split
        · simp only [List.length_cons, List.length_nil]; omega
        · split
          · simp [num8, be8]; omega
          · split
            · omega
            · split
              · rw [List.length_append]; simp only [List.length_cons, List.length_nil]; omega
              · simp
      omega

end Go.Proofs.YtageokjobbjddaaGreatDoor

namespace Go.Proofs.YtageokjobbjddaaGreatDoor
open Go.RowKit

/-! The document's own side: names, fields, the fault of a query. -/
theorem q_snoc (s : ByteArray) (k : Nat) (h : k < s.size) : s.data.toList.take (k + 1) = s.data.toList.take k ++ [s[k]] := by
  rw [List.take_succ_eq_append_getElem (by simpa using h)]; rfl
theorem q_len (s : ByteArray) : s.data.toList.length = s.size := by simp
def nameB (c : UInt8) : Bool := decide (33 ≤ c.toNat ∧ c.toNat ≤ 126)
def isNameD (s : ByteArray) : Bool := s.data.toList.all nameB && decide (1 ≤ s.size ∧ s.size ≤ 32)
theorem all_stop {p : UInt8 → Bool} (s : ByteArray) (k : Nat) (h : k < s.size) (hp : p s[k] = false) : s.data.toList.all p = false := by
  rw [List.all_eq_false]
  exact ⟨s[k], by have := List.getElem_mem (l := s.data.toList) (n := k) (by simpa using h); exact this, by simp [hp]⟩
end Go.Proofs.YtageokjobbjddaaGreatDoor

namespace Go.Proofs.YtageokjobbjddaaGreatDoor
open Go.RowKit

/-- A field as plain data: its name, its kind. -/
abbrev Fd := ByteArray × Int
/-- The slice value v reads as the fields l. -/
def FsAt (w : World) (v : Value) (l : List Fd) : Prop :=
  ∃ (a : Option Addr) (g off cap : Nat), v = .slice a l.length cap ∧ l.length ≤ 17592186044416 ∧ (0 < l.length → a = some ⟨g, off, none⟩) ∧
    ∀ i (h : i < l.length), w.cell? ⟨g, off + i * 2, none⟩ = some (.string l[i].1) ∧ w.cell? ⟨g, off + i * 2 + 1, none⟩ = some (.int .i64 l[i].2)
theorem FsAt.form {w : World} {v : Value} {l : List Fd} (h : FsAt w v l) : ∃ a c, v = .slice a l.length c := by
  obtain ⟨a, g, off, cap, h, _⟩ := h
  exact ⟨a, cap, h⟩
theorem FsAt.len {w : World} {v : Value} {l : List Fd} (h : FsAt w v l) : l.length ≤ 17592186044416 := by
  obtain ⟨a, g, off, cap, _, h, _⟩ := h
  exact h
theorem FsAt.keep {w w' : World} {v : Value} {l : List Fd} (h : FsAt w v l) (hb : Below w.heap.size w w') : FsAt w' v l := by
  obtain ⟨a, g, off, cap, h1, h2, h3, h4⟩ := h
  exact ⟨a, g, off, cap, h1, h2, h3, fun i hi => ⟨cell_below hb (h4 i hi).1, cell_below hb (h4 i hi).2⟩⟩
theorem FsAt.get {w : World} {a : Option Addr} {n cap : Nat} {l : List Fd} (h : FsAt w (.slice a n cap) l) (i : Nat) (hi : i < l.length) : ∃ g off, a = some ⟨g, off, none⟩ ∧ w.cell? ⟨g, off + i * 2, none⟩ = some (.string l[i].1) ∧ w.cell? ⟨g, off + i * 2 + 1, none⟩ = some (.int .i64 l[i].2) := by
  obtain ⟨a', g, off, cap', h1, h2, h3, h4⟩ := h
  cases h1
  obtain rfl := h3 (by omega)
  exact ⟨g, off, rfl, h4 i hi⟩
/-- The number of the first field of that name; -1: there is none. -/
def fieldI (l : List Fd) (name : ByteArray) : Int :=
  match l.findIdx? (fun f => decide (f.1 = name)) with
  | some i => i
  | none => -1
theorem fieldI_at (l : List Fd) (name : ByteArray) (k : Nat) (hk : k < l.length) (h0 : ∀ j (h : j < l.length), j < k → l[j].1 ≠ name) (h : l[k].1 = name) : fieldI l name = (k : Int) := by
  have : l.findIdx? (fun f => decide (f.1 = name)) = some k := by
    rw [List.findIdx?_eq_some_iff_getElem]
    exact ⟨hk, by simp [h], fun j hj => by simp [h0 j (by omega) hj]⟩
  unfold fieldI
  rw [this]
theorem fieldI_none (l : List Fd) (name : ByteArray) (h0 : ∀ j (h : j < l.length), l[j].1 ≠ name) : fieldI l name = -1 := by
  have : l.findIdx? (fun f => decide (f.1 = name)) = none := by
    rw [List.findIdx?_eq_none_iff]
    intro x hx
    obtain ⟨j, hj, rfl⟩ := List.getElem_of_mem hx
    simp [h0 j hj]
  unfold fieldI
  rw [this]
theorem str_ne {a b : ByteArray} (h : a ≠ b) : (a.toList == b.toList) = false := by
  cases hb : (a.toList == b.toList) with
  | false => rfl
  | true => exact absurd ((string_eq_iff a b).1 hb) h
theorem str_eq (a : ByteArray) : (a.toList == a.toList) = true := (string_eq_iff a a).2 rfl
end Go.Proofs.YtageokjobbjddaaGreatDoor

namespace Go.Proofs.YtageokjobbjddaaGreatDoor
open Go.RowKit

/-! The fault of a query. -/
def firstN {α : Type} (f : α → Nat) : List α → Nat
  | [] => 0
  | x :: r => if f x = 0 then firstN f r else f x
theorem firstN_all {α : Type} {f : α → Nat} : ∀ (l : List α), (∀ x ∈ l, f x = 0) → firstN f l = 0
  | [], _ => rfl
  | x :: r, h => by rw [firstN, if_pos (h x (by simp))]; exact firstN_all r fun y hy => h y (by simp [hy])
theorem firstN_at {α : Type} {f : α → Nat} : ∀ (l : List α) (k : Nat) (hk : k < l.length), (∀ j (h : j < l.length), j < k → f l[j] = 0) → f l[k] ≠ 0 → firstN f l = f l[k]
  | x :: r, 0, _, _, h => by
    have h : f x ≠ 0 := h
    rw [firstN, if_neg h]; rfl
  | x :: r, k + 1, hk, h0, h => by
    have hz : f x = 0 := h0 0 (by simp) (by omega)
    rw [firstN, if_pos hz]
    exact firstN_at r k (by simpa using hk) (fun j hj hjk => h0 (j + 1) (by simpa using hj) (by omega)) h
theorem firstN_take {α : Type} {f : α → Nat} (l : List α) (h : ∀ j (h : j < l.length), f l[j] = 0) : firstN f l = 0 := firstN_all l fun x hx => by
  obtain ⟨j, hj, rfl⟩ := List.getElem_of_mem hx
  exact h j hj
def emptyB (s : ByteArray) : Bool := decide (s = ⟨#[]⟩)
def condF (c : Cd) : Nat := if isNameD c.field = true ∧ 1 ≤ c.sign ∧ c.sign ≤ 5 then packF [c.item] else 1
def endF (q : Qd) : Nat := if (q.order = ⟨#[]⟩ ∨ isNameD q.order = true) ∧ ¬ (q.falling = true ∧ q.order = ⟨#[]⟩) ∧ 0 ≤ q.limit then 0 else 1
def qfaultD (q : Qd) : Nat := if isNameD q.table = true then (if firstN condF q.cs = 0 then endF q else firstN condF q.cs) else 1
theorem cnt_mem {l : List Cd} {c : Cd} (h : c ∈ l) : c.field.size + c.item.cnt ≤ cntC l := by
  induction l with
  | nil => simp at h
  | cons d l ih =>
    rw [cntC]
    rcases List.mem_cons.1 h with rfl | h
    · omega
    · have := ih h; omega
theorem enc_one {c : Cd} {l : List Cd} (h : c ∈ l) (hs : cntC l ≤ 16777216) : (encL [c.item]).length ≤ 100000000000000 := by
  have h1 := enc_le _ [c.item] (Nat.le_refl _)
  rw [cnt_one] at h1
  have := cnt_mem h
  omega
theorem eq_empty (s : ByteArray) : (s.toList == (⟨#[]⟩ : ByteArray).toList) = decide (s = ⟨#[]⟩) := by
  by_cases h : s = ⟨#[]⟩
  · subst h; rw [str_eq]; simp
  · rw [str_ne h, decide_eq_false h]
end Go.Proofs.YtageokjobbjddaaGreatDoor
