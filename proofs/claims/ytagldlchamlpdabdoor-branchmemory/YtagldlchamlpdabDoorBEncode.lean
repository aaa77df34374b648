import Derived.Test.YtagldlchamlpdabDoorBEnc
import Derived.Test.YtagldlchamlpdabDoorBCheck
import Derived.Test.YtagldlchamlpdabDoorCLay
import Derived.Test.YtagldlchamlpdabDoorCNum
namespace Go.Proofs.YtagldlchamlpdabDoor
open Go.RowKit

/-- One text more on a list of the call's own. -/
theorem push_str (base : Nat) (v : Value) (xs : List ByteArray) (x : ByteArray) (t : TypeId) (w w0 : World) (B n : Nat) (hn : xs.length = n) (hown : w.ownsRow base 9 1 v n (strs xs)) (hb : (n + 1) * 16 ≤ 140737488355328) (hbase : base ≤ w.heap.size) (hB : B ≤ base) (h0 : Below B w0 w) :
    ∃ a' cap' w', (Builtin.append_ #[25, 25] 25 #[v, .slice (some ⟨w.heap.size, 0, none⟩) 1 1]).run Tryd.prog (w.alloc (.cells #[.string x] t)) = .ok (.slice a' (n + 1) cap') w' ∧ w'.ownsRow base 9 1 (.slice a' (n + 1) cap') (n + 1) (strs (xs ++ [x])) ∧ Below B w0 w' ∧ w.heap.size ≤ w'.heap.size := by
  subst hn
  have hr : RowR (w.alloc (.cells #[.string x] t)) (.slice (some ⟨w.heap.size, 0, none⟩) 1 1) [.string x] := by
    have hbx := boxed_new w #[.string x] t
    refine ⟨_, _, rfl, Nat.le_refl _, fun h => (by cases h), fun j u hj => ⟨_, _, rfl, ?_⟩⟩
    have hj0 : j = 0 := by
      have := (List.getElem?_eq_some_iff.1 hj).1
      simpa using this
    subst hj0
    cases hj
    exact hbx.2 0 (by simp)
  obtain ⟨a', cap', w', hrun, hown', hg⟩ := append_row 25 9 _ 16 info9 Tryd.underlying25 rfl base xs.length v (strs xs) _ (World.ownsRow.alloc hown _) _ _ hr (fun u hu => by simp at hu; subst hu; rfl) (by simpa using hb) (by decide) (by simp; omega)
  refine ⟨a', cap', w', hrun, by rw [strs_append]; exact hown', ?_, ?_⟩
  · exact (h0.alloc (Nat.le_trans hB hbase) _).grown hg (by simp; omega) (fun k hk => Nat.le_trans hB (World.ownsRow.lt hown k hk).1)
  · have := hg.size
    simp at this
    omega

/-- What Encode answers. -/
def BEncV (A : Nat → Addr) (f : Int) (l : List Lk) (e : Ending) : Prop :=
  (chkB f l true = none ∧ e = .returned (.tuple #[.string (encK f l), .nilIface])) ∨ (∃ k, chkB f l true = some k ∧ e = .returned (.tuple #[.string ⟨#[]⟩, errV A (some k)]))

set_option maxRecDepth 20000 in
set_option maxHeartbeats 4000000 in
theorem benc_any (A : Nat → Addr) (f : Int) (v : Value) (l : List Lk) (w : World) (hok : OkK l) (hm : l.length ≤ 5864062014805) (hr : LkR w v l) (hE : ErrK A w) :
    Calls Tryd.prog 12 #[.agg #[.int .i64 f, v]] w fun e w' => BEncV A f l e ∧ Below w.heap.size w w' := by
  obtain ⟨a, cap, hv⟩ := hr.form
  subst hv
  obtain ⟨n, hn⟩ : ∃ n, n = l.length := ⟨_, rfl⟩
  rw [← hn] at hr ⊢
  have q0 := below_new w (.cells #[.int .i64 f, .slice a n cap] 30)
  have x0 := RowAt.new w #[.int .i64 f, .slice a n cap] 30
  generalize hW0 : w.alloc (.cells #[.int .i64 f, .slice a n cap] 30) = W0 at *
  have p0 := x0.c0
  have p1 := x0.c1
  have HX := hide x0
  have HQ := hide q0
  have HE := hide (hE.below q0)
  have HR := hide (hr.below q0)
  have HN := hide hn
  have HCK := hide (bcheck_any A f _ l true W0 hok hm (hr.below q0) (hE.below q0))
  cases hck : chkB f l true with
  | some k =>
    rw [hck] at HCK
    have hnn := fun W => iface_ne_nil (some (A k)) W
    have HV : Hid (chkB f l true = some k) := hck
    clear hr hE hok hck q0 x0 hn hm
    go_enter Tryd.func12, Tryd.ntmps12
    go_wp2_with fail
    refine HCK.out.mono ?_
    rintro e w1 ⟨rfl, hb1⟩
    have HB := hide (Below.next HQ.out hb1)
    clear hb1
    unfold errV
    go_wp2
    go_ret2
    exact ⟨.inr ⟨k, HV.out, rfl⟩, HB.out⟩
  | none =>
    rw [hck] at HCK
    obtain ⟨h1, h2, h3, h4, h5, h6, h7⟩ := chkB_none hck
    have hlen := szB_len l
    have HMAY := hide h3
    have HSZ : Hid (sizeL (cellsK f l) ≤ 4072) := by rw [size_cellsK]; exact h6
    have hnl : n ≤ 581 := by omega
    have HV : Hid (chkB f l true = none) := hck
    obtain ⟨m, hm2⟩ : ∃ m : Nat, f = (m : Int) := by
      have : 2 ≤ f ∧ f < 1048576 := of_decide_eq_true h2
      exact ⟨f.toNat, by omega⟩
    have hmb : m < 1048576 := by
      have : 2 ≤ f ∧ f < 1048576 := of_decide_eq_true h2
      omega
    have HC := hide (fun W => cellc_any m W hmb)
    subst hm2
    have HL0 : Hid ([cellC m] = cellsK (m : Int) (l.take 0)) := by show _ = _; simp [cellsK]
    clear hr hE hok hck h1 h2 h3 h4 h5 h6 h7 hlen hn hm q0 x0 hmb
    go_enter Tryd.func12, Tryd.ntmps12
    go_wp2_with fail
    refine HCK.out.mono ?_
    rintro e w1 ⟨rfl, hb1⟩
    have HB1 := hide hb1
    clear hb1 p0 p1 HCK
    have p0 := (HX.out.below HB1.out).c0
    unfold errV
    go_wp2_with fail
    refine (HC.out _).mono ?_
    rintro e w2 ⟨rfl, hb2⟩
    have HB2 := hide (Below.next HB1.out hb2)
    clear hb2 p0 HC HB1
    have q2 := below_new w2 (.cells #[.string (cellC m)] 9)
    have o2 : (w2.alloc (.cells #[.string (cellC m)] 9)).ownsRow w2.heap.size 9 1 (.slice (some ⟨w2.heap.size, 0, none⟩) 1 1) 1 (strs [cellC m]) := World.ownsRow_lit w2 #[.string (cellC m)] 1 (Nat.le_refl _) (by decide) rfl
    rw [HL0.out] at o2
    obtain ⟨cc, hcc⟩ : ∃ cc, cc = cellC m := ⟨_, rfl⟩
    rw [← hcc] at q2 o2 ⊢
    generalize hW2 : w2.alloc (.cells #[.string cc] 9) = W2 at *
    have HB3 := hide (Below.next HB2.out q2)
    have HO2 := hide o2
    have p1 := (HX.out.below HB3.out).c1
    have HS2 := hide HB2.out.size
    clear q2 o2 hcc HL0
    go_wp2
    clear p1
    go_loopw [5, 20] (fun u i wr => ∃ k : Nat, k ≤ n ∧ i = .int .i64 k ∧ wr.ownsRow W0.heap.size 9 1 u (k + 1) (strs (cellsK (m : Int) (l.take k))) ∧ Below W0.heap.size W0 wr) (fun _ i _ => n - (intOf i).toNat)
    case atStart => exact ⟨0, Nat.zero_le _, rfl, owns_base HO2.out HS2.out, HB3.out⟩
    case round =>
      obtain ⟨k, hk, rfl, hown, hbw⟩ := hrel
      clear HO2 HB3
      have htk : (cellsK (m : Int) (l.take k)).length = k + 1 := by rw [cellsK_len, List.length_take]; have := HN.out; omega
      obtain ⟨ua, uc, hu⟩ : ∃ a c, u5 = .slice a (k + 1) c := by
        rcases hown.2 with ⟨rfl, h⟩ | ⟨g, cap, cur, rfl, _⟩
        · omega
        · exact ⟨_, _, rfl⟩
      subst hu
      by_cases hlt : k < n
      · have hkl : k < l.length := by have := HN.out; omega
        obtain ⟨g, o, rfl, c1, c2⟩ := (HR.out.below hbw).spot k hkl
        have HS := hide (cellsK_take (m : Int) l k hkl)
        have q2 := below_new wr (.cells #[.string l[k].1, .int .i64 l[k].2] 54)
        have HLK := hide (fun W => linkc_any l[k] W (HMAY.out l[k] (List.getElem_mem _)))
        obtain ⟨p, hp⟩ : ∃ p, p = l[k] := ⟨_, rfl⟩
        rw [← hp] at c1 c2 HS HLK q2
        have HBW := hide (Below.next hbw q2)
        have HO := hide (own_below hown q2)
        have hltI : (k : Int) < (n : Int) := by omega
        clear hp hbw hown q2
        go_wp2_with fail
        refine (HLK.out _).mono ?_
        rintro e w3 ⟨rfl, hb3⟩
        obtain ⟨a3, cp3, w4, hrun, hown1, hb4, _⟩ := push_str W0.heap.size _ _ (cellK p) 9 w3 W0 W0.heap.size (k + 1) htk (own_below HO.out hb3) (by omega) (Nat.le_trans HBW.out.size hb3.size) (Nat.le_refl _) (Below.next HBW.out hb3)
        rw [← HS.out] at hown1
        have HO4 := hide hown1
        have HB4 := hide hb4
        obtain ⟨cc2, hcc2⟩ : ∃ cc, cc = cellK p := ⟨_, rfl⟩
        rw [← hcc2] at hrun ⊢
        clear hown1 hb4 hb3 HLK HS HBW HO htk hcc2 c1 c2
        go_wp2_with (first | (at_builtin; have h0 := hrun; clear hrun; refine wpList_append_run 25 rfl (.tmp 24) (.tmp 27) rfl rfl _ _ rfl rfl _ _ h0 ?_; clear h0))
        go_wp2
        go_roundw
        case rel => exact ⟨k + 1, by omega, by go_num, HO4.out, HB4.out⟩
        case measure => simp [intOf]; omega
      · have hkn : k = n := by omega
        have hall : l.take k = l := by rw [List.take_of_length_le]; have := HN.out; omega
        rw [hall] at hown
        have hs := (rowR_of_owns hown).strs
        have HLY := hide (lay_any A _ (cellsK (m : Int) l) wr (by have := HSZ.out; omega) hs ((HE.out.below hbw).1.weak (by decide)))
        have HBW := hide (Below.next HQ.out hbw)
        have hltI : ¬ (k : Int) < (n : Int) := by omega
        clear hbw hown hkn hs hall htk
        go_wp2_with fail
        refine HLY.out.mono ?_
        rintro e w3 ⟨hv, hb3⟩
        have hv2 : e = .returned (.tuple #[.string (encK (m : Int) l), .nilIface]) := by
          rcases hv with ⟨_, h⟩ | ⟨h, _⟩
          · exact h
          · exact absurd HSZ.out h
        subst hv2
        have HB3 := hide (Below.next HBW.out hb3)
        clear hv hb3 HLY
        go_wp2
        go_ret2
        exact ⟨.inl ⟨HV.out, rfl⟩, HB3.out⟩

end Go.Proofs.YtagldlchamlpdabDoor
