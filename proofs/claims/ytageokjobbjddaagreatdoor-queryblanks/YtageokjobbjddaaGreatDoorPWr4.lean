import Derived.Test.YtageokjobbjddaaGreatDoorPWr3
import Derived.Test.YtageokjobbjddaaGreatDoorPLay
namespace Go.Proofs.YtageokjobbjddaaGreatDoor
open Go.RowKit

abbrev PowAt (base : Nat) (w : World) : Prop := Lib.TabBelow Tryz.prog base w "internal/strconv.uint64pow10" .u64 Lib.pow10Tab
theorem byteCells_eq (l : List UInt8) : Lib.byteCells l = u8s l := rfl
theorem pappint_any (n : Int) (o : List UInt8) (v : Value) (base : Nat) (w : World) (h0 : -9223372036854775808 ≤ n) (h1 : n ≤ 9223372036854775807) (hv : Byt w base v o) (hbase : base ≤ w.heap.size) (hlen : o.length ≤ 100000000000000) (ht : PowAt base w) :
    Calls Tryz.prog 28 #[v, .int .i64 n, .int .i64 10] w fun e w' => WrP w base (o ++ Lib.itoa n) e w' := by
  refine (Any.strconv_AppendInt_10 Tryz.lays176 base o.length n h0 h1 v (u8s o) w hv hbase (by omega) ht).mono ?_
  rintro e w' ⟨v', rfl, hown, hb, hoth⟩
  rw [byteCells_eq, ← u8s_append] at hown
  have hl : o.length + (Lib.itoa n).length = (o ++ Lib.itoa n).length := by rw [List.length_append]
  rw [hl] at hown
  have hown : Byt w' base v' (o ++ Lib.itoa n) := hown
  obtain ⟨a, c, rfl⟩ := hown.form
  exact ⟨a, c, rfl, hown, ⟨hb, hoth⟩⟩
theorem WrP.since {w W : World} {base : Nat} {t : List UInt8} {e : Ending} {w' : World} (h : WrP W base t e w') (hb : Gr base w W) : WrP w base t e w' := by
  obtain ⟨a, c, h1, h2, h3⟩ := h
  exact ⟨a, c, h1, h2, hb.trans h3⟩
set_option maxRecDepth 100000 in
theorem pflag_any (n : Int) (w : World) : Calls Tryz.prog 60 #[.int .i64 n] w fun e w' => e = .returned (.string (if n = 0 then ⟨#[102, 97, 108, 115, 101]⟩ else ⟨#[116, 114, 117, 101]⟩)) ∧ w = w' := by
  by_cases h : n = 0
  · subst h
    rw [if_pos rfl]
    go_enter Tryz.func60, Tryz.ntmps60
    go_wp2
    go_ret
    exact ⟨rfl, rfl⟩
  · rw [if_neg h]
    have hb : (n == 0) = false := by simp [h]
    clear h
    go_enter Tryz.func60, Tryz.ntmps60
    go_wp2
    go_ret
    exact ⟨rfl, rfl⟩
/-- appendList of lists that rec finds nothing wrong with. -/
def AppL (rec : List It → Nat) : Prop := ∀ (l : List It) (lv : Value) (o : List UInt8) (v : Value) (base : Nat) (w : World), rec l = 0 → ItsAt w (fun g => g < base) lv l → Byt w base v o → base ≤ w.heap.size → cntL l ≤ 16777216 → o.length + 27 * cntL l + 27 ≤ 90000000000000 → PowAt base w →
    Calls Tryz.prog 62 #[v, lv] w fun e w' => WrP w base (o ++ (91 :: (listL l ++ [93]))) e w'
set_option maxHeartbeats 4000000 in
set_option maxRecDepth 100000 in
theorem papi_any (rec : List It → Nat) (ih : AppL rec) (x : It) (u : Value) (o : List UInt8) (v : Value) (base : Nat) (w : World) (hx : oneF rec x = 0) (hok : x.Ok) (hu : ItsAt w (fun g => g < base) u x.list) (hv : Byt w base v o) (hbase : base ≤ w.heap.size) (hcnt : x.cnt ≤ 16777216) (hlen : o.length + 27 * x.cnt ≤ 90000000000000) (ht : PowAt base w) :
    Calls Tryz.prog 42 #[v, .agg #[.int .i64 x.kind, .int .i64 x.num, .string x.text, u]] w fun e w' => WrP w base (o ++ itemL x) e w' := by
  obtain ⟨hfit, hrec⟩ := oneF_zero hx
  obtain ⟨va, vc, hf⟩ := hv.form
  subst hf
  have hce := It.cnt_eq x
  rw [hce] at hcnt hlen
  rcases fits_cases hfit with rfl | rfl | rfl | ⟨n, rfl⟩ | ⟨tx, rfl⟩ | ⟨l, rfl⟩
  · simp only [It.kind, It.num, It.text, It.list] at hok hu hcnt hlen hrec ⊢
    obtain ⟨ua, uc, huf⟩ := hu.form
    replace huf : u = .slice ua 0 uc := huf
    subst huf
    have q1 := below_new w (.cells #[.int .i64 1, .int .i64 0, .string ⟨#[]⟩, .slice ua 0 uc] 32)
    have HQ1 := hide (Gr.of q1 hbase)
    have hb1 := hv.keep q1
    have hs1 : base ≤ (w.alloc (.cells #[.int .i64 1, .int .i64 0, .string ⟨#[]⟩, .slice ua 0 uc] 32)).heap.size := Nat.le_trans hbase q1.size
    have e : itemL (.mk 1 0 ⟨#[]⟩ []) = [110, 117, 108, 108] := by simp [itemL]
    rw [e]
    obtain ⟨a3, c3, w3, hr3, hb3, hbl3⟩ := byt_str hb1 ⟨#[110, 117, 108, 108]⟩ [110, 117, 108, 108] rfl (by simp; omega) hs1
    have HR3 := hide hr3
    have HB3 := hide hb3
    have HBL3 := hide hbl3
    generalize o ++ [110, 117, 108, 108] = t3 at *
    clear hr3 hb3 hbl3 hb1 hs1 q1 hu hv
    go_enter Tryz.func42, Tryz.ntmps42
    go_wp2_with (first
      | (at_builtin; refine wpList_append_run2 48 9 rfl _ _ rfl rfl _ _ rfl rfl _ _ HR3.out ?_)
      | fail)
    go_ret
    exact ⟨a3, c3, rfl, HB3.out, HQ1.out.trans HBL3.out⟩
  · simp only [It.kind, It.num, It.text, It.list] at hok hu hcnt hlen hrec ⊢
    obtain ⟨ua, uc, huf⟩ := hu.form
    replace huf : u = .slice ua 0 uc := huf
    subst huf
    have q1 := below_new w (.cells #[.int .i64 2, .int .i64 0, .string ⟨#[]⟩, .slice ua 0 uc] 32)
    have HQ1 := hide (Gr.of q1 hbase)
    have hb1 := hv.keep q1
    have hs1 : base ≤ (w.alloc (.cells #[.int .i64 2, .int .i64 0, .string ⟨#[]⟩, .slice ua 0 uc] 32)).heap.size := Nat.le_trans hbase q1.size
    have e : itemL (.mk 2 0 ⟨#[]⟩ []) = [102, 97, 108, 115, 101] := by simp [itemL]
    rw [e]
    obtain ⟨a3, c3, w3, hr3, hb3, hbl3⟩ := byt_str hb1 ⟨#[102, 97, 108, 115, 101]⟩ [102, 97, 108, 115, 101] rfl (by simp; omega) hs1
    have HFL := hide (pflag_any 0 (w.alloc (.cells #[.int .i64 2, .int .i64 0, .string ⟨#[]⟩, .slice ua 0 uc] 32)))
    rw [if_pos rfl] at HFL
    have HR3 := hide hr3
    have HB3 := hide hb3
    have HBL3 := hide hbl3
    generalize o ++ [102, 97, 108, 115, 101] = t3 at *
    clear hr3 hb3 hbl3 hb1 hs1 q1 hu hv
    go_enter Tryz.func42, Tryz.ntmps42
    go_wp2_with (first
      | (go_at_call 60; refine HFL.out.mono ?_; rintro e w' ⟨rfl, rfl⟩)
      | (at_builtin; refine wpList_append_run2 48 9 rfl _ _ rfl rfl _ _ rfl rfl _ _ HR3.out ?_)
      | fail)
    go_ret
    exact ⟨a3, c3, rfl, HB3.out, HQ1.out.trans HBL3.out⟩
  · simp only [It.kind, It.num, It.text, It.list] at hok hu hcnt hlen hrec ⊢
    obtain ⟨ua, uc, huf⟩ := hu.form
    replace huf : u = .slice ua 0 uc := huf
    subst huf
    have q1 := below_new w (.cells #[.int .i64 2, .int .i64 1, .string ⟨#[]⟩, .slice ua 0 uc] 32)
    have HQ1 := hide (Gr.of q1 hbase)
    have hb1 := hv.keep q1
    have hs1 : base ≤ (w.alloc (.cells #[.int .i64 2, .int .i64 1, .string ⟨#[]⟩, .slice ua 0 uc] 32)).heap.size := Nat.le_trans hbase q1.size
    have e : itemL (.mk 2 1 ⟨#[]⟩ []) = [116, 114, 117, 101] := by simp [itemL]
    rw [e]
    obtain ⟨a3, c3, w3, hr3, hb3, hbl3⟩ := byt_str hb1 ⟨#[116, 114, 117, 101]⟩ [116, 114, 117, 101] rfl (by simp; omega) hs1
    have HFL := hide (pflag_any 1 (w.alloc (.cells #[.int .i64 2, .int .i64 1, .string ⟨#[]⟩, .slice ua 0 uc] 32)))
    rw [if_neg (by decide)] at HFL
    have HR3 := hide hr3
    have HB3 := hide hb3
    have HBL3 := hide hbl3
    generalize o ++ [116, 114, 117, 101] = t3 at *
    clear hr3 hb3 hbl3 hb1 hs1 q1 hu hv
    go_enter Tryz.func42, Tryz.ntmps42
    go_wp2_with (first
      | (go_at_call 60; refine HFL.out.mono ?_; rintro e w' ⟨rfl, rfl⟩)
      | (at_builtin; refine wpList_append_run2 48 9 rfl _ _ rfl rfl _ _ rfl rfl _ _ HR3.out ?_)
      | fail)
    go_ret
    exact ⟨a3, c3, rfl, HB3.out, HQ1.out.trans HBL3.out⟩
  · simp only [It.kind, It.num, It.text, It.list] at hok hu hcnt hlen hrec ⊢
    obtain ⟨ua, uc, huf⟩ := hu.form
    replace huf : u = .slice ua 0 uc := huf
    subst huf
    have q1 := below_new w (.cells #[.int .i64 3, .int .i64 n, .string ⟨#[]⟩, .slice ua 0 uc] 32)
    have HQ1 := hide (Gr.of q1 hbase)
    have hb1 := hv.keep q1
    have hs1 : base ≤ (w.alloc (.cells #[.int .i64 3, .int .i64 n, .string ⟨#[]⟩, .slice ua 0 uc] 32)).heap.size := Nat.le_trans hbase q1.size
    have e : itemL (.mk 3 n ⟨#[]⟩ []) = Lib.itoa n := by simp [itemL]
    rw [e]
    have HCL := hide (pappint_any n o (.slice va o.length vc) base _ hok.n1 hok.n2 hb1 hs1 (by omega) (ht.on HQ1.out.bel))
    generalize o ++ Lib.itoa n = t3 at *
    clear hb1 hs1 q1 hu hv
    go_enter Tryz.func42, Tryz.ntmps42
    go_wp2_with fail
    refine HCL.out.mono ?_
    rintro e w2 ⟨a3, c3, rfl, hb3, hbl3⟩
    have HB3 := hide hb3
    have HBL3 := hide hbl3
    clear hb3 hbl3 HCL
    go_wp2
    go_ret
    exact ⟨a3, c3, rfl, HB3.out, HQ1.out.trans HBL3.out⟩
  · simp only [It.kind, It.num, It.text, It.list] at hok hu hcnt hlen hrec ⊢
    obtain ⟨ua, uc, huf⟩ := hu.form
    replace huf : u = .slice ua 0 uc := huf
    subst huf
    have q1 := below_new w (.cells #[.int .i64 4, .int .i64 0, .string tx, .slice ua 0 uc] 32)
    have HQ1 := hide (Gr.of q1 hbase)
    have hb1 := hv.keep q1
    have hs1 : base ≤ (w.alloc (.cells #[.int .i64 4, .int .i64 0, .string tx, .slice ua 0 uc] 32)).heap.size := Nat.le_trans hbase q1.size
    have e : itemL (.mk 4 0 tx []) = quotedL tx := by simp [itemL]
    rw [e]
    have HCL := hide (papt_any tx o (.slice va o.length vc) base _ (by omega) hb1 hs1 (by omega))
    generalize o ++ quotedL tx = t3 at *
    clear hb1 hs1 q1 hu hv
    go_enter Tryz.func42, Tryz.ntmps42
    go_wp2_with fail
    refine HCL.out.mono ?_
    rintro e w2 ⟨a3, c3, rfl, hb3, hbl3⟩
    have HB3 := hide hb3
    have HBL3 := hide hbl3
    clear hb3 hbl3 HCL
    go_wp2
    go_ret
    exact ⟨a3, c3, rfl, HB3.out, HQ1.out.trans HBL3.out⟩
  · simp only [It.kind, It.num, It.text, It.list] at hok hu hcnt hlen hrec ⊢
    obtain ⟨ua, uc, huf⟩ := hu.form
    subst huf
    have q1 := below_new w (.cells #[.int .i64 5, .int .i64 0, .string ⟨#[]⟩, .slice ua l.length uc] 32)
    have HQ1 := hide (Gr.of q1 hbase)
    have hb1 := hv.keep q1
    have hs1 : base ≤ (w.alloc (.cells #[.int .i64 5, .int .i64 0, .string ⟨#[]⟩, .slice ua l.length uc] 32)).heap.size := Nat.le_trans hbase q1.size
    have e : itemL (.mk 5 0 ⟨#[]⟩ l) = (91 :: (listL l ++ [93])) := by simp [itemL]
    rw [e]
    have HCL := hide (ih l (.slice ua l.length uc) o (.slice va o.length vc) base _ (by first | exact hrec rfl | exact hrec trivial) (ItsAt.keepB hu HQ1.out.bel) hb1 hs1 (by omega) (by omega) (ht.on HQ1.out.bel))
    generalize o ++ (91 :: (listL l ++ [93])) = t3 at *
    clear hb1 hs1 q1 hu hv
    go_enter Tryz.func42, Tryz.ntmps42
    go_wp2_with fail
    refine HCL.out.mono ?_
    rintro e w2 ⟨a3, c3, rfl, hb3, hbl3⟩
    have HB3 := hide hb3
    have HBL3 := hide hbl3
    clear hb3 hbl3 HCL
    go_wp2
    go_ret
    exact ⟨a3, c3, rfl, HB3.out, HQ1.out.trans HBL3.out⟩
end Go.Proofs.YtageokjobbjddaaGreatDoor
