import Derived.Test.YtpeobpmooledaaaDoorSPg
namespace Go.Proofs.YtpeobpmooledaaaDoor.S
open Go.RowKit

/-- Where the numbers of a head lie: the package's table. -/
def Lay (w : World) : Prop := 14 < w.heap.size ∧ w.cell? ⟨14, 0, none⟩ = some (.int .i64 0) ∧ w.cell? ⟨14, 1, none⟩ = some (.int .i64 1) ∧ w.cell? ⟨14, 2, none⟩ = some (.int .i64 2) ∧ w.cell? ⟨14, 3, none⟩ = some (.int .i64 2) ∧ w.cell? ⟨14, 4, none⟩ = some (.int .i64 4) ∧ w.cell? ⟨14, 5, none⟩ = some (.int .i64 4) ∧ w.cell? ⟨14, 6, none⟩ = some (.int .i64 8) ∧ w.cell? ⟨14, 7, none⟩ = some (.int .i64 8) ∧ w.cell? ⟨14, 8, none⟩ = some (.int .i64 16) ∧ w.cell? ⟨14, 9, none⟩ = some (.int .i64 4)
theorem Lay.below {w w' : World} (h : Lay w) (hb : Below w.heap.size w w') : Lay w' := by
  obtain ⟨h0, c0, c1, c2, c3, c4, c5, c6, c7, c8, c9⟩ := h
  exact ⟨Nat.lt_of_lt_of_le h0 hb.size, (hb.cell h0).trans c0, (hb.cell h0).trans c1, (hb.cell h0).trans c2, (hb.cell h0).trans c3, (hb.cell h0).trans c4, (hb.cell h0).trans c5, (hb.cell h0).trans c6, (hb.cell h0).trans c7, (hb.cell h0).trans c8, (hb.cell h0).trans c9⟩
theorem Lay.sole {rb : Nat} {w w' : World} (h : Lay w) (hb : Sole rb w w') (hn : 14 ≠ rb) : Lay w' := by
  obtain ⟨h0, c0, c1, c2, c3, c4, c5, c6, c7, c8, c9⟩ := h
  exact ⟨Nat.lt_of_lt_of_le h0 hb.size, hb.cell c0 hn, hb.cell c1 hn, hb.cell c2 hn, hb.cell c3 hn, hb.cell c4 hn, hb.cell c5 hn, hb.cell c6 hn, hb.cell c7 hn, hb.cell c8 hn, hb.cell c9 hn⟩

set_option maxHeartbeats 400000 in
theorem wh1_any (g hb o m k n cap : Nat) (l : List UInt8) (w : World) (hk : k < 5) (hn : n < 18446744073709551616) (h1 : 1 ≤ m) (h8 : m ≤ 8) (hfit : n < 2 ^ (8 * m)) (hr : RowB w g l) (hpl : o + m ≤ l.length)
    (hc : w.cell? ⟨hb, k, none⟩ = some (.int .u64 (n : Int))) :
    Calls Tryd.prog 65 #[.int .i64 (k : Int), .slice (some ⟨g, o, none⟩) m cap, .pointer (some ⟨hb, 0, none⟩)] w fun e w' => e = .returned (.tuple #[]) ∧ RowB w' g (splice l o (beBytes n m)) ∧ Sole g w w' := by
  have HR : Hid (RowB w g l) := hr
  have HP : Hid (o + m ≤ l.length) := hpl
  have HF : Hid (n < 2 ^ (8 * m)) := hfit
  have hl := beBytes_len n m h8
  have k0 : (0 : Int) ≤ (k : Int) := by omega
  have k5 : (k : Int) < 5 := by omega
  clear hr hpl hfit
  go_enter Tryd.func65, Tryd.ntmps65
  go_wp2_with (go_at_call 45; refine (put_ok n m _ hn h1 h8 HF.out).mono ?_; rintro e w1 ⟨g2, c2, rfl, hown, hb1⟩; have hr1 := HR.out.below hb1; obtain ⟨w2, hcp, hr2, hs2⟩ := copy_page (o2 := 0) (g2 := g2) (c2 := c2) (cap := cap) (c := beBytes n m) hr1 (fun j hj => by rw [Nat.zero_add, hown.cellAt j (by omega), u8s_get _ j hj]) (by rw [hl]; exact HP.out); rw [hl] at hcp; have HS : Hid (Sole g w w2) := (Sole.of_below hb1).trans hs2; have HR2 : Hid (RowB w2 g (splice l o (beBytes n m))) := hr2; clear hr1 hr2 hs2 hb1 hown)
  go_end0
  exact ⟨rfl, HR2.out, HS.out⟩

end Go.Proofs.YtpeobpmooledaaaDoor.S
