import Derived.Test.YtagldlchamlpdaaDoorBKit
import Derived.Deep.RegionHeld3
namespace Go.Proofs.YtagldlchamlpdaaDoor
open Go.RowKit

def markK : Lk := (⟨#[109, 97, 114, 107]⟩, 77)
def marksK (n : Nat) : List Lk := List.replicate n markK
theorem marksK_len (n : Nat) : (marksK n).length = n := by simp [marksK]
theorem marksK_succ (n : Nat) : marksK (n + 1) = marksK n ++ [markK] := by simp [marksK, List.replicate_succ']

set_option maxRecDepth 20000 in
set_option maxHeartbeats 1000000 in
theorem lent_any (f : Int) (v : Value) (l : List Lk) (w : World) (hm : l.length ≤ 5864062014700) (hr : LkR w v l) :
    Calls Tryd.prog 16 #[.agg #[.int .i64 f, v]] w fun e w' => ∃ a c, e = .returned (.tuple #[.agg #[.int .i64 f, .slice a l.length c], .slice a (l.length + 4) c]) ∧ LkO w' w.heap.size (.slice a (l.length + 4) c) (l ++ marksK 4) ∧ Below w.heap.size w w' := by
  have hb1 := below_new w (.cells #[.int .i64 f, v] 27)
  have hx1 := RowAt.new w #[.int .i64 f, v] 27
  have hs1 : (w.alloc (.cells #[.int .i64 f, v] 27)).heap.size = w.heap.size + 1 := by simp
  have hb2 := below_new (w.alloc (.cells #[.int .i64 f, v] 27)) (.cells #[.int .i64 0, .slice none 0 0] 27)
  have hx2 := RowAt.new (w.alloc (.cells #[.int .i64 f, v] 27)) #[.int .i64 0, .slice none 0 0] 27
  rw [hs1] at hx2
  have HB := hide (Below.next hb1 hb2)
  have HX1 := hide (hx1.below hb2)
  have HX2 := hide hx2
  have HR := hide (hr.below (Below.next hb1 hb2))
  have hs2 : ((w.alloc (.cells #[.int .i64 f, v] 27)).alloc (.cells #[.int .i64 0, .slice none 0 0] 27)).heap.size = w.heap.size + 2 := by simp
  have HS2 := hide hs2
  obtain ⟨a1, c1, hv⟩ := hr.form
  subst hv
  have p1 := HX1.out.c1
  obtain ⟨n, hn⟩ : ∃ n, n = l.length := ⟨_, rfl⟩
  rw [← hn] at hm HB HX1 HX2 HR HS2 p1 ⊢
  have HN := hide hn
  generalize hW : (w.alloc (.cells #[.int .i64 f, .slice a1 n c1] 27)).alloc (.cells #[.int .i64 0, .slice none 0 0] 27) = W0 at *
  obtain ⟨ua, uc, w1, hrun, hown, hg⟩ := append_lks W0.heap.size _ _ [] l W0 (LkO.nil _ _) HR.out (by simp; omega) (Nat.le_refl _)
  have hb3 : Below W0.heap.size W0 w1 := (Below.refl _ _).grown hg (Nat.le_refl _) (fun k hk => by simp [Value.ownBlock] at hk)
  rw [List.length_nil, Nat.zero_add, ← hn] at hrun hown
  rw [List.nil_append] at hown
  have HO := hide hown
  have HB3 := hide hb3
  clear hb1 hb2 hx1 hx2 hs1 hs2 hr hown hg hb3 hn
  go_enter Tryd.func16, Tryd.ntmps16
  go_wp2_with (first | (at_builtin; refine wpList_append_run 25 rfl (.tmp 6) (.tmp 8) rfl rfl _ _ rfl rfl _ _ hrun ?_))
  clear hrun
  go_wp2
  go_loopw [4, 5] (fun u i wr => ∃ j : Nat, j ≤ 4 ∧ i = .int .i64 j ∧ LkO wr W0.heap.size u (l ++ marksK j) ∧ Below W0.heap.size W0 wr) (fun _ i _ => 4 - (intOf i).toNat)
  case atStart => exact ⟨0, Nat.zero_le _, rfl, by simpa [marksK] using HO.out, HB3.out⟩
  case round =>
    obtain ⟨j, hj, rfl, hown, hbw⟩ := hrel
    clear HO HB3
    have hlen : (l ++ marksK j).length = n + j := by rw [List.length_append, marksK_len, ← HN.out]
    obtain ⟨ua2, uc2, hu⟩ := hown.form
    rw [hlen] at hu
    subst hu
    by_cases hlt : j < 4
    · have hltI : (j : Int) < 4 := by omega
      obtain ⟨a3, cp3, w2, hrun, hown1, hb2, _⟩ := push_lks W0.heap.size _ _ markK 35 wr W0 W0.heap.size (n + j) hlen hown (by omega) hbw.size (Nat.le_refl _) hbw
      rw [List.append_assoc, ← marksK_succ] at hown1
      simp only [markK] at hrun
      have HO2 := hide hown1
      have HB2 := hide hb2
      clear hown hown1 hb2 hbw hlen p1
      go_wp2_with (first | (at_builtin; refine wpList_append_run 25 rfl (.tmp 14) (.tmp 16) rfl rfl _ _ rfl rfl _ _ hrun ?_))
      clear hrun
      go_wp2
      go_roundw
      case rel => exact ⟨j + 1, by omega, by go_num, HO2.out, HB2.out⟩
      case measure => simp [intOf]; omega
    · have hj4 : j = 4 := by omega
      subst hj4
      have hcap := hown.at.cap
      rw [hlen] at hcap
      have hx1 := HX1.out.below hbw
      have hx2 := HX2.out.below hbw
      have p0 := hx1.c0
      have p2 := hx1.c1
      have p3 := hx2.c0
      have p4 := hx2.c1
      have z3 := hx2.free 0
      have z4 := hx2.free 1
      have HOW := hide hown
      have HBW := hide hbw
      have HXX := hide hx2
      have hsl := fun W => slToK W ua2 (n + 4) uc2 n (by omega)
      clear hown hbw hx1 hx2 p1 hlen hW
      go_wp2_with fail
      go_region_held3 (fun w' => w'.cell? ⟨w.heap.size, 0, none⟩ = some (.int .i64 f) ∧ w'.cell? ⟨w.heap.size, 1, none⟩ = some (.slice a1 n c1)) (go_keep) (fail)
      clear p0 p2 p3 p4 z3 z4 hsl
      go_wp2_with fail
      refine bodyPost_ret (results_row_tmp rfl _ _ (w.heap.size + 1) 27 _ (0, 0) _ rfl (HXX.out.two _ _).drew Tryd.underlying27 rfl (by kernel_rfl)) rfl ⟨ua2, uc2, rfl, ?_, ?_⟩
      · exact ((HOW.out.put2 (by rw [HS2.out]; omega) _ _).mono HB.out.size).drew
      · exact below_drewB (below_two (Below.next HB.out HBW.out) (by omega))

end Go.Proofs.YtagldlchamlpdaaDoor
