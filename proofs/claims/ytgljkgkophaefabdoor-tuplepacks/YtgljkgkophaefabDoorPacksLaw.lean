import Derived.Test.YtgljkgkophaefabDoorRPack
import Derived.Test.YtgljkgkophaefabDoorReturned
import Derived.Test.YtgljkgkophaefabDoorErrsG
namespace Go.Proofs.YtgljkgkophaefabDoor
open Go.RowKit

set_option maxHeartbeats 1000000 in
theorem packs_any (A : Nat → Addr) (l : List It) (v : Value) (w : World) (hv : ItsAt w anyB v l) (he : ErrsAt 13 gAll A w) :
    Calls Tryd.prog 4 #[v] w fun e w' => e = .returned (.bool true) ∧ Below w.heap.size w w' := by
  have hlen := hv.len_le
  obtain ⟨va, vc, rfl⟩ := hv.form
  go_enter Tryd.func4, Tryd.ntmps4
  go_wp2_with fail
  refine (left_any _ l 16777216 _ w (Nat.le_refl _) hv (by omega) (by omega)).mono ?_
  rintro e w1 ⟨m, rfl, -, hm, hm1, hm2, hb1⟩
  by_cases h0 : m < 0
  · clear hm
    go_wp2_with fail
    go_ret
    exact ⟨rfl, hb1⟩
  · have hcnt : cntL l ≤ 16777216 := by have := hm (by omega); omega
    have HE : Hid ((encL l).length ≤ 100000000000000) := by have := enc_le _ l (Nat.le_refl _); show _ ≤ _; omega
    clear hm hcnt
    go_wp2_with fail
    refine (lent_any l _ w1 (hv.keep hb1)).mono ?_
    rintro e w2 ⟨v2, rfl, hown2, hb2⟩
    have hb02 := Below.next hb1 hb2
    have hL : (l ++ List.replicate 4 mark).length = l.length + 4 := by simp
    obtain ⟨g, cap, rfl, hcap⟩ : ∃ g cap, v2 = .slice (some ⟨g, 0, none⟩) (l.length + 4) cap ∧ l.length + 4 ≤ cap := by
      obtain ⟨us, hus, how, hok, hin⟩ := hown2
      rw [hL] at how
      rcases how.2 with ⟨h', h0⟩ | ⟨g, cap, cur, h', _, _, hn, _⟩
      · omega
      · exact ⟨g, cap, h', hn⟩
    have hhead := hown2.head (cap' := cap) hlen
    have he2 := he.keep hb02
    have hv2 := hv.keep hb02
    have HW : Hid (ItsOwn w2 w1.heap.size (.slice (some ⟨g, 0, none⟩) (l.length + 4) cap) (l ++ List.replicate 4 mark)) := hown2
    clear hown2 hb1 hb2 hv hL
    have i1 : (0 : Int) ≤ (l.length : Int) := by omega
    have i2 : (l.length : Int) ≤ (cap : Int) := by omega
    have PK : Hid (Calls Tryd.prog 8 #[.slice (some ⟨g, 0, none⟩) l.length cap] w2 fun e w' => e = .returned (.tuple #[.string (packT l), errOf (A 0) (A 2) (packF l)]) ∧ Below w2.heap.size w2 w') := pack_any (A 0) (A 2) l _ w2 hhead.any he2.two (fun _ => HE.out)
    clear hhead
    go_wp2_with fail
    refine PK.out.mono ?_
    rintro e w3 ⟨rfl, hb3⟩
    have hb03 := Below.next hb02 hb3
    have he3 := he2.keep hb3
    have hv3 := hv2.keep hb3
    have HW3 : Hid (ItsOwn w3 w1.heap.size (.slice (some ⟨g, 0, none⟩) (l.length + 4) cap) (l ++ List.replicate 4 mark)) := HW.out.keep hb3
    clear HW PK hb02 hb3 he2 hv2
    have HK := packF_kinds l
    have RP : Hid (Calls Tryd.prog 14 #[.slice va l.length vc] w3 fun e w' => e = .returned (.tuple #[.string (packT l), .int .i64 (packF l : Nat)]) ∧ Below w3.heap.size w3 w') := rpack_any l _ w3 hv3 (fun _ => HE.out)
    generalize packT l = T at *
    generalize packF l = F at *
    go_wp2_with fail
    refine RP.out.mono ?_
    rintro e w4 ⟨rfl, hb4⟩
    have hb04 := Below.next hb03 hb4
    have he4 := he3.keep hb4
    have hv4 := hv3.keep hb4
    have HW4 : Hid (ItsOwn w4 w1.heap.size (.slice (some ⟨g, 0, none⟩) (l.length + 4) cap) (l ++ List.replicate 4 mark)) := HW3.out.keep hb4
    have NF : Hid (∀ w', ErrsAt 13 gAll A w' → Calls Tryd.prog 15 #[errOf (A 0) (A 2) F] w' fun e w'' => e = .returned (.int .i64 (F : Int)) ∧ w' = w'') := fun w' h => num_fault A w' h F HK
    clear HK HW3 RP hb03 hb4 he3 hv3
    generalize errOf (A 0) (A 2) F = ev at *
    go_wp2_with fail
    refine (NF.out _ he4).mono ?_
    rintro e w5 ⟨rfl, rfl⟩
    have RT : Hid (Calls Tryd.prog 16 #[.slice (some ⟨g, 0, none⟩) (l.length + 4) cap, .slice va l.length vc] w4 fun e w' => e = .returned (.bool true) ∧ Below w4.heap.size w4 w') := returned_any l g cap w1.heap.size _ w4 HW4.out hv4
    clear NF HW4 hv4 he4
    go_wp2_with fail
    refine RT.out.mono ?_
    rintro e w6 ⟨rfl, hb6⟩
    go_wp2_with fail
    go_ret
    exact ⟨rfl, Below.next hb04 hb6⟩

end Go.Proofs.YtgljkgkophaefabDoor
