import Derived.Test.YtagldlchamlpdabDoorCEvenP
namespace Go.Proofs.YtagldlchamlpdabDoor
open Go.RowKit

set_option maxHeartbeats 400000 in
theorem evenS_any (A : Nat → Addr) (a : Option Addr) (n cap : Nat) (th : Int) (fv : Value) (w : World) (hn : (n : Int) < th) (_hm : n ≤ 17592186044416) (hE : ErrsG 4 gAll A w) :
    Calls Tryd.prog 70 #[.slice a n cap, .int .i64 th, fv] w fun e w' => e = .returned (.tuple #[.int .i64 0, .iface 167 (.pointer (some (A 3)))]) ∧ Below w.heap.size w w' := by
  have c0 : w.cell? ⟨3, 0, none⟩ = some (.iface 167 (.pointer (some (A 3)))) := (hE.1 3 (by decide)).1
  clear hE
  go_enter Tryd.func70, Tryd.ntmps70
  go_wp2
  go_quiet (fail)
  go_wp2
  go_ret2
  exact ⟨rfl, below_drewN' (Below.refl _ _) _⟩

/-- What Cut and Pivot answer. -/
def CutV (A : Nat → Addr) (th : Nat) (f : Nat → Nat) (l : List Int) (e : Ending) : Prop :=
  (l.length < th ∧ e = .returned (.tuple #[.int .i64 0, .iface 167 (.pointer (some (A 3)))])) ∨ (th ≤ l.length ∧ ¬ FineL l ∧ e = .returned (.tuple #[.int .i64 0, .iface 167 (.pointer (some (A 0)))])) ∨
    (th ≤ l.length ∧ FineL l ∧ ∃ i : Nat, e = .returned (.tuple #[.int .i64 (i : Int), .nilIface]) ∧ IsBest f (l.length - (th - 1)) i)

set_option maxHeartbeats 400000 in
theorem errs_below {n : Nat} {G : Nat → Nat} {A : Nat → Addr} {w w' : World} (h : ErrsG n G A w) (hb : Below w.heap.size w w') : ErrsG n G A w' := ErrsG.keep h hb

set_option maxHeartbeats 400000 in
theorem pivot_any (A : Nat → Addr) (v : Value) (l : List Int) (w : World) (hm : l.length ≤ 17592186044416) (hr : IntR w v l) (hE : ErrsG 4 gAll A w) :
    Calls Tryd.prog 41 #[v] w fun e w' => CutV A 3 (gapP l) l e ∧ Below w.heap.size w w' := by
  have hmf : ∀ (fn : Fn) (first cap : Array Value) (w : World), (Instr.makeFunc fn first cap).run Tryd.prog w = .ok (.func fn first cap) w := fun _ _ _ _ => rfl
  have hbn := below_new w (.cells #[v] 75)
  have hr2 := hr.below hbn
  obtain ⟨a, cap, rfl, hcap, _⟩ := hr
  obtain ⟨a', cap', hve, _, hc⟩ := hr2
  cases hve
  have hE2 := errs_below hE hbn
  have hB : (w.alloc (.cells #[.slice a l.length cap] 75)).cell? ⟨w.heap.size, 0, none⟩ = some (.slice a l.length cap) := (boxed_new w #[.slice a l.length cap] 75).2 0 (by simp)
  have HBN := hide hbn
  have H : Hid (Calls Tryd.prog 70 #[.slice a l.length cap, .int .i64 3, .func (.func 71) #[] #[.pointer (some ⟨w.heap.size, 0, none⟩)]] (w.alloc (.cells #[.slice a l.length cap] 75)) fun e w' => ∃ x y, e = .returned (.tuple #[x, y]) ∧ CutV A 3 (gapP l) l (.returned (.tuple #[x, y])) ∧ Below (w.alloc (.cells #[.slice a l.length cap] 75)).heap.size (w.alloc (.cells #[.slice a l.length cap] 75)) w') := by
    by_cases hs : l.length < 3
    · refine (evenS_any A a l.length cap 3 _ _ (by omega) hm hE2).mono ?_
      rintro e w' ⟨rfl, hb⟩
      exact ⟨_, _, rfl, .inl ⟨hs, rfl⟩, hb⟩
    · obtain ⟨g, o, rfl, _⟩ := hc 0 (by omega)
      refine (evenP_any A w.heap.size g o cap (l.length - 2) l.length l _ hm (by omega) (by omega) rfl hcap hE2 (fun j h => by obtain ⟨g', o', he, hcell⟩ := hc j h; cases he; exact hcell) hB).mono ?_
      rintro e w' ⟨⟨hf, i, rfl, hi⟩ | ⟨hf, rfl⟩, hb⟩
      · exact ⟨_, _, rfl, .inr (.inr ⟨by omega, hf, i, rfl, hi⟩), hb⟩
      · exact ⟨_, _, rfl, .inr (.inl ⟨by omega, hf, rfl⟩), hb⟩
  clear hc hE hcap hE2 hbn
  go_enter Tryd.func41, Tryd.ntmps41
  go_wp2_with (go_at_call 70; refine H.out.mono ?_; rintro e w' ⟨x, y, rfl, hv, hb⟩; have HV := hide hv; have HBB := hide (Below.next HBN.out hb); clear hv hb)
  go_ret2
  exact ⟨HV.out, HBB.out⟩

end Go.Proofs.YtagldlchamlpdabDoor
