import Derived.Test.YtdacbajiapdiiabDoorCEvenC
namespace Go.Proofs.YtdacbajiapdiiabDoor
open Go.RowKit

set_option maxHeartbeats 400000 in
theorem evenS_any (A : Nat → Addr) (a : Option Addr) (n cap : Nat) (th : Int) (fv : Value) (w : World) (hn : (n : Int) < th) (_hm : n ≤ 17592186044416) (hE : ErrsG 4 gAll A w) :
    Calls Tryd.prog 62 #[.slice a n cap, .int .i64 th, fv] w fun e w' => e = .returned (.tuple #[.int .i64 0, .iface 128 (.pointer (some (A 3)))]) ∧ Below w.heap.size w w' := by
  have c0 : w.cell? ⟨3, 0, none⟩ = some (.iface 128 (.pointer (some (A 3)))) := (hE.1 3 (by decide)).1
  clear hE
  go_enter Tryd.func62, Tryd.ntmps62
  go_wp2
  go_quiet (fail)
  go_wp2
  go_ret2
  exact ⟨rfl, below_drewN' (Below.refl _ _) _⟩

/-- What Cut and Pivot answer. -/
def CutV (A : Nat → Addr) (th : Nat) (f : Nat → Nat) (l : List Int) (e : Ending) : Prop :=
  (l.length < th ∧ e = .returned (.tuple #[.int .i64 0, .iface 128 (.pointer (some (A 3)))])) ∨ (th ≤ l.length ∧ ¬ FineL l ∧ e = .returned (.tuple #[.int .i64 0, .iface 128 (.pointer (some (A 0)))])) ∨
    (th ≤ l.length ∧ FineL l ∧ ∃ i : Nat, e = .returned (.tuple #[.int .i64 (i : Int), .nilIface]) ∧ IsBest f (l.length - (th - 1)) i)

set_option maxHeartbeats 400000 in
theorem cut_any (A : Nat → Addr) (v : Value) (l : List Int) (w : World) (hm : l.length ≤ 17592186044416) (hr : IntR w v l) (hE : ErrsG 4 gAll A w) :
    Calls Tryd.prog 43 #[v] w fun e w' => CutV A 2 (gapC l) l e ∧ Below w.heap.size w w' := by
  obtain ⟨a, cap, rfl, hcap, hc⟩ := hr
  have H : Hid (Calls Tryd.prog 62 #[.slice a l.length cap, .int .i64 2, .func (.func 63) #[] #[]] w fun e w' => ∃ x y, e = .returned (.tuple #[x, y]) ∧ CutV A 2 (gapC l) l (.returned (.tuple #[x, y])) ∧ Below w.heap.size w w') := by
    by_cases hs : l.length < 2
    · refine (evenS_any A a l.length cap 2 _ w (by omega) hm hE).mono ?_
      rintro e w' ⟨rfl, hb⟩
      exact ⟨_, _, rfl, .inl ⟨hs, rfl⟩, hb⟩
    · obtain ⟨g, o, rfl, _⟩ := hc 0 (by omega)
      refine (evenC_any A g o cap (l.length - 1) l.length l w hm (by omega) (by omega) rfl hcap hE (fun j h => by obtain ⟨g', o', he, hcell⟩ := hc j h; cases he; exact hcell)).mono ?_
      rintro e w' ⟨⟨hf, i, rfl, hi⟩ | ⟨hf, rfl⟩, hb⟩
      · exact ⟨_, _, rfl, .inr (.inr ⟨by omega, hf, i, rfl, hi⟩), hb⟩
      · exact ⟨_, _, rfl, .inr (.inl ⟨by omega, hf, rfl⟩), hb⟩
  clear hc hE hcap
  go_enter Tryd.func43, Tryd.ntmps43
  go_wp2_with (go_at_call 62; refine H.out.mono ?_; rintro e w' ⟨x, y, rfl, hv, hb⟩; have HV := hide hv; clear hv)
  go_ret2
  exact ⟨HV.out, hb⟩

theorem errs_below {n : Nat} {G : Nat → Nat} {A : Nat → Addr} {w w' : World} (h : ErrsG n G A w) (hb : Below w.heap.size w w') : ErrsG n G A w' := ErrsG.keep h hb

end Go.Proofs.YtdacbajiapdiiabDoor
