import Derived.Test.YtpeobpmooledaaaDoorSRHead2
import Derived.Test.YtpeobpmooledaaaDoorGQ
import Derived.Test.YtpeobpmooledaaaDoorGR
import Derived.Deep.RegionHeld3
import Derived.Laws.ResultCell
namespace Go.Proofs.YtpeobpmooledaaaDoor.S
open Go.RowKit

/-- What the bytes of a page could be of. -/
def parse (l : List UInt8) : Sh := ⟨(nums l 0 : Int), (nums l 2 : Int), nums l 3, (nums l 1 : Int), ⟨(l.drop 24).toArray⟩⟩
/-- When bytes are the page of that number. -/
def okRead (l : List UInt8) (id : Int) : Prop := l.length = 4096 ∧ (parse l).id = id ∧ May (parse l) ∧ page (parse l) = l
instance (l : List UInt8) (id : Int) : Decidable (okRead l id) := inferInstanceAs (Decidable (_ ∧ _))

/-- What Read answers. -/
def readV (a : Addr) (l : List UInt8) (id : Int) : Array Value := if okRead l id then #[.agg (parse l).cells.toArray, .nilIface] else #[.agg #[.int .i64 0, .int .i64 0, .int .u64 0, .int .i64 0, .string ⟨#[]⟩], .iface 101 (.pointer (some a))]
theorem readV_ok {a : Addr} {l : List UInt8} {id : Int} (h : okRead l id) : readV a l id = #[.agg #[.int .i64 (nums l 0 : Int), .int .i64 (nums l 2 : Int), .int .u64 (nums l 3 : Int), .int .i64 (nums l 1 : Int), .string ⟨(l.drop 24).toArray⟩], .nilIface] := by unfold readV; rw [if_pos h]; rfl
theorem readV_no {a : Addr} {l : List UInt8} {id : Int} (h : ¬ okRead l id) : readV a l id = #[.agg #[.int .i64 0, .int .i64 0, .int .u64 0, .int .i64 0, .string ⟨#[]⟩], .iface 101 (.pointer (some a))] := by unfold readV; rw [if_neg h]

theorem nums_lt (l : List UInt8) (k : Nat) : nums l k < 256 ^ width k := by
  have h := beNat_lt (sub l (place k) (width k))
  exact Nat.lt_of_lt_of_le h (Nat.pow_le_pow_right (by decide) (by simp [sub]; omega))
theorem nums0 (l : List UInt8) : nums l 0 < 256 := nums_lt l 0
theorem nums1 (l : List UInt8) : nums l 1 < 65536 := nums_lt l 1
theorem nums2 (l : List UInt8) : nums l 2 < 4294967296 := nums_lt l 2
theorem nums3 (l : List UInt8) : nums l 3 < 18446744073709551616 := nums_lt l 3

theorem conv_body (g cap : Nat) (l : List UInt8) (W : World) (hl : l.length = 4096) (hc : ∀ j (h : j < l.length), W.cell? ⟨g, j, none⟩ = some (.int .u8 (l[j].toNat : Int))) :
    (convert 41 9 (.slice (some ⟨g, 24, none⟩) 4072 (cap - 24))).run Tryd.prog W = .ok (.string ⟨(l.drop 24).toArray⟩) W := by
  refine run_str W _ (l.drop 24) ⟨_, cap - 24, by rw [List.length_drop, hl], fun j hj => ⟨g, 24, rfl, ?_⟩⟩ (by rw [List.length_drop, hl]; decide)
  rw [hc (24 + j) (by rw [List.length_drop] at hj; omega), List.getElem_drop]

theorem results_row_tmp {P : Program} {fn : Func} {p u : Tmp} {ty : TypeId} (h : fn.results = #[.cell p ty, .tmp u]) (tmps : Array Value) (w : World) (g : Nat) (t : TypeId) (cs : Array Value) (fr : Nat × Nat) (d : TypeDesc)
    (hp : tmps.getD p undef = .pointer (some ⟨g, 0, none⟩)) (hg : w.heap[g]? = some (.cells cs t fr)) (hu : P.underlying ty = some d) (hd : (match d with | .struct _ | .array _ _ => true | _ => false) = true) (hi : (P.info? ty).map (·.size) = some cs.size) :
    (results fn tmps).run P w = .ok (.tuple #[.agg cs, tmps.getD u undef]) w := by
  rw [results_cell_tmp h tmps P w, hp]
  simp [asAddr, run_loadVar_row w g t ty cs fr d hg hu hd hi, Result.andThen]
theorem wrap_n (n : Nat) (h : n < 9223372036854775808) : IntKind.i64.wrap (n : Int) = (n : Int) := by
  rw [IntKind.wrap_i64]; omega
theorem set_five_drew {w : World} {b : Nat} {t : TypeId} {v0 v1 v2 v3 v4 u0 u1 u2 u3 u4 : Value} (h : w.heap[b]? = some (.cells #[v0, v1, v2, v3, v4] t (0, 0))) :
    (((((w.setCell ⟨b, 0, none⟩ u0).setCell ⟨b, 1, none⟩ u1).setCell ⟨b, 2, none⟩ u2).setCell ⟨b, 3, none⟩ u3).setCell ⟨b, 4, none⟩ u4).drew.heap[b]? = some (.cells #[u0, u1, u2, u3, u4] t (0, 0)) := by
  rw [World.drew_is_drewN, World.heap_drewN]; exact set_five h
theorem five_keep {w : World} {b b' o : Nat} {v u0 u1 u2 u3 u4 : Value} (hne : ¬ b' = b) (h : w.cell? ⟨b', o, none⟩ = some v) :
    (((((w.setCell ⟨b, 0, none⟩ u0).setCell ⟨b, 1, none⟩ u1).setCell ⟨b, 2, none⟩ u2).setCell ⟨b, 3, none⟩ u3).setCell ⟨b, 4, none⟩ u4).drew.cell? ⟨b', o, none⟩ = some v := by
  have hk : ∀ (w : World) (k : Nat) (u : Value), w.cell? ⟨b', o, none⟩ = some v → (w.setCell ⟨b, k, none⟩ u).cell? ⟨b', o, none⟩ = some v := fun w k u hw =>
    (World.cell?_of_block (a := ⟨b', o, none⟩) (Below.heap_setCell w ⟨b, k, none⟩ u b' (fun e => hne e))).trans hw
  rw [World.drew_is_drewN, World.cell?_drewN]
  exact hk _ _ _ (hk _ _ _ (hk _ _ _ (hk _ _ _ (hk _ _ _ h))))
theorem below_five {w w' : World} {b : Nat} {u0 u1 u2 u3 u4 : Value} (h : Below w.heap.size w w') (hb : w.heap.size ≤ b) : Below w.heap.size w (((((w'.setCell ⟨b, 0, none⟩ u0).setCell ⟨b, 1, none⟩ u1).setCell ⟨b, 2, none⟩ u2).setCell ⟨b, 3, none⟩ u3).setCell ⟨b, 4, none⟩ u4) :=
  ((((h.setCell hb _).setCell hb _).setCell hb _).setCell hb _).setCell hb _

end Go.Proofs.YtpeobpmooledaaaDoor.S
