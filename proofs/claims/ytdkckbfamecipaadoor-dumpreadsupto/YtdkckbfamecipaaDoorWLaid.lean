import Derived.Test.YtdkckbfamecipaaDoorRows
import Derived.Test.YtdkckbfamecipaaDoorErrs
import Derived.Test.YtdkckbfamecipaaDoorWWords
import Derived.ProofKit
import Derived.LaidMore
import Derived.LaidSub
import Derived.Lay
import Derived.OpenShut
import Derived.Stop.Joined
import Derived.Lib.LaidTab
import Derived.Lib.SmallJoins
import Derived.SizedLaws
import Derived.Deep.Slices
namespace Go.Proofs.YtdkckbfamecipaaDoor
open Go.ChangeShapes Go.WideShapes Go.ChangeAt Go.WideMaps Go.WideElems Go.RowKit Go.Joins

theorem own : ownKnob Tryd.prog.godebug = none := by kernel_rfl
theorem laidOut : laidOutB Tryd.prog = true := by kernel_rfl
theorem cells9 : Tryd.prog.cellsOf 9 = 1 := by kernel_rfl
theorem bytes9 : Tryd.prog.bytesOf 9 = 16 := by kernel_rfl
theorem reach_val : reachBytes = 140737488351232 := rfl

def err13L : List (String × List UInt8) := [("copse/api.ErrArg", errText Rows.laid_copse_api_ErrArg), ("copse/api.ErrText", errText Rows.laid_copse_api_ErrText), ("copse/api.ErrMany", errText Rows.laid_copse_api_ErrMany), ("copse/api.ErrShort", errText Rows.laid_copse_api_ErrShort), ("copse/api.ErrTwice", errText Rows.laid_copse_api_ErrTwice), ("copse/api.ErrLost", errText Rows.laid_copse_api_ErrLost), ("copse/api.ErrFull", errText Rows.laid_copse_api_ErrFull), ("copse/api.ErrDead", errText Rows.laid_copse_api_ErrDead), ("copse/api.ErrCorrupt", errText Rows.laid_copse_api_ErrCorrupt), ("copse/api.ErrStatus", errText Rows.laid_copse_api_ErrStatus), ("copse/api.ErrTxid", errText Rows.laid_copse_api_ErrTxid), ("copse/api.ErrOrder", errText Rows.laid_copse_api_ErrOrder), ("copse/api.ErrKind", errText Rows.laid_copse_api_ErrKind)]
theorem err13L_eq : err13L.map mkErr ++ [] = [("copse/api.ErrArg", Rows.laid_copse_api_ErrArg), ("copse/api.ErrText", Rows.laid_copse_api_ErrText), ("copse/api.ErrMany", Rows.laid_copse_api_ErrMany), ("copse/api.ErrShort", Rows.laid_copse_api_ErrShort), ("copse/api.ErrTwice", Rows.laid_copse_api_ErrTwice), ("copse/api.ErrLost", Rows.laid_copse_api_ErrLost), ("copse/api.ErrFull", Rows.laid_copse_api_ErrFull), ("copse/api.ErrDead", Rows.laid_copse_api_ErrDead), ("copse/api.ErrCorrupt", Rows.laid_copse_api_ErrCorrupt), ("copse/api.ErrStatus", Rows.laid_copse_api_ErrStatus), ("copse/api.ErrTxid", Rows.laid_copse_api_ErrTxid), ("copse/api.ErrOrder", Rows.laid_copse_api_ErrOrder), ("copse/api.ErrKind", Rows.laid_copse_api_ErrKind)] := rfl
theorem err13L_all : ((List.range 13).all fun i => match err13L[i]? with
    | some x => (Tryd.prog.globalNamed x.1 == some (gAll i)) && ((Tryd.prog.globals[gAll i]?).map (·.type) == some 26)
    | none => false) = true := by kernel_rfl
theorem err13L_glob : ∀ i x, err13L[i]? = some x → Tryd.prog.globalNamed x.1 = some (gAll i) ∧ (Tryd.prog.globals[gAll i]?).map (·.type) = some 26 := by
  intro i x hx
  have hi : i < 13 := by
    rcases Nat.lt_or_ge i 13 with h | h
    · exact h
    · rw [List.getElem?_eq_none (by exact h)] at hx; cases hx
  have h := List.all_eq_true.1 err13L_all i (List.mem_range.2 hi)
  rw [hx] at h
  simpa using h
def isErr13 (x : String × DataW Unit) : Bool := x.1 == "copse/api.ErrArg" || x.1 == "copse/api.ErrText" || x.1 == "copse/api.ErrMany" || x.1 == "copse/api.ErrShort" || x.1 == "copse/api.ErrTwice" || x.1 == "copse/api.ErrLost" || x.1 == "copse/api.ErrFull" || x.1 == "copse/api.ErrDead" || x.1 == "copse/api.ErrCorrupt" || x.1 == "copse/api.ErrStatus" || x.1 == "copse/api.ErrTxid" || x.1 == "copse/api.ErrOrder" || x.1 == "copse/api.ErrKind"
set_option maxRecDepth 100000 in
theorem err13_of_laid {W : World} (h : laidMet Tryd.prog [("copse/api.ErrArg", Rows.laid_copse_api_ErrArg), ("copse/api.ErrText", Rows.laid_copse_api_ErrText), ("copse/api.ErrMany", Rows.laid_copse_api_ErrMany), ("copse/api.ErrShort", Rows.laid_copse_api_ErrShort), ("copse/api.ErrTwice", Rows.laid_copse_api_ErrTwice), ("copse/api.ErrLost", Rows.laid_copse_api_ErrLost), ("copse/api.ErrFull", Rows.laid_copse_api_ErrFull), ("copse/api.ErrDead", Rows.laid_copse_api_ErrDead), ("copse/api.ErrCorrupt", Rows.laid_copse_api_ErrCorrupt), ("copse/api.ErrStatus", Rows.laid_copse_api_ErrStatus), ("copse/api.ErrTxid", Rows.laid_copse_api_ErrTxid), ("copse/api.ErrOrder", Rows.laid_copse_api_ErrOrder), ("copse/api.ErrKind", Rows.laid_copse_api_ErrKind)] W) : ∃ A, ErrsG 13 gAll A W := by
  obtain ⟨A, hA, _⟩ := errs_of (rest := []) gAll (show err13L.length = 13 from rfl) err13L_glob (by rw [err13L_eq]; exact h)
  exact ⟨A, hA⟩


def SynL : List (String × List UInt8) := [("strconv.ErrSyntax", errText Rows.laid_strconv_ErrSyntax)]
theorem SynL_eq : SynL.map mkErr ++ [] = [("strconv.ErrSyntax", Rows.laid_strconv_ErrSyntax)] := rfl
theorem SynL_all : ((List.range 1).all fun i => match SynL[i]? with
    | some x => (Tryd.prog.globalNamed x.1 == some 19) && ((Tryd.prog.globals[(19 : Nat)]?).map (·.type) == some 26)
    | none => false) = true := by kernel_rfl
theorem SynL_glob : ∀ (i : Nat) (x : String × List UInt8), SynL[i]? = some x → Tryd.prog.globalNamed x.1 = some 19 ∧ (Tryd.prog.globals[(19 : Nat)]?).map (·.type) = some 26 := by
  intro i x hx
  have hi : i < 1 := by
    rcases Nat.lt_or_ge i 1 with h | h
    · exact h
    · rw [List.getElem?_eq_none (by exact h)] at hx; cases hx
  have h := List.all_eq_true.1 SynL_all i (List.mem_range.2 hi)
  rw [hx] at h
  simpa using h
def isSyn (x : String × DataW Unit) : Bool := x.1 == "strconv.ErrSyntax"
set_option maxRecDepth 100000 in
theorem Syn_of_laid {W : World} (h : laidMet Tryd.prog [("strconv.ErrSyntax", Rows.laid_strconv_ErrSyntax)] W) : ∃ p, W.cell? ⟨19, 0, none⟩ = some (.iface 107 (.pointer (some p))) := by
  obtain ⟨A, hA, _⟩ := errs_of (rest := []) (fun _ => 19) (show SynL.length = 1 from rfl) SynL_glob (by rw [SynL_eq]; exact h)
  exact ⟨A 0, (hA.1 0 (by decide)).1⟩

def TxtL : List (String × List UInt8) := [("copse/api.ErrText", errText Rows.laid_copse_api_ErrText)]
theorem TxtL_eq : TxtL.map mkErr ++ [] = [("copse/api.ErrText", Rows.laid_copse_api_ErrText)] := rfl
theorem TxtL_all : ((List.range 1).all fun i => match TxtL[i]? with
    | some x => (Tryd.prog.globalNamed x.1 == some 0) && ((Tryd.prog.globals[(0 : Nat)]?).map (·.type) == some 26)
    | none => false) = true := by kernel_rfl
theorem TxtL_glob : ∀ (i : Nat) (x : String × List UInt8), TxtL[i]? = some x → Tryd.prog.globalNamed x.1 = some 0 ∧ (Tryd.prog.globals[(0 : Nat)]?).map (·.type) = some 26 := by
  intro i x hx
  have hi : i < 1 := by
    rcases Nat.lt_or_ge i 1 with h | h
    · exact h
    · rw [List.getElem?_eq_none (by exact h)] at hx; cases hx
  have h := List.all_eq_true.1 TxtL_all i (List.mem_range.2 hi)
  rw [hx] at h
  simpa using h
def isTxt (x : String × DataW Unit) : Bool := x.1 == "copse/api.ErrText"
set_option maxRecDepth 100000 in
theorem Txt_of_laid {W : World} (h : laidMet Tryd.prog [("copse/api.ErrText", Rows.laid_copse_api_ErrText)] W) : ∃ p, W.cell? ⟨0, 0, none⟩ = some (.iface 107 (.pointer (some p))) := by
  obtain ⟨A, hA, _⟩ := errs_of (rest := []) (fun _ => 0) (show TxtL.length = 1 from rfl) TxtL_glob (by rw [TxtL_eq]; exact h)
  exact ⟨A 0, (hA.1 0 (by decide)).1⟩

theorem syn_at {W : World} {p : Addr} (h : W.cell? ⟨19, 0, none⟩ = some (.iface 107 (.pointer (some p)))) : SynAt W.heap.size W := ⟨World.block_lt_of_cell? W _ h, Nat.le_refl _, _, _, h⟩
theorem txt_at {W : World} {p : Addr} (h : W.cell? ⟨0, 0, none⟩ = some (.iface 107 (.pointer (some p)))) : TxtAt W.heap.size p W := ⟨World.block_lt_of_cell? W _ h, Nat.le_refl _, h⟩
set_option maxRecDepth 100000 in
theorem open_text {H : Type} {enc : TypeId × Value → H} {W : World} {r : Reach} {b0 : Nat} {v : Value} {d : DataW H} {p : List MemPlace} (hv : Value.okWide Tryd.prog W r b0 9 v)
    (h : DataW.Trod enc Tryd.prog W 0 (fun _ => true) true 9 v d p) (hb : Rows.uptoBulk d ≤ 1048576) : ∃ s : ByteArray, v = .string s ∧ s.size ≤ 1048576 := by
  obtain ⟨s, rfl⟩ : ∃ s, v = .string s := okWide_string Tryd.underlying9 hv
  obtain ⟨fuel, hf0⟩ := h
  obtain ⟨s', d0, hd, w0⟩ := DataW.trod_string Tryd.underlying9 hf0
  have he : [Value.string s] = [.string s'] := d0
  simp only [List.cons.injEq, Value.string.injEq, and_true] at he
  subst he
  refine ⟨s, rfl, ?_⟩
  simp only [Prod.mk.injEq] at hd
  rw [hd.1, Rows.uptoBulk] at hb
  rw [← bsize]; omega
end Go.Proofs.YtdkckbfamecipaaDoor
