import Derived.Test.YtocfedakjcghnaaDoorRows
import Derived.Test.YtocfedakjcghnaaDoorErrs
import Derived.Test.YtocfedakjcghnaaDoorRowR
import Derived.ProofKit
import Derived.LaidMore
import Derived.LaidSub
import Derived.Lay
import Derived.OpenShut
import Derived.Stop.Joined
import Derived.Lib.LaidTab
import Derived.Lib.SmallJoins
import Derived.SizedLaws
import Derived.Deep.Slices
namespace Go.Proofs.YtocfedakjcghnaaDoor
open Go.ChangeShapes Go.WideShapes Go.ChangeAt Go.WideMaps Go.WideElems Go.RowKit Go.Joins

theorem own : ownKnob Tryd.prog.godebug = none := by kernel_rfl
theorem laidOut : laidOutB Tryd.prog = true := by kernel_rfl
theorem cellsInt : Tryd.prog.cellsOf 3 = 1 := by kernel_rfl
theorem bytesInt : Tryd.prog.bytesOf 3 = 8 := by kernel_rfl
theorem cells9 : Tryd.prog.cellsOf 9 = 1 := by kernel_rfl
theorem bytes9 : Tryd.prog.bytesOf 9 = 16 := by kernel_rfl
theorem reach_val : reachBytes = 140737488351232 := rfl

def err4L : List (String × List UInt8) := [("copse/api.ErrArg", errText Rows.laid_copse_api_ErrArg), ("copse/api.ErrText", errText Rows.laid_copse_api_ErrText), ("copse/api.ErrMany", errText Rows.laid_copse_api_ErrMany), ("copse/api.ErrShort", errText Rows.laid_copse_api_ErrShort)]
theorem err4L_eq : err4L.map mkErr ++ [] = [("copse/api.ErrArg", Rows.laid_copse_api_ErrArg), ("copse/api.ErrText", Rows.laid_copse_api_ErrText), ("copse/api.ErrMany", Rows.laid_copse_api_ErrMany), ("copse/api.ErrShort", Rows.laid_copse_api_ErrShort)] := rfl
theorem err4L_all : ((List.range 4).all fun i => match err4L[i]? with
    | some x => (Tryd.prog.globalNamed x.1 == some (gAll i)) && ((Tryd.prog.globals[gAll i]?).map (·.type) == some 26)
    | none => false) = true := by kernel_rfl
theorem err4L_glob : ∀ i x, err4L[i]? = some x → Tryd.prog.globalNamed x.1 = some (gAll i) ∧ (Tryd.prog.globals[gAll i]?).map (·.type) = some 26 := by
  intro i x hx
  have hi : i < 4 := by
    rcases Nat.lt_or_ge i 4 with h | h
    · exact h
    · rw [List.getElem?_eq_none (by exact h)] at hx; cases hx
  have h := List.all_eq_true.1 err4L_all i (List.mem_range.2 hi)
  rw [hx] at h
  simpa using h
def isErr4 (x : String × DataW Unit) : Bool := x.1 == "copse/api.ErrArg" || x.1 == "copse/api.ErrText" || x.1 == "copse/api.ErrMany" || x.1 == "copse/api.ErrShort"
set_option maxRecDepth 100000 in
theorem err4_of_laid {W : World} (h : laidMet Tryd.prog [("copse/api.ErrArg", Rows.laid_copse_api_ErrArg), ("copse/api.ErrText", Rows.laid_copse_api_ErrText), ("copse/api.ErrMany", Rows.laid_copse_api_ErrMany), ("copse/api.ErrShort", Rows.laid_copse_api_ErrShort)] W) : ∃ A, ErrsG 4 gAll A W := by
  obtain ⟨A, hA, _⟩ := errs_of (rest := []) gAll (show err4L.length = 4 from rfl) err4L_glob (by rw [err4L_eq]; exact h)
  exact ⟨A, hA⟩

theorem weightsAll_mem {H : Type} {P : Program} {e : TypeId} : ∀ {l : List (DataW H)} {d : DataW H}, d ∈ l → ∀ n ∈ d.weights P e, n ∈ DataW.weightsAll P e l
  | d' :: r, d, hd, n, hn => by
    simp only [DataW.weightsAll, List.mem_append]
    rcases List.mem_cons.1 hd with rfl | h
    · exact Or.inl hn
    · exact Or.inr (weightsAll_mem h n hn)
theorem spot_none {W : World} {a : Addr} {v : Value} (h : W.cell? a = some v) : a = ⟨a.block, a.off, none⟩ := by
  have hsp : a.spot = none := by
    unfold World.cell? at h
    split at h
    · split at h
      · cases h
      · rename_i hs; simpa using hs
    · cases h
  cases a; simp at hsp; rw [hsp]

/-- A row of one cell an element that the argument holds. -/
theorem open_one {T H : Type} {enc : TypeId × Value → H} {W : World} {t e : TypeId} (hu : Tryd.prog.underlying t = some (.slice e)) (hc : Tryd.prog.cellsOf e = 1) (f : T → Value) (B : Nat → Prop)
    (fuel : Nat) (v : Value) (x : DataW H × List MemPlace) (h : DataW.trod enc Tryd.prog W 0 (fun _ => true) true fuel t [v] = some x)
    (hB : ∀ elems rest : List (DataW H), x.1 = .slice elems rest → B elems.length) (hB0 : B 0) (Q : T → DataW H → Prop)
    (each : ∀ k cs y, DataW.trod enc Tryd.prog W 0 (fun _ => true) true k e cs = some y → ∃ q : T, cs = [f q] ∧ Q q y.1) :
    ∃ l : List T, RowR W v (l.map f) ∧ B l.length ∧ ((l = [] ∧ x.1 = .nil) ∨ ∃ elems rest, x.1 = .slice elems rest ∧ elems.length = l.length ∧ ∀ i (h1 : i < l.length) (h2 : i < elems.length), Q l[i] elems[i]) := by
  rcases DataW.trod_slice hu h with ⟨h0, hx0⟩ | ⟨a, len, cap, elems, rest, n, hn, hv, hx, _, hl, hm, hlen, hel, _⟩
  · simp only [List.cons.injEq, and_true] at h0
    subst h0
    exact ⟨[], ⟨none, 0, rfl, Nat.le_refl _, fun _ => rfl, fun j u hj => by simp at hj⟩, hB0, .inl ⟨rfl, by rw [hx0]⟩⟩
  · simp only [List.cons.injEq, and_true] at hv
    subst hv hx hn
    have each' : ∀ i : Fin len, ∃ q : T, W.cell? (a.add i.1) = some (f q) ∧ ∀ (h2 : i.1 < elems.length), Q q elems[i.1].1 := fun i => by
      have h1 := hel i.1 i.2
      rw [hc, Nat.mul_one, List.getElem?_eq_getElem (by omega)] at h1
      obtain ⟨cs', h2, h3⟩ := Option.bind_eq_some_iff.1 h1
      obtain ⟨_, hcl, hcell⟩ := World.cells?_some h2
      obtain ⟨q, rfl, hq⟩ := each n cs' _ h3
      have := hcell 0 (by decide)
      refine ⟨q, ?_, fun _ => hq⟩
      have e0 : (a.add i.1).add 0 = a.add i.1 := by simp [Addr.add]
      rw [e0] at this
      exact this
    obtain ⟨g, hg⟩ := Classical.axiomOfChoice each'
    refine ⟨List.ofFn g, ⟨some a, cap, by simp, by simpa using hl, (fun h => (by cases h)), fun j u hj => ?_⟩, ?_, .inr ⟨elems.map (·.1), rest.map (·.1), rfl, by simp [hlen], fun i h1 h2 => ?_⟩⟩
    · have hj' : j < len := by simpa using (List.getElem?_eq_some_iff.1 hj).1
      have hcell := (hg ⟨j, hj'⟩).1
      have h00 := (hg ⟨0, by omega⟩).1
      have e0 : a.add 0 = a := by simp [Addr.add]
      rw [show ((⟨0, by omega⟩ : Fin len).1) = 0 from rfl, e0] at h00
      have ea := spot_none (a := a) h00
      refine ⟨a.block, a.off, congrArg some ea, ?_⟩
      have hu' : u = f (g ⟨j, hj'⟩) := by
        rw [List.getElem?_map, List.getElem?_ofFn, dif_pos hj'] at hj
        simpa using hj.symm
      rw [hu', ← hcell]
      conv => rhs; rw [ea, add_plain']
    · have := hB (elems.map (·.1)) (rest.map (·.1)) rfl
      rw [List.length_map, hlen] at this
      simpa using this
    · rw [List.length_ofFn] at h1
      simp only [List.getElem_ofFn, List.getElem_map]
      exact (hg ⟨i, h1⟩).2 (by omega)

set_option maxRecDepth 100000 in
theorem open_ints_c {H : Type} {enc : TypeId × Value → H} {W : World} (fuel : Nat) (v : Value) (x : DataW H × List MemPlace)
    (h : DataW.trod enc Tryd.prog W 0 (fun _ => true) true fuel 49 [v] = some x) (hw : ∀ z ∈ x.1.weights Tryd.prog 49, z ≤ reachBytes) :
    ∃ l : List Int, RowR W v (ints l) ∧ l.length ≤ 17592186043904 := by
  obtain ⟨l, hr, hb, _⟩ := open_one Tryd.underlying49 cellsInt (Value.int .i64) (fun n => n ≤ 17592186043904) fuel v x h (fun elems rest he => by
    rw [he] at hw
    have := hw ((elems.length + rest.length) * 8) (by
      simp only [DataW.weights, Tryd.underlying49, bytesInt]
      exact List.mem_cons_self)
    rw [reach_val] at this; omega) (Nat.zero_le _) (fun _ _ => True) (fun k cs y hy => by
      obtain ⟨k0, d0, rfl, w0⟩ := DataW.trod_int Tryd.underlying3 hy
      exact ⟨k0, d0, trivial⟩)
  exact ⟨l, hr, hb⟩

end Go.Proofs.YtocfedakjcghnaaDoor
