import Derived.Test.YtageokjobbjddaaGreatDoorPRd4
namespace Go.Proofs.YtageokjobbjddaaGreatDoor
open Go.RowKit

/-! Items, as data of the tokens. -/
def itNull : It := .mk 1 0 ⟨#[]⟩ []
def iowD (x : ByteArray) : Option It :=
  if x = ⟨#[110, 117, 108, 108]⟩ then some (.mk 1 0 ⟨#[]⟩ []) else if x = ⟨#[102, 97, 108, 115, 101]⟩ then some (.mk 2 0 ⟨#[]⟩ []) else if x = ⟨#[116, 114, 117, 101]⟩ then some (.mk 2 1 ⟨#[]⟩ []) else none
/-- How much is left. -/
def rk (u : Pt × ByteArray) : Nat := u.2.size + (if u.1.kind = 0 then 0 else 1)
theorem rk_next (t : Pt) (s : ByteArray) (h : t.kind ≠ 0) : rk (nxtD s) < rk (t, s) := by
  have e : rk (t, s) = s.size + 1 := by simp [rk, h]
  rw [e]
  unfold nxtD
  rcases Nat.eq_zero_or_pos (trimD s).size with h0 | h0
  · rw [nil_size h0]
    have : rk (cutD ⟨#[]⟩) = 0 := by decide
    omega
  · have h1 := cutD_lt (trimD s) h0
    have h2 := trimD_le s
    unfold rk
    split <;> omega
abbrev St := Pt × ByteArray
def isM (x : ByteArray) (u : St) : Bool := justB 7 x u.1
def loopD (itm : St → Option (It × St)) : Nat → St → Option (List It × St)
  | 0, _ => none
  | n + 1, u => match itm u with
    | none => none
    | some (x, v) => if isM ⟨#[93]⟩ v = true then some ([x], nxtD v.2) else if isM ⟨#[44]⟩ v = true then (loopD itm n (nxtD v.2)).map fun p => (x :: p.1, p.2) else none
def listD (itm : St → Option (It × St)) (u : St) : Option (List It × St) := if isM ⟨#[93]⟩ u = true then some ([], nxtD u.2) else loopD itm (rk u + 1) u
def itemD : Nat → St → Option (It × St)
  | 0, u => if u.1.kind = 4 then some (.mk 3 u.1.num ⟨#[]⟩ [], nxtD u.2) else if u.1.kind = 5 then some (.mk 4 0 u.1.text [], nxtD u.2) else if u.1.kind = 2 then (iowD u.1.text).map fun x => (x, nxtD u.2) else none
  | r + 1, u => if u.1.kind = 4 then some (.mk 3 u.1.num ⟨#[]⟩ [], nxtD u.2) else if u.1.kind = 5 then some (.mk 4 0 u.1.text [], nxtD u.2) else if u.1.kind = 2 then (iowD u.1.text).map fun x => (x, nxtD u.2)
    else if isM ⟨#[91]⟩ u = true then (listD (itemD r) (nxtD u.2)).map fun p => (.mk 5 0 ⟨#[]⟩ p.1, p.2) else none
structure TokOk (t : Pt) : Prop where
  n1 : -9223372036854775808 ≤ t.num
  n2 : t.num ≤ 9223372036854775807
  t : t.text.size ≤ 140737488351232
theorem ItsAt.two {w w' : World} {F : Nat → Prop} {v : Value} {l : List It} {b g : Nat} (h : ItsAt w F v l) (hb : Two b g w w') (hf : ∀ k, F k → k ≠ b ∧ k ≠ g) : ItsAt w' F v l := by
  have cell : ∀ {k o : Nat} {u : Value}, F k → w.cell? ⟨k, o, none⟩ = some u → w'.cell? ⟨k, o, none⟩ = some u := fun {_k _o _u} hg hc =>
    (World.cell?_of_block (a := ⟨_k, _o, none⟩) (hb.block _k (World.block_lt_of_cell? w _ hc) (hf _k hg).1 (hf _k hg).2)).trans hc
  induction h with
  | mk a g off cap l vs hlen ha hok h0 h1 h2 h3 hin ih =>
    have hg : ∀ i, i < l.length → F g := fun i h => (ha (by omega)).2
    exact .mk a g off cap l vs hlen ha hok (fun i h => cell (hg i h) (h0 i h)) (fun i h => cell (hg i h) (h1 i h)) (fun i h => cell (hg i h) (h2 i h)) (fun i h => cell (hg i h) (h3 i h)) ih
theorem ItsOwn.two {w w' : World} {b g base : Nat} {v : Value} {l : List It} (h : ItsOwn w base v l) (hs : Two b g w w') (hb : b < base) (hg : g < base) : ItsOwn w' base v l := by
  obtain ⟨us, hus, how, hok, hin⟩ := h
  refine ⟨us, hus, ⟨how.1, ?_⟩, hok, fun i h h' => ((hin i h h').two hs (fun k hk => by have := hk.1; omega)).imp fun k hk => ⟨hk.1, hk.2.1, Nat.lt_of_lt_of_le hk.2.2 hs.size⟩⟩
  rcases how.2 with h' | ⟨k, cap, cur, h', h1, hk, hr⟩
  · exact .inl h'
  · exact .inr ⟨k, cap, cur, h', h1, (hs.block k (Array.getElem?_eq_some_iff.1 hk).1 (by omega) (by omega)).trans hk, hr⟩
abbrev itV (x : It) (u : Value) : Array Value := #[.int .i64 x.kind, .int .i64 x.num, .string x.text, u]
theorem store_it (w : World) (H : Nat) (a b c d : Value) (x : It) (la : Option Addr) (n k : Nat) (hr : RowAt w H #[a, b, c, d] 32) : (Instr.storeAt 32 (.pointer (some ⟨H, 0, none⟩)) (.agg (itV x (.slice la n k)))).run Tryz.prog w = .ok () (w.setRow H (itV x (.slice la n k))) := store_row w H 32 _ _ hr (by kernel_rfl) rfl (by simp [Value.oneCell'])
set_option maxHeartbeats 4000000 in
set_option maxRecDepth 100000 in
theorem piow_any (x : ByteArray) (w : World) :
    Calls Tryz.prog 92 #[.string x] w fun e w' => e = .returned (.tuple #[.agg (itV ((iowD x).getD (.mk 0 0 ⟨#[]⟩ [])) (.slice none 0 0)), .bool (iowD x).isSome]) ∧ Below w.heap.size w w' := by
  obtain ⟨r, hr⟩ : ∃ r, r = iowD x := ⟨_, rfl⟩
  rw [← hr]
  unfold iowD at hr
  by_cases h1 : x = ⟨#[110, 117, 108, 108]⟩
  · have hq : (x.toList == [110, 117, 108, 108]) = true := by rw [h1, ByteArray.toList_eq]; decide
    rw [if_pos h1] at hr
    have HE := hide hr
    clear hr h1
    go_enter Tryz.func92, Tryz.ntmps92
    go_wp2_with fail
    refine bodyPost_ret (results_row_tmp rfl _ _ w.heap.size 32 _ (0, 0) _ rfl (RowAt.new w _ 32) Tryz.underlying32 rfl (by kernel_rfl)) rfl ?_
    exact ⟨by rw [HE.out]; rfl, below_new w _⟩
  · have hq : (x.toList == [110, 117, 108, 108]) = false := by have h := str_ne h1; rwa [ByteArray.toList_eq ⟨#[110, 117, 108, 108]⟩] at h
    rw [if_neg h1] at hr
    clear h1
    by_cases h2 : x = ⟨#[102, 97, 108, 115, 101]⟩
    · have hq2 : (x.toList == [102, 97, 108, 115, 101]) = true := by rw [h2, ByteArray.toList_eq]; decide
      rw [if_pos h2] at hr
      have HE := hide hr
      clear hr h2
      go_enter Tryz.func92, Tryz.ntmps92
      go_wp2_with fail
      refine bodyPost_ret (results_row_tmp rfl _ _ w.heap.size 32 _ (0, 0) _ rfl (RowAt.new w _ 32) Tryz.underlying32 rfl (by kernel_rfl)) rfl ?_
      exact ⟨by rw [HE.out]; rfl, below_new w _⟩
    · have hq2 : (x.toList == [102, 97, 108, 115, 101]) = false := by have h := str_ne h2; rwa [ByteArray.toList_eq ⟨#[102, 97, 108, 115, 101]⟩] at h
      rw [if_neg h2] at hr
      clear h2
      by_cases h3 : x = ⟨#[116, 114, 117, 101]⟩
      · have hq3 : (x.toList == [116, 114, 117, 101]) = true := by rw [h3, ByteArray.toList_eq]; decide
        rw [if_pos h3] at hr
        have HE := hide hr
        clear hr h3
        go_enter Tryz.func92, Tryz.ntmps92
        go_wp2_with fail
        refine bodyPost_ret (results_row_tmp rfl _ _ w.heap.size 32 _ (0, 0) _ rfl (RowAt.new w _ 32) Tryz.underlying32 rfl (by kernel_rfl)) rfl ?_
        exact ⟨by rw [HE.out]; rfl, below_new w _⟩
      · have hq3 : (x.toList == [116, 114, 117, 101]) = false := by have h := str_ne h3; rwa [ByteArray.toList_eq ⟨#[116, 114, 117, 101]⟩] at h
        rw [if_neg h3] at hr
        have HE := hide hr
        clear hr h3
        go_enter Tryz.func92, Tryz.ntmps92
        go_wp2_with fail
        refine bodyPost_ret (results_row_tmp rfl _ _ w.heap.size 32 _ (0, 0) _ rfl (RowAt.new w _ 32) Tryz.underlying32 rfl (by kernel_rfl)) rfl ?_
        exact ⟨by rw [HE.out]; rfl, below_new w _⟩
end Go.Proofs.YtageokjobbjddaaGreatDoor
