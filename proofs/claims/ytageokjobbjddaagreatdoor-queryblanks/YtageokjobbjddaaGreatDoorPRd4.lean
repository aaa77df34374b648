import Derived.Test.YtageokjobbjddaaGreatDoorGRK
namespace Go.Proofs.YtageokjobbjddaaGreatDoor
open Go.RowKit

def justB (kind : Int) (x : ByteArray) (t : Pt) : Bool := decide (t.text = x) && decide (t.kind = kind)
theorem RdR.below {w0 w w1 w' : World} {b g : Nat} {u : Pt × ByteArray} (h : RdR w0 w b g u w1) (hb : Below w1.heap.size w1 w') : RdR w0 w b g u w' := ⟨h.1.below hb, h.2.trans (.of_below hb)⟩
set_option maxHeartbeats 4000000 in
set_option maxRecDepth 100000 in
theorem ptj_any (w0 : World) (b g : Nat) (t : Pt) (s : ByteArray) (kind : Int) (x : ByteArray) (w : World) (h : RdP w0 w b g t s) (hv : TokEnv w0) :
    Calls Tryz.prog 47 #[.pointer (some ⟨b, 0, none⟩), .int .i64 kind, .string x] w fun e w' => e = .returned (.bool (justB kind x t)) ∧ RdR w0 w b g (stepT (justB kind x t) t s) w' := by
  obtain ⟨⟨_, a1, a2, a3⟩, _⟩ := rd_cells h.row
  have HTK := hide (ptake_any w0 b g t s kind w h hv)
  have HH := hide h
  obtain ⟨tk, tt, tn⟩ := t
  simp only at a1 a2 a3 HTK
  by_cases hx : tt = x
  · have hq : (tt.toList == x.toList) = true := by rw [hx]; exact str_eq _
    have HE : Hid (justB kind x ⟨tk, tt, tn⟩ = decide (tk = kind)) := by show _ = _; simp [justB, hx]
    rw [HE.out]
    generalize takeT kind ⟨tk, tt, tn⟩ = u at *
    generalize decide (tk = kind) = y at *
    obtain ⟨uk, ut, un⟩ := u
    clear h hx HE
    go_enter Tryz.func47, Tryz.ntmps47
    go_wp2_with fail
    refine HTK.out.mono ?_
    rintro e W2 ⟨rfl, hR2⟩
    have x2 := RowAt.new W2 (ptV pt0) 67
    have HST := hide (store_pt _ W2.heap.size _ _ _ ⟨uk, ut, un⟩ x2)
    unfold ptV pt0 at HST
    simp only at HST
    have HB : Hid (Below W2.heap.size W2 ((W2.alloc (.cells #[.int .i64 0, .string ⟨#[]⟩, .int .i64 0] 67)).setRow W2.heap.size #[.int .i64 uk, .string ut, .int .i64 un])) := below_setRow (below_new W2 _) (Nat.le_refl _) _
    have HR2 := hide hR2
    clear HTK hR2 x2 a1 a2 a3
    go_wp2_with (first
      | (refine wpList_store_eq rfl 67 _ _ rfl _ _ rfl rfl HST.out ?_))
    go_ret
    exact ⟨rfl, HR2.out.below HB.out⟩
  · have hq := str_ne hx
    have HE : Hid (justB kind x ⟨tk, tt, tn⟩ = false) := by show _ = _; simp [justB, hx]
    rw [HE.out]
    clear h hx HE HTK
    go_enter Tryz.func47, Tryz.ntmps47
    go_wp2_with fail
    go_ret
    exact ⟨rfl, HH.out, Two.refl _ _ _⟩
theorem pword_any (w0 : World) (b g : Nat) (t : Pt) (s : ByteArray) (x : ByteArray) (w : World) (h : RdP w0 w b g t s) (hv : TokEnv w0) :
    Calls Tryz.prog 31 #[.pointer (some ⟨b, 0, none⟩), .string x] w fun e w' => e = .returned (.bool (justB 2 x t)) ∧ RdR w0 w b g (stepT (justB 2 x t) t s) w' := by
  have H := hide (ptj_any w0 b g t s 2 x w h hv)
  generalize justB 2 x t = y at *
  clear h hv
  go_enter Tryz.func31, Tryz.ntmps31
  go_wp2_with fail
  refine H.out.mono ?_
  rintro e W2 ⟨rfl, hR2⟩
  go_wp2_with fail
  go_ret
  exact ⟨rfl, hR2⟩
theorem pmark_any (w0 : World) (b g : Nat) (t : Pt) (s : ByteArray) (x : ByteArray) (w : World) (h : RdP w0 w b g t s) (hv : TokEnv w0) :
    Calls Tryz.prog 111 #[.pointer (some ⟨b, 0, none⟩), .string x] w fun e w' => e = .returned (.bool (justB 7 x t)) ∧ RdR w0 w b g (stepT (justB 7 x t) t s) w' := by
  have H := hide (ptj_any w0 b g t s 7 x w h hv)
  generalize justB 7 x t = y at *
  clear h hv
  go_enter Tryz.func111, Tryz.ntmps111
  go_wp2_with fail
  refine H.out.mono ?_
  rintro e W2 ⟨rfl, hR2⟩
  go_wp2_with fail
  go_ret
  exact ⟨rfl, hR2⟩
set_option maxHeartbeats 4000000 in
set_option maxRecDepth 100000 in
theorem pname_any (w0 : World) (b g : Nat) (t : Pt) (s : ByteArray) (w : World) (h : RdP w0 w b g t s) (hv : TokEnv w0) :
    Calls Tryz.prog 32 #[.pointer (some ⟨b, 0, none⟩)] w fun e w' => e = .returned (.tuple #[.string (takeT 3 t).text, .bool (decide (t.kind = 3))]) ∧ RdR w0 w b g (stepT (decide (t.kind = 3)) t s) w' := by
  have HTK := hide (ptake_any w0 b g t s 3 w h hv)
  generalize takeT 3 t = u at *
  generalize decide (t.kind = 3) = y at *
  obtain ⟨uk, ut, un⟩ := u
  clear h hv
  go_enter Tryz.func32, Tryz.ntmps32
  go_wp2_with fail
  refine HTK.out.mono ?_
  rintro e W2 ⟨rfl, hR2⟩
  have x2 := RowAt.new W2 (ptV pt0) 67
  have HST := hide (store_pt _ W2.heap.size _ _ _ ⟨uk, ut, un⟩ x2)
  unfold ptV pt0 at HST
  simp only at HST
  obtain ⟨V, hV⟩ : ∃ V, (W2.alloc (.cells #[.int .i64 0, .string ⟨#[]⟩, .int .i64 0] 67)).setRow W2.heap.size #[.int .i64 uk, .string ut, .int .i64 un] = V := ⟨_, rfl⟩
  have hB : Below W2.heap.size W2 V := by rw [← hV]; exact below_setRow (below_new W2 _) (Nat.le_refl _) _
  have y2 : RowAt V W2.heap.size #[.int .i64 uk, .string ut, .int .i64 un] 67 := by rw [← hV]; exact row_set _ _ _ _ _ x2
  rw [hV] at HST
  obtain ⟨⟨d0, d1, d2⟩, _⟩ := pt_cells y2
  have HR2 := hide (hR2.below hB)
  clear HTK hR2 x2 hV hB y2
  go_wp2_with (first
    | (refine wpList_store_eq rfl 67 _ _ rfl _ _ rfl rfl HST.out ?_))
  go_ret2
  exact ⟨rfl, HR2.out⟩
def limB (t : Pt) : Bool := decide (t.kind = 4) && decide (1 ≤ (takeT 4 t).num)
set_option maxHeartbeats 4000000 in
set_option maxRecDepth 100000 in
theorem plimit_any (w0 : World) (b g : Nat) (t : Pt) (s : ByteArray) (w : World) (h : RdP w0 w b g t s) (hv : TokEnv w0) :
    Calls Tryz.prog 35 #[.pointer (some ⟨b, 0, none⟩)] w fun e w' => e = .returned (.tuple #[.int .i64 (takeT 4 t).num, .bool (limB t)]) ∧ RdR w0 w b g (stepT (decide (t.kind = 4)) t s) w' := by
  have HTK := hide (ptake_any w0 b g t s 4 w h hv)
  unfold limB
  generalize takeT 4 t = u at *
  generalize decide (t.kind = 4) = y at *
  obtain ⟨uk, ut, un⟩ := u
  clear h hv
  go_enter Tryz.func35, Tryz.ntmps35
  go_wp2_with fail
  refine HTK.out.mono ?_
  rintro e W2 ⟨rfl, hR2⟩
  have x2 := RowAt.new W2 (ptV pt0) 67
  have HST := hide (store_pt _ W2.heap.size _ _ _ ⟨uk, ut, un⟩ x2)
  unfold ptV pt0 at HST
  simp only at HST
  obtain ⟨V, hV⟩ : ∃ V, (W2.alloc (.cells #[.int .i64 0, .string ⟨#[]⟩, .int .i64 0] 67)).setRow W2.heap.size #[.int .i64 uk, .string ut, .int .i64 un] = V := ⟨_, rfl⟩
  have hB : Below W2.heap.size W2 V := by rw [← hV]; exact below_setRow (below_new W2 _) (Nat.le_refl _) _
  have y2 : RowAt V W2.heap.size #[.int .i64 uk, .string ut, .int .i64 un] 67 := by rw [← hV]; exact row_set _ _ _ _ _ x2
  rw [hV] at HST
  obtain ⟨⟨d0, d1, d2⟩, _⟩ := pt_cells y2
  have hR3 := hR2.below hB
  have HR2 := hide hR3
  clear HTK hR2 x2 hV hB y2 hR3
  have HDR : Hid (∀ n, RdR w0 w b g (stepT y t s) (V.drewN n)) := fun n => HR2.out.below (below_drewN' (Below.refl _ _) n)
  cases y with
  | true =>
    by_cases hl : 1 ≤ un
    · have hld : decide (1 ≤ un) = true := by simp [hl]
      have HE : Hid ((true && decide (1 ≤ un)) = true) := by show _ = _; simp [hl]
      go_wp2_with (first
        | (refine wpList_store_eq rfl 67 _ _ rfl _ _ rfl rfl HST.out ?_))
      go_quiet (fail)
      go_wp2_with fail
      go_ret2
      exact ⟨by rw [HE.out]; rfl, HDR.out _⟩
    · have hld : decide (1 ≤ un) = false := by simp; omega
      have HE : Hid ((true && decide (1 ≤ un)) = false) := by show _ = _; simp; omega
      go_wp2_with (first
        | (refine wpList_store_eq rfl 67 _ _ rfl _ _ rfl rfl HST.out ?_))
      go_quiet (fail)
      go_wp2_with fail
      go_ret2
      exact ⟨by rw [HE.out]; rfl, HDR.out _⟩
  | false =>
    go_wp2_with (first
      | (refine wpList_store_eq rfl 67 _ _ rfl _ _ rfl rfl HST.out ?_))
    go_quiet (fail)
    go_wp2_with fail
    go_ret2
    exact ⟨rfl, HDR.out _⟩
/-- What stands behind the word order. -/
def ordD (t : Pt) (s : ByteArray) : (ByteArray × Bool × Bool) × Pt × ByteArray :=
  if justB 2 ⟨#[98, 121]⟩ t = true then
    (if (nxtD s).1.kind = 3 then
      ((((nxtD s).1).text, justB 2 ⟨#[102, 97, 108, 108, 105, 110, 103]⟩ (nxtD (nxtD s).2).1, true), stepT (justB 2 ⟨#[102, 97, 108, 108, 105, 110, 103]⟩ (nxtD (nxtD s).2).1) (nxtD (nxtD s).2).1 (nxtD (nxtD s).2).2)
    else ((⟨#[]⟩, false, false), nxtD s))
  else ((⟨#[]⟩, false, false), t, s)
set_option maxHeartbeats 4000000 in
set_option maxRecDepth 100000 in
theorem porder_any (w0 : World) (b g : Nat) (t : Pt) (s : ByteArray) (w : World) (h : RdP w0 w b g t s) (hv : TokEnv w0) :
    Calls Tryz.prog 34 #[.pointer (some ⟨b, 0, none⟩)] w fun e w' => e = .returned (.tuple #[.string (ordD t s).1.1, .bool (ordD t s).1.2.1, .bool (ordD t s).1.2.2]) ∧ RdR w0 w b g (ordD t s).2 w' := by
  have HWD := hide (pword_any w0 b g t s ⟨#[98, 121]⟩ w h hv)
  obtain ⟨r, hr⟩ : ∃ r, r = ordD t s := ⟨_, rfl⟩
  rw [← hr]
  unfold ordD at hr
  have HR := hide hr
  clear hr h
  cases hj : justB 2 ⟨#[98, 121]⟩ t with
  | true =>
    rw [hj] at HWD HR
    rw [if_pos rfl] at HR
    obtain ⟨⟨t1, s1⟩, hu⟩ : ∃ u, u = nxtD s := ⟨_, rfl⟩
    rw [← hu] at HR
    have HS1 : Hid (stepT true t s = (t1, s1)) := by show _ = _; rw [stepT, if_pos rfl, hu]
    rw [HS1.out] at HWD
    simp only at HR
    clear hj hu HS1
    go_enter Tryz.func34, Tryz.ntmps34
    go_wp2_with fail
    refine HWD.out.mono ?_
    rintro e W1 ⟨rfl, hR1⟩
    clear HWD
    have HNM := hide (pname_any w0 b g t1 s1 W1 hR1.1 hv)
    have HT1 := hide hR1.2
    by_cases hk : t1.kind = 3
    · rw [if_pos hk] at HR
      have hkd : decide (t1.kind = 3) = true := by simp [hk]
      have htk : takeT 3 t1 = t1 := by simp [takeT, hk]
      rw [hkd, htk] at HNM
      obtain ⟨⟨t2, s2⟩, hu⟩ : ∃ u, u = nxtD s1 := ⟨_, rfl⟩
      have HS1 : Hid (stepT true t1 s1 = (t2, s2)) := by show _ = _; rw [stepT, if_pos rfl, hu]
      rw [HS1.out] at HNM
      rw [← hu] at HR
      simp only at HR
      clear hu hk hkd htk HS1 hR1
      go_wp2_with fail
      refine HNM.out.mono ?_
      rintro e W2 ⟨rfl, hR2⟩
      clear HNM
      have HW2 := hide (pword_any w0 b g t2 s2 ⟨#[102, 97, 108, 108, 105, 110, 103]⟩ W2 hR2.1 hv)
      have HT2 := hide (HT1.out.trans hR2.2)
      clear hR2
      generalize justB 2 ⟨#[102, 97, 108, 108, 105, 110, 103]⟩ t2 = y at *
      go_wp2_with fail
      refine HW2.out.mono ?_
      rintro e W3 ⟨rfl, hR3⟩
      have HR3 : Hid (RdR w0 w b g (stepT y t2 s2) W3) := ⟨hR3.1, HT2.out.trans hR3.2⟩
      clear HW2 hR3
      go_wp2_with fail
      go_ret3
      exact ⟨by rw [HR.out]; rfl, by rw [HR.out]; exact HR3.out⟩
    · rw [if_neg hk] at HR
      have hkd : decide (t1.kind = 3) = false := by simp [hk]
      have htk : takeT 3 t1 = pt0 := by simp [takeT, hk]
      rw [hkd, htk] at HNM
      have HS1 : Hid (stepT false t1 s1 = (t1, s1)) := rfl
      rw [HS1.out] at HNM
      clear hk hkd htk HS1 hR1
      go_wp2_with fail
      refine HNM.out.mono ?_
      rintro e W2 ⟨rfl, hR2⟩
      have HR3 : Hid (RdR w0 w b g (t1, s1) W2) := ⟨hR2.1, HT1.out.trans hR2.2⟩
      clear HNM hR2
      go_wp2_with fail
      go_ret3
      exact ⟨by rw [HR.out]; rfl, by rw [HR.out]; exact HR3.out⟩
  | false =>
    rw [hj] at HWD HR
    rw [if_neg (by simp)] at HR
    have HS1 : Hid (stepT false t s = (t, s)) := rfl
    rw [HS1.out] at HWD
    clear hj HS1
    go_enter Tryz.func34, Tryz.ntmps34
    go_wp2_with fail
    refine HWD.out.mono ?_
    rintro e W1 ⟨rfl, hR1⟩
    have HR1 := hide hR1
    clear HWD hR1
    go_wp2_with fail
    go_ret3
    exact ⟨by rw [HR.out]; rfl, by rw [HR.out]; exact HR1.out⟩
end Go.Proofs.YtageokjobbjddaaGreatDoor
