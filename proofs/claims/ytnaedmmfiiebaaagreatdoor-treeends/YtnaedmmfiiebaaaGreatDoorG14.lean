import Derived.Test.YtnaedmmfiiebaaaGreatDoorG12
import Derived.Test.YtnaedmmfiiebaaaGreatDoorG13
import Derived.Deep.DeepCutAuto
namespace Go.Proofs.YtnaedmmfiiebaaaGreatDoor.T
open Go.RowKit

theorem szsKs_eq (l : List B.Lk) : szsKs (l.map (·.1)) = B.szsK l := by
  simp [szsKs, B.szsK, B.szK]
set_option maxRecDepth 20000 in
set_option maxHeartbeats 16000000 in
theorem ncut_br (A : Nat → Addr) (b : Nat) (n : SN) (pv lv cv : Value) (w : World) (h : SNR w b n pv lv cv) (h0 : ¬ n.us.length = 0) (hlen : n.us.length = n.lk.length + 1) (h3 : 3 ≤ n.lk.length) (hE : ErrC A w) :
    Calls Tryz.prog 129 #[.pointer (some ⟨b, 0, none⟩)] w fun e w' => ∃ (i : Nat) (k : ByteArray) (f2 : Int), IsBest (gapP (szsKs (n.lk.map (·.1)))) ((szsKs (n.lk.map (·.1))).length - 2) i ∧ (∃ x, n.lk[i]? = some (k, x)) ∧ New2 w ⟨[], n.f, n.lk.take i, n.us.take (i + 1)⟩ k ⟨[], f2, n.lk.drop (i + 1), n.us.drop (i + 1)⟩ e w' := by
  have HL := hide (isleaf_any b n pv lv cv w h)
  rw [show decide (n.us.length = 0) = false by simp [h0]] at HL
  have HCUT : Hid (Calls Tryz.prog 170 #[.agg #[.int .i64 n.f, lv]] w fun e w' => ∃ (i : Nat) (k : ByteArray) (f2 : Int) (u1a u2a : Option Addr) (u1c u2c : Nat), e = .returned (.tuple #[.agg #[.int .i64 n.f, .slice u1a i u1c], .string k, .agg #[.int .i64 f2, .slice u2a (n.lk.length - (i + 1)) u2c], .nilIface]) ∧ IsBest (gapP (szsKs (n.lk.map (·.1)))) ((szsKs (n.lk.map (·.1))).length - 2) i ∧ (∃ x, n.lk[i]? = some (k, x)) ∧ (1 ≤ i ∧ i + 2 ≤ n.lk.length) ∧ B.LkR w' (.slice u1a i u1c) (n.lk.take i) ∧ B.LkR w' (.slice u2a (n.lk.length - (i + 1)) u2c) (n.lk.drop (i + 1)) ∧ Below w.heap.size w w') := by
    refine (B.bcut_any A n.f lv n.lk w h.okK (by have := h.fine.2.2.2.1; omega) h.lks hE).mono fun e w' hh => ?_
    obtain ⟨⟨i, cc, key, f1, f2, u1, u2, ev, h1, hcn, hno, hcs⟩, hb⟩ := hh
    have hlen2 : (B.szsK n.lk).length = n.lk.length := by simp [B.szsK]
    have hfine : FineL (B.szsK n.lk) := fun j hj => by
      have hj' : j < n.lk.length := by rw [← hlen2]; exact hj
      have := h.fine.2.2.1 n.lk[j] (List.getElem_mem hj')
      unfold mayKey at this
      simp only [B.szsK, List.getElem_map]; unfold B.szK; omega
    rcases hcn with ⟨g1, _, _⟩ | ⟨_, g1, _⟩ | ⟨_, _, hbest, hc0⟩
    · rw [hlen2] at g1; omega
    · exact absurd hfine g1
    · subst hc0
      rcases hcs with ⟨_, ⟨hi, rfl, rfl, rfl⟩, o1, o2, _⟩ | ⟨hne, _⟩
      · have hev := numOf_nil hno
        subst hev
        have hib := hbest.1
        rw [hlen2] at hib
        obtain ⟨a1, c1, e1⟩ := o1.form
        obtain ⟨a2, c2, e2⟩ := o2.form
        subst e1 e2
        have l1 : (n.lk.take i).length = i := by rw [List.length_take]; omega
        have l2 : (n.lk.drop (i + 1)).length = n.lk.length - (i + 1) := by rw [List.length_drop]
        have p1 := o1.at
        have p2 := o2.at
        rw [l1] at h1 p1
        rw [l2] at h1 p2
        refine ⟨i, _, _, a1, a2, c1, c2, h1, ?_, ⟨_, List.getElem?_eq_getElem hi⟩, ⟨by omega, by omega⟩, p1, p2, hb⟩
        rw [szsKs_eq]; exact hbest
      · exact absurd rfl hne
  have p1 := h.c1
  have p2 := h.c2
  have HH := hide h
  have HLEN := hide hlen
  obtain ⟨ca, cc, hcv⟩ := h.kids.form
  subst hcv
  have hcap : n.us.length ≤ cc := by
    obtain ⟨_, _, he, hle, _⟩ := h.kids
    simp only [Value.slice.injEq] at he
    obtain ⟨-, -, rfl⟩ := he
    rw [C.lks_len] at hle
    exact hle
  obtain ⟨m, hm⟩ : ∃ m, m = n.us.length := ⟨_, rfl⟩
  have Hm := hide hm
  have HCAP := hide hcap
  clear hm hcap
  clear h h0 hE h3 hlen
  go_enter Tryz.func129, Tryz.ntmps129
  go_wp2_with fail
  refine HL.out.mono ?_
  rintro e w1 ⟨rfl, rfl⟩
  clear HL
  go_wp2_with fail
  refine HCUT.out.mono ?_
  rintro e w2 ⟨I, k, f2, u1a, u2a, u1c, u2c, rfl, hbest, hkx, hib, hr1, hr2, hb2⟩
  obtain ⟨M, hM⟩ : ∃ M, M = n.lk.length - (I + 1) := ⟨_, rfl⟩
  rw [← hM] at hr2 ⊢
  have HMM := hide hM
  clear hM
  have qa := below_new w2 (.cells #[.int .i64 n.f, .slice u1a I u1c] 150)
  have qb := below_new (w2.alloc (.cells #[.int .i64 n.f, .slice u1a I u1c] 150)) (.cells #[.int .i64 f2, .slice u2a M u2c] 150)
  have xa := (B.RowAt.new w2 #[.int .i64 n.f, .slice u1a I u1c] 150).below qb
  have xb := B.RowAt.new (w2.alloc (.cells #[.int .i64 n.f, .slice u1a I u1c] 150)) #[.int .i64 f2, .slice u2a M u2c] 150
  have sb : (w2.alloc (.cells #[.int .i64 n.f, .slice u1a I u1c] 150)).heap.size = w2.heap.size + 1 := by simp
  rw [sb] at xb
  have HXA := hide xa
  have HXB := hide xb
  have HB4 := hide (Below.next (Below.next hb2 qa) qb)
  have HR1 := hide ((hr1.below qa).below qb)
  have HR2 := hide ((hr2.below qa).below qb)
  have HBEST := hide hbest
  have HKX := hide hkx
  have HIB := hide hib
  clear HCUT p1 p2 hbest hkx hib hr1 hr2 hb2 qa qb xa xb sb
  obtain ⟨H, hH⟩ : ∃ H, H = I + 1 := ⟨_, rfl⟩
  obtain ⟨K, hK⟩ : ∃ K, K = m - H := ⟨_, rfl⟩
  have hwH : IntKind.i64.wrap ((I : Int) + 1) = (H : Int) := by have := HIB.out; have := HH.out.fine.2.2.2.1; rw [IntKind.wrap_i64]; omega
  have HHM : Hid (H ≤ m ∧ 1 ≤ K) := by
    have h1 := HIB.out
    have h2 := HLEN.out
    have h3 := Hm.out
    exact ⟨by omega, by omega⟩
  have HHI := hide hH
  have HKI := hide hK
  clear hH hK
  go_upto_region 6 with fail
  have hH := HHI.out
  have hK := HKI.out
  have hM := HMM.out
  have hm := Hm.out
  have hHm := HHM.out
  have hcap := HCAP.out
  generalize (w2.alloc (.cells #[.int .i64 n.f, .slice u1a I u1c] 150)).alloc (.cells #[.int .i64 f2, .slice u2a M u2c] 150) = W4 at *
  obtain ⟨kb, hkb⟩ : ∃ x, x = w2.heap.size + 1 := ⟨_, rfl⟩
  obtain ⟨ka, hka⟩ : ∃ x, x = w2.heap.size := ⟨_, rfl⟩
  rw [← hkb] at HXB ⊢
  rw [← hka] at HXA ⊢
  clear hkb hka
  have hkids : C.LkR W4 (.slice ca n.us.length cc) n.us := (HH.out.below HB4.out).kids
  obtain ⟨da, hdr, hsl2⟩ := hkids.drop (m := H) (by omega)
  have htk := hkids.take (m := H) (by omega)
  have hsl1 := fun W => C.slToC W ca n.us.length cc H (by omega)
  have ltk : (n.us.take H).length = H := by rw [List.length_take]; omega
  have ldr : (n.us.drop H).length = K := by rw [List.length_drop]; omega
  have hmK : n.us.length - H = K := by omega
  rw [hmK] at hdr hsl2
  have HC1 : Hid (∀ W, Below W4.heap.size W4 W → Calls Tryz.prog 164 #[.slice ca H cc] W fun e w' => ∃ (g c : Nat), e = .returned (.slice (some ⟨g, 0, none⟩) H c) ∧ C.LkR w' (.slice (some ⟨g, 0, none⟩) H c) (n.us.take H) ∧ Below W.heap.size W w') := fun W hW => by
    refine (C.kclone_any _ (n.us.take H) W (by rw [ltk]; have := HH.out.fine.2.2.2.2; omega) (htk.below hW)).mono fun e w' ⟨u, h1, h2, h3⟩ => ?_
    obtain ⟨g, c, hu, _, _⟩ := has_row h2 (by rw [ltk]; omega)
    subst hu
    rw [ltk] at h1 h2
    exact ⟨g, c, h1, h2.at, h3⟩
  have HC2 : Hid (∀ W, Below W4.heap.size W4 W → Calls Tryz.prog 164 #[.slice da K (cc - H)] W fun e w' => ∃ (g c : Nat), e = .returned (.slice (some ⟨g, 0, none⟩) K c) ∧ C.LkR w' (.slice (some ⟨g, 0, none⟩) K c) (n.us.drop H) ∧ Below W.heap.size W w') := fun W hW => by
    refine (C.kclone_any _ (n.us.drop H) W (by rw [ldr]; have := HH.out.fine.2.2.2.2; omega) (hdr.below hW)).mono fun e w' ⟨u, h1, h2, h3⟩ => ?_
    obtain ⟨g, c, hu, _, _⟩ := has_row h2 (by rw [ldr]; omega)
    subst hu
    rw [ldr] at h1 h2
    exact ⟨g, c, h1, h2.at, h3⟩
  have HFF : Hid ((∀ p ∈ n.lk.take I, mayKey p.1) ∧ (n.lk.take I).length ≤ 4000 ∧ (n.us.take H).length ≤ 4001 ∧ (∀ p ∈ n.lk.drop H, mayKey p.1) ∧ (n.lk.drop H).length ≤ 4000 ∧ (n.us.drop H).length ≤ 4001) := by
    have hf := HH.out.fine
    exact ⟨fun p hp => hf.2.2.1 p (List.mem_of_mem_take hp), by rw [List.length_take]; omega, by rw [ltk]; omega, fun p hp => hf.2.2.1 p (List.mem_of_mem_drop hp), by rw [List.length_drop]; omega, by rw [ldr]; omega⟩
  rw [← hH] at HR2
  have k3 := (HH.out.below HB4.out).c3
  have kA0 := HXA.out.c0
  have kA1 := HXA.out.c1
  have kB0 := HXB.out.c0
  have kB1 := HXB.out.c1
  have HSC : Hid (∀ W, Below W4.heap.size W4 W → (W.cell? ⟨b, 3, none⟩ = some (.slice ca n.us.length cc) ∧ W.cell? ⟨ka, 0, none⟩ = some (.int .i64 n.f) ∧ W.cell? ⟨ka, 1, none⟩ = some (.slice u1a I u1c) ∧ W.cell? ⟨kb, 0, none⟩ = some (.int .i64 f2) ∧ W.cell? ⟨kb, 1, none⟩ = some (.slice u2a M u2c)) ∧ ¬ b = W.heap.size ∧ ¬ ka = W.heap.size ∧ ¬ kb = W.heap.size) := fun W hW => ⟨⟨(HH.out.below (Below.next HB4.out hW)).c3, (HXA.out.below hW).c0, (HXA.out.below hW).c1, (HXB.out.below hW).c0, (HXB.out.below hW).c1⟩, by have := (HH.out.below HB4.out).row.lt; have := hW.size; omega, by have := HXA.out.lt; have := hW.size; omega, by have := HXB.out.lt; have := hW.size; omega⟩
  have hHI : (H : Int) ≤ (cc : Int) := by omega
  have hH0 : (0 : Int) ≤ (H : Int) := by omega
  clear hH hK hM hHm hcap hdr htk ltk ldr hkids hmK hm
  go_region_held3 (fun w' => w'.cell? ⟨b, 3, none⟩ = some (.slice ca n.us.length cc) ∧ w'.cell? ⟨ka, 0, none⟩ = some (.int .i64 n.f) ∧ w'.cell? ⟨ka, 1, none⟩ = some (.slice u1a I u1c) ∧ w'.cell? ⟨kb, 0, none⟩ = some (.int .i64 f2) ∧ w'.cell? ⟨kb, 1, none⟩ = some (.slice u2a M u2c)) (go_keep)
    (first
      | (go_at_call_of 164 (Value.slice ca H cc); refine (HC1.out _ ?_).mono ?_; (first | exact HQ2.out | exact Below.next HQ2.out (below_new w6 (.cells #[.slice none 0 0, .int .i64 f2, .slice u2a M u2c, .slice (some ⟨g6, 0, none⟩) K c6] 155)) | exact (Below.refl _ _).drew); rintro e w5 ⟨g5, c5, rfl, ho, hb⟩; have HQ1 : Hid (Below W4.heap.size W4 w5) := (by first | exact Below.next HQ2.out hb | exact Below.next (Below.next HQ2.out (below_new w6 (.cells #[.slice none 0 0, .int .i64 f2, .slice u2a M u2c, .slice (some ⟨g6, 0, none⟩) K c6] 155))) hb | exact B.undrewB hb); have HL1 := hide ho; (try (have HL2 := hide (HL2.out.below hb))); (try (have HL2 := hide ((HL2.out.below (below_new w6 (.cells #[.slice none 0 0, .int .i64 f2, .slice u2a M u2c, .slice (some ⟨g6, 0, none⟩) K c6] 155))).below hb))); (try (have HXO := hide ((B.RowAt.new w6 #[.slice none 0 0, .int .i64 f2, .slice u2a M u2c, .slice (some ⟨g6, 0, none⟩) K c6] 155).below hb))); obtain ⟨⟨m1, m2, m3, m4, m5⟩, m6, m7, m8⟩ := HSC.out _ HQ1.out; clear ho hb)
      | (go_at_call_of 164 (Value.slice da K (cc - H)); refine (HC2.out _ ?_).mono ?_; (first | exact HQ1.out | exact Below.next HQ1.out (below_new w5 (.cells #[.slice none 0 0, .int .i64 n.f, .slice u1a I u1c, .slice (some ⟨g5, 0, none⟩) H c5] 155)) | exact (Below.refl _ _).drew); rintro e w6 ⟨g6, c6, rfl, ho, hb⟩; have HQ2 : Hid (Below W4.heap.size W4 w6) := (by first | exact Below.next HQ1.out hb | exact Below.next (Below.next HQ1.out (below_new w5 (.cells #[.slice none 0 0, .int .i64 n.f, .slice u1a I u1c, .slice (some ⟨g5, 0, none⟩) H c5] 155))) hb | exact B.undrewB hb); have HL2 := hide ho; (try (have HL1 := hide (HL1.out.below hb))); (try (have HL1 := hide ((HL1.out.below (below_new w5 (.cells #[.slice none 0 0, .int .i64 n.f, .slice u1a I u1c, .slice (some ⟨g5, 0, none⟩) H c5] 155))).below hb))); (try (have HXO := hide ((B.RowAt.new w5 #[.slice none 0 0, .int .i64 n.f, .slice u1a I u1c, .slice (some ⟨g5, 0, none⟩) H c5] 155).below hb))); obtain ⟨⟨m1, m2, m3, m4, m5⟩, m6, m7, m8⟩ := HSC.out _ HQ2.out; clear ho hb))
  all_goals first
    | (have qb := below_new w6 (.cells #[.slice none 0 0, .int .i64 f2, .slice u2a M u2c, .slice (some ⟨g6, 0, none⟩) K c6] 155)
       have HN2 : Hid (New2 w ⟨[], n.f, n.lk.take I, n.us.take H⟩ k ⟨[], f2, n.lk.drop H, n.us.drop H⟩ (.returned (.tuple #[.pointer (some ⟨w5.heap.size, 0, none⟩), .string k, .pointer (some ⟨w6.heap.size, 0, none⟩)])) (w6.alloc (.cells #[.slice none 0 0, .int .i64 f2, .slice u2a M u2c, .slice (some ⟨g6, 0, none⟩) K c6] 155))) := ⟨_, _, _, _, _, _, _, _, rfl, ⟨HXO.out.below qb, PrR.nil _, (HR1.out.below HQ2.out).below qb, HL1.out.below qb, (fun p hp => by simp at hp), by simp, HFF.out.1, HFF.out.2.1, HFF.out.2.2.1⟩, ⟨B.RowAt.new w6 #[.slice none 0 0, .int .i64 f2, .slice u2a M u2c, .slice (some ⟨g6, 0, none⟩) K c6] 155, PrR.nil _, (HR2.out.below HQ2.out).below qb, HL2.out.below qb, (fun p hp => by simp at hp), by simp, HFF.out.2.2.2.1, HFF.out.2.2.2.2.1, HFF.out.2.2.2.2.2⟩, Below.next (Below.next HB4.out HQ2.out) qb⟩
       clear qb HXO
       go_wp2
       go_ret3
       exact ⟨I, k, f2, HBEST.out, HKX.out, by rw [← HHI.out]; first | exact HN2.out | exact HN2.out.drew⟩)
    | (have qa := below_new w6 (.cells #[.slice none 0 0, .int .i64 n.f, .slice u1a I u1c, .slice (some ⟨g5, 0, none⟩) H c5] 155)
       have qb := below_new (w6.alloc (.cells #[.slice none 0 0, .int .i64 n.f, .slice u1a I u1c, .slice (some ⟨g5, 0, none⟩) H c5] 155)) (.cells #[.slice none 0 0, .int .i64 f2, .slice u2a M u2c, .slice (some ⟨g6, 0, none⟩) K c6] 155)
       have xa := (B.RowAt.new w6 #[.slice none 0 0, .int .i64 n.f, .slice u1a I u1c, .slice (some ⟨g5, 0, none⟩) H c5] 155).below qb
       have xb := B.RowAt.new (w6.alloc (.cells #[.slice none 0 0, .int .i64 n.f, .slice u1a I u1c, .slice (some ⟨g5, 0, none⟩) H c5] 155)) #[.slice none 0 0, .int .i64 f2, .slice u2a M u2c, .slice (some ⟨g6, 0, none⟩) K c6] 155
       have sa : (w6.alloc (.cells #[.slice none 0 0, .int .i64 n.f, .slice u1a I u1c, .slice (some ⟨g5, 0, none⟩) H c5] 155)).heap.size = w6.heap.size + 1 := by simp
       rw [sa] at xb
       have HN2 : Hid (New2 w ⟨[], n.f, n.lk.take I, n.us.take H⟩ k ⟨[], f2, n.lk.drop H, n.us.drop H⟩ (.returned (.tuple #[.pointer (some ⟨w6.heap.size, 0, none⟩), .string k, .pointer (some ⟨w6.heap.size + 1, 0, none⟩)])) ((w6.alloc (.cells #[.slice none 0 0, .int .i64 n.f, .slice u1a I u1c, .slice (some ⟨g5, 0, none⟩) H c5] 155)).alloc (.cells #[.slice none 0 0, .int .i64 f2, .slice u2a M u2c, .slice (some ⟨g6, 0, none⟩) K c6] 155))) := ⟨_, _, _, _, _, _, _, _, rfl, ⟨xa, PrR.nil _, ((HR1.out.below HQ2.out).below qa).below qb, (HL1.out.below qa).below qb, (fun p hp => by simp at hp), by simp, HFF.out.1, HFF.out.2.1, HFF.out.2.2.1⟩, ⟨xb, PrR.nil _, ((HR2.out.below HQ2.out).below qa).below qb, (HL2.out.below qa).below qb, (fun p hp => by simp at hp), by simp, HFF.out.2.2.2.1, HFF.out.2.2.2.2.1, HFF.out.2.2.2.2.2⟩, Below.next (Below.next (Below.next HB4.out HQ2.out) qa) qb⟩
       clear qa qb xa xb sa
       go_wp2
       go_ret3
       exact ⟨I, k, f2, HBEST.out, HKX.out, by rw [← HHI.out]; first | exact HN2.out | exact HN2.out.drew⟩)
    | (have qa := below_new w6 (.cells #[.slice none 0 0, .int .i64 f2, .slice u2a M u2c, .slice (some ⟨g6, 0, none⟩) K c6] 155)
       have qb := below_new (w6.alloc (.cells #[.slice none 0 0, .int .i64 f2, .slice u2a M u2c, .slice (some ⟨g6, 0, none⟩) K c6] 155)) (.cells #[.slice none 0 0, .int .i64 n.f, .slice u1a I u1c, .slice (some ⟨g5, 0, none⟩) H c5] 155)
       have xa := (B.RowAt.new w6 #[.slice none 0 0, .int .i64 f2, .slice u2a M u2c, .slice (some ⟨g6, 0, none⟩) K c6] 155).below qb
       have xb := B.RowAt.new (w6.alloc (.cells #[.slice none 0 0, .int .i64 f2, .slice u2a M u2c, .slice (some ⟨g6, 0, none⟩) K c6] 155)) #[.slice none 0 0, .int .i64 n.f, .slice u1a I u1c, .slice (some ⟨g5, 0, none⟩) H c5] 155
       have sa : (w6.alloc (.cells #[.slice none 0 0, .int .i64 f2, .slice u2a M u2c, .slice (some ⟨g6, 0, none⟩) K c6] 155)).heap.size = w6.heap.size + 1 := by simp
       rw [sa] at xb
       have HN2 : Hid (New2 w ⟨[], n.f, n.lk.take I, n.us.take H⟩ k ⟨[], f2, n.lk.drop H, n.us.drop H⟩ (.returned (.tuple #[.pointer (some ⟨w6.heap.size + 1, 0, none⟩), .string k, .pointer (some ⟨w6.heap.size, 0, none⟩)])) ((w6.alloc (.cells #[.slice none 0 0, .int .i64 f2, .slice u2a M u2c, .slice (some ⟨g6, 0, none⟩) K c6] 155)).alloc (.cells #[.slice none 0 0, .int .i64 n.f, .slice u1a I u1c, .slice (some ⟨g5, 0, none⟩) H c5] 155))) := ⟨_, _, _, _, _, _, _, _, rfl, ⟨xb, PrR.nil _, ((HR1.out.below HQ2.out).below qa).below qb, (HL1.out.below qa).below qb, (fun p hp => by simp at hp), by simp, HFF.out.1, HFF.out.2.1, HFF.out.2.2.1⟩, ⟨xa, PrR.nil _, ((HR2.out.below HQ2.out).below qa).below qb, (HL2.out.below qa).below qb, (fun p hp => by simp at hp), by simp, HFF.out.2.2.2.1, HFF.out.2.2.2.2.1, HFF.out.2.2.2.2.2⟩, Below.next (Below.next (Below.next HB4.out HQ2.out) qa) qb⟩
       clear qa qb xa xb sa
       go_wp2
       go_ret3
       exact ⟨I, k, f2, HBEST.out, HKX.out, by rw [← HHI.out]; first | exact HN2.out | exact HN2.out.drew⟩)

end Go.Proofs.YtnaedmmfiiebaaaGreatDoor.T

namespace Go.Proofs.YtnaedmmfiiebaaaGreatDoor.T
open Go.RowKit

/-- What a node in memory must be besides: as many children as keys, and one. -/
def SN.kin (n : SN) : Prop := n.us.length = 0 ∨ n.us.length = n.lk.length + 1
/-- The two halves of a node, and the key between them. -/
def CutS (n a : SN) (k : ByteArray) (b : SN) : Prop :=
  (n.us.length = 0 ∧ ∃ (i : Nat) (v : ByteArray), IsBest (gapC (szsN n.ps)) ((szsN n.ps).length - 1) i ∧ n.ps[i]? = some (k, v) ∧ a = ⟨n.ps.take i, 0, [], []⟩ ∧ b = ⟨n.ps.drop i, 0, [], []⟩) ∨
  (¬ n.us.length = 0 ∧ ∃ (i : Nat) (f2 : Int) (x : Int), IsBest (gapP (szsKs (n.lk.map (·.1)))) ((szsKs (n.lk.map (·.1))).length - 2) i ∧ n.lk[i]? = some (k, x) ∧ a = ⟨[], n.f, n.lk.take i, n.us.take (i + 1)⟩ ∧ b = ⟨[], f2, n.lk.drop (i + 1), n.us.drop (i + 1)⟩)
theorem ncut_any (A : Nat → Addr) (b : Nat) (n : SN) (pv lv cv : Value) (w : World) (h : SNR w b n pv lv cv) (hk : n.kin) (hb : 4072 < n.sz) (hE : ErrC A w) :
    Calls Tryz.prog 129 #[.pointer (some ⟨b, 0, none⟩)] w fun e w' => ∃ a k c, CutS n a k c ∧ New2 w a k c e w' := by
  unfold SN.sz at hb
  by_cases h0 : n.us.length = 0
  · rw [if_pos h0] at hb
    have h2 := szL_max h.fine.1
    refine (ncut_leaf A b n pv lv cv w h h0 (by omega) hE).mono fun e w' hh => ?_
    obtain ⟨i, k, v, h1, h2, h3⟩ := hh
    exact ⟨_, k, _, .inl ⟨h0, i, v, h1, h2, rfl, rfl⟩, h3⟩
  · rw [if_neg h0] at hb
    have h2 := szB_le h.fine.2.2.1
    have hlen : n.us.length = n.lk.length + 1 := hk.resolve_left h0
    refine (ncut_br A b n pv lv cv w h h0 hlen (by omega) hE).mono fun e w' hh => ?_
    obtain ⟨i, k, f2, h1, ⟨x, h2⟩, h3⟩ := hh
    exact ⟨_, k, _, .inr ⟨h0, i, f2, x, h1, h2, rfl, rfl⟩, h3⟩
/-- A branch with a node in the place of a child, or with its halves. -/
def WithS (w : World) (n : SN) (i bb : Nat) (nb : SN) (e : Ending) (w' : World) : Prop :=
  (¬ 4072 < nb.sz ∧ New w ⟨[], n.f, n.lk, n.us.set i (.nd bb)⟩ e w') ∨
  (4072 < nb.sz ∧ ∃ (a : SN) (k : ByteArray) (c : SN) (ba bc : Nat) (pa la ca pc lc cc : Value), CutS nb a k c ∧ SNR w' ba a pa la ca ∧ SNR w' bc c pc lc cc ∧ New w ⟨[], n.f, B.insL n.lk i (k, 0), C.insL (n.us.set i (.nd ba)) (i + 1) (.nd bc)⟩ e w')
theorem CutS.key {n a c : SN} {k : ByteArray} (h : CutS n a k c) (h1 : ∀ p ∈ n.ps, mayP p = true) (h2 : ∀ p ∈ n.lk, mayKey p.1) : mayKey k := by
  rcases h with ⟨_, i, v, _, h3, _⟩ | ⟨_, i, _, x, _, h3, _⟩
  · have := may_parts' (h1 _ (List.mem_of_getElem? h3)); exact ⟨this.1, this.2.1⟩
  · exact h2 _ (List.mem_of_getElem? h3)
set_option maxHeartbeats 2000000 in
theorem wnode_any (A : Nat → Addr) (b bb : Nat) (n nb : SN) (pv lv cv pb lb cb : Value) (i : Nat) (w : World) (h : SNR w b n pv lv cv) (hb : SNR w bb nb pb lb cb) (hi : i < n.us.length) (hlen : n.us.length = n.lk.length + 1) (hroom : n.lk.length ≤ 3999) (hkin : nb.kin) (hE : ErrC A w) :
    Calls Tryz.prog 124 #[.pointer (some ⟨b, 0, none⟩), .int .i64 (i : Int), .pointer (some ⟨bb, 0, none⟩)] w fun e w' => WithS w n i bb nb e w' := by
  have HTB := hide (toobig_any bb nb pb lb cb w hb)
  have HH := hide h
  have HHB := hide hb
  have HE := hide hE
  have HIL : Hid (i < n.us.length ∧ n.us.length = n.lk.length + 1 ∧ n.lk.length ≤ 3999) := ⟨hi, hlen, hroom⟩
  clear h hb hE hi hlen hroom
  by_cases hbig : 4072 < nb.sz
  · rw [show decide (4072 < nb.sz) = true by simp [hbig]] at HTB
    have HBIG := hide hbig
    have HKIN := hide hkin
    clear hbig hkin
    go_enter Tryz.func124, Tryz.ntmps124
    go_wp2_with fail
    refine HTB.out.mono ?_
    rintro e w1 ⟨rfl, hb1⟩
    have HB1 := hide hb1
    have HCUT := hide (ncut_any A bb nb pb lb cb w1 (HHB.out.below hb1) HKIN.out HBIG.out (HE.out.below hb1))
    clear hb1 HTB
    go_wp2_with fail
    refine HCUT.out.mono ?_
    rintro e w2 ⟨a, k, c, hcut, ba, bc, pa, la, ca, pc, lc, cc, rfl, ha, hc, hb2⟩
    have HB2 := hide (Below.next HB1.out hb2)
    have HA := hide ha
    have HC := hide hc
    have HCS := hide hcut
    have HWC := hide (wchild_any b n pv lv cv i (.nd ba) w2 (HH.out.below HB2.out) HIL.out.1)
    clear ha hc hcut hb2 HCUT HB1
    go_wp2_with fail
    refine HWC.out.mono ?_
    rintro e w3 ⟨b3, p3, l3, c3, rfl, h3, hb3⟩
    have HB3 := hide (Below.next HB2.out hb3)
    have HWL := hide (wlink_any A b3 _ p3 l3 c3 i k (.nd bc) w3 h3 (by have := HIL.out; show i ≤ n.lk.length; omega) (by have := HIL.out; show (n.us.set i _).length = n.lk.length + 1; rw [List.length_set]; omega) HIL.out.2.2 (HCS.out.key HHB.out.fine.1 HHB.out.fine.2.2.1) (HE.out.below HB3.out))
    have HA3 := hide (HA.out.below hb3)
    have HC3 := hide (HC.out.below hb3)
    clear h3 hb3 HWC HA HC HB2
    go_wp2_with fail
    refine HWL.out.mono ?_
    rintro e w4 ⟨b4, p4, l4, c4, rfl, h4, hb4⟩
    have HRES : Hid (WithS w n i bb nb (.returned (.pointer (some ⟨b4, 0, none⟩))) w4) := .inr ⟨HBIG.out, a, k, c, ba, bc, pa, la, ca, pc, lc, cc, HCS.out, HA3.out.below hb4, HC3.out.below hb4, b4, p4, l4, c4, rfl, h4, Below.next HB3.out hb4⟩
    clear h4 hb4 HWL HA3 HC3
    go_wp2
    go_ret
    exact HRES.out
  · rw [show decide (4072 < nb.sz) = false by simp [hbig]] at HTB
    have HBIG := hide hbig
    clear hbig hkin
    go_enter Tryz.func124, Tryz.ntmps124
    go_wp2_with fail
    refine HTB.out.mono ?_
    rintro e w1 ⟨rfl, hb1⟩
    have HB1 := hide hb1
    have HWC := hide (wchild_any b n pv lv cv i (.nd bb) w1 (HH.out.below hb1) HIL.out.1)
    clear hb1 HTB
    go_wp2_with fail
    refine HWC.out.mono ?_
    rintro e w3 ⟨b3, p3, l3, c3, rfl, h3, hb3⟩
    have HRES : Hid (WithS w n i bb nb (.returned (.pointer (some ⟨b3, 0, none⟩))) w3) := .inl ⟨HBIG.out, b3, p3, l3, c3, rfl, h3, Below.next HB1.out hb3⟩
    clear h3 hb3 HWC
    go_wp2
    go_ret
    exact HRES.out

end Go.Proofs.YtnaedmmfiiebaaaGreatDoor.T

namespace Go.Proofs.YtnaedmmfiiebaaaGreatDoor.T
open Go.RowKit

/-- What a tree begins with when a node has become of its root. -/
def RootS (w : World) (b : Nat) (n : SN) (e : Ending) (w' : World) : Prop :=
  Below w.heap.size w w' ∧
  ((4072 < n.sz ∧ ∃ (a : SN) (k : ByteArray) (c : SN) (ba bc br : Nat) (pa la ca pc lc cc pr lr cr : Value), CutS n a k c ∧ SNR w' ba a pa la ca ∧ SNR w' bc c pc lc cc ∧ e = .returned (C.Ch.nd br).val ∧ SNR w' br ⟨[], 0, [(k, 0)], [.nd ba, .nd bc]⟩ pr lr cr) ∨
   (¬ 4072 < n.sz ∧ ¬ n.us.length = 0 ∧ n.lk.length = 0 ∧ ∃ p, n.us[0]? = some p ∧ e = .returned p.val) ∨
   (¬ 4072 < n.sz ∧ n.us.length = 0 ∧ n.ps.length = 0 ∧ e = .returned .nilIface) ∨
   (¬ 4072 < n.sz ∧ (n.us.length = 0 ∧ ¬ n.ps.length = 0 ∨ ¬ n.us.length = 0 ∧ ¬ n.lk.length = 0) ∧ e = .returned (C.Ch.nd b).val))
set_option maxHeartbeats 2000000 in
theorem rootof_big (A : Nat → Addr) (b : Nat) (n : SN) (pv lv cv : Value) (w : World) (h : SNR w b n pv lv cv) (hkin : n.kin) (hbig : 4072 < n.sz) (hE : ErrC A w) :
    Calls Tryz.prog 83 #[.pointer (some ⟨b, 0, none⟩)] w fun e w' => RootS w b n e w' := by
  have HTB := hide (toobig_any b n pv lv cv w h)
  rw [show decide (4072 < n.sz) = true by simp [hbig]] at HTB
  have HH := hide h
  have HE := hide hE
  have HBIG := hide hbig
  have HKIN := hide hkin
  clear h hE hbig hkin
  go_enter Tryz.func83, Tryz.ntmps83
  go_wp2_with fail
  refine HTB.out.mono ?_
  rintro e w1 ⟨rfl, hb1⟩
  have HB1 := hide hb1
  have HCUT := hide (ncut_any A b n pv lv cv w1 (HH.out.below hb1) HKIN.out HBIG.out (HE.out.below hb1))
  clear hb1 HTB
  go_wp2_with fail
  refine HCUT.out.mono ?_
  rintro e w2 ⟨a, k, c, hcut, ba, bc, pa, la, ca, pc, lc, cc, rfl, ha, hc, hb2⟩
  have hmk := hcut.key HH.out.fine.1 HH.out.fine.2.2.1
  have q1 := below_new w2 (.cells #[.string k, .int .i64 0] 179)
  have q2 := below_new (w2.alloc (.cells #[.string k, .int .i64 0] 179)) (.cells #[.iface 152 (.pointer (some ⟨ba, 0, none⟩)), .iface 152 (.pointer (some ⟨bc, 0, none⟩))] 97)
  have r1 := B.lkR_lit w2 (k, 0) 179
  have s1 : (w2.alloc (.cells #[.string k, .int .i64 0] 179)).heap.size = w2.heap.size + 1 := by simp
  have b2 := boxed_new (w2.alloc (.cells #[.string k, .int .i64 0] 179)) #[.iface 152 (.pointer (some ⟨ba, 0, none⟩)), .iface 152 (.pointer (some ⟨bc, 0, none⟩))] 97
  rw [s1] at b2
  have r2 : C.LkR ((w2.alloc (.cells #[.string k, .int .i64 0] 179)).alloc (.cells #[.iface 152 (.pointer (some ⟨ba, 0, none⟩)), .iface 152 (.pointer (some ⟨bc, 0, none⟩))] 97)) (.slice (some ⟨w2.heap.size + 1, 0, none⟩) 2 2) [.nd ba, .nd bc] := by
    refine ⟨_, 2, rfl, by simp [C.lks], fun h => (by cases h), fun j u hj => ⟨_, _, rfl, ?_⟩⟩
    have hj' : j < 2 := by have := (List.getElem?_eq_some_iff.1 hj).1; simpa [C.lks] using this
    have e1 := b2.2 j (by simpa using hj')
    rw [Nat.zero_add, e1]
    match j, hj', hj with
    | 0, _, hj => exact hj
    | 1, _, hj => exact hj
  obtain ⟨W3, hW3⟩ : ∃ W, W = (w2.alloc (.cells #[.string k, .int .i64 0] 179)).alloc (.cells #[.iface 152 (.pointer (some ⟨ba, 0, none⟩)), .iface 152 (.pointer (some ⟨bc, 0, none⟩))] 97) := ⟨_, rfl⟩
  rw [← hW3] at r2 q2
  have s3 : W3.heap.size = w2.heap.size + 2 := by rw [hW3]; simp
  have q3 := below_new W3 (.cells #[.slice none 0 0, .int .i64 0, .slice (some ⟨w2.heap.size, 0, none⟩) 1 1, .slice (some ⟨w2.heap.size + 1, 0, none⟩) 2 2] 155)
  have x3 := B.RowAt.new W3 #[.slice none 0 0, .int .i64 0, .slice (some ⟨w2.heap.size, 0, none⟩) 1 1, .slice (some ⟨w2.heap.size + 1, 0, none⟩) 2 2] 155
  rw [s3] at x3
  have hball := Below.next (Below.next q1 q2) q3
  have HRES : Hid (RootS w b n (.returned (C.Ch.nd (w2.heap.size + 2)).val) (W3.alloc (.cells #[.slice none 0 0, .int .i64 0, .slice (some ⟨w2.heap.size, 0, none⟩) 1 1, .slice (some ⟨w2.heap.size + 1, 0, none⟩) 2 2] 155))) :=
    ⟨Below.next (Below.next HB1.out hb2) hball, .inl ⟨HBIG.out, a, k, c, ba, bc, w2.heap.size + 2, pa, la, ca, pc, lc, cc, _, _, _, hcut, ha.below hball, hc.below hball, rfl, ⟨x3, PrR.nil _, (r1.below q2).below q3, r2.below q3, (fun p hp => by simp at hp), by simp, (fun p hp => by simp at hp; subst hp; exact hmk), by simp, by simp⟩⟩⟩
  rw [hW3] at HRES
  clear hmk q1 q2 r1 s1 b2 r2 hW3 s3 q3 x3 hball ha hc hcut hb2 HCUT HB1
  go_wp2
  go_ret
  exact HRES.out

theorem rootof_rest (b : Nat) (n : SN) (pv lv cv : Value) (w : World) (h : SNR w b n pv lv cv) (hbig : ¬ 4072 < n.sz) :
    Calls Tryz.prog 83 #[.pointer (some ⟨b, 0, none⟩)] w fun e w' => RootS w b n e w' := by
  have HTB := hide (toobig_any b n pv lv cv w h)
  rw [show decide (4072 < n.sz) = false by simp [hbig]] at HTB
  have HIS : Hid (∀ W, Below w.heap.size w W → Calls Tryz.prog 92 #[.pointer (some ⟨b, 0, none⟩)] W fun e w' => e = .returned (.bool (decide (n.us.length = 0))) ∧ W = w') := fun W hW => isleaf_any b n pv lv cv W (h.below hW)
  have HH := hide h
  have HBIG := hide hbig
  obtain ⟨xa, xc, hpv⟩ := h.prs.form
  obtain ⟨ya, yc, hlv⟩ := h.lks.form
  obtain ⟨za, zc, hcv⟩ := h.kids.form
  subst hpv hlv hcv
  by_cases h0 : n.us.length = 0
  · rw [show decide (n.us.length = 0) = true by simp [h0]] at HIS
    by_cases h1 : n.ps.length = 0
    · go_enter Tryz.func83, Tryz.ntmps83
      have HRES : Hid (∀ w1, Below w.heap.size w w1 → RootS w b n (.returned .nilIface) w1) := fun w1 hb => ⟨hb, .inr (.inr (.inl ⟨HBIG.out, h0, h1, rfl⟩))⟩
      clear h hbig h0
      rw [h1] at HH
      clear h1
      go_wp2_with fail
      refine HTB.out.mono ?_
      rintro e w1 ⟨rfl, hb1⟩
      have HB1 := hide hb1
      have p0 := (HH.out.below hb1).c0
      clear hb1
      go_wp2_with (first | (go_at_call 92; refine (HIS.out _ HB1.out).mono ?_; rintro e w2 ⟨rfl, rfl⟩))
      go_ret
      exact HRES.out _ HB1.out
    · go_enter Tryz.func83, Tryz.ntmps83
      have HRES : Hid (∀ w1, Below w.heap.size w w1 → RootS w b n (.returned (C.Ch.nd b).val) w1) := fun w1 hb => ⟨hb, .inr (.inr (.inr ⟨HBIG.out, .inl ⟨h0, h1⟩, rfl⟩))⟩
      have hz : ((n.ps.length : Int) == 0) = false := by simp; exact fun e => h1 (by rw [e]; rfl)
      clear h hbig h0 h1
      go_wp2_with fail
      refine HTB.out.mono ?_
      rintro e w1 ⟨rfl, hb1⟩
      have HB1 := hide hb1
      have p0 := (HH.out.below hb1).c0
      clear hb1
      go_wp2_with (first | (go_at_call 92; refine (HIS.out _ HB1.out).mono ?_; rintro e w2 ⟨rfl, rfl⟩))
      go_ret
      exact HRES.out _ HB1.out
  · rw [show decide (n.us.length = 0) = false by simp [h0]] at HIS
    by_cases h1 : n.lk.length = 0
    · obtain ⟨p, hp⟩ : ∃ p, n.us[0]? = some p := ⟨_, List.getElem?_eq_getElem (by omega)⟩
      have HRES : Hid (∀ w1, Below w.heap.size w w1 → RootS w b n (.returned p.val) w1) := fun w1 hb => ⟨hb, .inr (.inl ⟨HBIG.out, h0, h1, p, hp, rfl⟩)⟩
      obtain ⟨_, _, he, _, _, hcell⟩ := h.kids
      obtain ⟨g, o, hg, c1⟩ := hcell 0 p.val (by unfold C.lks; rw [List.getElem?_map, hp]; rfl)
      simp only [Value.slice.injEq] at he
      obtain ⟨rfl, -, rfl⟩ := he
      subst hg
      rw [Nat.add_zero] at c1
      obtain ⟨pt, px, hpv⟩ := val_form p
      rw [hpv] at c1 HRES
      have hm1 : (0 : Int) < (n.us.length : Int) := by omega
      have hlk0 : ((n.lk.length : Int) == 0) = true := by simp [h1]
      have HC1 := hide c1
      go_enter Tryz.func83, Tryz.ntmps83
      clear h hbig h0 hp hcell hpv c1 h1
      go_wp2_with fail
      refine HTB.out.mono ?_
      rintro e w1 ⟨rfl, hb1⟩
      have HB1 := hide hb1
      have p2 := (HH.out.below hb1).c2
      have p3 := (HH.out.below hb1).c3
      have p4 := (hb1.cell (p := ⟨g, o, none⟩) (World.block_lt_of_cell? w _ HC1.out)).trans HC1.out
      clear hb1
      go_wp2_with (first | (go_at_call 92; refine (HIS.out _ HB1.out).mono ?_; rintro e w2 ⟨rfl, rfl⟩))
      go_ret
      exact HRES.out _ HB1.out
    · have HRES : Hid (∀ w1, Below w.heap.size w w1 → RootS w b n (.returned (C.Ch.nd b).val) w1) := fun w1 hb => ⟨hb, .inr (.inr (.inr ⟨HBIG.out, .inr ⟨h0, h1⟩, rfl⟩))⟩
      have hz : ((n.lk.length : Int) == 0) = false := by simp; exact fun e => h1 (by rw [e]; rfl)
      go_enter Tryz.func83, Tryz.ntmps83
      clear h hbig h0 h1
      go_wp2_with fail
      refine HTB.out.mono ?_
      rintro e w1 ⟨rfl, hb1⟩
      have HB1 := hide hb1
      have p2 := (HH.out.below hb1).c2
      clear hb1
      go_wp2_with (first | (go_at_call 92; refine (HIS.out _ HB1.out).mono ?_; rintro e w2 ⟨rfl, rfl⟩))
      go_ret
      exact HRES.out _ HB1.out
theorem rootof_any (A : Nat → Addr) (b : Nat) (n : SN) (pv lv cv : Value) (w : World) (h : SNR w b n pv lv cv) (hkin : n.kin) (hE : ErrC A w) :
    Calls Tryz.prog 83 #[.pointer (some ⟨b, 0, none⟩)] w fun e w' => RootS w b n e w' := by
  by_cases hb : 4072 < n.sz
  · exact rootof_big A b n pv lv cv w h hkin hb hE
  · exact rootof_rest b n pv lv cv w h hb

end Go.Proofs.YtnaedmmfiiebaaaGreatDoor.T
