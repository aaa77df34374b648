import Derived.Test.YtiihnoohodklhaaDoorDAp1
import Derived.Test.YtiihnoohodklhaaDoorPS
import Derived.Test.YtiihnoohodklhaaDoorRT
import Derived.Deep.RegionHeld3
import Derived.BigQuiet
namespace Go.Proofs.YtiihnoohodklhaaDoor
open Go.RowKit
attribute [local go_sem ↓] Go.wp_at_zero Go.wp_at_succ

def mB (i : Nat) : ByteArray := ⟨#[109, UInt8.ofNat i]⟩
theorem mB_conv (w : World) (i : Nat) (hi : i < 200) : (convert 49 9 (.slice (some ⟨w.heap.size, 0, none⟩) 2 2)).run Tryd.prog (w.alloc (.cells #[.int .u8 109, .int .u8 (i : Int)] 5)).drew = .ok (.string (mB i)) (w.alloc (.cells #[.int .u8 109, .int .u8 (i : Int)] 5)).drew := by
  have hl : (#[.int .u8 109, .int .u8 (i : Int)] : Array Value) = (u8s [109, UInt8.ofNat i]).toArray := by
    have : (UInt8.ofNat i).toNat = i := by simp; omega
    simp [u8s, this]
  rw [hl]
  have hr : RowT 5 (w.alloc (.cells (u8s [109, UInt8.ofNat i]).toArray 5)).drew w.heap.size [109, UInt8.ofNat i] := rowT_new _ _ _
  exact run_str _ _ [109, UInt8.ofNat i] ⟨some ⟨w.heap.size, 0, none⟩, 2, rfl, fun j hj => ⟨w.heap.size, 0, rfl, by rw [Nat.zero_add]; exact hr.cell j hj⟩⟩ (by simp)
theorem ChO.spot {w : World} {base g n cap : Nat} {l : List Ch} (h : ChO w base (.slice (some ⟨g, 0, none⟩) n cap) l) (k : Nat) (hk : k < l.length) : ChAt w g (k * 5) l[k] ∧ ∀ o, w.frozen? ⟨g, o, none⟩ = false := by
  obtain rfl := h.cnt
  obtain ⟨a', c', he, _, _, hc⟩ := h.at
  obtain ⟨g', o', ha, h1⟩ := hc k hk
  cases he
  cases ha
  rw [Nat.zero_add] at h1
  exact ⟨h1, fun o => World.ownsRow.frozenAt h o⟩
theorem ChO.some {w : World} {base : Nat} {v : Value} {l : List Ch} (h : ChO w base v l) (hl : 0 < l.length) : ∃ g c, v = .slice (some ⟨g, 0, none⟩) l.length c ∧ base ≤ g ∧ g < w.heap.size ∧ l.length ≤ c := by
  rcases h.2 with ⟨_, h0⟩ | ⟨g, cap, cur, rfl, h1, h2, h3, _⟩
  · omega
  · exact ⟨g, cap, rfl, h1, (h.blk g rfl).2, h3⟩
theorem sole_wrote (w : World) (g o : Nat) (p : Ch) : Sole g w (((((w.setCell ⟨g, o, none⟩ (.string p.1)).setCell ⟨g, o + 1, none⟩ (.bool p.2.had)).setCell ⟨g, o + 2, none⟩ (.bool p.2.has)).setCell ⟨g, o + 3, none⟩ (.string p.2.old)).setCell ⟨g, o + 4, none⟩ (.string p.2.new)) :=
  ((((Sole.set g o w _).trans (Sole.set g (o + 1) _ _)).trans (Sole.set g (o + 2) _ _)).trans (Sole.set g (o + 3) _ _)).trans (Sole.set g (o + 4) _ _)
theorem but_sole {base g n c : Nat} {l : List Ch} {w w' : World} (h : Sole g w w') (ho : ChO w base (.slice (some ⟨g, 0, none⟩) n c) l) : But base (ofT tCH) w w' :=
  ⟨h.os, h.tape, h.output, h.size, fun k o hk hno => (h.block k (Array.getElem?_eq_some_iff.1 hk).1 (fun e => by
    subst e
    obtain ⟨cs, rfl⟩ := ho.kind k o rfl hk
    exact hno ⟨(ho.blk k rfl).1, by simp [ofT, tCH]⟩)).trans hk⟩
end Go.Proofs.YtiihnoohodklhaaDoor
