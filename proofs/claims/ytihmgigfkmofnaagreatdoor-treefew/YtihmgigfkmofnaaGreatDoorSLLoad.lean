import Derived.Test.YtihmgigfkmofnaaGreatDoorG18
open Go.Proofs.Tryz
namespace Go.Proofs.YtihmgigfkmofnaaGreatDoor
namespace S
open Go.RowKit
theorem Di{w:World}{base n:Nat}{v:Value}{l:List UInt8}(h:w.ownsRow base 5 1 v n (dR l)):RdB w v l:=by
 rcases Gf h with h | ⟨g,cap,hv,h1,h2,h3,h4⟩
 ·exact .inl h
 ·exact .inr ⟨g,cap,hv,h1,aq h2 (by decide),h3,h4⟩
theorem Ld{w:World}{b:Nat}{u0 u1 u2 u3 u4:Value}:V.Step (fun k=>k=b) (fun k=>k=b) w (((((w.setCell ⟨b,0,none⟩ u0).setCell ⟨b,1,none⟩ u1).setCell ⟨b,2,none⟩ u2).setCell ⟨b,3,none⟩ u3).setCell ⟨b,4,none⟩ u4):=by
 have hs:bK b w (((((w.setCell ⟨b,0,none⟩ u0).setCell ⟨b,1,none⟩ u1).setCell ⟨b,2,none⟩ u2).setCell ⟨b,3,none⟩ u3).setCell ⟨b,4,none⟩ u4) :=
  ((((bK.set b 0 w u0).trans (bK.set b 1 _ u1)).trans (bK.set b 2 _ u2)).trans (bK.set b 3 _ u3)).trans (bK.set b 4 _ u4)
 exact ⟨hs.os,hs.tape,hs.output,hs.size,hs.block,fun k h=>.inl h⟩
def R6(d:V.bD):V.bD:={ d with nr:=wrap64 (d.nr+8) }
end S
end Go.Proofs.YtihmgigfkmofnaaGreatDoor
