import Derived.Test.YtihmgigfkmofnaaGreatDoorG26
set_option maxHeartbeats 400000
set_option maxRecDepth 100000
open Go.Proofs.Tryz
namespace Go.Proofs.YtihmgigfkmofnaaGreatDoor
namespace Q
open Go.RowKit
def T0(P:Nat):Nat→Bool:=fun j=>decide (j<2) || decide (P≤j)
theorem TM{P:Nat}(h1:4≤P)(h2:P≤1048576):qc P (T0 P):=⟨h1,h2,by simp [T0],by simp [T0],fun j hj=>by simp [T0,hj]⟩
theorem FL{T T':Nat→Bool}{n i:Nat}(h:∀ j,j<64*n→T j=T' j)(hi:i<n):word T i=word T' i:=by
 apply eR
 intro j;rw [eY,eY];by_cases hj:j<64
 ·rw [h _ (by omega)]
 ·simp [hj]
theorem Be{T T':Nat→Bool}{n:Nat}(h:∀ j,j<64*n→T j=T' j):j6 T n=j6 T' n:=by
 apply qd
 intro i;by_cases hi:i<n
 ·rw [iD _ _ _ hi,iD _ _ _ hi,FL h hi]
 ·rw [bB (by rw [gw];omega),bB (by rw [gw];omega)]
theorem eU.congr{w:World}{b g P:Nat}{T T':Nat→Bool}(h:eU w b g P T)(he:∀ j,j<64*nW P→T j=T' j):eU w b g P T' :=
 ⟨h.dy,by rw [← Be he];exact h.QR,h.hi⟩
theorem vO(P:Nat)(w:World)(h4:4≤P)(hP:P≤1048576):Calls prog 39 #[.int .i64 (P:Int)] w fun e w'=>∃ b g,e = .returned (.tuple #[.pointer (some ⟨b,0,none⟩),.nilIface])∧w.heap.size≤b∧w.heap.size≤g∧eU w' b g P (T0 P)∧Below w.heap.size w w':=by
 have hn:=I1 hP;have tG:=DF P;obtain ⟨w1,pM,jB,aN,jT⟩:=GD w (nW P) hn;have fI:eU (w1.alloc (.cells #[.int .i64 P,.slice (some ⟨w.heap.size,0,none⟩) (nW P) (nW P)] 131)) w1.heap.size w.heap.size P (fun _=>false) :=
  ⟨heap_alloc_new _ _,Ks (xo jB (ai _ _)) (aC _),hP⟩
 have HS:=ab (wO w1.heap.size w.heap.size P _ 0 2 _ fI (by omega) (by omega))
 have bN:Hid (Below w.heap.size w (w1.alloc (.cells #[.int .i64 P,.slice (some ⟨w.heap.size,0,none⟩) (nW P) (nW P)] 131))):=aN.alloc aN.size _;have qe:=ab jT;have BS:((P:Int)+63) / 64=(nW P:Int):=by unfold nW;omega
 have hq:((P:Int)+64 - 1) / 64=(nW P:Int):=by unfold nW;omega
 have HNW:Hid (P≤64*nW P):=tG;clear jB aN jT fI tG;obtain ⟨n,hN⟩ : ∃ n,n=nW P:=⟨_,rfl⟩;rw [← hN] at hn pM HS bN BS hq;have HN:=ab hN;clear hN;go_enter func39,ntmps39;go_wp2_with fail;refine HS.out.mono ?_
 rintro e w2 ⟨rfl,h2,o2⟩;have nJ:=ab (wO w1.heap.size w.heap.size P _ P (64*nW P) _ h2 HNW.out (aj _));have c1:=h2.c1;rw [← HN.out] at c1 nJ;have bH:Hid (Below w.heap.size w w2):=by
  have hb:Below w.heap.size (w1.alloc (.cells #[.int .i64 P,.slice (some ⟨w.heap.size,0,none⟩) n n] 131)) w2:=o2.below (fun k hk=>by show w.heap.size≤k;rw [show k=w.heap.size from hk];exact aj _) bN.out.size
  exact bN.out.trans hb
 clear h2 o2 HS;generalize hW:w1.heap.size=b1 at *;have HWB:=ab hW;clear hW pM;have h64:IntKind.i64.wrap ((n:Int)*64)=((64*n:Nat):Int):=by rw [IntKind.wrap_i64];omega
 obtain ⟨m,hm⟩ : ∃ m,m=64*n:=⟨_,rfl⟩;rw [← hm] at h64 nJ;have HM:=ab hm;have hmI:(n:Int)*64=(m:Int):=by omega
 clear hm;go_wp2_with fail;refine nJ.out.mono ?_
 rintro e w3 ⟨rfl,h3,o3⟩;have VW:=h3.congr (T':=T0 P) (fun j hj=>by
  unfold CO T0;have hm:=HM.out;rw [HN.out] at hm;have:j<m:=by omega
  simp [this])
 have H3:=ab VW;have dH:Hid (Below w.heap.size w w3):=bH.out.trans (o3.below (fun k hk=>by show w.heap.size≤k;rw [show k=w.heap.size from hk];exact aj _) bH.out.size)
 clear h3 VW o3 nJ;go_wp2_with fail;go_ret2;exact ⟨_,_,rfl,by have:=HWB.out;have:=qe.out;omega,aj _,H3.out,dH.out⟩
end Q
end Go.Proofs.YtihmgigfkmofnaaGreatDoor
