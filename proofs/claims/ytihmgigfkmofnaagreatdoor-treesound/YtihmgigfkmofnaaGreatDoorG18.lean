import Derived.Test.YtihmgigfkmofnaaGreatDoorG17
set_option maxHeartbeats 4000000
set_option maxRecDepth 100000
open Go.Proofs.Tryz
namespace Go.Proofs.YtihmgigfkmofnaaGreatDoor
namespace S
open Go.RowKit
def sub(l:List UInt8)(o m:Nat):List UInt8:=(l.drop o).take m
theorem mX(l:List UInt8)(o m:Nat)(h:o+m≤l.length):(sub l o m).length=m:=by
 simp [sub];omega
theorem Te(l:List UInt8)(o m j:Nat)(h:o+m≤l.length)(hj:j<(sub l o m).length):(sub l o m)[j]=l[o+j]'(by rw [mX l o m h] at hj;omega):=by
 simp [sub]
def nums(l:List UInt8)(k:Nat):Nat:=ey (sub l (place k) (width k))
def iI(l:List UInt8)(n k:Nat):Nat:=if k<n then nums l k else 0
def gG(w:World)(hb:Nat)(f:Nat→Nat):Prop:=w.heap[hb]?=some (.cells #[.int .u64 (f 0:Int),.int .u64 (f 1:Int),.int .u64 (f 2:Int),.int .u64 (f 3:Int),.int .u64 (f 4:Int)] 256 (0,0))
theorem rM(g o m cap hb k:Nat)(F8:Value)(l:List UInt8)(w:World)(hk:k<5)(hm:l.length=m)(h1:1≤m)(h8:m≤8)(hc:∀ j (h:j<l.length),w.cell? ⟨g,o+j,none⟩=some (.int .u8 (l[j].toNat:Int)))(hold:w.cell? ⟨hb,k,none⟩=some F8)(hfz:w.frozen? ⟨hb,k,none⟩=false):Calls prog 226 #[.int .i64 (k:Int),.slice (some ⟨g,o,none⟩) m cap,.pointer (some ⟨hb,0,none⟩)] w fun e w'=>e = .returned (.tuple #[])∧∃ w1,Below w.heap.size w w1∧w'=w1.setCell ⟨hb,k,none⟩ (.int .u64 ((ey l:Nat):Int)):=by
 subst hm;have hg:g<w.heap.size:=World.block_lt_of_cell? w _ (hc 0 (by omega))
 have jB:hb<w.heap.size:=World.block_lt_of_cell? w _ hold;have HG:Hid (∀ w,g<w.heap.size→(∀ j (h:j<l.length),w.cell? ⟨g,o+j,none⟩=some (.int .u8 (l[j].toNat:Int)))→Calls prog 227 #[.slice (some ⟨g,o,none⟩) l.length cap] w fun e w'=>e = .returned (.tuple #[.int .u64 ((ey l:Nat):Int),.nilIface])∧Below w.heap.size w w'):=fun w hg hc=>Q2 g o cap l w h1 h8 hg hc
 have HC:=ab hc;have HO:=ab hold;have HF:=ab hfz;have k0:(0:Int)≤(k:Int):=by omega
 have k5:(k:Int)<5:=by omega
 clear hc hold hfz h1 h8;generalize ey l=n at *;go_enter func226,ntmps226;go_wp2_with (go_at_call 227;refine (HG.out _ hg HC.out).mono ?_;rintro e w1 ⟨rfl,aO⟩;have bT:=ab aO;have kP:w1.cell? ⟨hb,k,none⟩=some F8:=(aO.cell (p:=⟨hb,k,none⟩) jB).trans HO.out;have hf1:w1.frozen? ⟨hb,k,none⟩=false:=(aO.frozen (p:=⟨hb,k,none⟩) jB).trans HF.out;clear aO)
 go_end0
 exact ⟨rfl,w1,bT.out,rfl⟩
theorem ke(l:List UInt8)(k:Nat)(h:k<5):iI l 5 k=nums l k:=by simp [iI,h]
theorem mx{w wr w0:World}{o:Obj}{g hb:Nat}{l:List UInt8}(k:Nat)(hk:k<5)(hh:gG wr hb (iI l k))(hs:bG hb w wr)(_hg:g≠hb)(mS:Below (wr.alloc o).heap.size (wr.alloc o) w0):gG (w0.setCell ⟨hb,k,none⟩ (.int .u64 ((ey (sub l (place k) (width k)):Nat):Int))) hb (iI l (k+1))∧bG hb w (w0.setCell ⟨hb,k,none⟩ (.int .u64 ((ey (sub l (place k) (width k)):Nat):Int))):=by
 have bO:hb<wr.heap.size:=by
  rcases a6 hb wr.heap.size with h' | h'
  ·exact h'
  ·unfold gG at hh;rw [aZ h'] at hh;cases hh
 have h0:w0.heap[hb]?=some (.cells #[.int .u64 (iI l k 0:Int),.int .u64 (iI l k 1:Int),.int .u64 (iI l k 2:Int),.int .u64 (iI l k 3:Int),.int .u64 (iI l k 4:Int)] 256 (0,0)):=by
  rw [(Below.next (ai wr o) mS).block hb bO];exact hh
 refine ⟨?_,(hs.trans (bG.bD (Below.next (ai wr o) mS))).trans (bG.set hb k w0 _)⟩;unfold gG;rw [heap_setCell_same w0 hb k _ _ _ h0];obtain rfl | rfl | rfl | rfl | rfl:k=0∨k=1∨k=2∨k=3∨k=4:=by omega
 all_goals rfl
theorem gG.cell{w:World}{hb:Nat}{f:Nat→Nat}(h:gG w hb f)(k:Nat)(hk:k<5):w.cell? ⟨hb,k,none⟩=some (.int .u64 (f k:Int)):=by
 rw [cell_of_row _ _ _ _ _ _ h];obtain rfl | rfl | rfl | rfl | rfl:k=0∨k=1∨k=2∨k=3∨k=4:=by omega
 all_goals rfl
theorem gG.lt{w:World}{hb:Nat}{f:Nat→Nat}(h:gG w hb f):hb<w.heap.size:=World.block_lt_of_cell? w _ (h.cell 0 (by decide))
theorem gG.below{w w':World}{hb:Nat}{f:Nat→Nat}(h:gG w hb f)(NY:Below w.heap.size w w'):gG w' hb f:=by
 unfold gG;rw [NY.block hb h.lt];exact h
theorem MN(g hb cap:Nat)(l:List UInt8)(w:World)(hl:l.length=4096)(dj:4096≤cap)(sA:cap≤9223372036854775807)(gJ:g≠hb)(hL:Lay w)(hh:gG w hb (iI l 0))(hc:∀ j (h:j<l.length),w.cell? ⟨g,j,none⟩=some (.int .u8 (l[j].toNat:Int))):Calls prog 215 #[.slice (some ⟨g,0,none⟩) 4096 cap,.func (.func 226) #[] #[.pointer (some ⟨hb,0,none⟩)]] w fun e w'=>e = .returned (.tuple #[])∧gG w' hb (iI l 5)∧bG hb w w':=by
 obtain ⟨hL0,c0,c1,c2,c3,c4,c5,c6,c7,c8,c9⟩:=hL;have HC:=ab hc;have NA:=ab hh;have HL:=ab hl;have abK:(4096:Int)≤(cap:Int):=by omega
 clear hc hh hl hL0;go_enter func215,ntmps215;go_wp2_with fail;go_loopw [7] (fun i wr=>∃ k:Nat,k≤5∧i = .int .i64 (k:Int)∧gG wr hb (iI l k)∧bG hb w wr) (fun i _=>5 - (intOf i).toNat)
 case atStart=>exact ⟨0,by omega,rfl,NA.out,bG.refl _ _⟩
 case round =>
  obtain ⟨k,hk,rfl,bH,hs⟩:=hrel;clear c0 c1 c2 c3 c4 c5 c6 c7 c8 c9;have HS:Hid (bG hb w wr):=hs;have HH:Hid (gG wr hb (iI l k)):=bH;clear hs bH NA;by_cases bO:k<5
  ·have nM:Hid (∀ obj o m,o+m≤20→∀ j (h:j<(sub l o m).length),(wr.alloc obj).cell? ⟨g,o+j,none⟩=some (.int .u8 ((sub l o m)[j].toNat:Int))):=fun obj o m hom j hj=>by
    have nP:=mX l o m (by rw [HL.out];omega)
    have hoj:o+j<l.length:=by rw [HL.out];omega
    rw [Te l o m j (by rw [HL.out];omega) hj,(ai wr obj).cell (p:=⟨g,o+j,none⟩) (aq (World.block_lt_of_cell? w _ (HC.out _ hoj)) HS.out.size)]
    exact HS.out.cell (HC.out _ hoj) gJ
   have CK:Hid (∀ obj,(wr.alloc obj).cell? ⟨hb,k,none⟩=some (.int .u64 (iI l k k:Int))):=fun obj=>(HH.out.below (ai wr obj)).cell k bO
   have HFZ:Hid (∀ obj,(wr.alloc obj).frozen? ⟨hb,k,none⟩=false):=fun obj=>frozen_of_row _ _ _ _ _ (HH.out.below (ai wr obj))
   obtain rfl | rfl | rfl | rfl | rfl:k=0∨k=1∨k=2∨k=3∨k=4:=by omega
   ·have li:=fun w=>gA w 0 (by decide)
    rw [show ((0:Nat):Int)=0 from rfl] at li ⊢
    simp only [place,width,dw] at li;go_wp2_with (go_at_call 226;refine (rM g 0 1 _ hb 0 _ (sub l 0 1) _ (by decide) (mX _ _ _ (by rw [HL.out];decide)) (by decide) (by decide) (nM.out _ 0 1 (by decide)) (CK.out _) (HFZ.out _)).mono ?_;rintro e w1 ⟨rfl,w0,mS,rfl⟩;have HN:=ab (mx 0 (by decide) HH.out HS.out gJ mS);clear mS)
    go_roundw
    case rel=>exact ⟨1,by omega,by go_num,HN.out.1,HN.out.2⟩
    case measure=>simp [intOf]
   ·have li:=fun w=>gA w 1 (by decide)
    rw [show ((1:Nat):Int)=1 from rfl] at li ⊢
    simp only [place,width,dw] at li;go_wp2_with (go_at_call 226;refine (rM g 2 2 _ hb 1 _ (sub l 2 2) _ (by decide) (mX _ _ _ (by rw [HL.out];decide)) (by decide) (by decide) (nM.out _ 2 2 (by decide)) (CK.out _) (HFZ.out _)).mono ?_;rintro e w1 ⟨rfl,w0,mS,rfl⟩;have HN:=ab (mx 1 (by decide) HH.out HS.out gJ mS);clear mS)
    go_roundw
    case rel=>exact ⟨2,by omega,by go_num,HN.out.1,HN.out.2⟩
    case measure=>simp [intOf]
   ·have li:=fun w=>gA w 2 (by decide)
    rw [show ((2:Nat):Int)=2 from rfl] at li ⊢
    simp only [place,width,dw] at li;go_wp2_with (go_at_call 226;refine (rM g 4 4 _ hb 2 _ (sub l 4 4) _ (by decide) (mX _ _ _ (by rw [HL.out];decide)) (by decide) (by decide) (nM.out _ 4 4 (by decide)) (CK.out _) (HFZ.out _)).mono ?_;rintro e w1 ⟨rfl,w0,mS,rfl⟩;have HN:=ab (mx 2 (by decide) HH.out HS.out gJ mS);clear mS)
    go_roundw
    case rel=>exact ⟨3,by omega,by go_num,HN.out.1,HN.out.2⟩
    case measure=>simp [intOf]
   ·have li:=fun w=>gA w 3 (by decide)
    rw [show ((3:Nat):Int)=3 from rfl] at li ⊢
    simp only [place,width,dw] at li;go_wp2_with (go_at_call 226;refine (rM g 8 8 _ hb 3 _ (sub l 8 8) _ (by decide) (mX _ _ _ (by rw [HL.out];decide)) (by decide) (by decide) (nM.out _ 8 8 (by decide)) (CK.out _) (HFZ.out _)).mono ?_;rintro e w1 ⟨rfl,w0,mS,rfl⟩;have HN:=ab (mx 3 (by decide) HH.out HS.out gJ mS);clear mS)
    go_roundw
    case rel=>exact ⟨4,by omega,by go_num,HN.out.1,HN.out.2⟩
    case measure=>simp [intOf]
   ·have li:=fun w=>gA w 4 (by decide)
    rw [show ((4:Nat):Int)=4 from rfl] at li ⊢
    simp only [place,width,dw] at li;go_wp2_with (go_at_call 226;refine (rM g 16 4 _ hb 4 _ (sub l 16 4) _ (by decide) (mX _ _ _ (by rw [HL.out];decide)) (by decide) (by decide) (nM.out _ 16 4 (by decide)) (CK.out _) (HFZ.out _)).mono ?_;rintro e w1 ⟨rfl,w0,mS,rfl⟩;have HN:=ab (mx 4 (by decide) HH.out HS.out gJ mS);clear mS)
    go_roundw
    case rel=>exact ⟨5,by omega,by go_num,HN.out.1,HN.out.2⟩
    case measure=>simp [intOf]
  ·obtain rfl:k=5:=by omega
   rw [show ((5:Nat):Int)=5 from rfl]
   go_wp2_with fail;go_end0
   exact ⟨rfl,HH.out,HS.out⟩
theorem oy{w:World}{b:Nat}{t:TypeId}{v0 v1 v2 v3 v4 u0 u1 u2 u3 u4:Value}(h:w.heap[b]?=some (.cells #[v0,v1,v2,v3,v4] t (0,0))):(((((w.setCell ⟨b,0,none⟩ u0).setCell ⟨b,1,none⟩ u1).setCell ⟨b,2,none⟩ u2).setCell ⟨b,3,none⟩ u3).setCell ⟨b,4,none⟩ u4).heap[b]?=some (.cells #[u0,u1,u2,u3,u4] t (0,0)) :=
 heap_setCell_same _ b 4 _ t u4 (heap_setCell_same _ b 3 _ t u3 (heap_setCell_same _ b 2 _ t u2 (heap_setCell_same _ b 1 _ t u1 (heap_setCell_same w b 0 _ t u0 h))))
theorem B0(g cap:Nat)(l:List UInt8)(w:World)(hl:l.length=4096)(dj:4096≤cap)(sA:cap≤9223372036854775807)(hL:Lay w)(hc:∀ j (h:j<l.length),w.cell? ⟨g,j,none⟩=some (.int .u8 (l[j].toNat:Int))):Calls prog 187 #[.slice (some ⟨g,0,none⟩) 4096 cap] w fun e w'=>e = .returned (.agg #[.int .u64 (nums l 0:Int),.int .u64 (nums l 1:Int),.int .u64 (nums l 2:Int),.int .u64 (nums l 3:Int),.int .u64 (nums l 4:Int)])∧Below w.heap.size w w':=by
 have yy:g<w.heap.size:=World.block_lt_of_cell? w _ (hc 0 (by omega))
 have mS:Below w.heap.size w ((w.alloc (.cells #[.int .u64 0,.int .u64 0,.int .u64 0,.int .u64 0,.int .u64 0] 256)).alloc (.cells #[.int .u64 0,.int .u64 0,.int .u64 0,.int .u64 0,.int .u64 0] 256)):=Below.next (ai w _) (ai _ _);have C:=MN g (w.heap.size+1) cap l ((w.alloc (.cells #[.int .u64 0,.int .u64 0,.int .u64 0,.int .u64 0,.int .u64 0] 256)).alloc (.cells #[.int .u64 0,.int .u64 0,.int .u64 0,.int .u64 0,.int .u64 0] 256)) hl dj sA (by omega) (hL.below mS)
  (by
   have h:=heap_alloc_new (w.alloc (.cells #[.int .u64 0,.int .u64 0,.int .u64 0,.int .u64 0,.int .u64 0] 256)) (.cells #[.int .u64 0,.int .u64 0,.int .u64 0,.int .u64 0,.int .u64 0] 256);rw [show (w.alloc (.cells #[.int .u64 0,.int .u64 0,.int .u64 0,.int .u64 0,.int .u64 0] 256)).heap.size=w.heap.size+1 by simp] at h
   exact h)
  (fun j hj=>(mS.cell (p:=⟨g,j,none⟩) yy).trans (hc j hj))
 have HC:Hid (Calls prog 215 #[.slice (some ⟨g,0,none⟩) 4096 cap,.func (.func 226) #[] #[.pointer (some ⟨w.heap.size+1,0,none⟩)]] ((w.alloc (.cells #[.int .u64 0,.int .u64 0,.int .u64 0,.int .u64 0,.int .u64 0] 256)).alloc (.cells #[.int .u64 0,.int .u64 0,.int .u64 0,.int .u64 0,.int .u64 0] 256)) fun e w'=>e = .returned (.tuple #[])∧gG w' (w.heap.size+1) (iI l 5)∧bG (w.heap.size+1) ((w.alloc (.cells #[.int .u64 0,.int .u64 0,.int .u64 0,.int .u64 0,.int .u64 0] 256)).alloc (.cells #[.int .u64 0,.int .u64 0,.int .u64 0,.int .u64 0,.int .u64 0] 256)) w'):=C
 have vY:=ab mS;have IV:Hid (((w.alloc (.cells #[.int .u64 0,.int .u64 0,.int .u64 0,.int .u64 0,.int .u64 0] 256)).alloc (.cells #[.int .u64 0,.int .u64 0,.int .u64 0,.int .u64 0,.int .u64 0] 256)).heap[w.heap.size]?=some (.cells #[.int .u64 0,.int .u64 0,.int .u64 0,.int .u64 0,.int .u64 0] 256 (0,0))):=by
  show _=_
  rw [(ai (w.alloc (.cells #[.int .u64 0,.int .u64 0,.int .u64 0,.int .u64 0,.int .u64 0] 256)) _).block w.heap.size (by simp)]
  exact heap_alloc_new w _
 clear C mS hc hL hl;go_enter func187,ntmps187;go_wp2_with fail;have jc:Hid (w.heap.size+1<((w.alloc (.cells #[.int .u64 0,.int .u64 0,.int .u64 0,.int .u64 0,.int .u64 0] 256)).alloc (.cells #[.int .u64 0,.int .u64 0,.int .u64 0,.int .u64 0,.int .u64 0] 256)).heap.size):=by show _<_;simp
 generalize ((w.alloc (.cells #[.int .u64 0,.int .u64 0,.int .u64 0,.int .u64 0,.int .u64 0] 256)).alloc (.cells #[.int .u64 0,.int .u64 0,.int .u64 0,.int .u64 0,.int .u64 0] 256))=W0 at *;refine Calls.mono HC.out ?_
 rintro e w1 ⟨rfl,hh,hs⟩;have d0:w1.cell? ⟨w.heap.size+1,0,none⟩=some (.int .u64 (nums l 0:Int)):=by rw [hh.cell 0 (by decide),ke _ _ (by decide)]
 have d1:w1.cell? ⟨w.heap.size+1,1,none⟩=some (.int .u64 (nums l 1:Int)):=by rw [hh.cell 1 (by decide),ke _ _ (by decide)]
 have d2:w1.cell? ⟨w.heap.size+1,2,none⟩=some (.int .u64 (nums l 2:Int)):=by rw [hh.cell 2 (by decide),ke _ _ (by decide)]
 have d3:w1.cell? ⟨w.heap.size+1,3,none⟩=some (.int .u64 (nums l 3:Int)):=by rw [hh.cell 3 (by decide),ke _ _ (by decide)]
 have d4:w1.cell? ⟨w.heap.size+1,4,none⟩=some (.int .u64 (nums l 4:Int)):=by rw [hh.cell 4 (by decide),ke _ _ (by decide)]
 have fX:w1.heap[w.heap.size]?=some (.cells #[.int .u64 0,.int .u64 0,.int .u64 0,.int .u64 0,.int .u64 0] 256 (0,0)):=by rw [hs.block w.heap.size (by have:=jc.out;omega) (by omega)];exact IV.out
 have nT:=ab fX;have bT:Hid (Below w.heap.size w w1):=hs.below vY.out (by omega)
 have f0:w1.frozen? ⟨w.heap.size,0,none⟩=false:=frozen_of_row _ _ _ _ _ fX;have f1:w1.frozen? ⟨w.heap.size,1,none⟩=false:=frozen_of_row _ _ _ _ _ fX;have f2:w1.frozen? ⟨w.heap.size,2,none⟩=false:=frozen_of_row _ _ _ _ _ fX;have f3:w1.frozen? ⟨w.heap.size,3,none⟩=false:=frozen_of_row _ _ _ _ _ fX;have f4:w1.frozen? ⟨w.heap.size,4,none⟩=false:=frozen_of_row _ _ _ _ _ fX;have g0:w1.cell? ⟨w.heap.size,0,none⟩=some (.int .u64 0):=by rw [cell_of_row _ _ _ _ _ _ fX];rfl
 have g1:w1.cell? ⟨w.heap.size,1,none⟩=some (.int .u64 0):=by rw [cell_of_row _ _ _ _ _ _ fX];rfl
 have g2:w1.cell? ⟨w.heap.size,2,none⟩=some (.int .u64 0):=by rw [cell_of_row _ _ _ _ _ _ fX];rfl
 have g3:w1.cell? ⟨w.heap.size,3,none⟩=some (.int .u64 0):=by rw [cell_of_row _ _ _ _ _ _ fX];rfl
 have g4:w1.cell? ⟨w.heap.size,4,none⟩=some (.int .u64 0):=by rw [cell_of_row _ _ _ _ _ _ fX];rfl
 clear hh hs fX HC vY IV;go_wp2_with fail;refine bodyPost_ret (results_cell_row rfl _ _ w.heap.size 256 #[.int .u64 (nums l 0:Int),.int .u64 (nums l 1:Int),.int .u64 (nums l 2:Int),.int .u64 (nums l 3:Int),.int .u64 (nums l 4:Int)] (0,0) _ rfl (oy nT.out) underlying256 rfl (by kernel_rfl)) rfl ⟨rfl,?_⟩
 exact ((((bT.out.setCell (aj _) _).setCell (aj _) _).setCell (aj _) _).setCell (aj _) _).setCell (aj _) _
theorem Rd.any{w:World}{v:Value}{l:List UInt8}(h:Rd w v l):Wi w v l:=by
 rcases h with ⟨rfl,rfl⟩ | ⟨g,cap,rfl,_,_,_,hc⟩
 ·exact ⟨none,0,rfl,fun j h=>by simp at h⟩
 ·exact ⟨_,cap,rfl,fun j h=>⟨g,0,rfl,by rw [Nat.zero_add];exact hc j h⟩⟩
theorem MK(v1 v2:Value)(l1 l2:List UInt8)(w:World)(r1:Wi w v1 l1)(r2:Wi w v2 l2)(h1:0<l1.length)(h2:0<l2.length):Calls prog 188 #[v1,v2] w fun e w'=>e = .returned (.bool (decide (l1=l2)))∧w=w':=by
 have s1:=lI w v1 l1 r1 h1;have s2:=lI w v2 l2 r2 h2;obtain ⟨a1,c1,rfl,_⟩:=r1;obtain ⟨a2,c2,rfl,_⟩:=r2;clear h1 h2;go_enter func188,ntmps188;go_wp2_with fail;go_ret;refine ⟨?_,rfl⟩;show Ending.returned (.bool (l1 == l2))=_
 have e:(l1 == l2)=decide (l1=l2):=by by_cases h:l1=l2 <;> simp [h]
 rw [e]
def parse(l:List UInt8):Sh:=⟨(nums l 0:Int),(nums l 2:Int),nums l 3,(nums l 1:Int),⟨(l.drop 24).toArray⟩⟩
def gD(l:List UInt8)(id:Int):Prop:=l.length=4096∧(parse l).id=id∧td (parse l)∧gX (parse l)=l
instance (l:List UInt8) (id:Int):Decidable (gD l id):=inferInstanceAs (Decidable (_∧_))
def rO(a:Addr)(l:List UInt8)(id:Int):Array Value:=if gD l id then #[.agg (parse l).cells.toArray,.nilIface] else #[.agg #[.int .i64 0,.int .i64 0,.int .u64 0,.int .i64 0,.string ⟨#[]⟩],.iface 360 (.pointer (some a))]
theorem O6{a:Addr}{l:List UInt8}{id:Int}(h:gD l id):rO a l id=#[.agg #[.int .i64 (nums l 0:Int),.int .i64 (nums l 2:Int),.int .u64 (nums l 3:Int),.int .i64 (nums l 1:Int),.string ⟨(l.drop 24).toArray⟩],.nilIface]:=by unfold rO;rw [if_pos h];rfl
theorem rN{a:Addr}{l:List UInt8}{id:Int}(h:¬ gD l id):rO a l id=#[.agg #[.int .i64 0,.int .i64 0,.int .u64 0,.int .i64 0,.string ⟨#[]⟩],.iface 360 (.pointer (some a))]:=by unfold rO;rw [if_neg h]
theorem wo(l:List UInt8)(k:Nat):nums l k<256 ^ width k:=by
 have h:=yV (sub l (place k) (width k));exact aq h (mJ (by decide) (by simp [sub];omega))
theorem aad(l:List UInt8):nums l 0<256:=wo l 0
theorem aac(l:List UInt8):nums l 1<65536:=wo l 1
theorem aab(l:List UInt8):nums l 2<4294967296:=wo l 2
theorem VC(l:List UInt8):nums l 3<18446744073709551616:=wo l 3
theorem Bo(g cap:Nat)(l:List UInt8)(W:World)(hl:l.length=4096)(hc:∀ j (h:j<l.length),W.cell? ⟨g,j,none⟩=some (.int .u8 (l[j].toNat:Int))):(convert 145 9 (.slice (some ⟨g,24,none⟩) 4072 (cap - 24))).run prog W = .ok (.string ⟨(l.drop 24).toArray⟩) W:=by
 refine lI W _ (l.drop 24) ⟨_,cap - 24,by rw [al,hl],fun j hj=>⟨g,24,rfl,?_⟩⟩ (by rw [al,hl];decide)
 rw [hc (24+j) (by rw [al] at hj;omega),cu]
theorem Gr(n:Nat)(h:n<9223372036854775808):IntKind.i64.wrap (n:Int)=(n:Int):=by
 rw [IntKind.wrap_i64];omega
theorem jY{w:World}{b:Nat}{t:TypeId}{v0 v1 v2 v3 v4 u0 u1 u2 u3 u4:Value}(h:w.heap[b]?=some (.cells #[v0,v1,v2,v3,v4] t (0,0))):(((((w.setCell ⟨b,0,none⟩ u0).setCell ⟨b,1,none⟩ u1).setCell ⟨b,2,none⟩ u2).setCell ⟨b,3,none⟩ u3).setCell ⟨b,4,none⟩ u4).drew.heap[b]?=some (.cells #[u0,u1,u2,u3,u4] t (0,0)):=by
 rw [World.drew_is_drewN,World.heap_drewN];exact oy h
theorem lA{w w':World}{b:Nat}{u0 u1 u2 u3 u4:Value}(h:Below w.heap.size w w')(hb:w.heap.size≤b):Below w.heap.size w (((((w'.setCell ⟨b,0,none⟩ u0).setCell ⟨b,1,none⟩ u1).setCell ⟨b,2,none⟩ u2).setCell ⟨b,3,none⟩ u3).setCell ⟨b,4,none⟩ u4) :=
 ((((h.setCell hb _).setCell hb _).setCell hb _).setCell hb _).setCell hb _
theorem Vv{w:World}{g:Nat}(h:w.heap[g]?=some (.cells #[.int .i64 0,.int .i64 0,.int .u64 0,.int .i64 0,.string ⟨#[]⟩] 87 (0,0))):(w.cell? ⟨g,0,none⟩=some (.int .i64 0)∧w.cell? ⟨g,1,none⟩=some (.int .i64 0)∧w.cell? ⟨g,2,none⟩=some (.int .u64 0)∧w.cell? ⟨g,3,none⟩=some (.int .i64 0)∧w.cell? ⟨g,4,none⟩=some (.string ⟨#[]⟩))∧∀ j,w.frozen? ⟨g,j,none⟩=false:=by
 refine ⟨?_,fun j=>frozen_of_row _ _ _ _ _ h⟩
 refine ⟨?_,?_,?_,?_,?_⟩ <;> (rw [cell_of_row _ _ _ _ _ _ h];rfl)
theorem O5(a:Addr)(g cap:Nat)(l:List UInt8)(id:Int)(w:World)(hl:l.length=4096)(dj:4096≤cap)(sA:cap≤9223372036854775807)(hL:Lay w)(hT:FQ w)(hE:w.cell? ⟨1,0,none⟩=some (.iface 360 (.pointer (some a))))(hc:∀ j (h:j<l.length),w.cell? ⟨g,j,none⟩=some (.int .u8 (l[j].toNat:Int))):Calls prog 152 #[.slice (some ⟨g,0,none⟩) 4096 cap,.int .i64 id] w fun e w'=>e = .returned (.tuple (rO a l id))∧Below w.heap.size w w':=by
 have yy:g<w.heap.size:=World.block_lt_of_cell? w _ (hc 0 (by omega))
 have abK:(4096:Int)≤(cap:Int):=by omega
 have b0:=Gr (nums l 0) (by have:=aad l;omega)
 have b1:=Gr (nums l 1) (by have:=aac l;omega)
 have b2:=Gr (nums l 2) (by have:=aab l;omega)
 have eH:Hid (nums l 3<18446744073709551616):=VC l;have vY:Hid (Below w.heap.size w (w.alloc (.cells #[.int .i64 0,.int .i64 0,.int .u64 0,.int .i64 0,.string ⟨#[]⟩] 87))):=ai w _;have IV:Hid ((w.alloc (.cells #[.int .i64 0,.int .i64 0,.int .u64 0,.int .i64 0,.string ⟨#[]⟩] 87)).heap[w.heap.size]?=some (.cells #[.int .i64 0,.int .i64 0,.int .u64 0,.int .i64 0,.string ⟨#[]⟩] 87 (0,0))):=heap_alloc_new w _;have HEL:Hid (1<(w.alloc (.cells #[.int .i64 0,.int .i64 0,.int .u64 0,.int .i64 0,.string ⟨#[]⟩] 87)).heap.size):=by have hx:1<w.heap.size:=World.block_lt_of_cell? w _ hE;show _<_;simp;omega
 have HE0:Hid ((w.alloc (.cells #[.int .i64 0,.int .i64 0,.int .u64 0,.int .i64 0,.string ⟨#[]⟩] 87)).cell? ⟨1,0,none⟩=some (.iface 360 (.pointer (some a)))):=((ai w (.cells #[.int .i64 0,.int .i64 0,.int .u64 0,.int .i64 0,.string ⟨#[]⟩] 87)).cell (p:=⟨1,0,none⟩) (World.block_lt_of_cell? w _ hE)).trans hE;have HL:=ab (hL.below vY.out);have HT:=ab (hT.below vY.out);have HC:Hid (∀ j (h:j<l.length),(w.alloc (.cells #[.int .i64 0,.int .i64 0,.int .u64 0,.int .i64 0,.string ⟨#[]⟩] 87)).cell? ⟨g,j,none⟩=some (.int .u8 (l[j].toNat:Int))):=fun j hj=>(vY.out.cell (p:=⟨g,j,none⟩) yy).trans (hc j hj)
 have iq:=ab hl;have jc:Hid (w.heap.size<(w.alloc (.cells #[.int .i64 0,.int .i64 0,.int .u64 0,.int .i64 0,.string ⟨#[]⟩] 87)).heap.size):=by show _<_;simp
 have IY:Hid (1<w.heap.size):=World.block_lt_of_cell? w _ hE;clear hL hT hc hl hE;go_enter func152,ntmps152;go_wp2_with fail;generalize (w.alloc (.cells #[.int .i64 0,.int .i64 0,.int .u64 0,.int .i64 0,.string ⟨#[]⟩] 87))=W0 at *;refine (B0 g cap l W0 iq.out dj sA HL.out HC.out).mono ?_
 rintro e w1 ⟨rfl,aO⟩;have bT:=ab aO;clear aO;go_wp2_with fail;have HH:Hid (gG (w1.alloc (.cells #[.int .u64 (nums l 0:Int),.int .u64 (nums l 1:Int),.int .u64 (nums l 2:Int),.int .u64 (nums l 3:Int),.int .u64 (nums l 4:Int)] 256)) w1.heap.size (nums l)):=heap_alloc_new w1 _;have bL:=ab (Below.next bT.out (ai w1 (.cells #[.int .u64 (nums l 0:Int),.int .u64 (nums l 1:Int),.int .u64 (nums l 2:Int),.int .u64 (nums l 3:Int),.int .u64 (nums l 4:Int)] 256)));generalize (w1.alloc (.cells #[.int .u64 (nums l 0:Int),.int .u64 (nums l 1:Int),.int .u64 (nums l 2:Int),.int .u64 (nums l 3:Int),.int .u64 (nums l 4:Int)] 256))=w2 at *;have d0:=HH.out.cell 0 (by decide)
 have d1:=HH.out.cell 1 (by decide)
 have d2:=HH.out.cell 2 (by decide)
 have d3:=HH.out.cell 3 (by decide)
 have hgW:g<W0.heap.size:=by have:=jc.out;omega
 have Oe:Hid (∀ j (h:j<l.length),w2.cell? ⟨g,j,none⟩=some (.int .u8 (l[j].toNat:Int))):=fun j hj=>(bL.out.cell (p:=⟨g,j,none⟩) hgW).trans (HC.out j hj)
 have yA:(convert 145 9 (.slice (some ⟨g,24,none⟩) 4072 (cap - 24))).run prog w2.drew = .ok (.string ⟨(l.drop 24).toArray⟩) w2.drew:=Bo g cap l _ iq.out Oe.out;have afd:∀ o,(convert 145 9 (.slice (some ⟨g,24,none⟩) 4072 (cap - 24))).run prog (w2.alloc o).drew = .ok (.string ⟨(l.drop 24).toArray⟩) (w2.alloc o).drew:=fun o=>Bo g cap l _ iq.out (fun j hj=>((ai w2 o).cell (p:=⟨g,j,none⟩) (World.block_lt_of_cell? w2 _ (Oe.out j hj))).trans (Oe.out j hj))
 clear bT;go_region_held (fun w'=>w'.cell? ⟨w1.heap.size,0,none⟩=some (.int .u64 (nums l 0:Int))∧w'.cell? ⟨w1.heap.size,1,none⟩=some (.int .u64 (nums l 1:Int))∧w'.cell? ⟨w1.heap.size,2,none⟩=some (.int .u64 (nums l 2:Int))∧w'.cell? ⟨w1.heap.size,3,none⟩=some (.int .u64 (nums l 3:Int))) (go_keep) (fail)
 all_goals
  have zu:Hid (Boxed w2.heap.size [.int .i64 (nums l 0:Int),.int .i64 (nums l 2:Int),.int .u64 (nums l 3:Int),.int .i64 (nums l 1:Int),.string ⟨(l.drop 24).toArray⟩] (w2.alloc (.cells #[.int .i64 (nums l 0:Int),.int .i64 (nums l 2:Int),.int .u64 (nums l 3:Int),.int .i64 (nums l 1:Int),.string ⟨(l.drop 24).toArray⟩] 87)).drew):=bM w2 _ _;have NC:Hid (Below W0.heap.size W0 (w2.alloc (.cells #[.int .i64 (nums l 0:Int),.int .i64 (nums l 2:Int),.int .u64 (nums l 3:Int),.int .i64 (nums l 1:Int),.string ⟨(l.drop 24).toArray⟩] 87)).drew):=(Below.next bL.out (ai w2 (.cells #[.int .i64 (nums l 0:Int),.int .i64 (nums l 2:Int),.int .u64 (nums l 3:Int),.int .i64 (nums l 1:Int),.string ⟨(l.drop 24).toArray⟩] 87))).drew;clear yA afd d0 d1 d2 d3 HH Oe bL;generalize (w2.alloc (.cells #[.int .i64 (nums l 0:Int),.int .i64 (nums l 2:Int),.int .u64 (nums l 3:Int),.int .i64 (nums l 1:Int),.string ⟨(l.drop 24).toArray⟩] 87)).drew=w3 at *;have nF:w3.heap[w.heap.size]?=some (.cells #[.int .i64 0,.int .i64 0,.int .u64 0,.int .i64 0,.string ⟨#[]⟩] 87 (0,0)):=by rw [NC.out.block w.heap.size jc.out];exact IV.out
  by_cases hid:(nums l 2:Int)=id
  ·subst hid;have Gi:((nums l 2:Int) != (nums l 2:Int))=false:=by simp
   have c0:w3.cell? ⟨w2.heap.size,0,none⟩=some (.int .i64 (nums l 0:Int)):=zu.out.2 0 (by simp)
   have c1:w3.cell? ⟨w2.heap.size,1,none⟩=some (.int .i64 (nums l 2:Int)):=zu.out.2 1 (by simp)
   have c2:w3.cell? ⟨w2.heap.size,2,none⟩=some (.int .u64 (nums l 3:Int)):=zu.out.2 2 (by simp)
   have c3:w3.cell? ⟨w2.heap.size,3,none⟩=some (.int .i64 (nums l 1:Int)):=zu.out.2 3 (by simp)
   have c4:w3.cell? ⟨w2.heap.size,4,none⟩=some (.string ⟨(l.drop 24).toArray⟩):=zu.out.2 4 (by simp)
   by_cases hm:td (parse l)
   ·have QS:(parse l).body.size≤140737488355328:=by rw [hm.2.2.2];decide
    have HM:Hid (∀ w,Calls prog 131 #[.agg #[.int .i64 (nums l 0:Int),.int .i64 (nums l 2:Int),.int .u64 (nums l 3:Int),.int .i64 (nums l 1:Int),.string ⟨(l.drop 24).toArray⟩]] w fun e w'=>e = .returned (.bool true)∧Below w.heap.size w w'):=fun w=>by
     have h:=pG (parse l) w QS;rw [decide_eq_true hm] at h;exact h
    have HP:Hid (∀ w,Lay w→FQ w→Calls prog 132 #[.agg #[.int .i64 (nums l 0:Int),.int .i64 (nums l 2:Int),.int .u64 (nums l 3:Int),.int .i64 (nums l 1:Int),.string ⟨(l.drop 24).toArray⟩]] w fun e w'=>∃ g,e = .returned (.slice (some ⟨g,0,none⟩) 4096 4096)∧cJ w' g (gX (parse l))∧w.heap.size≤g∧Below w.heap.size w w'):=fun w h1 h2=>xQ (parse l) w hm eH.out h1 h2
    have vM:Hid ((gX (parse l)).length=4096):=mq _ hm;have F4:=ab hm;clear hm QS;go_wp2_with fail;refine (HM.out _).mono ?_
    rintro e w4 ⟨rfl,fS⟩;have wO:=ab (zu.out.below fS);have iY:=ab (Below.next NC.out fS);clear c0 c1 c2 c3 c4 fS nF;have c0:w4.cell? ⟨w2.heap.size,0,none⟩=some (.int .i64 (nums l 0:Int)):=wO.out.2 0 (by simp)
    have c1:w4.cell? ⟨w2.heap.size,1,none⟩=some (.int .i64 (nums l 2:Int)):=wO.out.2 1 (by simp)
    have c2:w4.cell? ⟨w2.heap.size,2,none⟩=some (.int .u64 (nums l 3:Int)):=wO.out.2 2 (by simp)
    have c3:w4.cell? ⟨w2.heap.size,3,none⟩=some (.int .i64 (nums l 1:Int)):=wO.out.2 3 (by simp)
    have c4:w4.cell? ⟨w2.heap.size,4,none⟩=some (.string ⟨(l.drop 24).toArray⟩):=wO.out.2 4 (by simp)
    go_wp2_with fail;refine (HP.out _ (HL.out.below iY.out) (HT.out.below iY.out)).mono ?_
    rintro e w5 ⟨g5,rfl,J3,hg5,my⟩;have zf:=ab (wO.out.below my);have jd:=ab (Below.next iY.out my);have RA:Hid (Wi w5 (.slice (some ⟨g5,0,none⟩) 4096 4096) (gX (parse l))):=(O7 J3 vM.out (by decide)).any
    have RB:Hid (Wi w5 (.slice (some ⟨g,0,none⟩) 4096 cap) l):=⟨_,cap,by rw [iq.out],fun j hj=>⟨g,0,rfl,by rw [Nat.zero_add,jd.out.cell (p:=⟨g,j,none⟩) hgW];exact HC.out j hj⟩⟩
    have L7:w5.heap[w.heap.size]?=some (.cells #[.int .i64 0,.int .i64 0,.int .u64 0,.int .i64 0,.string ⟨#[]⟩] 87 (0,0)):=by rw [jd.out.block w.heap.size jc.out];exact IV.out
    clear c0 c1 c2 c3 c4 my J3 hg5;go_wp2_with fail;refine (MK _ _ (gX (parse l)) l _ RA.out RB.out (by rw [vM.out];decide) (by rw [iq.out];decide)).mono ?_
    rintro e w5' ⟨rfl,rfl⟩;by_cases hp:gX (parse l)=l
    ·have od:Hid (gD l (nums l 2:Int)):=⟨iq.out,rfl,F4.out,hp⟩;rw [decide_eq_true hp];have c0:w5.cell? ⟨w2.heap.size,0,none⟩=some (.int .i64 (nums l 0:Int)):=zf.out.2 0 (by simp)
     have c1:w5.cell? ⟨w2.heap.size,1,none⟩=some (.int .i64 (nums l 2:Int)):=zf.out.2 1 (by simp)
     have c2:w5.cell? ⟨w2.heap.size,2,none⟩=some (.int .u64 (nums l 3:Int)):=zf.out.2 2 (by simp)
     have c3:w5.cell? ⟨w2.heap.size,3,none⟩=some (.int .i64 (nums l 1:Int)):=zf.out.2 3 (by simp)
     have c4:w5.cell? ⟨w2.heap.size,4,none⟩=some (.string ⟨(l.drop 24).toArray⟩):=zf.out.2 4 (by simp)
     obtain ⟨⟨z0,z1,z2,z3,z4⟩,y⟩:=Vv L7;have mL:=ab L7;have C3:Hid (Below w.heap.size w w5):=vY.out.trans (jd.out.mono (Nat.le_of_lt jc.out));clear hp L7;go_wp2_with fail
     (try simp only [Exit.inBlock,Exit.then])
     refine bodyPost_ret (aR rfl _ _ w.heap.size 87 #[.int .i64 (nums l 0:Int),.int .i64 (nums l 2:Int),.int .u64 (nums l 3:Int),.int .i64 (nums l 1:Int),.string ⟨(l.drop 24).toArray⟩] (0,0) _ rfl (oy mL.out) underlying87 rfl (by kernel_rfl)) rfl ⟨?_,lA C3.out (aj _)⟩
     rw [O6 od.out];rfl
    ·rw [decide_eq_false hp];have od:Hid (¬ gD l (nums l 2:Int)):=fun h=>hp h.2.2.2
     have cE:w5.cell? ⟨1,0,none⟩=some (.iface 360 (.pointer (some a))):=(jd.out.cell (p:=⟨1,0,none⟩) HEL.out).trans HE0.out;obtain ⟨⟨z0,z1,z2,z3,z4⟩,y⟩:=Vv L7;have mL:=ab L7;have C3:Hid (Below w.heap.size w w5):=vY.out.trans (jd.out.mono (Nat.le_of_lt jc.out));clear L7;clear hp;go_wp2_with fail;have cY:¬ w.heap.size=1:=by have:=IY.out;omega
     go_region_held3 (fun w'=>w'.cell? ⟨1,0,none⟩=some (.iface 360 (.pointer (some a)))) (go_keep) (fail)
     go_wp2_with fail
     (try simp only [Exit.inBlock,Exit.then])
     refine bodyPost_ret (aR rfl _ _ w.heap.size 87 #[.int .i64 0,.int .i64 0,.int .u64 0,.int .i64 0,.string ⟨#[]⟩] (0,0) _ rfl (jY mL.out) underlying87 rfl (by kernel_rfl)) rfl ⟨?_,(lA C3.out (aj _)).drew⟩
     rw [rN od.out];rfl
   ·have QS:(parse l).body.size≤140737488355328:=by
     show (ByteArray.mk (l.drop 24).toArray).size≤_
     have h1:(ByteArray.mk (l.drop 24).toArray).size=(l.drop 24).length:=by simp [ByteArray.size]
     have h2:=iq.out;rw [h1,al];omega
    have HM:Hid (∀ w,Calls prog 131 #[.agg #[.int .i64 (nums l 0:Int),.int .i64 (nums l 2:Int),.int .u64 (nums l 3:Int),.int .i64 (nums l 1:Int),.string ⟨(l.drop 24).toArray⟩]] w fun e w'=>e = .returned (.bool false)∧Below w.heap.size w w'):=fun w=>by
     have h:=pG (parse l) w QS;rw [decide_eq_false hm] at h;exact h
    have F4:=ab hm;clear hm QS;go_wp2_with fail;refine (HM.out _).mono ?_
    rintro e w4 ⟨rfl,fS⟩;have iY:=ab (Below.next NC.out fS);have EK:w4.heap[w.heap.size]?=some (.cells #[.int .i64 0,.int .i64 0,.int .u64 0,.int .i64 0,.string ⟨#[]⟩] 87 (0,0)):=by rw [iY.out.block w.heap.size jc.out];exact IV.out
    clear c0 c1 c2 c3 c4 fS nF;have od:Hid (¬ gD l (nums l 2:Int)):=fun h=>F4.out h.2.2.1
    have cE:w4.cell? ⟨1,0,none⟩=some (.iface 360 (.pointer (some a))):=(iY.out.cell (p:=⟨1,0,none⟩) HEL.out).trans HE0.out;obtain ⟨⟨z0,z1,z2,z3,z4⟩,y⟩:=Vv EK;have mL:=ab EK;have C3:Hid (Below w.heap.size w w4):=vY.out.trans (iY.out.mono (Nat.le_of_lt jc.out));clear EK;go_wp2_with fail;have cY:¬ w.heap.size=1:=by have:=IY.out;omega
    go_region_held3 (fun w'=>w'.cell? ⟨1,0,none⟩=some (.iface 360 (.pointer (some a)))) (go_keep) (fail)
    go_wp2_with fail
    (try simp only [Exit.inBlock,Exit.then])
    refine bodyPost_ret (aR rfl _ _ w.heap.size 87 #[.int .i64 0,.int .i64 0,.int .u64 0,.int .i64 0,.string ⟨#[]⟩] (0,0) _ rfl (jY mL.out) underlying87 rfl (by kernel_rfl)) rfl ⟨?_,(lA C3.out (aj _)).drew⟩
    rw [rN od.out];rfl
  ·have Gi:((nums l 2:Int) != id)=true:=by rw [bne_iff_ne];exact hid
   have c1:w3.cell? ⟨w2.heap.size,1,none⟩=some (.int .i64 (nums l 2:Int)):=zu.out.2 1 (by simp)
   have od:Hid (¬ gD l id):=fun h=>hid h.2.1
   have cE:w3.cell? ⟨1,0,none⟩=some (.iface 360 (.pointer (some a))):=(NC.out.cell (p:=⟨1,0,none⟩) HEL.out).trans HE0.out;obtain ⟨⟨z0,z1,z2,z3,z4⟩,y⟩:=Vv nF;have mL:=ab nF;have C3:Hid (Below w.heap.size w w3):=vY.out.trans (NC.out.mono (Nat.le_of_lt jc.out));clear nF;clear hid;go_wp2_with fail;have cY:¬ w.heap.size=1:=by have:=IY.out;omega
   go_region_held3 (fun w'=>w'.cell? ⟨1,0,none⟩=some (.iface 360 (.pointer (some a)))) (go_keep) (fail)
   go_wp2_with fail
   (try simp only [Exit.inBlock,Exit.then])
   refine bodyPost_ret (aR rfl _ _ w.heap.size 87 #[.int .i64 0,.int .i64 0,.int .u64 0,.int .i64 0,.string ⟨#[]⟩] (0,0) _ rfl (jY mL.out) underlying87 rfl (by kernel_rfl)) rfl ⟨?_,(lA C3.out (aj _)).drew⟩
   rw [rN od.out];rfl
theorem xF(a:Addr)(a0:Option Addr)(n cap:Nat)(l:List UInt8)(id:Int)(w:World)(hl:l.length=n)(hn:n≠4096)(hE:w.cell? ⟨1,0,none⟩=some (.iface 360 (.pointer (some a)))):Calls prog 152 #[.slice a0 n cap,.int .i64 id] w fun e w'=>e = .returned (.tuple (rO a l id))∧Below w.heap.size w w':=by
 have od:Hid (¬ gD l id):=fun h=>hn (hl.symm.trans h.1)
 have Gi:((n:Int) != 4096)=true:=by rw [bne_iff_ne];omega
 have C3:Hid (Below w.heap.size w (w.alloc (.cells #[.int .i64 0,.int .i64 0,.int .u64 0,.int .i64 0,.string ⟨#[]⟩] 87))):=ai w _;have mL:Hid ((w.alloc (.cells #[.int .i64 0,.int .i64 0,.int .u64 0,.int .i64 0,.string ⟨#[]⟩] 87)).heap[w.heap.size]?=some (.cells #[.int .i64 0,.int .i64 0,.int .u64 0,.int .i64 0,.string ⟨#[]⟩] 87 (0,0))):=heap_alloc_new w _;have bO:1<w.heap.size:=World.block_lt_of_cell? w _ hE;have cE:(w.alloc (.cells #[.int .i64 0,.int .i64 0,.int .u64 0,.int .i64 0,.string ⟨#[]⟩] 87)).cell? ⟨1,0,none⟩=some (.iface 360 (.pointer (some a))):=(C3.out.cell (p:=⟨1,0,none⟩) bO).trans hE;have cY:¬ w.heap.size=1:=by omega
 clear hl hn hE;go_enter func152,ntmps152;go_wp2_with fail;generalize hW:(w.alloc (.cells #[.int .i64 0,.int .i64 0,.int .u64 0,.int .i64 0,.string ⟨#[]⟩] 87))=W0 at *;have hr:=mL.out;have z0:W0.cell? ⟨w.heap.size,0,none⟩=some (.int .i64 0):=by rw [cell_of_row _ _ _ _ _ _ hr];rfl
 have z1:W0.cell? ⟨w.heap.size,1,none⟩=some (.int .i64 0):=by rw [cell_of_row _ _ _ _ _ _ hr];rfl
 have z2:W0.cell? ⟨w.heap.size,2,none⟩=some (.int .u64 0):=by rw [cell_of_row _ _ _ _ _ _ hr];rfl
 have z3:W0.cell? ⟨w.heap.size,3,none⟩=some (.int .i64 0):=by rw [cell_of_row _ _ _ _ _ _ hr];rfl
 have z4:W0.cell? ⟨w.heap.size,4,none⟩=some (.string ⟨#[]⟩):=by rw [cell_of_row _ _ _ _ _ _ hr];rfl
 have y0:W0.frozen? ⟨w.heap.size,0,none⟩=false:=frozen_of_row _ _ _ _ _ hr;have y1:W0.frozen? ⟨w.heap.size,1,none⟩=false:=frozen_of_row _ _ _ _ _ hr;have y2:W0.frozen? ⟨w.heap.size,2,none⟩=false:=frozen_of_row _ _ _ _ _ hr;have y3:W0.frozen? ⟨w.heap.size,3,none⟩=false:=frozen_of_row _ _ _ _ _ hr;have y4:W0.frozen? ⟨w.heap.size,4,none⟩=false:=frozen_of_row _ _ _ _ _ hr;clear hW hr;go_region_held3 (fun w'=>w'.cell? ⟨1,0,none⟩=some (.iface 360 (.pointer (some a)))) (go_keep) (fail)
 go_wp2_with fail
 (try simp only [Exit.inBlock,Exit.then])
 refine bodyPost_ret (aR rfl _ _ w.heap.size 87 #[.int .i64 0,.int .i64 0,.int .u64 0,.int .i64 0,.string ⟨#[]⟩] (0,0) _ rfl (jY mL.out) underlying87 rfl (by kernel_rfl)) rfl ⟨?_,(lA C3.out (aj _)).drew⟩
 rw [rN od.out];rfl
def RdB(w:World)(v:Value)(l:List UInt8):Prop :=
 (v = .slice none 0 0∧l=[])∨∃ g cap,v = .slice (some ⟨g,0,none⟩) l.length cap∧l.length≤cap∧cap≤9223372036854775807∧g<w.heap.size∧(∀ j (h:j<l.length),w.cell? ⟨g,j,none⟩=some (.int .u8 (l[j].toNat:Int)))
theorem mm(a:Addr)(v:Value)(l:List UInt8)(id:Int)(w:World)(hr:RdB w v l)(hL:Lay w)(hT:FQ w)(hE:w.cell? ⟨1,0,none⟩=some (.iface 360 (.pointer (some a)))):Calls prog 152 #[v,.int .i64 id] w fun e w'=>e = .returned (.tuple (rO a l id))∧Below w.heap.size w w':=by
 rcases hr with ⟨rfl,rfl⟩ | ⟨g,cap,rfl,h1,h2,h3,h4⟩
 ·exact xF a none 0 0 [] id w rfl (by decide) hE
 ·by_cases hl:l.length=4096
  ·rw [hl] at h1 ⊢;exact O5 a g cap l id w hl h1 h2 hL hT hE h4
  ·exact xF a _ l.length cap l id w rfl hl hE
theorem Hc(k c i t sum:Nat)(body:List UInt8):nums (bare k c i t sum body) 0=ey (bN k 1):=rfl
theorem Hb(k c i t sum:Nat)(body:List UInt8):nums (bare k c i t sum body) 1=ey (bN c 2):=rfl
theorem Ha(k c i t sum:Nat)(body:List UInt8):nums (bare k c i t sum body) 2=ey (bN i 4):=rfl
theorem G9(k c i t sum:Nat)(body:List UInt8):nums (bare k c i t sum body) 3=ey (bN t 8):=rfl
theorem MQ(k c i t sum:Nat)(body:List UInt8):(bare k c i t sum body).drop 24=body:=rfl
theorem ll(s:Sh)(hm:td s)(hx:s.rD<18446744073709551616):parse (gX s)=s:=by
 obtain ⟨k,i,t,c,b⟩:=s;obtain ⟨hk,⟨Bf,Uu⟩,⟨CT,vU⟩,hb⟩:=hm;simp only at hk Bf Uu CT vU hb hx;obtain ⟨k,rfl⟩:=cB (show 0≤k by omega)
 obtain ⟨c,rfl⟩:=cB Bf;obtain ⟨i,rfl⟩:=cB (show 0≤i by omega)
 have h:gX ⟨(k:Int),(i:Int),t,(c:Int),b⟩=bare k c i t (Cu (AI ⟨(k:Int),(i:Int),t,(c:Int),b⟩ 0)) b.data.toList:=rfl;rw [h];generalize Cu (AI ⟨(k:Int),(i:Int),t,(c:Int),b⟩ 0)=sum;unfold parse;rw [Hc,Hb,Ha,G9,MQ,mF 1 k (by decide) (by show k<2 ^ 8;omega),mF 2 c (by decide) (by show c<2 ^ 16;omega),mF 4 i (by decide) (by show i<2 ^ 32;omega),mF 8 t (by decide) (by show t<2 ^ 64;omega)]
theorem D3(s:Sh)(hm:td s)(hx:s.rD<18446744073709551616)(id:Int):gD (gX s) id↔id=s.id:=by
 unfold gD;rw [ll s hm hx];exact ⟨fun h=>h.2.1.symm,fun h=>⟨mq s hm,h.symm,hm,rfl⟩⟩
structure Env(base:Nat)(A:Nat→Addr)(w:World):Prop where
 errs:V.mN base A w
 text:w.cell? ⟨1,0,none⟩=some (.iface 360 (.pointer (some (A 1))))
 lo:1<base∧14<base∧15<base
 lay:Lay w
 tab:FQ w
theorem Env.keep{base:Nat}{A:Nat→Addr}{w w':World}(h:Env base A w)(hb:Below base w w'):Env base A w':=by
 obtain ⟨he,ht,⟨l1,l2,l3⟩,⟨h0,c0,c1,c2,c3,c4,c5,c6,c7,c8,c9⟩,hT⟩:=h;exact ⟨he.keep hb,(hb.cell l1).trans ht,⟨l1,l2,l3⟩,⟨aq h0 hb.size,(hb.cell l2).trans c0,(hb.cell l2).trans c1,(hb.cell l2).trans c2,(hb.cell l2).trans c3,(hb.cell l2).trans c4,(hb.cell l2).trans c5,(hb.cell l2).trans c6,(hb.cell l2).trans c7,(hb.cell l2).trans c8,(hb.cell l2).trans c9⟩,⟨fun j hj=>(hb.cell (p:=⟨15,j,none⟩) l3).trans (hT.1 j hj),aq hT.2 hb.size⟩⟩
theorem Env.up{base:Nat}{A:Nat→Addr}{w w':World}(h:Env base A w)(hb:Below w.heap.size w w'):Env base A w':=h.keep (hb.mono h.errs.size)
theorem Env.step{base:Nat}{A:Nat→Addr}{w w':World}{F F':Nat→Prop}(h:Env base A w)(hs:V.Step F F' w w')(hF:∀ k,F k→base≤k):Env base A w':=h.keep (hs.below hF h.errs.size)
theorem uj(i:Int)(w:World)(h1:0≤i)(h2:i≤1048576):Calls prog 99 #[.int .i64 i] w fun e w'=>e = .returned (.int .i64 (i*8))∧w=w':=by
 go_enter func99,ntmps99;go_wp2;go_ret;exact ⟨rfl,rfl⟩
theorem mY(b:Nat)(F:Nat→Prop)(d:V.bE)(i:Int)(w:World)(h:V.cP w b F d)(h1:0≤i)(h2:i<1048576):Calls prog 97 #[.pointer (some ⟨b,0,none⟩),.int .i64 i] w fun e w'=>e = .returned (.bool (decide ((i+1)*8≤d.size)))∧w=w':=by
 have S:=V.rG b F d w h;have HS:Hid (Calls prog 133 #[.pointer (some ⟨b,0,none⟩)] w fun e w'=>e = .returned (.int .i64 d.size)∧w=w'):=S
 have FS:=uj (i+1) w (by omega) (by omega)
 have HF:Hid (Calls prog 99 #[.int .i64 (i+1)] w fun e w'=>e = .returned (.int .i64 ((i+1)*8))∧w=w'):=FS
 clear S FS h;generalize d.size=sz at *;go_enter func97,ntmps97;go_wp2_with fail;refine Calls.mono HS.out ?_
 rintro e w' ⟨rfl,rfl⟩;go_wp2_with fail;refine Calls.mono HF.out ?_
 rintro e w' ⟨rfl,rfl⟩;go_wp2_with fail;go_ret;exact ⟨rfl,rfl⟩
theorem DL{w:World}{base n:Nat}{v:Value}{l:List UInt8}(h:w.ownsRow base 5 1 v n (dW l)):RdB w v l:=by
 rcases GU h with h | ⟨g,cap,hv,h1,h2,h3,h4⟩
 ·exact .inl h
 ·exact .inr ⟨g,cap,hv,h1,ar h2 (by decide),h3,h4⟩
theorem MC{w:World}{b:Nat}{u0 u1 u2 u3 u4:Value}:V.Step (fun k=>k=b) (fun k=>k=b) w (((((w.setCell ⟨b,0,none⟩ u0).setCell ⟨b,1,none⟩ u1).setCell ⟨b,2,none⟩ u2).setCell ⟨b,3,none⟩ u3).setCell ⟨b,4,none⟩ u4):=by
 have hs:bG b w (((((w.setCell ⟨b,0,none⟩ u0).setCell ⟨b,1,none⟩ u1).setCell ⟨b,2,none⟩ u2).setCell ⟨b,3,none⟩ u3).setCell ⟨b,4,none⟩ u4) :=
  ((((bG.set b 0 w u0).trans (bG.set b 1 _ u1)).trans (bG.set b 2 _ u2)).trans (bG.set b 3 _ u3)).trans (bG.set b 4 _ u4)
 exact ⟨hs.os,hs.tape,hs.output,hs.size,hs.block,fun k h=>.inl h⟩
def TQ(d:V.bE):V.bE:={ d with nr:=wrap64 (d.nr+8) }
end S
end Go.Proofs.YtihmgigfkmofnaaGreatDoor
