import Derived.Test.YtihmgigfkmofnaaGreatDoorG17
import Derived.Test.YtihmgigfkmofnaaGreatDoorG16
set_option maxHeartbeats 4000000
set_option maxRecDepth 100000
open Go.Proofs.Tryz
namespace Go.Proofs.YtihmgigfkmofnaaGreatDoor
namespace S
open Go.RowKit
def sub(l:List UInt8)(o m:Nat):List UInt8:=(l.drop o).take m
theorem mM(l:List UInt8)(o m:Nat)(h:o+m≤l.length):(sub l o m).length=m:=by
 simp [sub];omega
theorem RQ(l:List UInt8)(o m j:Nat)(h:o+m≤l.length)(hj:j<(sub l o m).length):(sub l o m)[j]=l[o+j]'(by rw [mM l o m h] at hj;omega):=by
 simp [sub]
def nums(l:List UInt8)(k:Nat):Nat:=eo (sub l (place k) (width k))
def iC(l:List UInt8)(n k:Nat):Nat:=if k<n then nums l k else 0
def gC(w:World)(hb:Nat)(f:Nat→Nat):Prop:=w.heap[hb]?=some (.cells #[.int .u64 (f 0:Int),.int .u64 (f 1:Int),.int .u64 (f 2:Int),.int .u64 (f 3:Int),.int .u64 (f 4:Int)] 256 (0,0))
theorem qY(g o m cap hb k:Nat)(E8:Value)(l:List UInt8)(w:World)(hk:k<5)(hm:l.length=m)(h1:1≤m)(h8:m≤8)(hc:∀ j (h:j<l.length),w.cell? ⟨g,o+j,none⟩=some (.int .u8 (l[j].toNat:Int)))(hold:w.cell? ⟨hb,k,none⟩=some E8)(hfz:w.frozen? ⟨hb,k,none⟩=false):Calls prog 226 #[.int .i64 (k:Int),.slice (some ⟨g,o,none⟩) m cap,.pointer (some ⟨hb,0,none⟩)] w fun e w'=>e = .returned (.tuple #[])∧∃ w1,Below w.heap.size w w1∧w'=w1.setCell ⟨hb,k,none⟩ (.int .u64 ((eo l:Nat):Int)):=by
 subst hm;have hg:g<w.heap.size:=World.block_lt_of_cell? w _ (hc 0 (by omega))
 have jt:hb<w.heap.size:=World.block_lt_of_cell? w _ hold;have HG:Hid (∀ w,g<w.heap.size→(∀ j (h:j<l.length),w.cell? ⟨g,o+j,none⟩=some (.int .u8 (l[j].toNat:Int)))→Calls prog 227 #[.slice (some ⟨g,o,none⟩) l.length cap] w fun e w'=>e = .returned (.tuple #[.int .u64 ((eo l:Nat):Int),.nilIface])∧Below w.heap.size w w'):=fun w hg hc=>PO g o cap l w h1 h8 hg hc
 have HC:=ab hc;have HO:=ab hold;have HF:=ab hfz;have k0:(0:Int)≤(k:Int):=by omega
 have k5:(k:Int)<5:=by omega
 clear hc hold hfz h1 h8;generalize eo l=n at *;go_enter func226,ntmps226;go_wp2_with (go_at_call 227;refine (HG.out _ hg HC.out).mono ?_;rintro e w1 ⟨rfl,aL⟩;have bP:=ab aL;have lp:w1.cell? ⟨hb,k,none⟩=some E8:=(aL.cell (p:=⟨hb,k,none⟩) jt).trans HO.out;have hf1:w1.frozen? ⟨hb,k,none⟩=false:=(aL.frozen (p:=⟨hb,k,none⟩) jt).trans HF.out;clear aL)
 go_end0
 exact ⟨rfl,w1,bP.out,rfl⟩
theorem jU(l:List UInt8)(k:Nat)(h:k<5):iC l 5 k=nums l k:=by simp [iC,h]
theorem mi{w wr w0:World}{o:Obj}{g hb:Nat}{l:List UInt8}(k:Nat)(hk:k<5)(hh:gC wr hb (iC l k))(hs:bJ hb w wr)(_hg:g≠hb)(lM:Below (wr.alloc o).heap.size (wr.alloc o) w0):gC (w0.setCell ⟨hb,k,none⟩ (.int .u64 ((eo (sub l (place k) (width k)):Nat):Int))) hb (iC l (k+1))∧bJ hb w (w0.setCell ⟨hb,k,none⟩ (.int .u64 ((eo (sub l (place k) (width k)):Nat):Int))):=by
 have bN:hb<wr.heap.size:=by
  rcases bg hb wr.heap.size with h' | h'
  ·exact h'
  ·unfold gC at hh;rw [aX h'] at hh;cases hh
 have h0:w0.heap[hb]?=some (.cells #[.int .u64 (iC l k 0:Int),.int .u64 (iC l k 1:Int),.int .u64 (iC l k 2:Int),.int .u64 (iC l k 3:Int),.int .u64 (iC l k 4:Int)] 256 (0,0)):=by
  rw [(Below.next (ai wr o) lM).block hb bN];exact hh
 refine ⟨?_,(hs.trans (bJ.bw (Below.next (ai wr o) lM))).trans (bJ.set hb k w0 _)⟩;unfold gC;rw [heap_setCell_same w0 hb k _ _ _ h0];obtain rfl | rfl | rfl | rfl | rfl:k=0∨k=1∨k=2∨k=3∨k=4:=by omega
 all_goals rfl
theorem gC.cell{w:World}{hb:Nat}{f:Nat→Nat}(h:gC w hb f)(k:Nat)(hk:k<5):w.cell? ⟨hb,k,none⟩=some (.int .u64 (f k:Int)):=by
 rw [cell_of_row _ _ _ _ _ _ h];obtain rfl | rfl | rfl | rfl | rfl:k=0∨k=1∨k=2∨k=3∨k=4:=by omega
 all_goals rfl
theorem gC.lt{w:World}{hb:Nat}{f:Nat→Nat}(h:gC w hb f):hb<w.heap.size:=World.block_lt_of_cell? w _ (h.cell 0 (by decide))
theorem gC.below{w w':World}{hb:Nat}{f:Nat→Nat}(h:gC w hb f)(MI:Below w.heap.size w w'):gC w' hb f:=by
 unfold gC;rw [MI.block hb h.lt];exact h
theorem LG(g hb cap:Nat)(l:List UInt8)(w:World)(hl:l.length=4096)(dd:4096≤cap)(sf:cap≤9223372036854775807)(ib:g≠hb)(hL:Lay w)(hh:gC w hb (iC l 0))(hc:∀ j (h:j<l.length),w.cell? ⟨g,j,none⟩=some (.int .u8 (l[j].toNat:Int))):Calls prog 215 #[.slice (some ⟨g,0,none⟩) 4096 cap,.func (.func 226) #[] #[.pointer (some ⟨hb,0,none⟩)]] w fun e w'=>e = .returned (.tuple #[])∧gC w' hb (iC l 5)∧bJ hb w w':=by
 obtain ⟨Z9,c0,c1,c2,c3,c4,c5,c6,c7,c8,c9⟩:=hL;have HC:=ab hc;have Ms:=ab hh;have HL:=ab hl;have ZR:(4096:Int)≤(cap:Int):=by omega
 clear hc hh hl Z9;go_enter func215,ntmps215;go_wp2_with fail;go_loopw [7] (fun i wr=>∃ k:Nat,k≤5∧i = .int .i64 (k:Int)∧gC wr hb (iC l k)∧bJ hb w wr) (fun i _=>5 - (intOf i).toNat)
 case atStart=>exact ⟨0,by omega,rfl,Ms.out,bJ.refl _ _⟩
 case round =>
  obtain ⟨k,hk,rfl,bE,hs⟩:=hrel;clear c0 c1 c2 c3 c4 c5 c6 c7 c8 c9;have HS:Hid (bJ hb w wr):=hs;have HH:Hid (gC wr hb (iC l k)):=bE;clear hs bE Ms;by_cases bN:k<5
  ·have nO:Hid (∀ obj o m,o+m≤20→∀ j (h:j<(sub l o m).length),(wr.alloc obj).cell? ⟨g,o+j,none⟩=some (.int .u8 ((sub l o m)[j].toNat:Int))):=fun obj o m hom j hj=>by
    have qq:=mM l o m (by rw [HL.out];omega)
    have hoj:o+j<l.length:=by rw [HL.out];omega
    rw [RQ l o m j (by rw [HL.out];omega) hj,(ai wr obj).cell (p:=⟨g,o+j,none⟩) (aq (World.block_lt_of_cell? w _ (HC.out _ hoj)) HS.out.size)]
    exact HS.out.cell (HC.out _ hoj) ib
   have BX:Hid (∀ obj,(wr.alloc obj).cell? ⟨hb,k,none⟩=some (.int .u64 (iC l k k:Int))):=fun obj=>(HH.out.below (ai wr obj)).cell k bN
   have HFZ:Hid (∀ obj,(wr.alloc obj).frozen? ⟨hb,k,none⟩=false):=fun obj=>frozen_of_row _ _ _ _ _ (HH.out.below (ai wr obj))
   obtain rfl | rfl | rfl | rfl | rfl:k=0∨k=1∨k=2∨k=3∨k=4:=by omega
   ·have li:=fun w=>gu w 0 (by decide)
    rw [show ((0:Nat):Int)=0 from rfl] at li ⊢
    simp only [place,width,dn] at li;go_wp2_with (go_at_call 226;refine (qY g 0 1 _ hb 0 _ (sub l 0 1) _ (by decide) (mM _ _ _ (by rw [HL.out];decide)) (by decide) (by decide) (nO.out _ 0 1 (by decide)) (BX.out _) (HFZ.out _)).mono ?_;rintro e w1 ⟨rfl,w0,lM,rfl⟩;have HN:=ab (mi 0 (by decide) HH.out HS.out ib lM);clear lM)
    go_roundw
    case rel=>exact ⟨1,by omega,by go_num,HN.out.1,HN.out.2⟩
    case measure=>simp [intOf]
   ·have li:=fun w=>gu w 1 (by decide)
    rw [show ((1:Nat):Int)=1 from rfl] at li ⊢
    simp only [place,width,dn] at li;go_wp2_with (go_at_call 226;refine (qY g 2 2 _ hb 1 _ (sub l 2 2) _ (by decide) (mM _ _ _ (by rw [HL.out];decide)) (by decide) (by decide) (nO.out _ 2 2 (by decide)) (BX.out _) (HFZ.out _)).mono ?_;rintro e w1 ⟨rfl,w0,lM,rfl⟩;have HN:=ab (mi 1 (by decide) HH.out HS.out ib lM);clear lM)
    go_roundw
    case rel=>exact ⟨2,by omega,by go_num,HN.out.1,HN.out.2⟩
    case measure=>simp [intOf]
   ·have li:=fun w=>gu w 2 (by decide)
    rw [show ((2:Nat):Int)=2 from rfl] at li ⊢
    simp only [place,width,dn] at li;go_wp2_with (go_at_call 226;refine (qY g 4 4 _ hb 2 _ (sub l 4 4) _ (by decide) (mM _ _ _ (by rw [HL.out];decide)) (by decide) (by decide) (nO.out _ 4 4 (by decide)) (BX.out _) (HFZ.out _)).mono ?_;rintro e w1 ⟨rfl,w0,lM,rfl⟩;have HN:=ab (mi 2 (by decide) HH.out HS.out ib lM);clear lM)
    go_roundw
    case rel=>exact ⟨3,by omega,by go_num,HN.out.1,HN.out.2⟩
    case measure=>simp [intOf]
   ·have li:=fun w=>gu w 3 (by decide)
    rw [show ((3:Nat):Int)=3 from rfl] at li ⊢
    simp only [place,width,dn] at li;go_wp2_with (go_at_call 226;refine (qY g 8 8 _ hb 3 _ (sub l 8 8) _ (by decide) (mM _ _ _ (by rw [HL.out];decide)) (by decide) (by decide) (nO.out _ 8 8 (by decide)) (BX.out _) (HFZ.out _)).mono ?_;rintro e w1 ⟨rfl,w0,lM,rfl⟩;have HN:=ab (mi 3 (by decide) HH.out HS.out ib lM);clear lM)
    go_roundw
    case rel=>exact ⟨4,by omega,by go_num,HN.out.1,HN.out.2⟩
    case measure=>simp [intOf]
   ·have li:=fun w=>gu w 4 (by decide)
    rw [show ((4:Nat):Int)=4 from rfl] at li ⊢
    simp only [place,width,dn] at li;go_wp2_with (go_at_call 226;refine (qY g 16 4 _ hb 4 _ (sub l 16 4) _ (by decide) (mM _ _ _ (by rw [HL.out];decide)) (by decide) (by decide) (nO.out _ 16 4 (by decide)) (BX.out _) (HFZ.out _)).mono ?_;rintro e w1 ⟨rfl,w0,lM,rfl⟩;have HN:=ab (mi 4 (by decide) HH.out HS.out ib lM);clear lM)
    go_roundw
    case rel=>exact ⟨5,by omega,by go_num,HN.out.1,HN.out.2⟩
    case measure=>simp [intOf]
  ·obtain rfl:k=5:=by omega
   rw [show ((5:Nat):Int)=5 from rfl]
   go_wp2_with fail;go_end0
   exact ⟨rfl,HH.out,HS.out⟩
theorem oa{w:World}{b:Nat}{t:TypeId}{v0 v1 v2 v3 v4 u0 u1 u2 u3 u4:Value}(h:w.heap[b]?=some (.cells #[v0,v1,v2,v3,v4] t (0,0))):(((((w.setCell ⟨b,0,none⟩ u0).setCell ⟨b,1,none⟩ u1).setCell ⟨b,2,none⟩ u2).setCell ⟨b,3,none⟩ u3).setCell ⟨b,4,none⟩ u4).heap[b]?=some (.cells #[u0,u1,u2,u3,u4] t (0,0)) :=
 heap_setCell_same _ b 4 _ t u4 (heap_setCell_same _ b 3 _ t u3 (heap_setCell_same _ b 2 _ t u2 (heap_setCell_same _ b 1 _ t u1 (heap_setCell_same w b 0 _ t u0 h))))
theorem A8(g cap:Nat)(l:List UInt8)(w:World)(hl:l.length=4096)(dd:4096≤cap)(sf:cap≤9223372036854775807)(hL:Lay w)(hc:∀ j (h:j<l.length),w.cell? ⟨g,j,none⟩=some (.int .u8 (l[j].toNat:Int))):Calls prog 187 #[.slice (some ⟨g,0,none⟩) 4096 cap] w fun e w'=>e = .returned (.agg #[.int .u64 (nums l 0:Int),.int .u64 (nums l 1:Int),.int .u64 (nums l 2:Int),.int .u64 (nums l 3:Int),.int .u64 (nums l 4:Int)])∧Below w.heap.size w w':=by
 have xH:g<w.heap.size:=World.block_lt_of_cell? w _ (hc 0 (by omega))
 have lM:Below w.heap.size w ((w.alloc (.cells #[.int .u64 0,.int .u64 0,.int .u64 0,.int .u64 0,.int .u64 0] 256)).alloc (.cells #[.int .u64 0,.int .u64 0,.int .u64 0,.int .u64 0,.int .u64 0] 256)):=Below.next (ai w _) (ai _ _);have C:=LG g (w.heap.size+1) cap l ((w.alloc (.cells #[.int .u64 0,.int .u64 0,.int .u64 0,.int .u64 0,.int .u64 0] 256)).alloc (.cells #[.int .u64 0,.int .u64 0,.int .u64 0,.int .u64 0,.int .u64 0] 256)) hl dd sf (by omega) (hL.below lM)
  (by
   have h:=heap_alloc_new (w.alloc (.cells #[.int .u64 0,.int .u64 0,.int .u64 0,.int .u64 0,.int .u64 0] 256)) (.cells #[.int .u64 0,.int .u64 0,.int .u64 0,.int .u64 0,.int .u64 0] 256);rw [show (w.alloc (.cells #[.int .u64 0,.int .u64 0,.int .u64 0,.int .u64 0,.int .u64 0] 256)).heap.size=w.heap.size+1 by simp] at h
   exact h)
  (fun j hj=>(lM.cell (p:=⟨g,j,none⟩) xH).trans (hc j hj))
 have HC:Hid (Calls prog 215 #[.slice (some ⟨g,0,none⟩) 4096 cap,.func (.func 226) #[] #[.pointer (some ⟨w.heap.size+1,0,none⟩)]] ((w.alloc (.cells #[.int .u64 0,.int .u64 0,.int .u64 0,.int .u64 0,.int .u64 0] 256)).alloc (.cells #[.int .u64 0,.int .u64 0,.int .u64 0,.int .u64 0,.int .u64 0] 256)) fun e w'=>e = .returned (.tuple #[])∧gC w' (w.heap.size+1) (iC l 5)∧bJ (w.heap.size+1) ((w.alloc (.cells #[.int .u64 0,.int .u64 0,.int .u64 0,.int .u64 0,.int .u64 0] 256)).alloc (.cells #[.int .u64 0,.int .u64 0,.int .u64 0,.int .u64 0,.int .u64 0] 256)) w'):=C
 have uY:=ab lM;have Ht:Hid (((w.alloc (.cells #[.int .u64 0,.int .u64 0,.int .u64 0,.int .u64 0,.int .u64 0] 256)).alloc (.cells #[.int .u64 0,.int .u64 0,.int .u64 0,.int .u64 0,.int .u64 0] 256)).heap[w.heap.size]?=some (.cells #[.int .u64 0,.int .u64 0,.int .u64 0,.int .u64 0,.int .u64 0] 256 (0,0))):=by
  show _=_
  rw [(ai (w.alloc (.cells #[.int .u64 0,.int .u64 0,.int .u64 0,.int .u64 0,.int .u64 0] 256)) _).block w.heap.size (by simp)]
  exact heap_alloc_new w _
 clear C lM hc hL hl;go_enter func187,ntmps187;go_wp2_with fail;have gD:Hid (w.heap.size+1<((w.alloc (.cells #[.int .u64 0,.int .u64 0,.int .u64 0,.int .u64 0,.int .u64 0] 256)).alloc (.cells #[.int .u64 0,.int .u64 0,.int .u64 0,.int .u64 0,.int .u64 0] 256)).heap.size):=by show _<_;simp
 generalize ((w.alloc (.cells #[.int .u64 0,.int .u64 0,.int .u64 0,.int .u64 0,.int .u64 0] 256)).alloc (.cells #[.int .u64 0,.int .u64 0,.int .u64 0,.int .u64 0,.int .u64 0] 256))=W0 at *;refine Calls.mono HC.out ?_
 rintro e w1 ⟨rfl,hh,hs⟩;have d0:w1.cell? ⟨w.heap.size+1,0,none⟩=some (.int .u64 (nums l 0:Int)):=by rw [hh.cell 0 (by decide),jU _ _ (by decide)]
 have d1:w1.cell? ⟨w.heap.size+1,1,none⟩=some (.int .u64 (nums l 1:Int)):=by rw [hh.cell 1 (by decide),jU _ _ (by decide)]
 have d2:w1.cell? ⟨w.heap.size+1,2,none⟩=some (.int .u64 (nums l 2:Int)):=by rw [hh.cell 2 (by decide),jU _ _ (by decide)]
 have d3:w1.cell? ⟨w.heap.size+1,3,none⟩=some (.int .u64 (nums l 3:Int)):=by rw [hh.cell 3 (by decide),jU _ _ (by decide)]
 have d4:w1.cell? ⟨w.heap.size+1,4,none⟩=some (.int .u64 (nums l 4:Int)):=by rw [hh.cell 4 (by decide),jU _ _ (by decide)]
 have fV:w1.heap[w.heap.size]?=some (.cells #[.int .u64 0,.int .u64 0,.int .u64 0,.int .u64 0,.int .u64 0] 256 (0,0)):=by rw [hs.block w.heap.size (by have:=gD.out;omega) (by omega)];exact Ht.out
 have nH:=ab fV;have bP:Hid (Below w.heap.size w w1):=hs.below uY.out (by omega)
 have f0:w1.frozen? ⟨w.heap.size,0,none⟩=false:=frozen_of_row _ _ _ _ _ fV;have f1:w1.frozen? ⟨w.heap.size,1,none⟩=false:=frozen_of_row _ _ _ _ _ fV;have f2:w1.frozen? ⟨w.heap.size,2,none⟩=false:=frozen_of_row _ _ _ _ _ fV;have f3:w1.frozen? ⟨w.heap.size,3,none⟩=false:=frozen_of_row _ _ _ _ _ fV;have f4:w1.frozen? ⟨w.heap.size,4,none⟩=false:=frozen_of_row _ _ _ _ _ fV;have g0:w1.cell? ⟨w.heap.size,0,none⟩=some (.int .u64 0):=by rw [cell_of_row _ _ _ _ _ _ fV];rfl
 have g1:w1.cell? ⟨w.heap.size,1,none⟩=some (.int .u64 0):=by rw [cell_of_row _ _ _ _ _ _ fV];rfl
 have g2:w1.cell? ⟨w.heap.size,2,none⟩=some (.int .u64 0):=by rw [cell_of_row _ _ _ _ _ _ fV];rfl
 have g3:w1.cell? ⟨w.heap.size,3,none⟩=some (.int .u64 0):=by rw [cell_of_row _ _ _ _ _ _ fV];rfl
 have g4:w1.cell? ⟨w.heap.size,4,none⟩=some (.int .u64 0):=by rw [cell_of_row _ _ _ _ _ _ fV];rfl
 clear hh hs fV HC uY Ht;go_wp2_with fail;refine bodyPost_ret (results_cell_row rfl _ _ w.heap.size 256 #[.int .u64 (nums l 0:Int),.int .u64 (nums l 1:Int),.int .u64 (nums l 2:Int),.int .u64 (nums l 3:Int),.int .u64 (nums l 4:Int)] (0,0) _ rfl (oa nH.out) underlying256 rfl (by kernel_rfl)) rfl ⟨rfl,?_⟩
 exact ((((bP.out.setCell (aj _) _).setCell (aj _) _).setCell (aj _) _).setCell (aj _) _).setCell (aj _) _
theorem Rd.any{w:World}{v:Value}{l:List UInt8}(h:Rd w v l):UW w v l:=by
 rcases h with ⟨rfl,rfl⟩ | ⟨g,cap,rfl,_,_,_,hc⟩
 ·exact ⟨none,0,rfl,fun j h=>by simp at h⟩
 ·exact ⟨_,cap,rfl,fun j h=>⟨g,0,rfl,by rw [Nat.zero_add];exact hc j h⟩⟩
theorem LC(v1 v2:Value)(l1 l2:List UInt8)(w:World)(r1:UW w v1 l1)(r2:UW w v2 l2)(h1:0<l1.length)(h2:0<l2.length):Calls prog 188 #[v1,v2] w fun e w'=>e = .returned (.bool (decide (l1=l2)))∧w=w':=by
 have s1:=ly w v1 l1 r1 h1;have s2:=ly w v2 l2 r2 h2;obtain ⟨a1,c1,rfl,_⟩:=r1;obtain ⟨a2,c2,rfl,_⟩:=r2;clear h1 h2;go_enter func188,ntmps188;go_wp2_with fail;go_ret;refine ⟨?_,rfl⟩;show Ending.returned (.bool (l1 == l2))=_
 have e:(l1 == l2)=decide (l1=l2):=by by_cases h:l1=l2 <;> simp [h]
 rw [e]
def parse(l:List UInt8):Sh:=⟨(nums l 0:Int),(nums l 2:Int),nums l 3,(nums l 1:Int),⟨(l.drop 24).toArray⟩⟩
def gx(l:List UInt8)(id:Int):Prop:=l.length=4096∧(parse l).id=id∧sm (parse l)∧gW (parse l)=l
instance (l:List UInt8) (id:Int):Decidable (gx l id):=inferInstanceAs (Decidable (_∧_))
def q7(a:Addr)(l:List UInt8)(id:Int):Array Value:=if gx l id then #[.agg (parse l).cells.toArray,.nilIface] else #[.agg #[.int .i64 0,.int .i64 0,.int .u64 0,.int .i64 0,.string ⟨#[]⟩],.iface 360 (.pointer (some a))]
theorem NN{a:Addr}{l:List UInt8}{id:Int}(h:gx l id):q7 a l id=#[.agg #[.int .i64 (nums l 0:Int),.int .i64 (nums l 2:Int),.int .u64 (nums l 3:Int),.int .i64 (nums l 1:Int),.string ⟨(l.drop 24).toArray⟩],.nilIface]:=by unfold q7;rw [if_pos h];rfl
theorem qZ{a:Addr}{l:List UInt8}{id:Int}(h:¬ gx l id):q7 a l id=#[.agg #[.int .i64 0,.int .i64 0,.int .u64 0,.int .i64 0,.string ⟨#[]⟩],.iface 360 (.pointer (some a))]:=by unfold q7;rw [if_neg h]
theorem vj(l:List UInt8)(k:Nat):nums l k<256 ^ width k:=by
 have h:=yf (sub l (place k) (width k));exact aq h (my (by decide) (by simp [sub];omega))
theorem Ym(l:List UInt8):nums l 0<256:=vj l 0
theorem Yl(l:List UInt8):nums l 1<65536:=vj l 1
theorem Yk(l:List UInt8):nums l 2<4294967296:=vj l 2
theorem Ue(l:List UInt8):nums l 3<18446744073709551616:=vj l 3
theorem AD(g cap:Nat)(l:List UInt8)(W:World)(hl:l.length=4096)(hc:∀ j (h:j<l.length),W.cell? ⟨g,j,none⟩=some (.int .u8 (l[j].toNat:Int))):(convert 145 9 (.slice (some ⟨g,24,none⟩) 4072 (cap - 24))).run prog W = .ok (.string ⟨(l.drop 24).toArray⟩) W:=by
 refine ly W _ (l.drop 24) ⟨_,cap - 24,by rw [ao,hl],fun j hj=>⟨g,24,rfl,?_⟩⟩ (by rw [ao,hl];decide)
 rw [hc (24+j) (by rw [ao] at hj;omega),cW]
theorem Fy(n:Nat)(h:n<9223372036854775808):IntKind.i64.wrap (n:Int)=(n:Int):=by
 rw [IntKind.wrap_i64];omega
theorem jN{w:World}{b:Nat}{t:TypeId}{v0 v1 v2 v3 v4 u0 u1 u2 u3 u4:Value}(h:w.heap[b]?=some (.cells #[v0,v1,v2,v3,v4] t (0,0))):(((((w.setCell ⟨b,0,none⟩ u0).setCell ⟨b,1,none⟩ u1).setCell ⟨b,2,none⟩ u2).setCell ⟨b,3,none⟩ u3).setCell ⟨b,4,none⟩ u4).drew.heap[b]?=some (.cells #[u0,u1,u2,u3,u4] t (0,0)):=by
 rw [World.drew_is_drewN,World.heap_drewN];exact oa h
theorem lf{w w':World}{b:Nat}{u0 u1 u2 u3 u4:Value}(h:Below w.heap.size w w')(hb:w.heap.size≤b):Below w.heap.size w (((((w'.setCell ⟨b,0,none⟩ u0).setCell ⟨b,1,none⟩ u1).setCell ⟨b,2,none⟩ u2).setCell ⟨b,3,none⟩ u3).setCell ⟨b,4,none⟩ u4) :=
 ((((h.setCell hb _).setCell hb _).setCell hb _).setCell hb _).setCell hb _
theorem T7{w:World}{g:Nat}(h:w.heap[g]?=some (.cells #[.int .i64 0,.int .i64 0,.int .u64 0,.int .i64 0,.string ⟨#[]⟩] 87 (0,0))):(w.cell? ⟨g,0,none⟩=some (.int .i64 0)∧w.cell? ⟨g,1,none⟩=some (.int .i64 0)∧w.cell? ⟨g,2,none⟩=some (.int .u64 0)∧w.cell? ⟨g,3,none⟩=some (.int .i64 0)∧w.cell? ⟨g,4,none⟩=some (.string ⟨#[]⟩))∧∀ j,w.frozen? ⟨g,j,none⟩=false:=by
 refine ⟨?_,fun j=>frozen_of_row _ _ _ _ _ h⟩
 refine ⟨?_,?_,?_,?_,?_⟩ <;> (rw [cell_of_row _ _ _ _ _ _ h];rfl)
theorem NM(a:Addr)(g cap:Nat)(l:List UInt8)(id:Int)(w:World)(hl:l.length=4096)(dd:4096≤cap)(sf:cap≤9223372036854775807)(hL:Lay w)(hT:EW w)(hE:w.cell? ⟨1,0,none⟩=some (.iface 360 (.pointer (some a))))(hc:∀ j (h:j<l.length),w.cell? ⟨g,j,none⟩=some (.int .u8 (l[j].toNat:Int))):Calls prog 152 #[.slice (some ⟨g,0,none⟩) 4096 cap,.int .i64 id] w fun e w'=>e = .returned (.tuple (q7 a l id))∧Below w.heap.size w w':=by
 have xH:g<w.heap.size:=World.block_lt_of_cell? w _ (hc 0 (by omega))
 have ZR:(4096:Int)≤(cap:Int):=by omega
 have b0:=Fy (nums l 0) (by have:=Ym l;omega)
 have b1:=Fy (nums l 1) (by have:=Yl l;omega)
 have b2:=Fy (nums l 2) (by have:=Yk l;omega)
 have eG:Hid (nums l 3<18446744073709551616):=Ue l;have uY:Hid (Below w.heap.size w (w.alloc (.cells #[.int .i64 0,.int .i64 0,.int .u64 0,.int .i64 0,.string ⟨#[]⟩] 87))):=ai w _;have Ht:Hid ((w.alloc (.cells #[.int .i64 0,.int .i64 0,.int .u64 0,.int .i64 0,.string ⟨#[]⟩] 87)).heap[w.heap.size]?=some (.cells #[.int .i64 0,.int .i64 0,.int .u64 0,.int .i64 0,.string ⟨#[]⟩] 87 (0,0))):=heap_alloc_new w _;have HEL:Hid (1<(w.alloc (.cells #[.int .i64 0,.int .i64 0,.int .u64 0,.int .i64 0,.string ⟨#[]⟩] 87)).heap.size):=by have hx:1<w.heap.size:=World.block_lt_of_cell? w _ hE;show _<_;simp;omega
 have HE0:Hid ((w.alloc (.cells #[.int .i64 0,.int .i64 0,.int .u64 0,.int .i64 0,.string ⟨#[]⟩] 87)).cell? ⟨1,0,none⟩=some (.iface 360 (.pointer (some a)))):=((ai w (.cells #[.int .i64 0,.int .i64 0,.int .u64 0,.int .i64 0,.string ⟨#[]⟩] 87)).cell (p:=⟨1,0,none⟩) (World.block_lt_of_cell? w _ hE)).trans hE;have HL:=ab (hL.below uY.out);have HT:=ab (hT.below uY.out);have HC:Hid (∀ j (h:j<l.length),(w.alloc (.cells #[.int .i64 0,.int .i64 0,.int .u64 0,.int .i64 0,.string ⟨#[]⟩] 87)).cell? ⟨g,j,none⟩=some (.int .u8 (l[j].toNat:Int))):=fun j hj=>(uY.out.cell (p:=⟨g,j,none⟩) xH).trans (hc j hj)
 have kH:=ab hl;have gD:Hid (w.heap.size<(w.alloc (.cells #[.int .i64 0,.int .i64 0,.int .u64 0,.int .i64 0,.string ⟨#[]⟩] 87)).heap.size):=by show _<_;simp
 have Hy:Hid (1<w.heap.size):=World.block_lt_of_cell? w _ hE;clear hL hT hc hl hE;go_enter func152,ntmps152;go_wp2_with fail;generalize (w.alloc (.cells #[.int .i64 0,.int .i64 0,.int .u64 0,.int .i64 0,.string ⟨#[]⟩] 87))=W0 at *;refine (A8 g cap l W0 kH.out dd sf HL.out HC.out).mono ?_
 rintro e w1 ⟨rfl,aL⟩;have bP:=ab aL;clear aL;go_wp2_with fail;have HH:Hid (gC (w1.alloc (.cells #[.int .u64 (nums l 0:Int),.int .u64 (nums l 1:Int),.int .u64 (nums l 2:Int),.int .u64 (nums l 3:Int),.int .u64 (nums l 4:Int)] 256)) w1.heap.size (nums l)):=heap_alloc_new w1 _;have bH:=ab (Below.next bP.out (ai w1 (.cells #[.int .u64 (nums l 0:Int),.int .u64 (nums l 1:Int),.int .u64 (nums l 2:Int),.int .u64 (nums l 3:Int),.int .u64 (nums l 4:Int)] 256)));generalize (w1.alloc (.cells #[.int .u64 (nums l 0:Int),.int .u64 (nums l 1:Int),.int .u64 (nums l 2:Int),.int .u64 (nums l 3:Int),.int .u64 (nums l 4:Int)] 256))=w2 at *;have d0:=HH.out.cell 0 (by decide)
 have d1:=HH.out.cell 1 (by decide)
 have d2:=HH.out.cell 2 (by decide)
 have d3:=HH.out.cell 3 (by decide)
 have hgW:g<W0.heap.size:=by have:=gD.out;omega
 have MU:Hid (∀ j (h:j<l.length),w2.cell? ⟨g,j,none⟩=some (.int .u8 (l[j].toNat:Int))):=fun j hj=>(bH.out.cell (p:=⟨g,j,none⟩) hgW).trans (HC.out j hj)
 have xJ:(convert 145 9 (.slice (some ⟨g,24,none⟩) 4072 (cap - 24))).run prog w2.drew = .ok (.string ⟨(l.drop 24).toArray⟩) w2.drew:=AD g cap l _ kH.out MU.out;have adk:∀ o,(convert 145 9 (.slice (some ⟨g,24,none⟩) 4072 (cap - 24))).run prog (w2.alloc o).drew = .ok (.string ⟨(l.drop 24).toArray⟩) (w2.alloc o).drew:=fun o=>AD g cap l _ kH.out (fun j hj=>((ai w2 o).cell (p:=⟨g,j,none⟩) (World.block_lt_of_cell? w2 _ (MU.out j hj))).trans (MU.out j hj))
 clear bP;go_region_held (fun w'=>w'.cell? ⟨w1.heap.size,0,none⟩=some (.int .u64 (nums l 0:Int))∧w'.cell? ⟨w1.heap.size,1,none⟩=some (.int .u64 (nums l 1:Int))∧w'.cell? ⟨w1.heap.size,2,none⟩=some (.int .u64 (nums l 2:Int))∧w'.cell? ⟨w1.heap.size,3,none⟩=some (.int .u64 (nums l 3:Int))) (go_keep) (fail)
 all_goals
  have yA:Hid (Boxed w2.heap.size [.int .i64 (nums l 0:Int),.int .i64 (nums l 2:Int),.int .u64 (nums l 3:Int),.int .i64 (nums l 1:Int),.string ⟨(l.drop 24).toArray⟩] (w2.alloc (.cells #[.int .i64 (nums l 0:Int),.int .i64 (nums l 2:Int),.int .u64 (nums l 3:Int),.int .i64 (nums l 1:Int),.string ⟨(l.drop 24).toArray⟩] 87)).drew):=bL w2 _ _;have Mt:Hid (Below W0.heap.size W0 (w2.alloc (.cells #[.int .i64 (nums l 0:Int),.int .i64 (nums l 2:Int),.int .u64 (nums l 3:Int),.int .i64 (nums l 1:Int),.string ⟨(l.drop 24).toArray⟩] 87)).drew):=(Below.next bH.out (ai w2 (.cells #[.int .i64 (nums l 0:Int),.int .i64 (nums l 2:Int),.int .u64 (nums l 3:Int),.int .i64 (nums l 1:Int),.string ⟨(l.drop 24).toArray⟩] 87))).drew;clear xJ adk d0 d1 d2 d3 HH MU bH;generalize (w2.alloc (.cells #[.int .i64 (nums l 0:Int),.int .i64 (nums l 2:Int),.int .u64 (nums l 3:Int),.int .i64 (nums l 1:Int),.string ⟨(l.drop 24).toArray⟩] 87)).drew=w3 at *;have pO:w3.heap[w.heap.size]?=some (.cells #[.int .i64 0,.int .i64 0,.int .u64 0,.int .i64 0,.string ⟨#[]⟩] 87 (0,0)):=by rw [Mt.out.block w.heap.size gD.out];exact Ht.out
  by_cases hid:(nums l 2:Int)=id
  ·subst hid;have GX:((nums l 2:Int) != (nums l 2:Int))=false:=by simp
   have c0:w3.cell? ⟨w2.heap.size,0,none⟩=some (.int .i64 (nums l 0:Int)):=yA.out.2 0 (by simp)
   have c1:w3.cell? ⟨w2.heap.size,1,none⟩=some (.int .i64 (nums l 2:Int)):=yA.out.2 1 (by simp)
   have c2:w3.cell? ⟨w2.heap.size,2,none⟩=some (.int .u64 (nums l 3:Int)):=yA.out.2 2 (by simp)
   have c3:w3.cell? ⟨w2.heap.size,3,none⟩=some (.int .i64 (nums l 1:Int)):=yA.out.2 3 (by simp)
   have c4:w3.cell? ⟨w2.heap.size,4,none⟩=some (.string ⟨(l.drop 24).toArray⟩):=yA.out.2 4 (by simp)
   by_cases hm:sm (parse l)
   ·have MG:(parse l).body.size≤140737488355328:=by rw [hm.2.2.2];decide
    have HM:Hid (∀ w,Calls prog 131 #[.agg #[.int .i64 (nums l 0:Int),.int .i64 (nums l 2:Int),.int .u64 (nums l 3:Int),.int .i64 (nums l 1:Int),.string ⟨(l.drop 24).toArray⟩]] w fun e w'=>e = .returned (.bool true)∧Below w.heap.size w w'):=fun w=>by
     have h:=oV (parse l) w MG;rw [decide_eq_true hm] at h;exact h
    have HP:Hid (∀ w,Lay w→EW w→Calls prog 132 #[.agg #[.int .i64 (nums l 0:Int),.int .i64 (nums l 2:Int),.int .u64 (nums l 3:Int),.int .i64 (nums l 1:Int),.string ⟨(l.drop 24).toArray⟩]] w fun e w'=>∃ g,e = .returned (.slice (some ⟨g,0,none⟩) 4096 4096)∧cF w' g (gW (parse l))∧w.heap.size≤g∧Below w.heap.size w w'):=fun w h1 h2=>wQ (parse l) w hm eG.out h1 h2
    have rW:Hid ((gW (parse l)).length=4096):=l8 _ hm;have E4:=ab hm;clear hm MG;go_wp2_with fail;refine (HM.out _).mono ?_
    rintro e w4 ⟨rfl,gj⟩;have vF:=ab (yA.out.below gj);have iU:=ab (Below.next Mt.out gj);clear c0 c1 c2 c3 c4 gj pO;have c0:w4.cell? ⟨w2.heap.size,0,none⟩=some (.int .i64 (nums l 0:Int)):=vF.out.2 0 (by simp)
    have c1:w4.cell? ⟨w2.heap.size,1,none⟩=some (.int .i64 (nums l 2:Int)):=vF.out.2 1 (by simp)
    have c2:w4.cell? ⟨w2.heap.size,2,none⟩=some (.int .u64 (nums l 3:Int)):=vF.out.2 2 (by simp)
    have c3:w4.cell? ⟨w2.heap.size,3,none⟩=some (.int .i64 (nums l 1:Int)):=vF.out.2 3 (by simp)
    have c4:w4.cell? ⟨w2.heap.size,4,none⟩=some (.string ⟨(l.drop 24).toArray⟩):=vF.out.2 4 (by simp)
    go_wp2_with fail;refine (HP.out _ (HL.out.below iU.out) (HT.out.below iU.out)).mono ?_
    rintro e w5 ⟨g5,rfl,hr5,hg5,mj⟩;have zj:=ab (vF.out.below mj);have iW:=ab (Below.next iU.out mj);have RA:Hid (UW w5 (.slice (some ⟨g5,0,none⟩) 4096 4096) (gW (parse l))):=(NO hr5 rW.out (by decide)).any
    have RB:Hid (UW w5 (.slice (some ⟨g,0,none⟩) 4096 cap) l):=⟨_,cap,by rw [kH.out],fun j hj=>⟨g,0,rfl,by rw [Nat.zero_add,iW.out.cell (p:=⟨g,j,none⟩) hgW];exact HC.out j hj⟩⟩
    have KY:w5.heap[w.heap.size]?=some (.cells #[.int .i64 0,.int .i64 0,.int .u64 0,.int .i64 0,.string ⟨#[]⟩] 87 (0,0)):=by rw [iW.out.block w.heap.size gD.out];exact Ht.out
    clear c0 c1 c2 c3 c4 mj hr5 hg5;go_wp2_with fail;refine (LC _ _ (gW (parse l)) l _ RA.out RB.out (by rw [rW.out];decide) (by rw [kH.out];decide)).mono ?_
    rintro e w5' ⟨rfl,rfl⟩;by_cases hp:gW (parse l)=l
    ·have pw:Hid (gx l (nums l 2:Int)):=⟨kH.out,rfl,E4.out,hp⟩;rw [decide_eq_true hp];have c0:w5.cell? ⟨w2.heap.size,0,none⟩=some (.int .i64 (nums l 0:Int)):=zj.out.2 0 (by simp)
     have c1:w5.cell? ⟨w2.heap.size,1,none⟩=some (.int .i64 (nums l 2:Int)):=zj.out.2 1 (by simp)
     have c2:w5.cell? ⟨w2.heap.size,2,none⟩=some (.int .u64 (nums l 3:Int)):=zj.out.2 2 (by simp)
     have c3:w5.cell? ⟨w2.heap.size,3,none⟩=some (.int .i64 (nums l 1:Int)):=zj.out.2 3 (by simp)
     have c4:w5.cell? ⟨w2.heap.size,4,none⟩=some (.string ⟨(l.drop 24).toArray⟩):=zj.out.2 4 (by simp)
     obtain ⟨⟨z0,z1,z2,z3,z4⟩,y⟩:=T7 KY;have mA:=ab KY;have Ci:Hid (Below w.heap.size w w5):=uY.out.trans (iW.out.mono (Nat.le_of_lt gD.out));clear hp KY;go_wp2_with fail
     (try simp only [Exit.inBlock,Exit.then])
     refine bodyPost_ret (aK rfl _ _ w.heap.size 87 #[.int .i64 (nums l 0:Int),.int .i64 (nums l 2:Int),.int .u64 (nums l 3:Int),.int .i64 (nums l 1:Int),.string ⟨(l.drop 24).toArray⟩] (0,0) _ rfl (oa mA.out) underlying87 rfl (by kernel_rfl)) rfl ⟨?_,lf Ci.out (aj _)⟩
     rw [NN pw.out];rfl
    ·rw [decide_eq_false hp];have pw:Hid (¬ gx l (nums l 2:Int)):=fun h=>hp h.2.2.2
     have cE:w5.cell? ⟨1,0,none⟩=some (.iface 360 (.pointer (some a))):=(iW.out.cell (p:=⟨1,0,none⟩) HEL.out).trans HE0.out;obtain ⟨⟨z0,z1,z2,z3,z4⟩,y⟩:=T7 KY;have mA:=ab KY;have Ci:Hid (Below w.heap.size w w5):=uY.out.trans (iW.out.mono (Nat.le_of_lt gD.out));clear KY;clear hp;go_wp2_with fail;have dE:¬ w.heap.size=1:=by have:=Hy.out;omega
     go_region_held3 (fun w'=>w'.cell? ⟨1,0,none⟩=some (.iface 360 (.pointer (some a)))) (go_keep) (fail)
     go_wp2_with fail
     (try simp only [Exit.inBlock,Exit.then])
     refine bodyPost_ret (aK rfl _ _ w.heap.size 87 #[.int .i64 0,.int .i64 0,.int .u64 0,.int .i64 0,.string ⟨#[]⟩] (0,0) _ rfl (jN mA.out) underlying87 rfl (by kernel_rfl)) rfl ⟨?_,(lf Ci.out (aj _)).drew⟩
     rw [qZ pw.out];rfl
   ·have MG:(parse l).body.size≤140737488355328:=by
     show (ByteArray.mk (l.drop 24).toArray).size≤_
     have h1:(ByteArray.mk (l.drop 24).toArray).size=(l.drop 24).length:=by simp [ByteArray.size]
     have h2:=kH.out;rw [h1,ao];omega
    have HM:Hid (∀ w,Calls prog 131 #[.agg #[.int .i64 (nums l 0:Int),.int .i64 (nums l 2:Int),.int .u64 (nums l 3:Int),.int .i64 (nums l 1:Int),.string ⟨(l.drop 24).toArray⟩]] w fun e w'=>e = .returned (.bool false)∧Below w.heap.size w w'):=fun w=>by
     have h:=oV (parse l) w MG;rw [decide_eq_false hm] at h;exact h
    have E4:=ab hm;clear hm MG;go_wp2_with fail;refine (HM.out _).mono ?_
    rintro e w4 ⟨rfl,gj⟩;have iU:=ab (Below.next Mt.out gj);have O4:w4.heap[w.heap.size]?=some (.cells #[.int .i64 0,.int .i64 0,.int .u64 0,.int .i64 0,.string ⟨#[]⟩] 87 (0,0)):=by rw [iU.out.block w.heap.size gD.out];exact Ht.out
    clear c0 c1 c2 c3 c4 gj pO;have pw:Hid (¬ gx l (nums l 2:Int)):=fun h=>E4.out h.2.2.1
    have cE:w4.cell? ⟨1,0,none⟩=some (.iface 360 (.pointer (some a))):=(iU.out.cell (p:=⟨1,0,none⟩) HEL.out).trans HE0.out;obtain ⟨⟨z0,z1,z2,z3,z4⟩,y⟩:=T7 O4;have mA:=ab O4;have Ci:Hid (Below w.heap.size w w4):=uY.out.trans (iU.out.mono (Nat.le_of_lt gD.out));clear O4;go_wp2_with fail;have dE:¬ w.heap.size=1:=by have:=Hy.out;omega
    go_region_held3 (fun w'=>w'.cell? ⟨1,0,none⟩=some (.iface 360 (.pointer (some a)))) (go_keep) (fail)
    go_wp2_with fail
    (try simp only [Exit.inBlock,Exit.then])
    refine bodyPost_ret (aK rfl _ _ w.heap.size 87 #[.int .i64 0,.int .i64 0,.int .u64 0,.int .i64 0,.string ⟨#[]⟩] (0,0) _ rfl (jN mA.out) underlying87 rfl (by kernel_rfl)) rfl ⟨?_,(lf Ci.out (aj _)).drew⟩
    rw [qZ pw.out];rfl
  ·have GX:((nums l 2:Int) != id)=true:=by rw [bne_iff_ne];exact hid
   have c1:w3.cell? ⟨w2.heap.size,1,none⟩=some (.int .i64 (nums l 2:Int)):=yA.out.2 1 (by simp)
   have pw:Hid (¬ gx l id):=fun h=>hid h.2.1
   have cE:w3.cell? ⟨1,0,none⟩=some (.iface 360 (.pointer (some a))):=(Mt.out.cell (p:=⟨1,0,none⟩) HEL.out).trans HE0.out;obtain ⟨⟨z0,z1,z2,z3,z4⟩,y⟩:=T7 pO;have mA:=ab pO;have Ci:Hid (Below w.heap.size w w3):=uY.out.trans (Mt.out.mono (Nat.le_of_lt gD.out));clear pO;clear hid;go_wp2_with fail;have dE:¬ w.heap.size=1:=by have:=Hy.out;omega
   go_region_held3 (fun w'=>w'.cell? ⟨1,0,none⟩=some (.iface 360 (.pointer (some a)))) (go_keep) (fail)
   go_wp2_with fail
   (try simp only [Exit.inBlock,Exit.then])
   refine bodyPost_ret (aK rfl _ _ w.heap.size 87 #[.int .i64 0,.int .i64 0,.int .u64 0,.int .i64 0,.string ⟨#[]⟩] (0,0) _ rfl (jN mA.out) underlying87 rfl (by kernel_rfl)) rfl ⟨?_,(lf Ci.out (aj _)).drew⟩
   rw [qZ pw.out];rfl
theorem wD(a:Addr)(a0:Option Addr)(n cap:Nat)(l:List UInt8)(id:Int)(w:World)(hl:l.length=n)(hn:n≠4096)(hE:w.cell? ⟨1,0,none⟩=some (.iface 360 (.pointer (some a)))):Calls prog 152 #[.slice a0 n cap,.int .i64 id] w fun e w'=>e = .returned (.tuple (q7 a l id))∧Below w.heap.size w w':=by
 have pw:Hid (¬ gx l id):=fun h=>hn (hl.symm.trans h.1)
 have GX:((n:Int) != 4096)=true:=by rw [bne_iff_ne];omega
 have Ci:Hid (Below w.heap.size w (w.alloc (.cells #[.int .i64 0,.int .i64 0,.int .u64 0,.int .i64 0,.string ⟨#[]⟩] 87))):=ai w _;have mA:Hid ((w.alloc (.cells #[.int .i64 0,.int .i64 0,.int .u64 0,.int .i64 0,.string ⟨#[]⟩] 87)).heap[w.heap.size]?=some (.cells #[.int .i64 0,.int .i64 0,.int .u64 0,.int .i64 0,.string ⟨#[]⟩] 87 (0,0))):=heap_alloc_new w _;have bN:1<w.heap.size:=World.block_lt_of_cell? w _ hE;have cE:(w.alloc (.cells #[.int .i64 0,.int .i64 0,.int .u64 0,.int .i64 0,.string ⟨#[]⟩] 87)).cell? ⟨1,0,none⟩=some (.iface 360 (.pointer (some a))):=(Ci.out.cell (p:=⟨1,0,none⟩) bN).trans hE;have dE:¬ w.heap.size=1:=by omega
 clear hl hn hE;go_enter func152,ntmps152;go_wp2_with fail;generalize hW:(w.alloc (.cells #[.int .i64 0,.int .i64 0,.int .u64 0,.int .i64 0,.string ⟨#[]⟩] 87))=W0 at *;have hr:=mA.out;have z0:W0.cell? ⟨w.heap.size,0,none⟩=some (.int .i64 0):=by rw [cell_of_row _ _ _ _ _ _ hr];rfl
 have z1:W0.cell? ⟨w.heap.size,1,none⟩=some (.int .i64 0):=by rw [cell_of_row _ _ _ _ _ _ hr];rfl
 have z2:W0.cell? ⟨w.heap.size,2,none⟩=some (.int .u64 0):=by rw [cell_of_row _ _ _ _ _ _ hr];rfl
 have z3:W0.cell? ⟨w.heap.size,3,none⟩=some (.int .i64 0):=by rw [cell_of_row _ _ _ _ _ _ hr];rfl
 have z4:W0.cell? ⟨w.heap.size,4,none⟩=some (.string ⟨#[]⟩):=by rw [cell_of_row _ _ _ _ _ _ hr];rfl
 have y0:W0.frozen? ⟨w.heap.size,0,none⟩=false:=frozen_of_row _ _ _ _ _ hr;have y1:W0.frozen? ⟨w.heap.size,1,none⟩=false:=frozen_of_row _ _ _ _ _ hr;have y2:W0.frozen? ⟨w.heap.size,2,none⟩=false:=frozen_of_row _ _ _ _ _ hr;have y3:W0.frozen? ⟨w.heap.size,3,none⟩=false:=frozen_of_row _ _ _ _ _ hr;have y4:W0.frozen? ⟨w.heap.size,4,none⟩=false:=frozen_of_row _ _ _ _ _ hr;clear hW hr;go_region_held3 (fun w'=>w'.cell? ⟨1,0,none⟩=some (.iface 360 (.pointer (some a)))) (go_keep) (fail)
 go_wp2_with fail
 (try simp only [Exit.inBlock,Exit.then])
 refine bodyPost_ret (aK rfl _ _ w.heap.size 87 #[.int .i64 0,.int .i64 0,.int .u64 0,.int .i64 0,.string ⟨#[]⟩] (0,0) _ rfl (jN mA.out) underlying87 rfl (by kernel_rfl)) rfl ⟨?_,(lf Ci.out (aj _)).drew⟩
 rw [qZ pw.out];rfl
def RdB(w:World)(v:Value)(l:List UInt8):Prop :=
 (v = .slice none 0 0∧l=[])∨∃ g cap,v = .slice (some ⟨g,0,none⟩) l.length cap∧l.length≤cap∧cap≤9223372036854775807∧g<w.heap.size∧(∀ j (h:j<l.length),w.cell? ⟨g,j,none⟩=some (.int .u8 (l[j].toNat:Int)))
theorem lY(a:Addr)(v:Value)(l:List UInt8)(id:Int)(w:World)(hr:RdB w v l)(hL:Lay w)(hT:EW w)(hE:w.cell? ⟨1,0,none⟩=some (.iface 360 (.pointer (some a)))):Calls prog 152 #[v,.int .i64 id] w fun e w'=>e = .returned (.tuple (q7 a l id))∧Below w.heap.size w w':=by
 rcases hr with ⟨rfl,rfl⟩ | ⟨g,cap,rfl,h1,h2,h3,h4⟩
 ·exact wD a none 0 0 [] id w rfl (by decide) hE
 ·by_cases hl:l.length=4096
  ·rw [hl] at h1 ⊢;exact NM a g cap l id w hl h1 h2 hL hT hE h4
  ·exact wD a _ l.length cap l id w rfl hl hE
theorem Gj(k c i t sum:Nat)(body:List UInt8):nums (bare k c i t sum body) 0=eo (bI k 1):=rfl
theorem Gi(k c i t sum:Nat)(body:List UInt8):nums (bare k c i t sum body) 1=eo (bI c 2):=rfl
theorem Gh(k c i t sum:Nat)(body:List UInt8):nums (bare k c i t sum body) 2=eo (bI i 4):=rfl
theorem Gg(k c i t sum:Nat)(body:List UInt8):nums (bare k c i t sum body) 3=eo (bI t 8):=rfl
theorem LJ(k c i t sum:Nat)(body:List UInt8):(bare k c i t sum body).drop 24=body:=rfl
theorem kU(s:Sh)(hm:sm s)(hx:s.sE<18446744073709551616):parse (gW s)=s:=by
 obtain ⟨k,i,t,c,b⟩:=s;obtain ⟨hk,⟨Av,S4⟩,⟨B8,uS⟩,hb⟩:=hm;simp only at hk Av S4 B8 uS hb hx;obtain ⟨k,rfl⟩:=cy (show 0≤k by omega)
 obtain ⟨c,rfl⟩:=cy Av;obtain ⟨i,rfl⟩:=cy (show 0≤i by omega)
 have h:gW ⟨(k:Int),(i:Int),t,(c:Int),b⟩=bare k c i t (BH (zU ⟨(k:Int),(i:Int),t,(c:Int),b⟩ 0)) b.data.toList:=rfl;rw [h];generalize BH (zU ⟨(k:Int),(i:Int),t,(c:Int),b⟩ 0)=sum;unfold parse;rw [Gj,Gi,Gh,Gg,LJ,mr 1 k (by decide) (by show k<2 ^ 8;omega),mr 2 c (by decide) (by show c<2 ^ 16;omega),mr 4 i (by decide) (by show i<2 ^ 32;omega),mr 8 t (by decide) (by show t<2 ^ 64;omega)]
theorem De(s:Sh)(hm:sm s)(hx:s.sE<18446744073709551616)(id:Int):gx (gW s) id↔id=s.id:=by
 unfold gx;rw [kU s hm hx];exact ⟨fun h=>h.2.1.symm,fun h=>⟨l8 s hm,h.symm,hm,rfl⟩⟩
structure Env(base:Nat)(A:Nat→Addr)(w:World):Prop where
 errs:V.mC base A w
 text:w.cell? ⟨1,0,none⟩=some (.iface 360 (.pointer (some (A 1))))
 lo:1<base∧14<base∧15<base
 lay:Lay w
 tab:EW w
theorem Env.keep{base:Nat}{A:Nat→Addr}{w w':World}(h:Env base A w)(hb:Below base w w'):Env base A w':=by
 obtain ⟨he,ht,⟨l1,l2,l3⟩,⟨h0,c0,c1,c2,c3,c4,c5,c6,c7,c8,c9⟩,hT⟩:=h;exact ⟨he.keep hb,(hb.cell l1).trans ht,⟨l1,l2,l3⟩,⟨aq h0 hb.size,(hb.cell l2).trans c0,(hb.cell l2).trans c1,(hb.cell l2).trans c2,(hb.cell l2).trans c3,(hb.cell l2).trans c4,(hb.cell l2).trans c5,(hb.cell l2).trans c6,(hb.cell l2).trans c7,(hb.cell l2).trans c8,(hb.cell l2).trans c9⟩,⟨fun j hj=>(hb.cell (p:=⟨15,j,none⟩) l3).trans (hT.1 j hj),aq hT.2 hb.size⟩⟩
theorem Env.up{base:Nat}{A:Nat→Addr}{w w':World}(h:Env base A w)(hb:Below w.heap.size w w'):Env base A w':=h.keep (hb.mono h.errs.size)
theorem Env.step{base:Nat}{A:Nat→Addr}{w w':World}{F F':Nat→Prop}(h:Env base A w)(hs:V.Step F F' w w')(hF:∀ k,F k→base≤k):Env base A w':=h.keep (hs.below hF h.errs.size)
theorem te(i:Int)(w:World)(h1:0≤i)(h2:i≤1048576):Calls prog 99 #[.int .i64 i] w fun e w'=>e = .returned (.int .i64 (i*8))∧w=w':=by
 go_enter func99,ntmps99;go_wp2;go_ret;exact ⟨rfl,rfl⟩
theorem mN(b:Nat)(F:Nat→Prop)(d:V.bq)(i:Int)(w:World)(h:V.cJ w b F d)(h1:0≤i)(h2:i<1048576):Calls prog 97 #[.pointer (some ⟨b,0,none⟩),.int .i64 i] w fun e w'=>e = .returned (.bool (decide ((i+1)*8≤d.size)))∧w=w':=by
 have S:=V.qV b F d w h;have HS:Hid (Calls prog 133 #[.pointer (some ⟨b,0,none⟩)] w fun e w'=>e = .returned (.int .i64 d.size)∧w=w'):=S
 have FS:=te (i+1) w (by omega) (by omega)
 have HF:Hid (Calls prog 99 #[.int .i64 (i+1)] w fun e w'=>e = .returned (.int .i64 ((i+1)*8))∧w=w'):=FS
 clear S FS h;generalize d.size=sz at *;go_enter func97,ntmps97;go_wp2_with fail;refine Calls.mono HS.out ?_
 rintro e w' ⟨rfl,rfl⟩;go_wp2_with fail;refine Calls.mono HF.out ?_
 rintro e w' ⟨rfl,rfl⟩;go_wp2_with fail;go_ret;exact ⟨rfl,rfl⟩
theorem CU{w:World}{base n:Nat}{v:Value}{l:List UInt8}(h:w.ownsRow base 5 1 v n (dS l)):RdB w v l:=by
 rcases FW h with h | ⟨g,cap,hv,h1,h2,h3,h4⟩
 ·exact .inl h
 ·exact .inr ⟨g,cap,hv,h1,ar h2 (by decide),h3,h4⟩
theorem Lt{w:World}{b:Nat}{u0 u1 u2 u3 u4:Value}:V.Step (fun k=>k=b) (fun k=>k=b) w (((((w.setCell ⟨b,0,none⟩ u0).setCell ⟨b,1,none⟩ u1).setCell ⟨b,2,none⟩ u2).setCell ⟨b,3,none⟩ u3).setCell ⟨b,4,none⟩ u4):=by
 have hs:bJ b w (((((w.setCell ⟨b,0,none⟩ u0).setCell ⟨b,1,none⟩ u1).setCell ⟨b,2,none⟩ u2).setCell ⟨b,3,none⟩ u3).setCell ⟨b,4,none⟩ u4) :=
  ((((bJ.set b 0 w u0).trans (bJ.set b 1 _ u1)).trans (bJ.set b 2 _ u2)).trans (bJ.set b 3 _ u3)).trans (bJ.set b 4 _ u4)
 exact ⟨hs.os,hs.tape,hs.output,hs.size,hs.block,fun k h=>.inl h⟩
def Sr(d:V.bq):V.bq:={ d with nr:=wrap64 (d.nr+8) }
end S
end Go.Proofs.YtihmgigfkmofnaaGreatDoor
