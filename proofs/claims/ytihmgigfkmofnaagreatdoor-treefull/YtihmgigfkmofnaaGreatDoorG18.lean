import Derived.Test.YtihmgigfkmofnaaGreatDoorG17
import Derived.Test.YtihmgigfkmofnaaGreatDoorG16
set_option maxHeartbeats 4000000
set_option maxRecDepth 100000
open Go.Proofs.Tryz
namespace Go.Proofs.YtihmgigfkmofnaaGreatDoor
namespace S
open Go.RowKit
def sub(l:List UInt8)(o m:Nat):List UInt8:=(l.drop o).take m
theorem nc(l:List UInt8)(o m:Nat)(h:o+m≤l.length):(sub l o m).length=m:=by
 simp [sub];omega
theorem Sl(l:List UInt8)(o m j:Nat)(h:o+m≤l.length)(hj:j<(sub l o m).length):(sub l o m)[j]=l[o+j]'(by rw [nc l o m h] at hj;omega):=by
 simp [sub]
def nums(l:List UInt8)(k:Nat):Nat:=ez (sub l (place k) (width k))
def iJ(l:List UInt8)(n k:Nat):Nat:=if k<n then nums l k else 0
def gG(w:World)(hb:Nat)(f:Nat→Nat):Prop:=w.heap[hb]?=some (.cells #[.int .u64 (f 0:Int),.int .u64 (f 1:Int),.int .u64 (f 2:Int),.int .u64 (f 3:Int),.int .u64 (f 4:Int)] 256 (0,0))
theorem rl(g o m cap hb k:Nat)(FC:Value)(l:List UInt8)(w:World)(hk:k<5)(hm:l.length=m)(h1:1≤m)(h8:m≤8)(hc:∀ j (h:j<l.length),w.cell? ⟨g,o+j,none⟩=some (.int .u8 (l[j].toNat:Int)))(hold:w.cell? ⟨hb,k,none⟩=some FC)(X8:w.frozen? ⟨hb,k,none⟩=false):Calls prog 226 #[.int .i64 (k:Int),.slice (some ⟨g,o,none⟩) m cap,.pointer (some ⟨hb,0,none⟩)] w fun e w'=>e = .returned (.tuple #[])∧∃ w1,Below w.heap.size w w1∧w'=w1.setCell ⟨hb,k,none⟩ (.int .u64 ((ez l:Nat):Int)):=by
 subst hm;have hg:g<w.heap.size:=World.block_lt_of_cell? w _ (hc 0 (by omega))
 have jz:hb<w.heap.size:=World.block_lt_of_cell? w _ hold;have HG:Hid (∀ w,g<w.heap.size→(∀ j (h:j<l.length),w.cell? ⟨g,o+j,none⟩=some (.int .u8 (l[j].toNat:Int)))→Calls prog 227 #[.slice (some ⟨g,o,none⟩) l.length cap] w fun e w'=>e = .returned (.tuple #[.int .u64 ((ez l:Nat):Int),.nilIface])∧Below w.heap.size w w'):=fun w hg hc=>Ql g o cap l w h1 h8 hg hc
 have HC:=ab hc;have HO:=ab hold;have HF:=ab X8;have k0:(0:Int)≤(k:Int):=by omega
 have k5:(k:Int)<5:=by omega
 clear hc hold X8 h1 h8;generalize ez l=n at *;go_enter func226,ntmps226;go_wp2_with (go_at_call 227;refine (HG.out _ hg HC.out).mono ?_;rintro e w1 ⟨rfl,aM⟩;have bN:=ab aM;have kI:w1.cell? ⟨hb,k,none⟩=some FC:=(aM.cell (p:=⟨hb,k,none⟩) jz).trans HO.out;have hf1:w1.frozen? ⟨hb,k,none⟩=false:=(aM.frozen (p:=⟨hb,k,none⟩) jz).trans HF.out;clear aM)
 go_end0
 exact ⟨rfl,w1,bN.out,rfl⟩
theorem j6(l:List UInt8)(k:Nat)(h:k<5):iJ l 5 k=nums l k:=by simp [iJ,h]
theorem mA{w wr w0:World}{o:Obj}{g hb:Nat}{l:List UInt8}(k:Nat)(hk:k<5)(hh:gG wr hb (iJ l k))(hs:bJ hb w wr)(_hg:g≠hb)(lZ:Below (wr.alloc o).heap.size (wr.alloc o) w0):gG (w0.setCell ⟨hb,k,none⟩ (.int .u64 ((ez (sub l (place k) (width k)):Nat):Int))) hb (iJ l (k+1))∧bJ hb w (w0.setCell ⟨hb,k,none⟩ (.int .u64 ((ez (sub l (place k) (width k)):Nat):Int))):=by
 have bK:hb<wr.heap.size:=by
  rcases a8 hb wr.heap.size with h' | h'
  ·exact h'
  ·unfold gG at hh;rw [aY h'] at hh;cases hh
 have h0:w0.heap[hb]?=some (.cells #[.int .u64 (iJ l k 0:Int),.int .u64 (iJ l k 1:Int),.int .u64 (iJ l k 2:Int),.int .u64 (iJ l k 3:Int),.int .u64 (iJ l k 4:Int)] 256 (0,0)):=by
  rw [(Below.next (ai wr o) lZ).block hb bK];exact hh
 refine ⟨?_,(hs.trans (bJ.bo (Below.next (ai wr o) lZ))).trans (bJ.set hb k w0 _)⟩;unfold gG;rw [heap_setCell_same w0 hb k _ _ _ h0];obtain rfl | rfl | rfl | rfl | rfl:k=0∨k=1∨k=2∨k=3∨k=4:=by omega
 all_goals rfl
theorem gG.cell{w:World}{hb:Nat}{f:Nat→Nat}(h:gG w hb f)(k:Nat)(hk:k<5):w.cell? ⟨hb,k,none⟩=some (.int .u64 (f k:Int)):=by
 rw [cell_of_row _ _ _ _ _ _ h];obtain rfl | rfl | rfl | rfl | rfl:k=0∨k=1∨k=2∨k=3∨k=4:=by omega
 all_goals rfl
theorem gG.lt{w:World}{hb:Nat}{f:Nat→Nat}(h:gG w hb f):hb<w.heap.size:=World.block_lt_of_cell? w _ (h.cell 0 (by decide))
theorem gG.below{w w':World}{hb:Nat}{f:Nat→Nat}(h:gG w hb f)(M5:Below w.heap.size w w'):gG w' hb f:=by
 unfold gG;rw [M5.block hb h.lt];exact h
theorem LY(g hb cap:Nat)(l:List UInt8)(w:World)(hl:l.length=4096)(cT:4096≤cap)(sB:cap≤9223372036854775807)(il:g≠hb)(hL:Lay w)(hh:gG w hb (iJ l 0))(hc:∀ j (h:j<l.length),w.cell? ⟨g,j,none⟩=some (.int .u8 (l[j].toNat:Int))):Calls prog 215 #[.slice (some ⟨g,0,none⟩) 4096 cap,.func (.func 226) #[] #[.pointer (some ⟨hb,0,none⟩)]] w fun e w'=>e = .returned (.tuple #[])∧gG w' hb (iJ l 5)∧bJ hb w w':=by
 obtain ⟨hL0,c0,c1,c2,c3,c4,c5,c6,c7,c8,c9⟩:=hL;have HC:=ab hc;have ML:=ab hh;have HL:=ab hl;have aat:(4096:Int)≤(cap:Int):=by omega
 clear hc hh hl hL0;go_enter func215,ntmps215;go_wp2_with fail;go_loopw [7] (fun i wr=>∃ k:Nat,k≤5∧i = .int .i64 (k:Int)∧gG wr hb (iJ l k)∧bJ hb w wr) (fun i _=>5 - (intOf i).toNat)
 case atStart=>exact ⟨0,by omega,rfl,ML.out,bJ.refl _ _⟩
 case round =>
  obtain ⟨k,hk,rfl,bE,hs⟩:=hrel;clear c0 c1 c2 c3 c4 c5 c6 c7 c8 c9;have HS:Hid (bJ hb w wr):=hs;have HH:Hid (gG wr hb (iJ l k)):=bE;clear hs bE ML;by_cases bK:k<5
  ·have nX:Hid (∀ obj o m,o+m≤20→∀ j (h:j<(sub l o m).length),(wr.alloc obj).cell? ⟨g,o+j,none⟩=some (.int .u8 ((sub l o m)[j].toNat:Int))):=fun obj o m hom j hj=>by
    have pZ:=nc l o m (by rw [HL.out];omega)
    have hoj:o+j<l.length:=by rw [HL.out];omega
    rw [Sl l o m j (by rw [HL.out];omega) hj,(ai wr obj).cell (p:=⟨g,o+j,none⟩) (aq (World.block_lt_of_cell? w _ (HC.out _ hoj)) HS.out.size)]
    exact HS.out.cell (HC.out _ hoj) il
   have Ci:Hid (∀ obj,(wr.alloc obj).cell? ⟨hb,k,none⟩=some (.int .u64 (iJ l k k:Int))):=fun obj=>(HH.out.below (ai wr obj)).cell k bK
   have VI:Hid (∀ obj,(wr.alloc obj).frozen? ⟨hb,k,none⟩=false):=fun obj=>frozen_of_row _ _ _ _ _ (HH.out.below (ai wr obj))
   obtain rfl | rfl | rfl | rfl | rfl:k=0∨k=1∨k=2∨k=3∨k=4:=by omega
   ·have li:=fun w=>gy w 0 (by decide)
    rw [show ((0:Nat):Int)=0 from rfl] at li ⊢
    simp only [place,width,dr] at li;go_wp2_with (go_at_call 226;refine (rl g 0 1 _ hb 0 _ (sub l 0 1) _ (by decide) (nc _ _ _ (by rw [HL.out];decide)) (by decide) (by decide) (nX.out _ 0 1 (by decide)) (Ci.out _) (VI.out _)).mono ?_;rintro e w1 ⟨rfl,w0,lZ,rfl⟩;have HN:=ab (mA 0 (by decide) HH.out HS.out il lZ);clear lZ)
    go_roundw
    case rel=>exact ⟨1,by omega,by go_num,HN.out.1,HN.out.2⟩
    case measure=>simp [intOf]
   ·have li:=fun w=>gy w 1 (by decide)
    rw [show ((1:Nat):Int)=1 from rfl] at li ⊢
    simp only [place,width,dr] at li;go_wp2_with (go_at_call 226;refine (rl g 2 2 _ hb 1 _ (sub l 2 2) _ (by decide) (nc _ _ _ (by rw [HL.out];decide)) (by decide) (by decide) (nX.out _ 2 2 (by decide)) (Ci.out _) (VI.out _)).mono ?_;rintro e w1 ⟨rfl,w0,lZ,rfl⟩;have HN:=ab (mA 1 (by decide) HH.out HS.out il lZ);clear lZ)
    go_roundw
    case rel=>exact ⟨2,by omega,by go_num,HN.out.1,HN.out.2⟩
    case measure=>simp [intOf]
   ·have li:=fun w=>gy w 2 (by decide)
    rw [show ((2:Nat):Int)=2 from rfl] at li ⊢
    simp only [place,width,dr] at li;go_wp2_with (go_at_call 226;refine (rl g 4 4 _ hb 2 _ (sub l 4 4) _ (by decide) (nc _ _ _ (by rw [HL.out];decide)) (by decide) (by decide) (nX.out _ 4 4 (by decide)) (Ci.out _) (VI.out _)).mono ?_;rintro e w1 ⟨rfl,w0,lZ,rfl⟩;have HN:=ab (mA 2 (by decide) HH.out HS.out il lZ);clear lZ)
    go_roundw
    case rel=>exact ⟨3,by omega,by go_num,HN.out.1,HN.out.2⟩
    case measure=>simp [intOf]
   ·have li:=fun w=>gy w 3 (by decide)
    rw [show ((3:Nat):Int)=3 from rfl] at li ⊢
    simp only [place,width,dr] at li;go_wp2_with (go_at_call 226;refine (rl g 8 8 _ hb 3 _ (sub l 8 8) _ (by decide) (nc _ _ _ (by rw [HL.out];decide)) (by decide) (by decide) (nX.out _ 8 8 (by decide)) (Ci.out _) (VI.out _)).mono ?_;rintro e w1 ⟨rfl,w0,lZ,rfl⟩;have HN:=ab (mA 3 (by decide) HH.out HS.out il lZ);clear lZ)
    go_roundw
    case rel=>exact ⟨4,by omega,by go_num,HN.out.1,HN.out.2⟩
    case measure=>simp [intOf]
   ·have li:=fun w=>gy w 4 (by decide)
    rw [show ((4:Nat):Int)=4 from rfl] at li ⊢
    simp only [place,width,dr] at li;go_wp2_with (go_at_call 226;refine (rl g 16 4 _ hb 4 _ (sub l 16 4) _ (by decide) (nc _ _ _ (by rw [HL.out];decide)) (by decide) (by decide) (nX.out _ 16 4 (by decide)) (Ci.out _) (VI.out _)).mono ?_;rintro e w1 ⟨rfl,w0,lZ,rfl⟩;have HN:=ab (mA 4 (by decide) HH.out HS.out il lZ);clear lZ)
    go_roundw
    case rel=>exact ⟨5,by omega,by go_num,HN.out.1,HN.out.2⟩
    case measure=>simp [intOf]
  ·obtain rfl:k=5:=by omega
   rw [show ((5:Nat):Int)=5 from rfl]
   go_wp2_with fail;go_end0
   exact ⟨rfl,HH.out,HS.out⟩
theorem oj{w:World}{b:Nat}{t:TypeId}{v0 v1 v2 v3 v4 u0 u1 u2 u3 u4:Value}(h:w.heap[b]?=some (.cells #[v0,v1,v2,v3,v4] t (0,0))):(((((w.setCell ⟨b,0,none⟩ u0).setCell ⟨b,1,none⟩ u1).setCell ⟨b,2,none⟩ u2).setCell ⟨b,3,none⟩ u3).setCell ⟨b,4,none⟩ u4).heap[b]?=some (.cells #[u0,u1,u2,u3,u4] t (0,0)) :=
 heap_setCell_same _ b 4 _ t u4 (heap_setCell_same _ b 3 _ t u3 (heap_setCell_same _ b 2 _ t u2 (heap_setCell_same _ b 1 _ t u1 (heap_setCell_same w b 0 _ t u0 h))))
theorem Bz(g cap:Nat)(l:List UInt8)(w:World)(hl:l.length=4096)(cT:4096≤cap)(sB:cap≤9223372036854775807)(hL:Lay w)(hc:∀ j (h:j<l.length),w.cell? ⟨g,j,none⟩=some (.int .u8 (l[j].toNat:Int))):Calls prog 187 #[.slice (some ⟨g,0,none⟩) 4096 cap] w fun e w'=>e = .returned (.agg #[.int .u64 (nums l 0:Int),.int .u64 (nums l 1:Int),.int .u64 (nums l 2:Int),.int .u64 (nums l 3:Int),.int .u64 (nums l 4:Int)])∧Below w.heap.size w w':=by
 have yj:g<w.heap.size:=World.block_lt_of_cell? w _ (hc 0 (by omega))
 have lZ:Below w.heap.size w ((w.alloc (.cells #[.int .u64 0,.int .u64 0,.int .u64 0,.int .u64 0,.int .u64 0] 256)).alloc (.cells #[.int .u64 0,.int .u64 0,.int .u64 0,.int .u64 0,.int .u64 0] 256)):=Below.next (ai w _) (ai _ _);have C:=LY g (w.heap.size+1) cap l ((w.alloc (.cells #[.int .u64 0,.int .u64 0,.int .u64 0,.int .u64 0,.int .u64 0] 256)).alloc (.cells #[.int .u64 0,.int .u64 0,.int .u64 0,.int .u64 0,.int .u64 0] 256)) hl cT sB (by omega) (hL.below lZ)
  (by
   have h:=heap_alloc_new (w.alloc (.cells #[.int .u64 0,.int .u64 0,.int .u64 0,.int .u64 0,.int .u64 0] 256)) (.cells #[.int .u64 0,.int .u64 0,.int .u64 0,.int .u64 0,.int .u64 0] 256);rw [show (w.alloc (.cells #[.int .u64 0,.int .u64 0,.int .u64 0,.int .u64 0,.int .u64 0] 256)).heap.size=w.heap.size+1 by simp] at h
   exact h)
  (fun j hj=>(lZ.cell (p:=⟨g,j,none⟩) yj).trans (hc j hj))
 have HC:Hid (Calls prog 215 #[.slice (some ⟨g,0,none⟩) 4096 cap,.func (.func 226) #[] #[.pointer (some ⟨w.heap.size+1,0,none⟩)]] ((w.alloc (.cells #[.int .u64 0,.int .u64 0,.int .u64 0,.int .u64 0,.int .u64 0] 256)).alloc (.cells #[.int .u64 0,.int .u64 0,.int .u64 0,.int .u64 0,.int .u64 0] 256)) fun e w'=>e = .returned (.tuple #[])∧gG w' (w.heap.size+1) (iJ l 5)∧bJ (w.heap.size+1) ((w.alloc (.cells #[.int .u64 0,.int .u64 0,.int .u64 0,.int .u64 0,.int .u64 0] 256)).alloc (.cells #[.int .u64 0,.int .u64 0,.int .u64 0,.int .u64 0,.int .u64 0] 256)) w'):=C
 have vz:=ab lZ;have Ih:Hid (((w.alloc (.cells #[.int .u64 0,.int .u64 0,.int .u64 0,.int .u64 0,.int .u64 0] 256)).alloc (.cells #[.int .u64 0,.int .u64 0,.int .u64 0,.int .u64 0,.int .u64 0] 256)).heap[w.heap.size]?=some (.cells #[.int .u64 0,.int .u64 0,.int .u64 0,.int .u64 0,.int .u64 0] 256 (0,0))):=by
  show _=_
  rw [(ai (w.alloc (.cells #[.int .u64 0,.int .u64 0,.int .u64 0,.int .u64 0,.int .u64 0] 256)) _).block w.heap.size (by simp)]
  exact heap_alloc_new w _
 clear C lZ hc hL hl;go_enter func187,ntmps187;go_wp2_with fail;have jb:Hid (w.heap.size+1<((w.alloc (.cells #[.int .u64 0,.int .u64 0,.int .u64 0,.int .u64 0,.int .u64 0] 256)).alloc (.cells #[.int .u64 0,.int .u64 0,.int .u64 0,.int .u64 0,.int .u64 0] 256)).heap.size):=by show _<_;simp
 generalize ((w.alloc (.cells #[.int .u64 0,.int .u64 0,.int .u64 0,.int .u64 0,.int .u64 0] 256)).alloc (.cells #[.int .u64 0,.int .u64 0,.int .u64 0,.int .u64 0,.int .u64 0] 256))=W0 at *;refine Calls.mono HC.out ?_
 rintro e w1 ⟨rfl,hh,hs⟩;have d0:w1.cell? ⟨w.heap.size+1,0,none⟩=some (.int .u64 (nums l 0:Int)):=by rw [hh.cell 0 (by decide),j6 _ _ (by decide)]
 have d1:w1.cell? ⟨w.heap.size+1,1,none⟩=some (.int .u64 (nums l 1:Int)):=by rw [hh.cell 1 (by decide),j6 _ _ (by decide)]
 have d2:w1.cell? ⟨w.heap.size+1,2,none⟩=some (.int .u64 (nums l 2:Int)):=by rw [hh.cell 2 (by decide),j6 _ _ (by decide)]
 have d3:w1.cell? ⟨w.heap.size+1,3,none⟩=some (.int .u64 (nums l 3:Int)):=by rw [hh.cell 3 (by decide),j6 _ _ (by decide)]
 have d4:w1.cell? ⟨w.heap.size+1,4,none⟩=some (.int .u64 (nums l 4:Int)):=by rw [hh.cell 4 (by decide),j6 _ _ (by decide)]
 have fU:w1.heap[w.heap.size]?=some (.cells #[.int .u64 0,.int .u64 0,.int .u64 0,.int .u64 0,.int .u64 0] 256 (0,0)):=by rw [hs.block w.heap.size (by have:=jb.out;omega) (by omega)];exact Ih.out
 have nT:=ab fU;have bN:Hid (Below w.heap.size w w1):=hs.below vz.out (by omega)
 have f0:w1.frozen? ⟨w.heap.size,0,none⟩=false:=frozen_of_row _ _ _ _ _ fU;have f1:w1.frozen? ⟨w.heap.size,1,none⟩=false:=frozen_of_row _ _ _ _ _ fU;have f2:w1.frozen? ⟨w.heap.size,2,none⟩=false:=frozen_of_row _ _ _ _ _ fU;have f3:w1.frozen? ⟨w.heap.size,3,none⟩=false:=frozen_of_row _ _ _ _ _ fU;have f4:w1.frozen? ⟨w.heap.size,4,none⟩=false:=frozen_of_row _ _ _ _ _ fU;have g0:w1.cell? ⟨w.heap.size,0,none⟩=some (.int .u64 0):=by rw [cell_of_row _ _ _ _ _ _ fU];rfl
 have g1:w1.cell? ⟨w.heap.size,1,none⟩=some (.int .u64 0):=by rw [cell_of_row _ _ _ _ _ _ fU];rfl
 have g2:w1.cell? ⟨w.heap.size,2,none⟩=some (.int .u64 0):=by rw [cell_of_row _ _ _ _ _ _ fU];rfl
 have g3:w1.cell? ⟨w.heap.size,3,none⟩=some (.int .u64 0):=by rw [cell_of_row _ _ _ _ _ _ fU];rfl
 have g4:w1.cell? ⟨w.heap.size,4,none⟩=some (.int .u64 0):=by rw [cell_of_row _ _ _ _ _ _ fU];rfl
 clear hh hs fU HC vz Ih;go_wp2_with fail;refine bodyPost_ret (results_cell_row rfl _ _ w.heap.size 256 #[.int .u64 (nums l 0:Int),.int .u64 (nums l 1:Int),.int .u64 (nums l 2:Int),.int .u64 (nums l 3:Int),.int .u64 (nums l 4:Int)] (0,0) _ rfl (oj nT.out) underlying256 rfl (by kernel_rfl)) rfl ⟨rfl,?_⟩
 exact ((((bN.out.setCell (aj _) _).setCell (aj _) _).setCell (aj _) _).setCell (aj _) _).setCell (aj _) _
theorem Rd.any{w:World}{v:Value}{l:List UInt8}(h:Rd w v l):Vt w v l:=by
 rcases h with ⟨rfl,rfl⟩ | ⟨g,cap,rfl,_,_,_,hc⟩
 ·exact ⟨none,0,rfl,fun j h=>by simp at h⟩
 ·exact ⟨_,cap,rfl,fun j h=>⟨g,0,rfl,by rw [Nat.zero_add];exact hc j h⟩⟩
theorem LU(v1 v2:Value)(l1 l2:List UInt8)(w:World)(r1:Vt w v1 l1)(r2:Vt w v2 l2)(h1:0<l1.length)(h2:0<l2.length):Calls prog 188 #[v1,v2] w fun e w'=>e = .returned (.bool (decide (l1=l2)))∧w=w':=by
 have s1:=lL w v1 l1 r1 h1;have s2:=lL w v2 l2 r2 h2;obtain ⟨a1,c1,rfl,_⟩:=r1;obtain ⟨a2,c2,rfl,_⟩:=r2;clear h1 h2;go_enter func188,ntmps188;go_wp2_with fail;go_ret;refine ⟨?_,rfl⟩;show Ending.returned (.bool (l1 == l2))=_
 have e:(l1 == l2)=decide (l1=l2):=by by_cases h:l1=l2 <;> simp [h]
 rw [e]
def parse(l:List UInt8):Sh:=⟨(nums l 0:Int),(nums l 2:Int),nums l 3,(nums l 1:Int),⟨(l.drop 24).toArray⟩⟩
def gA(l:List UInt8)(id:Int):Prop:=l.length=4096∧(parse l).id=id∧sF (parse l)∧ia (parse l)=l
instance (l:List UInt8) (id:Int):Decidable (gA l id):=inferInstanceAs (Decidable (_∧_))
def rp(a:Addr)(l:List UInt8)(id:Int):Array Value:=if gA l id then #[.agg (parse l).cells.toArray,.nilIface] else #[.agg #[.int .i64 0,.int .i64 0,.int .u64 0,.int .i64 0,.string ⟨#[]⟩],.iface 360 (.pointer (some a))]
theorem Oe{a:Addr}{l:List UInt8}{id:Int}(h:gA l id):rp a l id=#[.agg #[.int .i64 (nums l 0:Int),.int .i64 (nums l 2:Int),.int .u64 (nums l 3:Int),.int .i64 (nums l 1:Int),.string ⟨(l.drop 24).toArray⟩],.nilIface]:=by unfold rp;rw [if_pos h];rfl
theorem rn{a:Addr}{l:List UInt8}{id:Int}(h:¬ gA l id):rp a l id=#[.agg #[.int .i64 0,.int .i64 0,.int .u64 0,.int .i64 0,.string ⟨#[]⟩],.iface 360 (.pointer (some a))]:=by unfold rp;rw [if_neg h]
theorem vI(l:List UInt8)(k:Nat):nums l k<256 ^ width k:=by
 have h:=yG (sub l (place k) (width k));exact aq h (mM (by decide) (by simp [sub];omega))
theorem YW(l:List UInt8):nums l 0<256:=vI l 0
theorem YV(l:List UInt8):nums l 1<65536:=vI l 1
theorem YU(l:List UInt8):nums l 2<4294967296:=vI l 2
theorem UO(l:List UInt8):nums l 3<18446744073709551616:=vI l 3
theorem A4(g cap:Nat)(l:List UInt8)(W:World)(hl:l.length=4096)(hc:∀ j (h:j<l.length),W.cell? ⟨g,j,none⟩=some (.int .u8 (l[j].toNat:Int))):(convert 145 9 (.slice (some ⟨g,24,none⟩) 4072 (cap - 24))).run prog W = .ok (.string ⟨(l.drop 24).toArray⟩) W:=by
 refine lL W _ (l.drop 24) ⟨_,cap - 24,by rw [ao,hl],fun j hj=>⟨g,24,rfl,?_⟩⟩ (by rw [ao,hl];decide)
 rw [hc (24+j) (by rw [ao] at hj;omega),cV]
theorem FT(n:Nat)(h:n<9223372036854775808):IntKind.i64.wrap (n:Int)=(n:Int):=by
 rw [IntKind.wrap_i64];omega
theorem jU{w:World}{b:Nat}{t:TypeId}{v0 v1 v2 v3 v4 u0 u1 u2 u3 u4:Value}(h:w.heap[b]?=some (.cells #[v0,v1,v2,v3,v4] t (0,0))):(((((w.setCell ⟨b,0,none⟩ u0).setCell ⟨b,1,none⟩ u1).setCell ⟨b,2,none⟩ u2).setCell ⟨b,3,none⟩ u3).setCell ⟨b,4,none⟩ u4).drew.heap[b]?=some (.cells #[u0,u1,u2,u3,u4] t (0,0)):=by
 rw [World.drew_is_drewN,World.heap_drewN];exact oj h
theorem lA{w w':World}{b:Nat}{u0 u1 u2 u3 u4:Value}(h:Below w.heap.size w w')(hb:w.heap.size≤b):Below w.heap.size w (((((w'.setCell ⟨b,0,none⟩ u0).setCell ⟨b,1,none⟩ u1).setCell ⟨b,2,none⟩ u2).setCell ⟨b,3,none⟩ u3).setCell ⟨b,4,none⟩ u4) :=
 ((((h.setCell hb _).setCell hb _).setCell hb _).setCell hb _).setCell hb _
theorem UH{w:World}{g:Nat}(h:w.heap[g]?=some (.cells #[.int .i64 0,.int .i64 0,.int .u64 0,.int .i64 0,.string ⟨#[]⟩] 87 (0,0))):(w.cell? ⟨g,0,none⟩=some (.int .i64 0)∧w.cell? ⟨g,1,none⟩=some (.int .i64 0)∧w.cell? ⟨g,2,none⟩=some (.int .u64 0)∧w.cell? ⟨g,3,none⟩=some (.int .i64 0)∧w.cell? ⟨g,4,none⟩=some (.string ⟨#[]⟩))∧∀ j,w.frozen? ⟨g,j,none⟩=false:=by
 refine ⟨?_,fun j=>frozen_of_row _ _ _ _ _ h⟩
 refine ⟨?_,?_,?_,?_,?_⟩ <;> (rw [cell_of_row _ _ _ _ _ _ h];rfl)
theorem Od(a:Addr)(g cap:Nat)(l:List UInt8)(id:Int)(w:World)(hl:l.length=4096)(cT:4096≤cap)(sB:cap≤9223372036854775807)(hL:Lay w)(hT:Fk w)(hE:w.cell? ⟨1,0,none⟩=some (.iface 360 (.pointer (some a))))(hc:∀ j (h:j<l.length),w.cell? ⟨g,j,none⟩=some (.int .u8 (l[j].toNat:Int))):Calls prog 152 #[.slice (some ⟨g,0,none⟩) 4096 cap,.int .i64 id] w fun e w'=>e = .returned (.tuple (rp a l id))∧Below w.heap.size w w':=by
 have yj:g<w.heap.size:=World.block_lt_of_cell? w _ (hc 0 (by omega))
 have aat:(4096:Int)≤(cap:Int):=by omega
 have b0:=FT (nums l 0) (by have:=YW l;omega)
 have b1:=FT (nums l 1) (by have:=YV l;omega)
 have b2:=FT (nums l 2) (by have:=YU l;omega)
 have eG:Hid (nums l 3<18446744073709551616):=UO l;have vz:Hid (Below w.heap.size w (w.alloc (.cells #[.int .i64 0,.int .i64 0,.int .u64 0,.int .i64 0,.string ⟨#[]⟩] 87))):=ai w _;have Ih:Hid ((w.alloc (.cells #[.int .i64 0,.int .i64 0,.int .u64 0,.int .i64 0,.string ⟨#[]⟩] 87)).heap[w.heap.size]?=some (.cells #[.int .i64 0,.int .i64 0,.int .u64 0,.int .i64 0,.string ⟨#[]⟩] 87 (0,0))):=heap_alloc_new w _;have HEL:Hid (1<(w.alloc (.cells #[.int .i64 0,.int .i64 0,.int .u64 0,.int .i64 0,.string ⟨#[]⟩] 87)).heap.size):=by have hx:1<w.heap.size:=World.block_lt_of_cell? w _ hE;show _<_;simp;omega
 have HE0:Hid ((w.alloc (.cells #[.int .i64 0,.int .i64 0,.int .u64 0,.int .i64 0,.string ⟨#[]⟩] 87)).cell? ⟨1,0,none⟩=some (.iface 360 (.pointer (some a)))):=((ai w (.cells #[.int .i64 0,.int .i64 0,.int .u64 0,.int .i64 0,.string ⟨#[]⟩] 87)).cell (p:=⟨1,0,none⟩) (World.block_lt_of_cell? w _ hE)).trans hE;have HL:=ab (hL.below vz.out);have HT:=ab (hT.below vz.out);have HC:Hid (∀ j (h:j<l.length),(w.alloc (.cells #[.int .i64 0,.int .i64 0,.int .u64 0,.int .i64 0,.string ⟨#[]⟩] 87)).cell? ⟨g,j,none⟩=some (.int .u8 (l[j].toNat:Int))):=fun j hj=>(vz.out.cell (p:=⟨g,j,none⟩) yj).trans (hc j hj)
 have kQ:=ab hl;have jb:Hid (w.heap.size<(w.alloc (.cells #[.int .i64 0,.int .i64 0,.int .u64 0,.int .i64 0,.string ⟨#[]⟩] 87)).heap.size):=by show _<_;simp
 have Ik:Hid (1<w.heap.size):=World.block_lt_of_cell? w _ hE;clear hL hT hc hl hE;go_enter func152,ntmps152;go_wp2_with fail;generalize (w.alloc (.cells #[.int .i64 0,.int .i64 0,.int .u64 0,.int .i64 0,.string ⟨#[]⟩] 87))=W0 at *;refine (Bz g cap l W0 kQ.out cT sB HL.out HC.out).mono ?_
 rintro e w1 ⟨rfl,aM⟩;have bN:=ab aM;clear aM;go_wp2_with fail;have HH:Hid (gG (w1.alloc (.cells #[.int .u64 (nums l 0:Int),.int .u64 (nums l 1:Int),.int .u64 (nums l 2:Int),.int .u64 (nums l 3:Int),.int .u64 (nums l 4:Int)] 256)) w1.heap.size (nums l)):=heap_alloc_new w1 _;have bG:=ab (Below.next bN.out (ai w1 (.cells #[.int .u64 (nums l 0:Int),.int .u64 (nums l 1:Int),.int .u64 (nums l 2:Int),.int .u64 (nums l 3:Int),.int .u64 (nums l 4:Int)] 256)));generalize (w1.alloc (.cells #[.int .u64 (nums l 0:Int),.int .u64 (nums l 1:Int),.int .u64 (nums l 2:Int),.int .u64 (nums l 3:Int),.int .u64 (nums l 4:Int)] 256))=w2 at *;have d0:=HH.out.cell 0 (by decide)
 have d1:=HH.out.cell 1 (by decide)
 have d2:=HH.out.cell 2 (by decide)
 have d3:=HH.out.cell 3 (by decide)
 have hgW:g<W0.heap.size:=by have:=jb.out;omega
 have Nn:Hid (∀ j (h:j<l.length),w2.cell? ⟨g,j,none⟩=some (.int .u8 (l[j].toNat:Int))):=fun j hj=>(bG.out.cell (p:=⟨g,j,none⟩) hgW).trans (HC.out j hj)
 have yl:(convert 145 9 (.slice (some ⟨g,24,none⟩) 4072 (cap - 24))).run prog w2.drew = .ok (.string ⟨(l.drop 24).toArray⟩) w2.drew:=A4 g cap l _ kQ.out Nn.out;have adN:∀ o,(convert 145 9 (.slice (some ⟨g,24,none⟩) 4072 (cap - 24))).run prog (w2.alloc o).drew = .ok (.string ⟨(l.drop 24).toArray⟩) (w2.alloc o).drew:=fun o=>A4 g cap l _ kQ.out (fun j hj=>((ai w2 o).cell (p:=⟨g,j,none⟩) (World.block_lt_of_cell? w2 _ (Nn.out j hj))).trans (Nn.out j hj))
 clear bN;go_region_held (fun w'=>w'.cell? ⟨w1.heap.size,0,none⟩=some (.int .u64 (nums l 0:Int))∧w'.cell? ⟨w1.heap.size,1,none⟩=some (.int .u64 (nums l 1:Int))∧w'.cell? ⟨w1.heap.size,2,none⟩=some (.int .u64 (nums l 2:Int))∧w'.cell? ⟨w1.heap.size,3,none⟩=some (.int .u64 (nums l 3:Int))) (go_keep) (fail)
 all_goals
  have yX:Hid (Boxed w2.heap.size [.int .i64 (nums l 0:Int),.int .i64 (nums l 2:Int),.int .u64 (nums l 3:Int),.int .i64 (nums l 1:Int),.string ⟨(l.drop 24).toArray⟩] (w2.alloc (.cells #[.int .i64 (nums l 0:Int),.int .i64 (nums l 2:Int),.int .u64 (nums l 3:Int),.int .i64 (nums l 1:Int),.string ⟨(l.drop 24).toArray⟩] 87)).drew):=bM w2 _ _;have MN:Hid (Below W0.heap.size W0 (w2.alloc (.cells #[.int .i64 (nums l 0:Int),.int .i64 (nums l 2:Int),.int .u64 (nums l 3:Int),.int .i64 (nums l 1:Int),.string ⟨(l.drop 24).toArray⟩] 87)).drew):=(Below.next bG.out (ai w2 (.cells #[.int .i64 (nums l 0:Int),.int .i64 (nums l 2:Int),.int .u64 (nums l 3:Int),.int .i64 (nums l 1:Int),.string ⟨(l.drop 24).toArray⟩] 87))).drew;clear yl adN d0 d1 d2 d3 HH Nn bG;generalize (w2.alloc (.cells #[.int .i64 (nums l 0:Int),.int .i64 (nums l 2:Int),.int .u64 (nums l 3:Int),.int .i64 (nums l 1:Int),.string ⟨(l.drop 24).toArray⟩] 87)).drew=w3 at *;have pM:w3.heap[w.heap.size]?=some (.cells #[.int .i64 0,.int .i64 0,.int .u64 0,.int .i64 0,.string ⟨#[]⟩] 87 (0,0)):=by rw [MN.out.block w.heap.size jb.out];exact Ih.out
  by_cases hid:(nums l 2:Int)=id
  ·subst hid;have Hd:((nums l 2:Int) != (nums l 2:Int))=false:=by simp
   have c0:w3.cell? ⟨w2.heap.size,0,none⟩=some (.int .i64 (nums l 0:Int)):=yX.out.2 0 (by simp)
   have c1:w3.cell? ⟨w2.heap.size,1,none⟩=some (.int .i64 (nums l 2:Int)):=yX.out.2 1 (by simp)
   have c2:w3.cell? ⟨w2.heap.size,2,none⟩=some (.int .u64 (nums l 3:Int)):=yX.out.2 2 (by simp)
   have c3:w3.cell? ⟨w2.heap.size,3,none⟩=some (.int .i64 (nums l 1:Int)):=yX.out.2 3 (by simp)
   have c4:w3.cell? ⟨w2.heap.size,4,none⟩=some (.string ⟨(l.drop 24).toArray⟩):=yX.out.2 4 (by simp)
   by_cases hm:sF (parse l)
   ·have Jq:(parse l).body.size≤140737488355328:=by rw [hm.2.2.2];decide
    have HM:Hid (∀ w,Calls prog 131 #[.agg #[.int .i64 (nums l 0:Int),.int .i64 (nums l 2:Int),.int .u64 (nums l 3:Int),.int .i64 (nums l 1:Int),.string ⟨(l.drop 24).toArray⟩]] w fun e w'=>e = .returned (.bool true)∧Below w.heap.size w w'):=fun w=>by
     have h:=pe (parse l) w Jq;rw [decide_eq_true hm] at h;exact h
    have HP:Hid (∀ w,Lay w→Fk w→Calls prog 132 #[.agg #[.int .i64 (nums l 0:Int),.int .i64 (nums l 2:Int),.int .u64 (nums l 3:Int),.int .i64 (nums l 1:Int),.string ⟨(l.drop 24).toArray⟩]] w fun e w'=>∃ g,e = .returned (.slice (some ⟨g,0,none⟩) 4096 4096)∧cF w' g (ia (parse l))∧w.heap.size≤g∧Below w.heap.size w w'):=fun w h1 h2=>xz (parse l) w hm eG.out h1 h2
    have pS:Hid ((ia (parse l)).length=4096):=mq _ hm;have Fy:=ab hm;clear hm Jq;go_wp2_with fail;refine (HM.out _).mono ?_
    rintro e w4 ⟨rfl,fW⟩;have vZ:=ab (yX.out.below fW);have iY:=ab (Below.next MN.out fW);clear c0 c1 c2 c3 c4 fW pM;have c0:w4.cell? ⟨w2.heap.size,0,none⟩=some (.int .i64 (nums l 0:Int)):=vZ.out.2 0 (by simp)
    have c1:w4.cell? ⟨w2.heap.size,1,none⟩=some (.int .i64 (nums l 2:Int)):=vZ.out.2 1 (by simp)
    have c2:w4.cell? ⟨w2.heap.size,2,none⟩=some (.int .u64 (nums l 3:Int)):=vZ.out.2 2 (by simp)
    have c3:w4.cell? ⟨w2.heap.size,3,none⟩=some (.int .i64 (nums l 1:Int)):=vZ.out.2 3 (by simp)
    have c4:w4.cell? ⟨w2.heap.size,4,none⟩=some (.string ⟨(l.drop 24).toArray⟩):=vZ.out.2 4 (by simp)
    go_wp2_with fail;refine (HP.out _ (HL.out.below iY.out) (HT.out.below iY.out)).mono ?_
    rintro e w5 ⟨g5,rfl,hr5,hg5,lH⟩;have zK:=ab (vZ.out.below lH);have iu:=ab (Below.next iY.out lH);have RA:Hid (Vt w5 (.slice (some ⟨g5,0,none⟩) 4096 4096) (ia (parse l))):=(Of hr5 pS.out (by decide)).any
    have RB:Hid (Vt w5 (.slice (some ⟨g,0,none⟩) 4096 cap) l):=⟨_,cap,by rw [kQ.out],fun j hj=>⟨g,0,rfl,by rw [Nat.zero_add,iu.out.cell (p:=⟨g,j,none⟩) hgW];exact HC.out j hj⟩⟩
    have Li:w5.heap[w.heap.size]?=some (.cells #[.int .i64 0,.int .i64 0,.int .u64 0,.int .i64 0,.string ⟨#[]⟩] 87 (0,0)):=by rw [iu.out.block w.heap.size jb.out];exact Ih.out
    clear c0 c1 c2 c3 c4 lH hr5 hg5;go_wp2_with fail;refine (LU _ _ (ia (parse l)) l _ RA.out RB.out (by rw [pS.out];decide) (by rw [kQ.out];decide)).mono ?_
    rintro e w5' ⟨rfl,rfl⟩;by_cases hp:ia (parse l)=l
    ·have pF:Hid (gA l (nums l 2:Int)):=⟨kQ.out,rfl,Fy.out,hp⟩;rw [decide_eq_true hp];have c0:w5.cell? ⟨w2.heap.size,0,none⟩=some (.int .i64 (nums l 0:Int)):=zK.out.2 0 (by simp)
     have c1:w5.cell? ⟨w2.heap.size,1,none⟩=some (.int .i64 (nums l 2:Int)):=zK.out.2 1 (by simp)
     have c2:w5.cell? ⟨w2.heap.size,2,none⟩=some (.int .u64 (nums l 3:Int)):=zK.out.2 2 (by simp)
     have c3:w5.cell? ⟨w2.heap.size,3,none⟩=some (.int .i64 (nums l 1:Int)):=zK.out.2 3 (by simp)
     have c4:w5.cell? ⟨w2.heap.size,4,none⟩=some (.string ⟨(l.drop 24).toArray⟩):=zK.out.2 4 (by simp)
     obtain ⟨⟨z0,z1,z2,z3,z4⟩,y⟩:=UH Li;have mO:=ab Li;have CE:Hid (Below w.heap.size w w5):=vz.out.trans (iu.out.mono (Nat.le_of_lt jb.out));clear hp Li;go_wp2_with fail
     (try simp only [Exit.inBlock,Exit.then])
     refine bodyPost_ret (aN rfl _ _ w.heap.size 87 #[.int .i64 (nums l 0:Int),.int .i64 (nums l 2:Int),.int .u64 (nums l 3:Int),.int .i64 (nums l 1:Int),.string ⟨(l.drop 24).toArray⟩] (0,0) _ rfl (oj mO.out) underlying87 rfl (by kernel_rfl)) rfl ⟨?_,lA CE.out (aj _)⟩
     rw [Oe pF.out];rfl
    ·rw [decide_eq_false hp];have pF:Hid (¬ gA l (nums l 2:Int)):=fun h=>hp h.2.2.2
     have cE:w5.cell? ⟨1,0,none⟩=some (.iface 360 (.pointer (some a))):=(iu.out.cell (p:=⟨1,0,none⟩) HEL.out).trans HE0.out;obtain ⟨⟨z0,z1,z2,z3,z4⟩,y⟩:=UH Li;have mO:=ab Li;have CE:Hid (Below w.heap.size w w5):=vz.out.trans (iu.out.mono (Nat.le_of_lt jb.out));clear Li;clear hp;go_wp2_with fail;have dH:¬ w.heap.size=1:=by have:=Ik.out;omega
     go_region_held3 (fun w'=>w'.cell? ⟨1,0,none⟩=some (.iface 360 (.pointer (some a)))) (go_keep) (fail)
     go_wp2_with fail
     (try simp only [Exit.inBlock,Exit.then])
     refine bodyPost_ret (aN rfl _ _ w.heap.size 87 #[.int .i64 0,.int .i64 0,.int .u64 0,.int .i64 0,.string ⟨#[]⟩] (0,0) _ rfl (jU mO.out) underlying87 rfl (by kernel_rfl)) rfl ⟨?_,(lA CE.out (aj _)).drew⟩
     rw [rn pF.out];rfl
   ·have Jq:(parse l).body.size≤140737488355328:=by
     show (ByteArray.mk (l.drop 24).toArray).size≤_
     have h1:(ByteArray.mk (l.drop 24).toArray).size=(l.drop 24).length:=by simp [ByteArray.size]
     have h2:=kQ.out;rw [h1,ao];omega
    have HM:Hid (∀ w,Calls prog 131 #[.agg #[.int .i64 (nums l 0:Int),.int .i64 (nums l 2:Int),.int .u64 (nums l 3:Int),.int .i64 (nums l 1:Int),.string ⟨(l.drop 24).toArray⟩]] w fun e w'=>e = .returned (.bool false)∧Below w.heap.size w w'):=fun w=>by
     have h:=pe (parse l) w Jq;rw [decide_eq_false hm] at h;exact h
    have Fy:=ab hm;clear hm Jq;go_wp2_with fail;refine (HM.out _).mono ?_
    rintro e w4 ⟨rfl,fW⟩;have iY:=ab (Below.next MN.out fW);have MY:w4.heap[w.heap.size]?=some (.cells #[.int .i64 0,.int .i64 0,.int .u64 0,.int .i64 0,.string ⟨#[]⟩] 87 (0,0)):=by rw [iY.out.block w.heap.size jb.out];exact Ih.out
    clear c0 c1 c2 c3 c4 fW pM;have pF:Hid (¬ gA l (nums l 2:Int)):=fun h=>Fy.out h.2.2.1
    have cE:w4.cell? ⟨1,0,none⟩=some (.iface 360 (.pointer (some a))):=(iY.out.cell (p:=⟨1,0,none⟩) HEL.out).trans HE0.out;obtain ⟨⟨z0,z1,z2,z3,z4⟩,y⟩:=UH MY;have mO:=ab MY;have CE:Hid (Below w.heap.size w w4):=vz.out.trans (iY.out.mono (Nat.le_of_lt jb.out));clear MY;go_wp2_with fail;have dH:¬ w.heap.size=1:=by have:=Ik.out;omega
    go_region_held3 (fun w'=>w'.cell? ⟨1,0,none⟩=some (.iface 360 (.pointer (some a)))) (go_keep) (fail)
    go_wp2_with fail
    (try simp only [Exit.inBlock,Exit.then])
    refine bodyPost_ret (aN rfl _ _ w.heap.size 87 #[.int .i64 0,.int .i64 0,.int .u64 0,.int .i64 0,.string ⟨#[]⟩] (0,0) _ rfl (jU mO.out) underlying87 rfl (by kernel_rfl)) rfl ⟨?_,(lA CE.out (aj _)).drew⟩
    rw [rn pF.out];rfl
  ·have Hd:((nums l 2:Int) != id)=true:=by rw [bne_iff_ne];exact hid
   have c1:w3.cell? ⟨w2.heap.size,1,none⟩=some (.int .i64 (nums l 2:Int)):=yX.out.2 1 (by simp)
   have pF:Hid (¬ gA l id):=fun h=>hid h.2.1
   have cE:w3.cell? ⟨1,0,none⟩=some (.iface 360 (.pointer (some a))):=(MN.out.cell (p:=⟨1,0,none⟩) HEL.out).trans HE0.out;obtain ⟨⟨z0,z1,z2,z3,z4⟩,y⟩:=UH pM;have mO:=ab pM;have CE:Hid (Below w.heap.size w w3):=vz.out.trans (MN.out.mono (Nat.le_of_lt jb.out));clear pM;clear hid;go_wp2_with fail;have dH:¬ w.heap.size=1:=by have:=Ik.out;omega
   go_region_held3 (fun w'=>w'.cell? ⟨1,0,none⟩=some (.iface 360 (.pointer (some a)))) (go_keep) (fail)
   go_wp2_with fail
   (try simp only [Exit.inBlock,Exit.then])
   refine bodyPost_ret (aN rfl _ _ w.heap.size 87 #[.int .i64 0,.int .i64 0,.int .u64 0,.int .i64 0,.string ⟨#[]⟩] (0,0) _ rfl (jU mO.out) underlying87 rfl (by kernel_rfl)) rfl ⟨?_,(lA CE.out (aj _)).drew⟩
   rw [rn pF.out];rfl
theorem xe(a:Addr)(a0:Option Addr)(n cap:Nat)(l:List UInt8)(id:Int)(w:World)(hl:l.length=n)(hn:n≠4096)(hE:w.cell? ⟨1,0,none⟩=some (.iface 360 (.pointer (some a)))):Calls prog 152 #[.slice a0 n cap,.int .i64 id] w fun e w'=>e = .returned (.tuple (rp a l id))∧Below w.heap.size w w':=by
 have pF:Hid (¬ gA l id):=fun h=>hn (hl.symm.trans h.1)
 have Hd:((n:Int) != 4096)=true:=by rw [bne_iff_ne];omega
 have CE:Hid (Below w.heap.size w (w.alloc (.cells #[.int .i64 0,.int .i64 0,.int .u64 0,.int .i64 0,.string ⟨#[]⟩] 87))):=ai w _;have mO:Hid ((w.alloc (.cells #[.int .i64 0,.int .i64 0,.int .u64 0,.int .i64 0,.string ⟨#[]⟩] 87)).heap[w.heap.size]?=some (.cells #[.int .i64 0,.int .i64 0,.int .u64 0,.int .i64 0,.string ⟨#[]⟩] 87 (0,0))):=heap_alloc_new w _;have bK:1<w.heap.size:=World.block_lt_of_cell? w _ hE;have cE:(w.alloc (.cells #[.int .i64 0,.int .i64 0,.int .u64 0,.int .i64 0,.string ⟨#[]⟩] 87)).cell? ⟨1,0,none⟩=some (.iface 360 (.pointer (some a))):=(CE.out.cell (p:=⟨1,0,none⟩) bK).trans hE;have dH:¬ w.heap.size=1:=by omega
 clear hl hn hE;go_enter func152,ntmps152;go_wp2_with fail;generalize hW:(w.alloc (.cells #[.int .i64 0,.int .i64 0,.int .u64 0,.int .i64 0,.string ⟨#[]⟩] 87))=W0 at *;have hr:=mO.out;have z0:W0.cell? ⟨w.heap.size,0,none⟩=some (.int .i64 0):=by rw [cell_of_row _ _ _ _ _ _ hr];rfl
 have z1:W0.cell? ⟨w.heap.size,1,none⟩=some (.int .i64 0):=by rw [cell_of_row _ _ _ _ _ _ hr];rfl
 have z2:W0.cell? ⟨w.heap.size,2,none⟩=some (.int .u64 0):=by rw [cell_of_row _ _ _ _ _ _ hr];rfl
 have z3:W0.cell? ⟨w.heap.size,3,none⟩=some (.int .i64 0):=by rw [cell_of_row _ _ _ _ _ _ hr];rfl
 have z4:W0.cell? ⟨w.heap.size,4,none⟩=some (.string ⟨#[]⟩):=by rw [cell_of_row _ _ _ _ _ _ hr];rfl
 have y0:W0.frozen? ⟨w.heap.size,0,none⟩=false:=frozen_of_row _ _ _ _ _ hr;have y1:W0.frozen? ⟨w.heap.size,1,none⟩=false:=frozen_of_row _ _ _ _ _ hr;have y2:W0.frozen? ⟨w.heap.size,2,none⟩=false:=frozen_of_row _ _ _ _ _ hr;have y3:W0.frozen? ⟨w.heap.size,3,none⟩=false:=frozen_of_row _ _ _ _ _ hr;have y4:W0.frozen? ⟨w.heap.size,4,none⟩=false:=frozen_of_row _ _ _ _ _ hr;clear hW hr;go_region_held3 (fun w'=>w'.cell? ⟨1,0,none⟩=some (.iface 360 (.pointer (some a)))) (go_keep) (fail)
 go_wp2_with fail
 (try simp only [Exit.inBlock,Exit.then])
 refine bodyPost_ret (aN rfl _ _ w.heap.size 87 #[.int .i64 0,.int .i64 0,.int .u64 0,.int .i64 0,.string ⟨#[]⟩] (0,0) _ rfl (jU mO.out) underlying87 rfl (by kernel_rfl)) rfl ⟨?_,(lA CE.out (aj _)).drew⟩
 rw [rn pF.out];rfl
def RdB(w:World)(v:Value)(l:List UInt8):Prop :=
 (v = .slice none 0 0∧l=[])∨∃ g cap,v = .slice (some ⟨g,0,none⟩) l.length cap∧l.length≤cap∧cap≤9223372036854775807∧g<w.heap.size∧(∀ j (h:j<l.length),w.cell? ⟨g,j,none⟩=some (.int .u8 (l[j].toNat:Int)))
theorem mm(a:Addr)(v:Value)(l:List UInt8)(id:Int)(w:World)(hr:RdB w v l)(hL:Lay w)(hT:Fk w)(hE:w.cell? ⟨1,0,none⟩=some (.iface 360 (.pointer (some a)))):Calls prog 152 #[v,.int .i64 id] w fun e w'=>e = .returned (.tuple (rp a l id))∧Below w.heap.size w w':=by
 rcases hr with ⟨rfl,rfl⟩ | ⟨g,cap,rfl,h1,h2,h3,h4⟩
 ·exact xe a none 0 0 [] id w rfl (by decide) hE
 ·by_cases hl:l.length=4096
  ·rw [hl] at h1 ⊢;exact Od a g cap l id w hl h1 h2 hL hT hE h4
  ·exact xe a _ l.length cap l id w rfl hl hE
theorem GG(k c i t sum:Nat)(body:List UInt8):nums (bare k c i t sum body) 0=ez (bI k 1):=rfl
theorem GF(k c i t sum:Nat)(body:List UInt8):nums (bare k c i t sum body) 1=ez (bI c 2):=rfl
theorem GD(k c i t sum:Nat)(body:List UInt8):nums (bare k c i t sum body) 2=ez (bI i 4):=rfl
theorem GC(k c i t sum:Nat)(body:List UInt8):nums (bare k c i t sum body) 3=ez (bI t 8):=rfl
theorem L3(k c i t sum:Nat)(body:List UInt8):(bare k c i t sum body).drop 24=body:=rfl
theorem lf(s:Sh)(hm:sF s)(hx:s.pG<18446744073709551616):parse (ia s)=s:=by
 obtain ⟨k,i,t,c,b⟩:=s;obtain ⟨hk,⟨AW,TK⟩,⟨Cs,vm⟩,hb⟩:=hm;simp only at hk AW TK Cs vm hb hx;obtain ⟨k,rfl⟩:=cy (show 0≤k by omega)
 obtain ⟨c,rfl⟩:=cy AW;obtain ⟨i,rfl⟩:=cy (show 0≤i by omega)
 have h:ia ⟨(k:Int),(i:Int),t,(c:Int),b⟩=bare k c i t (B2 (Aq ⟨(k:Int),(i:Int),t,(c:Int),b⟩ 0)) b.data.toList:=rfl;rw [h];generalize B2 (Aq ⟨(k:Int),(i:Int),t,(c:Int),b⟩ 0)=sum;unfold parse;rw [GG,GF,GD,GC,L3,mI 1 k (by decide) (by show k<2 ^ 8;omega),mI 2 c (by decide) (by show c<2 ^ 16;omega),mI 4 i (by decide) (by show i<2 ^ 32;omega),mI 8 t (by decide) (by show t<2 ^ 64;omega)]
theorem DE(s:Sh)(hm:sF s)(hx:s.pG<18446744073709551616)(id:Int):gA (ia s) id↔id=s.id:=by
 unfold gA;rw [lf s hm hx];exact ⟨fun h=>h.2.1.symm,fun h=>⟨mq s hm,h.symm,hm,rfl⟩⟩
structure Env(base:Nat)(A:Nat→Addr)(w:World):Prop where
 errs:V.mQ base A w
 text:w.cell? ⟨1,0,none⟩=some (.iface 360 (.pointer (some (A 1))))
 lo:1<base∧14<base∧15<base
 lay:Lay w
 tab:Fk w
theorem Env.keep{base:Nat}{A:Nat→Addr}{w w':World}(h:Env base A w)(hb:Below base w w'):Env base A w':=by
 obtain ⟨he,ht,⟨l1,l2,l3⟩,⟨h0,c0,c1,c2,c3,c4,c5,c6,c7,c8,c9⟩,hT⟩:=h;exact ⟨he.keep hb,(hb.cell l1).trans ht,⟨l1,l2,l3⟩,⟨aq h0 hb.size,(hb.cell l2).trans c0,(hb.cell l2).trans c1,(hb.cell l2).trans c2,(hb.cell l2).trans c3,(hb.cell l2).trans c4,(hb.cell l2).trans c5,(hb.cell l2).trans c6,(hb.cell l2).trans c7,(hb.cell l2).trans c8,(hb.cell l2).trans c9⟩,⟨fun j hj=>(hb.cell (p:=⟨15,j,none⟩) l3).trans (hT.1 j hj),aq hT.2 hb.size⟩⟩
theorem Env.up{base:Nat}{A:Nat→Addr}{w w':World}(h:Env base A w)(hb:Below w.heap.size w w'):Env base A w':=h.keep (hb.mono h.errs.size)
theorem Env.step{base:Nat}{A:Nat→Addr}{w w':World}{F F':Nat→Prop}(h:Env base A w)(hs:V.Step F F' w w')(hF:∀ k,F k→base≤k):Env base A w':=h.keep (hs.below hF h.errs.size)
theorem tC(i:Int)(w:World)(h1:0≤i)(h2:i≤1048576):Calls prog 99 #[.int .i64 i] w fun e w'=>e = .returned (.int .i64 (i*8))∧w=w':=by
 go_enter func99,ntmps99;go_wp2;go_ret;exact ⟨rfl,rfl⟩
theorem ng(b:Nat)(F:Nat→Prop)(d:V.bw)(i:Int)(w:World)(h:V.cL w b F d)(h1:0≤i)(h2:i<1048576):Calls prog 97 #[.pointer (some ⟨b,0,none⟩),.int .i64 i] w fun e w'=>e = .returned (.bool (decide ((i+1)*8≤d.size)))∧w=w':=by
 have S:=V.rh b F d w h;have HS:Hid (Calls prog 133 #[.pointer (some ⟨b,0,none⟩)] w fun e w'=>e = .returned (.int .i64 d.size)∧w=w'):=S
 have FS:=tC (i+1) w (by omega) (by omega)
 have HF:Hid (Calls prog 99 #[.int .i64 (i+1)] w fun e w'=>e = .returned (.int .i64 ((i+1)*8))∧w=w'):=FS
 clear S FS h;generalize d.size=sz at *;go_enter func97,ntmps97;go_wp2_with fail;refine Calls.mono HS.out ?_
 rintro e w' ⟨rfl,rfl⟩;go_wp2_with fail;refine Calls.mono HF.out ?_
 rintro e w' ⟨rfl,rfl⟩;go_wp2_with fail;go_ret;exact ⟨rfl,rfl⟩
theorem Dl{w:World}{base n:Nat}{v:Value}{l:List UInt8}(h:w.ownsRow base 5 1 v n (eb l)):RdB w v l:=by
 rcases Gp h with h | ⟨g,cap,hv,h1,h2,h3,h4⟩
 ·exact .inl h
 ·exact .inr ⟨g,cap,hv,h1,ar h2 (by decide),h3,h4⟩
theorem LJ{w:World}{b:Nat}{u0 u1 u2 u3 u4:Value}:V.Step (fun k=>k=b) (fun k=>k=b) w (((((w.setCell ⟨b,0,none⟩ u0).setCell ⟨b,1,none⟩ u1).setCell ⟨b,2,none⟩ u2).setCell ⟨b,3,none⟩ u3).setCell ⟨b,4,none⟩ u4):=by
 have hs:bJ b w (((((w.setCell ⟨b,0,none⟩ u0).setCell ⟨b,1,none⟩ u1).setCell ⟨b,2,none⟩ u2).setCell ⟨b,3,none⟩ u3).setCell ⟨b,4,none⟩ u4) :=
  ((((bJ.set b 0 w u0).trans (bJ.set b 1 _ u1)).trans (bJ.set b 2 _ u2)).trans (bJ.set b 3 _ u3)).trans (bJ.set b 4 _ u4)
 exact ⟨hs.os,hs.tape,hs.output,hs.size,hs.block,fun k h=>.inl h⟩
def SZ(d:V.bw):V.bw:={ d with nr:=wrap64 (d.nr+8) }
end S
end Go.Proofs.YtihmgigfkmofnaaGreatDoor
