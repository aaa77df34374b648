import Derived.Test.YtihmgigfkmofnaaGreatDoorG39
import Derived.Test.YtihmgigfkmofnaaGreatDoorRows
import Derived.ProofKit
import Derived.LaidMore
import Derived.LaidSub
import Derived.Lay
import Derived.OpenShut
import Derived.Stop.Joined
import Derived.Lib.LaidTab
import Derived.Lib.SmallJoins
import Derived.SizedLaws
import Derived.ChangeMaps5
import Derived.Deep.Slices
set_option maxHeartbeats 16000000
set_option maxRecDepth 100000
open Go.Proofs.Tryz
namespace Go.Proofs.YtihmgigfkmofnaaGreatDoor
namespace T
open Go.RowKit
theorem uI.drewN{w:World}{base:Nat}{v:Value}{l:List Int}(h:uI w base v l)(q:Nat):uI (w.drewN q) base v l:=dD h fun k hk=>(aA (Below.refl w.heap.size w) q).block k (World.ownsRow.lt h k hk).2
theorem GR(v:Value)(l:List Int)(w:World)(hl:Nw w v l)(jb:l.Nodup)(hb:l.length≤1000000):Calls prog 76 #[v] w fun e w'=>∃ u,e = .returned (.tuple #[u,.bool true])∧uI w' w.heap.size u (l.mergeSort fun x y=>decide (x≤y))∧Below w.heap.size w w':=by
 obtain ⟨a,ca,rfl,hca⟩:=hl;have HA:=ab hca;obtain ⟨n,hn⟩ : ∃ n,n=l.length:=⟨_,rfl⟩;rw [← hn] at hb ⊢;have HN:=ab hn;have Wr:=ab jb;obtain ⟨Q0,Iq⟩ : ∃ Q0:Ending→World→Prop,Q0=fun e w'=>∃ u,e = .returned (.tuple #[u,.bool true])∧uI w' w.heap.size u (l.mergeSort fun x y=>decide (x≤y))∧Below w.heap.size w w':=⟨_,rfl⟩
 rw [← Iq];have HQ:=ab Iq;clear hca hn jb Iq;go_enter func76,ntmps76;go_wp2;go_loopw [4,5] (fun uv iv wr=>∃ (i:Nat) (S:List Int) (ov:Value),ov=uv∧iv = .int .i64 (i:Int)∧i≤n∧S.length=i∧U9 S∧S.Perm (l.take i)∧uI wr w.heap.size ov S∧Below w.heap.size w wr) (fun _ iv _=>n - (intOf iv).toNat)
 case atStart=>exact ⟨0,[],_,rfl,rfl,aB _,rfl,List.Pairwise.nil,by simp,uI.nil _ _,Below.refl _ _⟩
 case round =>
  obtain ⟨i,S,ov,rfl,rfl,hi,Zk,hUp,Zl,hO,hB⟩:=hrel;by_cases bO:i<n
  ·have Bb:i<l.length:=by have:=HN.out;omega
   have dE:(i:Int)<(n:Int):=by omega
   have e0:(0:Int)≤(i:Int):=by omega
   obtain ⟨g,rfl,c1⟩:=HA.out i Bb;have d1:wr.cell? ⟨g,i,none⟩=some (.int .i64 l[i]):=(hB.cell (p:=⟨g,i,none⟩) (World.block_lt_of_cell? w _ c1)).trans c1;have Yi:Hid (l.take (i+1)=l.take i++[l[i]]):=ax Bb;obtain ⟨x,hx⟩ : ∃ x,x=l[i]:=⟨_,rfl⟩;rw [← hx] at d1 Yi;obtain ⟨a2,c2,w2,r2,o2,g2⟩:=uI.push w.heap.size ov S x wr hO (by omega) hB.size
   have hB2:Below w.heap.size w w2:=(hB.trans ((ai wr _).mono hB.size)).grown g2 (ar hB.size (ai wr _).size) fun k hk=>(World.ownsRow.lt hO k hk).1
   rw [Zk] at r2 o2;have R2:=ab r2;obtain ⟨oa,oc,NP⟩:=hO.form;subst NP;rw [Zk] at R2 ⊢;have jx:=ab o2;have bL:=ab hB2;have Ae:=ab Zk;have HUP:=ab hUp;have HPM:=ab Zl;have T4:IntKind.i64.wrap (((i+1:Nat):Int) - 1)=(i:Int):=by rw [IntKind.wrap_i64];omega
   have aao:IntKind.i64.wrap ((i:Int)+1 - 1)=(i:Int):=by rw [IntKind.wrap_i64];omega
   clear hO hB r2 o2 g2 hB2 c1 hx Zk hUp Zl HA;go_wp2_with (first
    | (at_builtin;refine wpList_append_run 69 rfl (.tmp 15) (.tmp 20) rfl rfl _ _ rfl rfl _ _ R2.out ?_))
   go_loopw [6] (fun kv wr=>∃ k:Nat,kv = .int .i64 (k:Int)∧k≤i∧(∀ j (h:j<S.length),k≤j→x<S[j])∧uI wr w.heap.size (.slice a2 (i+1) c2) (CW S x k)∧Below w.heap.size w wr) (fun kv _=>(intOf kv).toNat)
   case atStart=>exact ⟨i,by go_num,aj _,fun j h hj=>by have:=Ae.out;omega,by have h:=UN S x;rw [Ae.out] at h;rw [h];exact jx.out,bL.out⟩
   case round =>
    obtain ⟨k,rfl,hk,Ze,hO,hB⟩:=hrel;have VS:=Kh S x k (by have:=Ae.out;omega)
    obtain ⟨gg,rfl,gJ,cur,nR⟩:=hO.slot (by omega)
    have ck:wr.cell? ⟨gg,k,none⟩=some (.int .i64 x):=by
     have:=World.ownsRow.cells hO (g:=gg) rfl k (.int .i64 x) (by rw [aG,X9 S x k (by have:=Ae.out;omega)];rfl)
     rw [bh,Nat.zero_add] at this;exact this
    have zk:wr.frozen? ⟨gg,k,none⟩=false:=frozen_of_row _ _ _ _ _ nR;have HO:=ab hO;have HB:=ab hB;have ZD:=ab Ze;have HGB:=ab gJ;have Mg:(0:Int)≤(k:Int):=by omega
    have hki:(k:Int)<(i:Int)+1:=by omega
    have akq:(k:Int)<((i+1:Nat):Int):=by omega
    have Vf:Hid ((∀ (h:0<k),S[k - 1]'(by have:=Ae.out;omega)≤x)→∃ S',S'=CW S x k∧S'.length=i+1∧U9 S'∧S'.Perm (l.take (i+1))):=fun n7 =>
     ⟨_,rfl,by have:=Ae.out;omega,X8 HUP.out (by have:=Ae.out;omega) (fun j h hj=>Int.le_of_lt (Ze j h hj)) n7,(Rk S x k).trans (by rw [Yi.out];exact HPM.out.append_right [x])⟩
    clear hO hB Ze gJ VS jx bL R2;rcases Nat.eq_zero_or_pos k with hz | hz
    ·subst hz;obtain ⟨S',hS',h1,h2,h3⟩:=Vf.out (fun h=>absurd h (Nat.lt_irrefl _))
     have HF:Hid (∀ q,S'.length=i+1∧U9 S'∧S'.Perm (l.take (i+1))∧uI (wr.drewN q) w.heap.size (.slice (some ⟨gg,0,none⟩) (i+1) c2) S'∧Below w.heap.size w (wr.drewN q)):=fun q=>⟨h1,h2,h3,(hS'▸HO.out).drewN q,aA HB.out q⟩
     clear hS' h1 h2 h3 Vf;go_wp2;go_quiet (fail)
     go_wp2;go_roundw
     case rel=>exact ⟨i+1,S',_,rfl,by go_num,by omega,HF.out _⟩
     case measure=>simp [intOf];omega
    ·obtain ⟨j,Y9⟩ : ∃ j,k=j+1:=⟨k - 1,by omega⟩
     have hjS:j<S.length:=by have:=Ae.out;omega
     have cj:wr.cell? ⟨gg,j,none⟩=some (.int .i64 S[j]):=by
      have:=World.ownsRow.cells HO.out (g:=gg) rfl j (.int .i64 S[j]) (by rw [aG,Y9,Kg S x j hjS];rfl)
      rw [bh,Nat.zero_add] at this;exact this
     have zj:wr.frozen? ⟨gg,j,none⟩=false:=frozen_of_row _ _ _ _ _ nR;have sS:IntKind.i64.wrap ((k:Int) - 1)=(j:Int):=by rw [IntKind.wrap_i64];omega
     have Gg:(0:Int)≤(j:Int):=by omega
     have hji:(j:Int)<(i:Int)+1:=by omega
     have SE:(0:Int)<(k:Int):=by omega
     have HKJ:=ab Y9;have oR:decide (0<k)=true:=decide_eq_true hz;have nU:Hid (x<S[j]→(∀ m (h:m<S.length),j≤m→x<S[m])∧∀ q,uI (((wr.drewN q).setCell ⟨gg,k,none⟩ (.int .i64 S[j])).setCell ⟨gg,j,none⟩ (.int .i64 x)) w.heap.size (.slice (some ⟨gg,0,none⟩) (i+1) c2) (CW S x j)∧Below w.heap.size w (((wr.drewN q).setCell ⟨gg,k,none⟩ (.int .i64 S[j])).setCell ⟨gg,j,none⟩ (.int .i64 x))):=fun hx=>by
      refine ⟨fun m h hm=>?_,fun q=>⟨?_,((aA HB.out q).setCell HGB.out _).setCell HGB.out _⟩⟩
      ·rcases a6 j m with h' | h'
       ·exact ZD.out m h (by omega)
       ·have:m=j:=by omega
        subst this;exact hx
      ·have:=((HO.out.drewN q).set k S[j]).set j x;rw [Y9,Rj S x j hjS] at this;rw [Y9];exact this
     have HEX:Hid (¬ x<S[j]→∃ S',S'.length=i+1∧U9 S'∧S'.Perm (l.take (i+1))∧∀ q,uI (wr.drewN q) w.heap.size (.slice (some ⟨gg,0,none⟩) (i+1) c2) S'∧Below w.heap.size w (wr.drewN q)):=fun hx=>by
      obtain ⟨S',hS',h1,h2,h3⟩:=Vf.out (fun h=>by
       have e:S[k - 1]'(by have:=Ae.out;omega)=S[j]:=by congr 1;omega
       rw [e];omega)
      exact ⟨S',h1,h2,h3,fun q=>⟨(hS'▸HO.out).drewN q,aA HB.out q⟩⟩
     have cj2:∀ q,((wr.drewN q).setCell ⟨gg,k,none⟩ (.int .i64 S[j])).cell? ⟨gg,j,none⟩=some (.int .i64 S[j]):=fun q=>by
      have h1:=((HO.out.drewN q).set k S[j]);have:=World.ownsRow.cells h1 (g:=gg) rfl j (.int .i64 S[j]) (by rw [aG,List.getElem?_set_ne (by omega),Y9,Kg S x j hjS];rfl)
      rw [bh,Nat.zero_add] at this;exact this
     have zj2:∀ q,((wr.drewN q).setCell ⟨gg,k,none⟩ (.int .i64 S[j])).frozen? ⟨gg,j,none⟩=false:=fun q=>by
      have h1:=(aA (Below.refl wr.heap.size wr) q).block gg (Array.getElem?_eq_some_iff.1 nR).1;exact frozen_of_row _ _ _ _ _ (heap_setCell_same _ gg k cur 3 _ (h1.trans nR))
     generalize S[j]=y at *;clear Vf Y9 hz hjS nR;by_cases T3:x<y
     ·have p8:=ab (nU.out T3);have hxd:decide (x<y)=true:=decide_eq_true T3;clear nU HEX;go_wp2;go_quiet (fail)
      go_wp2;go_roundw
      case rel=>exact ⟨j,rfl,by have:=HKJ.out;omega,p8.out.1,p8.out.2 _⟩
      case measure=>simp [intOf];have:=HKJ.out;omega
     ·obtain ⟨S',h1,h2,h3,h4⟩:=HEX.out T3;have hxd:decide (x<y)=false:=decide_eq_false T3;have HF:Hid (∀ q,S'.length=i+1∧U9 S'∧S'.Perm (l.take (i+1))∧uI (wr.drewN q) w.heap.size (.slice (some ⟨gg,0,none⟩) (i+1) c2) S'∧Below w.heap.size w (wr.drewN q)):=fun q=>⟨h1,h2,h3,h4 q⟩
      clear nU HEX h1 h2 h3 h4;go_wp2;go_quiet (fail)
      go_wp2;go_roundw
      case rel=>exact ⟨i+1,S',_,rfl,by go_num,by omega,HF.out _⟩
      case measure=>simp [intOf];omega
  ·have dE:¬ (i:Int)<(n:Int):=by omega
   have Ie:i=n:=by omega
   subst Ie;have lE:l.take i=l:=ao (by have:=HN.out;omega)
   rw [lE] at Zl;obtain ⟨oa,oc,NP⟩:=hO.form;subst NP;rw [Zk] at hO ⊢;have mM:Hid (∀ q,∃ u,Ending.returned (.tuple #[.slice oa i oc,.bool true]) = .returned (.tuple #[u,.bool true])∧uI (wr.drewN q) w.heap.size u (l.mergeSort fun x y=>decide (x≤y))∧Below w.heap.size w (wr.drewN q)):=fun q=>⟨_,rfl,by rw [← S6 hUp Zl];exact hO.drewN q,aA hB q⟩
   have gy:Hid (∀ k,k+1<i→∃ (gg:Nat) (y z:Int),oa=some ⟨gg,0,none⟩∧y≠z∧wr.cell? ⟨gg,k,none⟩=some (.int .i64 y)∧wr.cell? ⟨gg,k+1,none⟩=some (.int .i64 z)):=fun k hk=>by
    obtain ⟨gg,hg,_⟩:=hO.slot (by omega)
    subst hg;have f:∀ m (h:m<S.length),wr.cell? ⟨gg,m,none⟩=some (.int .i64 S[m]):=fun m h=>by
     have:=World.ownsRow.cells hO (g:=gg) rfl m (.int .i64 S[m]) (by rw [aG,af h];rfl)
     rw [bh,Nat.zero_add] at this;exact this
    exact ⟨gg,_,_,rfl,KK Zl Wr.out k (by omega),f k (by omega),f (k+1) (by omega)⟩
   clear hO hB hUp Zl Zk HA lE HN Wr;go_wp2;go_loopw [8] (fun kv wx=>∃ k q:Nat,kv = .int .i64 (k:Int)∧1≤k∧wx=wr.drewN q) (fun kv _=>i - (intOf kv).toNat)
   case atStart=>exact ⟨1,0,rfl,aj _,rfl⟩
   case round =>
    obtain ⟨k,q,rfl,iV,rfl⟩:=hrel;by_cases nG:k<i
    ·obtain ⟨j,hj⟩ : ∃ j,k=j+1:=⟨k - 1,by omega⟩
     obtain ⟨gg,y,z,rfl,cY,c1,c2⟩:=gy.out j (by omega)
     rw [← hj] at c2;have sS:IntKind.i64.wrap ((k:Int) - 1)=(j:Int):=by rw [IntKind.wrap_i64];omega
     have hkI:(k:Int)<(i:Int):=by omega
     have Mg:(0:Int)≤(k:Int):=by omega
     have Gg:(0:Int)≤(j:Int):=by omega
     have hji:(j:Int)<(i:Int):=by omega
     have su:(y == z)=false:=by rw [beq_eq_false_iff_ne];exact cY
     clear hj cY gy;go_wp2;go_quiet (fail)
     go_wp2;go_roundw
     case rel=>exact ⟨k+1,_,by go_num,by omega,rfl⟩
     case measure=>simp [intOf];omega
    ·have hkI:¬ (k:Int)<(i:Int):=by omega
     clear gy;go_wp2;rw [HQ.out];exact mM.out q
theorem GL(v1 v2:Value)(l:List Int)(w:World)(hm:l.length≤140737488355328)(r1:Nw w v1 l)(r2:Nw w v2 l):Calls prog 77 #[v1,v2] w fun e w'=>e = .returned (.bool true)∧Below w.heap.size w w':=by
 obtain ⟨a1,c1,rfl,h1⟩:=r1;obtain ⟨a2,c2,rfl,h2⟩:=r2;obtain ⟨n,hn⟩ : ∃ n,n=l.length:=⟨_,rfl⟩;rw [← hn] at hm ⊢;have H1:=ab h1;have H2:=ab h2;have HN:=ab hn;have Gi:((n:Int) != (n:Int))=false:=by simp
 obtain ⟨Q,hQ⟩ : ∃ Q:Ending→World→Prop,Q=fun e w'=>e = .returned (.bool true)∧Below w.heap.size w w':=⟨_,rfl⟩
 rw [← hQ];have HQ:=ab hQ;clear h1 h2 hn hQ;go_enter func77,ntmps77;go_wp2;go_loopw [5] (fun i wr=>∃ k nq:Nat,k≤n∧i = .int .i64 k∧wr=w.drewN nq) (fun i _=>n - (intOf i).toNat)
 case atStart=>exact ⟨0,0,aB _,rfl,rfl⟩
 case round =>
  obtain ⟨k,nq,hk,rfl,rfl⟩:=hrel;by_cases bO:k<n
  ·have iV:k<l.length:=by have:=HN.out;omega
   obtain ⟨g1,rfl,f1⟩:=H1.out k iV;obtain ⟨g2,rfl,f2⟩:=H2.out k iV;have j0:(0:Int)≤(k:Int):=du k;have j1:(k:Int)<(n:Int):=by omega
   generalize l[k]=x at *;have cY:(x != x)=false:=by simp
   clear H1 H2;go_wp2;go_quiet (fail)
   go_wp2;go_roundw
   case rel=>exact ⟨k+1,_,by omega,by go_num,rfl⟩
   case measure=>simp [intOf];omega
  ·have j1:¬ (k:Int)<(n:Int):=by omega
   clear H1 H2;go_wp2;rw [HQ.out];exact ⟨rfl,aA (Below.refl _ _) _⟩
theorem DG{PG:Int→Option PD}{w:World}{h:Nat}{t:Nd h}(hr:ft PG w (j9 (some ⟨h,t⟩)) (some ⟨h,t⟩)):fu PG h (fh h t:Int) t:=by
 rcases hr with ⟨_,h2⟩ | ⟨p,h',t',hv,he,hk⟩
 ·cases h2
 ·cases he;cases p with
  | pg id =>
   have hv:Value.iface _ _=Value.iface _ _:=hv;simp only [Value.iface.injEq,Value.int.injEq,true_and] at hv;rw [hv];exact hk
  | nd b =>
   have hv:Value.iface _ _=Value.iface _ _:=hv;simp at hv
theorem RO:S1 none none ⟨#[]⟩ ⟨#[]⟩ false:=⟨fun k _=>by
 show Op.bytesLess k.toList _=false
 rw [show (⟨#[]⟩ : ByteArray).toList=[] by rw [ByteArray.toList_eq]]
 cases k.toList <;> rfl,fun _ _=>.inl rfl⟩
theorem Lc{h:Nat}{t:Nd h}(hr:eD (some ⟨h,t⟩)):aD (some ⟨h,t⟩)≠[]:=fun e=>by
 have h1:=tG hr;have h2:(flat h t).length=0:=by rw [show flat h t=[] from e];rfl
 have:=Nat.pow_pos (n:=h) (show 0<2 by decide)
 omega
theorem LD(l:List Nat):Q.gZ l=(l.map fun n:Nat=>(n:Int)).map (Value.int .i64):=by unfold Q.gZ;rw [et];rfl
theorem He{l:List Nat}(h:l.Nodup):(l.map fun n:Nat=>(n:Int)).Nodup:=by
 rw [List.nodup_iff_pairwise_ne] at *;rw [List.pairwise_map];exact h.imp fun Bg e=>Bg (by omega)
section
variable {base:Nat} {A:Nat→Addr} {w0:World} {ob db:Nat}
theorem SX.whole{w:World}{i j:Nat}(h:SX base A w0 w ob db i j)(hi:i≤400∧j≤100000):Calls prog 37 #[.pointer (some ⟨ob,0,none⟩)] w fun e w'=>e = .returned (.bool true)∧SX base A w0 w' ob db i (j+1):=by
 obtain ⟨tb,fb,fg,F,d,r,T,wv,root,tx,h1,h2,h3,h4⟩:=h.out;have ue:=kn h4.ts.ok;have il:aD (laid T r)=aD r:=(wD h4.ts.ok).2;have gy:=ab (tK h4 (by omega) (by omega) (by omega))
 have iq:Hid ((aD (laid T r)).length≤i∧i≤400∧tx≤j):=⟨by rw [il];exact h1,hi.1,h2⟩
 have IZ:=ab il;clear h h1 h2 h3 h4 ue hi il;go_enter func37,ntmps37;go_wp2_with fail;refine gy.out.mono ?_
 rintro e w1 ⟨rfl,eZ⟩;obtain ⟨X6,X5,F2,d2,L,E6,ho,V7,_⟩:=eZ.out;rw [← IZ.out] at ho;obtain ⟨R,hR⟩ : ∃ R,R=laid T r:=⟨_,rfl⟩;rw [← hR] at E6 ho V7 iq;have hlen:=iq.out;have ue:=kn ho.ts.ok;have nZ:=oU E6 ho.ts.ok (by omega)
 have CZ:Hid (∀ w',Os base A w0 w' ob db tb X6 X5 F2 d2 R (iu (Q.T0 4000) L) wv (gm R) (tx+1) (aD R)→SX base A w0 w' ob db i (j+1)):=fun w' h=>⟨tb,X6,X5,F2,d2,R,_,wv,_,_,by omega,by omega,nZ,h⟩
 have N9:=ab (uV ho.ts (by omega) ho.nd (by omega))
 have o3:=ho.c.1;have HO:=ab ho;have HRI:=ab V7;have Yr:Hid ((eh R).length≤1000):=by show _≤_;omega
 clear eZ E6 ho V7 hR ue nZ gy IZ hlen;go_wp2_with fail;refine N9.out.mono ?_
 rintro e w2 ⟨⟨pv,rfl,Xz⟩,je,jD⟩;have jf:=HO.out.mv je jD;have SU:=ab Xz;have Sp:=ab (vA jf.ts (by have:=iq.out;omega) (Below.refl _ _))
 have o4:=jf.c.1;have jx:=ab jf;obtain ⟨pa,pc,wG,_⟩:=rY Xz;rw [Ds] at wG;subst wG;clear Xz je jD jf N9 o3;go_wp2_with fail;refine Sp.out.mono ?_
 rintro e w3 ⟨rfl,rr,lX⟩;have kO:=jx.out.mv rr lX;have o5:=kO.c.1;have o6:=kO.c.2.1;have o7:=kO.c.2.2.2.2.2.1;have rl:=ab kO;have C0:=ab lX;clear rr lX kO Sp o4;have V7:=HRI.out w3;have cM:=rl.out.ts.ok;obtain ⟨wa,wc,NK⟩:=rl.out.want.form;subst NK;cases R with
 | none =>
  have wT:=ab (jZ rl.out.ts (by show eA none≤_;exact aB _))
  have hcz:((eA none:Nat):Int)=0:=rfl;rw [hcz] at wT;have w5:(aD none).length=0:=rfl;have w6:(eh none).length=0:=rfl;have w7:Ih none=0:=rfl;have w8:gm none=0:=rfl;rw [w5] at o6;rw [w8] at o7;rw [w6,w7];clear V7 cM w5 w6 w7 w8;go_wp2_with fail;refine wT.out.mono ?_
  rintro e w4 ⟨rfl,rfl⟩;go_wp2;go_ret;exact ⟨rfl,CZ.out _ rl.out⟩
 | some x =>
  obtain ⟨hh,t⟩:=x;have Y5:=DG V7;have hcz:eA (some ⟨hh,t⟩)=0:=yN (by
   have:=(Az V7).resolve_left (by simp)
   exact this)
  have wT:=ab (jZ rl.out.ts (by rw [hcz];exact aB _))
  rw [hcz] at wT;have cY:=Lc cM;have NS:0<(aD (some ⟨hh,t⟩)).length:=List.length_pos_iff.2 cY;have VX:(flat hh t).length≤500:=by have:(aD (some ⟨hh,t⟩)).length≤i:=iq.out.1;have h2:aD (some ⟨hh,t⟩)=flat hh t:=rfl;rw [h2] at this;have:=iq.out;omega
  have h8:=GQ cM VX;have lP:FR base A db F2 d2 ob w3:=⟨rl.out.ts.dv,rl.out.c.2.2.2.1,fun e=>rl.out.ap.2.1 (by obtain ⟨d',_,hd⟩:=rl.out.ts.dv.dev;rw [e];exact hd.fb),rl.out.ts.dv.Ct⟩
  have zv:=ab (yd hh t (fh hh t:Int) none none ⟨#[]⟩ ⟨#[]⟩ false true 1 w3 lP Y5 cM.1 cM.2.1 cM.2.2 (fun e=>by cases e) RO (by omega) (by have:(cD hh t).length≤1000:=Yr.out;omega) (by omega))
  have o7':w3.cell? ⟨ob,5,none⟩=some (.int .i64 (fh hh t:Int)):=o7;have hlz:(((aD (some ⟨hh,t⟩)).length:Int) == 0)=false:=by rw [beq_eq_false_iff_ne];omega
  obtain ⟨n3,XF⟩ : ∃ n3,n3=(aD (some ⟨hh,t⟩)).length:=⟨_,rfl⟩;obtain ⟨m3,lX⟩ : ∃ m3,m3=(eh (some ⟨hh,t⟩)).length:=⟨_,rfl⟩;obtain ⟨D,hD⟩ : ∃ D:Int,((hh+1:Nat):Int)=D:=⟨_,rfl⟩;have hD2:((Ih (some ⟨hh,t⟩):Nat):Int)=D:=hD;have hD8:D≤8:=by omega
  rw [← XF] at o6 hlz;rw [← lX,hD2];have HD:=ab hD;have ZA:=ab XF;have vX:=ab lX;have HL5:=ab VX;clear o7 Y5 hcz cY NS VX h8 lP V7 cM hD hD2 XF lX;go_wp2_with fail;refine wT.out.mono ?_
  rintro e w4 ⟨rfl,rfl⟩;clear wT;go_wp2_with fail;refine zv.out.mono ?_
  rintro e w4 ⟨lv,qv,rfl,NS,hlq,Qh,EX⟩;have Cj:=rl.out.mv Qh EX;obtain ⟨la,lc,rfl⟩:=NS.form;obtain ⟨qa,qc,rfl⟩:=hlq.form;rw [HD.out];have q5:=ai w4 (.cells #[.slice la (cD hh t).length lc,.slice qa (flat hh t).length qc,.int .i64 D,.bool true] 134);have x5:=B.au.new w4 #[.slice la (cD hh t).length lc,.slice qa (flat hh t).length qc,.int .i64 D,.bool true] 134;obtain ⟨W5,V6⟩ : ∃ W5,w4.alloc (.cells #[.slice la (cD hh t).length lc,.slice qa (flat hh t).length qc,.int .i64 D,.bool true] 134)=W5:=⟨_,rfl⟩;have k0:=x5.cell 0 (by simp)
  simp only [a8,List.getElem_cons_zero] at k0;rw [V6] at q5 x5;have hn5:Nw W5 (.slice la (cD hh t).length lc) ((cD hh t).map fun n:Nat=>(n:Int)):=by
   have h1:sZ W5 w3.heap.size _ _:=dD NS fun k hk=>q5.block k (World.ownsRow.lt NS k hk).2
   unfold sZ at h1;rw [LD] at h1;exact rY h1
  have N7:=ab (GR _ _ W5 hn5 (He Cj.nd) (by rw [az];have:(cD hh t).length≤1000:=Yr.out;omega))
  have zf:=ab x5;have Yt:=ab (Cj.below q5);have BE:Hid (fJ W5 w3.heap.size (.slice qa (flat hh t).length qc) (flat hh t)):=dD hlq fun k hk=>q5.block k (World.ownsRow.lt hlq k hk).2
  have Yn:Hid (∀ w',Below W5.heap.size W5 w'→Nw w' (.slice pa (eh (some ⟨hh,t⟩)).length pc) (pS (eh (some ⟨hh,t⟩)))):=fun w' hb=>by
   have hp:=SU.out;have A9:=((C0.out.trans EX).trans (Mv.of q5)).trans (Mv.of hb);refine rY (dD hp fun k hk=>B6 A9 (World.ownsRow.lt hp k hk).2 ?_)
   have h1:=(World.ownsRow.lt hp k hk).1;have h2:=HO.out.ts.dv.Ct;omega
  have HW5:=ab V6;clear Qh EX Cj NS hlq hn5 q5 x5 zv V6 o5 o6 o7';go_wp2_with fail;rw [HW5.out];refine N7.out.mono ?_
  rintro e w6 ⟨u,rfl,hu,Io⟩;have hu:uI w6 W5.heap.size u (pS (eh (some ⟨hh,t⟩))):=hu;have ir:=Yn.out w6 Io;rw [← vX.out] at ir;have HSI:=ab (GL u _ _ w6 (by rw [Ds];have:=Yr.out;omega) (rY hu) ir)
  obtain ⟨ua,uc,rfl⟩:=hu.form;have HB6:=ab Io;clear hu ir Io N7 Yn k0;go_wp2_with fail;refine HSI.out.mono ?_
  rintro e w7 ⟨rfl,SJ⟩;have Uv:=Below.next HB6.out SJ;have NR:=Yt.out.below Uv;have x7:=zf.out.below Uv;have hq7:fJ w7 w3.heap.size (.slice qa (flat hh t).length qc) (flat hh t):=dD BE.out fun k hk=>Uv.block k (World.ownsRow.lt BE.out k hk).2
  have o8:=NR.c.2.1;have y1:=x7.cell 1 (by simp)
  have y2:=x7.cell 2 (by simp)
  have y3:=x7.cell 3 (by simp)
  simp only [a8,List.getElem_cons_zero,List.getElem_cons_succ] at y1 y2 y3;have hw7:gM w7 (.slice wa (aD (some ⟨hh,t⟩)).length wc) (flat hh t):=NR.want.at;rw [← ZA.out] at o8 hw7;have Zs:Hid (∀ w',Below w7.heap.size w7 w'→Calls prog 60 #[.slice qa (flat hh t).length qc,.slice wa n3 wc] w' fun e w''=>e = .returned (.bool true)∧Below w7.heap.size w7 w''):=fun w' hb =>
   (xy _ _ (flat hh t) w' (by have:=HL5.out;omega) (hq7.at.below hb) (hw7.below hb)).mono fun e w'' ⟨he,aV⟩=>⟨he,Below.next hb aV⟩
  have HX7:=ab x7;have HO7:=ab NR;clear Uv NR x7 hq7 hw7 HSI SJ;go_wp2;go_region_held3 (fun w'=>w'.cell? ⟨w4.heap.size,1,none⟩=some (.slice qa (flat hh t).length qc)∧w'.cell? ⟨ob,4,none⟩=some (.slice wa n3 wc)) (go_keep)
   (first
    | (go_at_call 60;refine (Zs.out _ (by first | exact B.aP (Below.refl _ _) | exact Below.refl _ _)).mono ?_;rintro e w9 ⟨rfl,z7⟩;have WG:=ab z7;have y1':=(HX7.out.below z7).cell 1 (by simp);have y2':=(HX7.out.below z7).cell 2 (by simp);have y3':=(HX7.out.below z7).cell 3 (by simp);have o8':=(HO7.out.below z7).c.2.1;simp only [a8,List.getElem_cons_zero,List.getElem_cons_succ] at y1' y2' y3';rw [← ZA.out] at o8';clear z7))
  all_goals (
   have HF:=ab (CZ.out w9 (HO7.out.below WG.out));go_wp2;go_ret;exact ⟨rfl,HF.out⟩)
end
structure LS where
 kind:Int
 at':Int
 n:Int
 key:ByteArray
 value:ByteArray
 iO:ByteArray
def Nt(w:World)(v:Value)(l:List LS):Prop:=∃ a c,v = .slice a l.length c∧∀ j (h:j<l.length),∃ g o,a=some ⟨g,o,none⟩∧w.cell? ⟨g,o+j*6,none⟩=some (.int .i64 l[j].kind)∧w.cell? ⟨g,o+j*6+1,none⟩=some (.int .i64 l[j].at')∧w.cell? ⟨g,o+j*6+2,none⟩=some (.int .i64 l[j].n)∧w.cell? ⟨g,o+j*6+3,none⟩=some (.string l[j].key)∧w.cell? ⟨g,o+j*6+4,none⟩=some (.string l[j].value)∧w.cell? ⟨g,o+j*6+5,none⟩=some (.string l[j].iO)
theorem Nt.below{w w':World}{v:Value}{l:List LS}(h:Nt w v l)(hb:Below w.heap.size w w'):Nt w' v l:=by
 obtain ⟨a,c,hv,hc⟩:=h;refine ⟨a,c,hv,fun j hj=>?_⟩
 obtain ⟨g,o,ha,h0,h1,h2,h3,h4,h5⟩:=hc j hj;have f:∀ {m:Nat} {u:Value},w.cell? ⟨g,m,none⟩=some u→w'.cell? ⟨g,m,none⟩=some u:=fun {m u} hu=>(hb.cell (p:=⟨g,m,none⟩) (World.block_lt_of_cell? w _ hu)).trans hu
 exact ⟨g,o,ha,f h0,f h1,f h2,f h3,f h4,f h5⟩
variable {b2:Nat} {w:World} {base:Nat} {A:Nat→Addr} {w0:World} {ob j db i:Nat}
theorem La(h:S.Env base A w)(h1:base≤b2)(h2:b2≤w.heap.size):S.Env b2 A w:=by
 obtain ⟨⟨a1,a2,a3,⟨b1,b2',b3⟩,hs⟩,c,⟨d1,d2,d3⟩,hL,hT⟩:=h;exact ⟨⟨a1,a2,a3,⟨by omega,by omega,by omega⟩,h2⟩,c,⟨by omega,by omega,by omega⟩,hL,hT⟩
theorem Lg(h:Q.Env base A w)(h1:base≤b2)(h2:b2≤w.heap.size):Q.Env b2 A w :=
 ⟨h.errs,h.tab,fun i hi=>by have:=h.lo i hi;omega,by have:=h.lt;omega,h2⟩
theorem SX.eT{base:Nat}{A:Nat→Addr}{w0 w:World}{ob db i j:Nat}(h:SX base A w0 w ob db i j):Below base w0 w:=by
 obtain ⟨tb,fb,fg,F,d,r,T,wv,root,tx,h1,h2,h3,h4⟩:=h.out;exact h4.eT
theorem SX.put(key value:ByteArray)(h:SX base A w0 w ob db i j)(hi:i≤400)(cZ:key.size≤140737488355328)(Cg:value.size≤140737488355328):Calls prog 10 #[.pointer (some ⟨ob,0,none⟩),.string key,.string value] w fun e w'=>e = .returned (.bool true)∧SX base A w0 w' ob db (i+1) j:=by
 obtain ⟨tb,fb,fg,F,d,r,T,wv,root,tx,h1,h2,h3,h4⟩:=h.out;refine (JI key value h4 (by omega) cZ Cg).mono fun e w' ⟨he,r',vZ,hs,ho,_⟩=>⟨he,?_⟩
 have:=tD (kind:=1) (.inl ⟨rfl,hs⟩) h4.ts.ok;exact ⟨tb,fb,fg,F,d,r',T,vZ,root,tx,by omega,by omega,h3,ho⟩
theorem SX.drop(key:ByteArray)(h:SX base A w0 w ob db i j)(hi:i≤400)(cZ:key.size≤140737488355328):Calls prog 22 #[.pointer (some ⟨ob,0,none⟩),.string key] w fun e w'=>e = .returned (.bool true)∧SX base A w0 w' ob db (i+1) j:=by
 obtain ⟨tb,fb,fg,F,d,r,T,wv,root,tx,h1,h2,h3,h4⟩:=h.out;refine (Ea key h4 (by omega) cZ).mono fun e w' ⟨he,r',vZ,hs,ho,_⟩=>⟨he,?_⟩
 have:=tD (kind:=2) (value:=⟨#[]⟩) (.inr ⟨rfl,hs⟩) h4.ts.ok;exact ⟨tb,fb,fg,F,d,r',T,vZ,root,tx,by omega,by omega,h3,ho⟩
theorem SX.start(w:World)(Uy:Q.Env base A w)(hE:S.Env base A w)(hG:dI 13 fe A w)(n7:∀ i,i<13→fe i<base∧(A i).block<base):Calls prog 9 #[] w fun e w'=>∃ (ob db:Nat),e = .returned (.tuple #[.pointer (some ⟨ob,0,none⟩),.bool true])∧SX base A w w' ob db 0 0:=by
 refine (Lw w Uy hE hG n7).mono fun e w' ⟨ob,db,tb,fb,fg,F,d,he,ho⟩=>⟨ob,db,he,?_⟩
 exact ⟨tb,fb,fg,F,d,none,_,_,0,0,aj _,aj _,by rw [show (4000:Nat)=3998+2 from rfl,BO 3998 (by decide)];decide,ho⟩
theorem K4(rT:Int)(sv:Value)(ks:List LS)(w:World)(hE:S.Env w.heap.size A w)(hG:dI 13 fe A w)(n7:∀ i,i<13→fe i<w.heap.size∧(A i).block<w.heap.size)(Uy:Q.Env w.heap.size A w)(hs:Nt w sv ks)(_hkl:ks.length≤140737488355328)(jg:∀ s ∈ ks,s.key.size≤140737488355328∧s.value.size≤140737488355328∧s.n≤9223372036854775807):Calls prog 8 #[.agg #[.int .i64 rT,sv]] w fun e w'=>e = .returned (.bool true)∧Below w.heap.size w w':=by
 obtain ⟨sa,sc,hsv⟩ : ∃ a c,sv = .slice a ks.length c:=by obtain ⟨a,c,h,_⟩:=hs;exact ⟨a,c,h⟩
 subst hsv;obtain ⟨K,hK⟩ : ∃ K,K=ks.length:=⟨_,rfl⟩;rw [← hK] at hs ⊢;obtain ⟨W1,ig⟩ : ∃ W1,w.alloc (.cells #[.int .i64 rT,.slice sa K sc] 37)=W1:=⟨_,rfl⟩;have q0:=ai w (.cells #[.int .i64 rT,.slice sa K sc] 37);have x0:=B.au.new w #[.int .i64 rT,.slice sa K sc] 37;rw [ig] at q0 x0;have Qk:W1.heap.size=w.heap.size+1:=by rw [← ig];simp
 obtain ⟨XB,sV⟩ : ∃ XB,XB=w.heap.size:=⟨_,rfl⟩;obtain ⟨base,hB⟩ : ∃ base,base=W1.heap.size:=⟨_,rfl⟩;have mf:=ab (SX.start (base:=base) (A:=A) W1 (Lg (Uy.keep q0) (by omega) (by omega)) (La (hE.up q0) (by omega) (by omega)) (hG.keep q0) (fun i hi=>by have:=n7 i hi;omega))
 have gy:=ab (hs.below q0);have HBS:Hid (base=W1.heap.size):=hB;have HX:Hid (B.au W1 XB #[.int .i64 rT,.slice sa K sc] 37∧XB<base):=⟨by rw [sV];exact x0,by omega⟩
 have nV:Hid (∀ w',Below base W1 w'→Below w.heap.size w w'):=fun w' h=>by rw [hB] at h;exact Below.next q0 h
 have HK:=ab hK;have Wv:=ab jg;obtain ⟨Q0,Iq⟩ : ∃ Q0:Ending→World→Prop,Q0=fun e w'=>e = .returned (.bool true)∧Below w.heap.size w w':=⟨_,rfl⟩
 rw [← Iq];have HQ:=ab Iq;have R6:=ab sV;have CH:=ab ig;clear hE hG n7 Uy hs jg hK q0 x0 Qk Iq hB ig;go_enter func8,ntmps8;go_wp2_with fail;rw [CH.out,← sV];clear sV;refine mf.out.mono ?_
 rintro e w2 ⟨ob,db,rfl,aaJ⟩;have acD:=ab (aaJ.put ⟨#[98,101,103,105,110]⟩ ⟨#[49]⟩ (by omega) (by simp [ByteArray.size]) (by simp [ByteArray.size]))
 clear aaJ mf;go_wp2_with fail;refine acD.out.mono ?_
 rintro e w3 ⟨rfl,aaI⟩;have Sa:=ab (aaI.whole (by omega))
 clear aaI acD;go_wp2_with fail;refine Sa.out.mono ?_
 rintro e w4 ⟨rfl,aaH⟩;have HDR:=ab (aaH.drop ⟨#[98,101,103,105,110]⟩ (by omega) (by simp [ByteArray.size]))
 clear aaH Sa;go_wp2_with fail;refine HDR.out.mono ?_
 rintro e w5 ⟨rfl,aaG⟩;have Sa:=ab (aaG.whole (by omega))
 clear aaG HDR;go_wp2_with fail;refine Sa.out.mono ?_
 rintro e w6 ⟨rfl,aaF⟩;have HFW:=ab aaF;clear aaF Sa;go_wp2;go_loopw [4,5] (fun okv iv wr=>∃ i:Nat,okv = .bool true∧iv = .int .i64 (i:Int)∧i≤300∧i≤K∧SX base A W1 wr ob db (i+2) (2*i+2)) (fun _ iv _=>300 - (intOf iv).toNat)
 case atStart=>exact ⟨0,rfl,rfl,by omega,aB _,HFW.out⟩
 case round =>
  obtain ⟨i,rfl,rfl,hi,hiK,hse⟩:=hrel;have CZ:=ab hse;have xc:wr.cell? ⟨XB,1,none⟩=some (.slice sa K sc):=(hse.eT.cell (p:=⟨XB,1,none⟩) HX.out.2).trans HX.out.1.c1;clear hse HFW;by_cases bO:i<K∧i<300
  ·obtain ⟨XK,Uo⟩:=bO;have HI9:Hid (i+1≤300∧i+1≤K):=⟨by omega,by omega⟩
   have ako:(i:Int)<(K:Int):=by omega
   have akn:(i:Int)<300:=by omega
   have e0:(0:Int)≤(i:Int):=by omega
   have abq:i<ks.length:=by have:=HK.out;omega
   obtain ⟨g,o,gJ,hsa,s0,s1,s2,s3,s4,s5⟩:=(show ∀ j (h:j<ks.length),∃ g o,g<base∧sa=some ⟨g,o,none⟩∧wr.cell? ⟨g,o+j*6,none⟩=some (.int .i64 ks[j].kind)∧wr.cell? ⟨g,o+j*6+1,none⟩=some (.int .i64 ks[j].at')∧wr.cell? ⟨g,o+j*6+2,none⟩=some (.int .i64 ks[j].n)∧wr.cell? ⟨g,o+j*6+3,none⟩=some (.string ks[j].key)∧wr.cell? ⟨g,o+j*6+4,none⟩=some (.string ks[j].value)∧wr.cell? ⟨g,o+j*6+5,none⟩=some (.string ks[j].iO) from fun j h=>by
    obtain ⟨a,c,hv,hc⟩:=gy.out;simp only [Value.slice.injEq] at hv;obtain ⟨rfl,-,-⟩:=hv;obtain ⟨g,o,ha,h0,h1,h2,h3,h4,h5⟩:=hc j h;have f:∀ {m:Nat} {u:Value},W1.cell? ⟨g,m,none⟩=some u→wr.cell? ⟨g,m,none⟩=some u:=fun {m u} hu=>(CZ.out.eT.cell (p:=⟨g,m,none⟩) (by have h9:=HBS.out;have h8:g<W1.heap.size:=World.block_lt_of_cell? W1 _ hu;show g<base;omega)).trans hu
    exact ⟨g,o,(by have h9:=HBS.out;have h8:g<W1.heap.size:=World.block_lt_of_cell? W1 _ h0;omega),ha,f h0,f h1,f h2,f h3,f h4,f h5⟩) i abq
   have jc:=ab (Wv.out ks[i] (aJ abq));generalize ks[i]=st at s0 s1 s2 s3 s4 s5 jc;obtain ⟨kind,at',n,key,value,iO⟩:=st;simp only at s0 s1 s2 s3 s4 s5 jc;subst hsa;have Zs:=ab (CZ.out.step kind at' n key value iO (by omega) jc.out.1 jc.out.2.1 jc.out.2.2)
   have tj:Hid (∀ W,Below base W1 W→W.cell? ⟨XB,1,none⟩=some (.slice (some ⟨g,o,none⟩) K sc)∧W.cell? ⟨g,o+i*6,none⟩=some (.int .i64 kind)):=fun W hW =>
    ⟨(hW.cell (p:=⟨XB,1,none⟩) HX.out.2).trans HX.out.1.c1,((hW.cell (p:=⟨g,o+i*6,none⟩) gJ).trans (CZ.out.eT.cell (p:=⟨g,o+i*6,none⟩) gJ).symm).trans s0⟩
   clear jc;go_wp2_with fail;refine Zs.out.mono ?_
   rintro e w7 ⟨rfl,Xu⟩;have acw:=ab Xu;obtain ⟨xc7,s07⟩:=tj.out w7 Xu.eT;clear Xu Zs s0 s1 s2 s3 s4 s5 xc tj gJ;by_cases h6:kind=6
   ·subst h6;have Sa:=ab (acw.out.whole (by omega))
    go_wp2_with fail;refine Sa.out.mono ?_
    rintro e w8 ⟨rfl,Qn⟩;have agc:=ab Qn;clear Qn Sa;go_wp2;go_roundw
    case rel =>
     refine ⟨i+1,?_,?_,HI9.out.1,HI9.out.2,agc.out.mono (by omega) (by omega)⟩
     ·rfl
     ·go_num
    case measure=>simp [intOf];omega
   ·have n6:(kind == 6)=false:=by rw [beq_eq_false_iff_ne];exact h6
    clear h6;go_wp2;go_roundw
    case rel =>
     refine ⟨i+1,?_,?_,HI9.out.1,HI9.out.2,acw.out.mono (by omega) (by omega)⟩
     ·rfl
     ·go_num
    case measure=>simp [intOf];omega
  ·have fI:(¬ (i:Int)<(K:Int))∨((i:Int)<(K:Int)∧¬ (i:Int)<300):=by omega
   have Sa:=ab (CZ.out.whole (by omega))
   have HQF:Hid (∀ w',SX base A W1 w' ob db (i+2) (2*i+2+1)→Q0 (.returned (.bool true)) w'):=fun w' h=>by rw [HQ.out];exact ⟨rfl,nV.out w' h.eT⟩
   clear bO CZ;rcases fI with h1 | ⟨h1,h2⟩
   all_goals
    go_wp2_with fail;refine Sa.out.mono ?_
    rintro e w8 ⟨rfl,Qn⟩;have HF:=ab (HQF.out w8 Qn);clear Qn Sa HQF;go_wp2;exact HF.out
end T
end Go.Proofs.YtihmgigfkmofnaaGreatDoor
namespace Go.Proofs.YtihmgigfkmofnaaGreatDoor.S
open Go.ChangeShapes Go.WideShapes Go.ChangeAt Go.WideMaps Go.WideElems Go.RowKit
theorem Q4:prog.globalNamed "copse/codec.halfByteSteps" = some 15:=by kernel_rfl
theorem WO:(prog.globals[15]?).map (·.type)=some 330:=by kernel_rfl
theorem acb:prog.globalNamed "copse/sheet.layout" = some 14:=by kernel_rfl
theorem aeb:(prog.globals[14]?).map (·.type)=some 327:=by kernel_rfl
theorem UY:prog.cellsOf 225=1:=by kernel_rfl
theorem yP:prog.cellsOf 330=16:=by kernel_rfl
theorem Fy:prog.cellsOf 3=1:=by kernel_rfl
theorem RD:prog.cellsOf 327=10:=by kernel_rfl
theorem Rz:prog.cellsOf 326=2:=by kernel_rfl
theorem om{W:World}(h:laidMet prog [("copse/codec.halfByteSteps",Rows.laid_copse_codec_halfByteSteps)] W):FQ W:=by
 have e:(Rows.laid_copse_codec_halfByteSteps:DataW Unit)=Lib.tabData .u32 (KU.map Int.ofNat):=by simp [Rows.laid_copse_codec_halfByteSteps,Lib.tabData,KU]
 rw [e] at h;have hv:=Lib.tabIs_of_head Q4 WO underlying330 underlying225 UY yP h;have hc:=World.var?_cell Q4 hv;have h16:∀ j,j<16→W.cell? ⟨15,j,none⟩=some (.int .u32 (tab j:Nat)):=by
  intro j hj;have h1:=hc j;rw [h1];have:∀ i:Fin 16,((KU.map Int.ofNat).map fun z=>Value.int .u32 z).toArray[i.1]?=some (.int .u32 ((tab i.1:Nat):Int)):=by
   intro i;simp only [et,List.getElem?_toArray,aG];have hi:i.1<KU.length:=i.2;rw [af hi];simp only [kx,Function.comp];unfold tab;rw [List.getD,af hi];rfl
  exact this ⟨j,hj⟩
 refine ⟨h16,?_⟩;exact World.block_lt_of_cell? W _ (h16 0 (by decide))
theorem jm{W:World}{m:Nat}{a b:Value}{y:DataW Unit × List MemPlace}{p q:Int}(h:DataW.trod (fun _=>()) prog W 0 (fun _=>true) false m 326 [a,b]=some y)(hy:y.1 = .agg [.lit (.int .i64 p),.lit (.int .i64 q)]):a = .int .i64 p∧b = .int .i64 q:=by
 obtain ⟨y0,y1,n,rfl,_,h0,h1⟩:=trod_struct2 underlying326 h;have Ms:DataW.trod (fun _=>()) prog W 0 (fun _=>true) false n 3 [a]=some y0:=by simpa [Fy] using h0
 have Gl:DataW.trod (fun _=>()) prog W 0 (fun _=>true) false n 3 [b]=some y1:=by simpa [Fy] using h1
 obtain ⟨k0,e0,rfl,_⟩:=DataW.trod_int underlying3 Ms;obtain ⟨k1,e1,rfl,_⟩:=DataW.trod_int underlying3 Gl;simp only [List.cons.injEq,and_true] at e0 e1;subst e0 e1;simp only [DataW.agg.injEq,List.cons.injEq,DataW.lit.injEq,Lit.int.injEq,true_and,and_true] at hy;obtain ⟨rfl,rfl⟩:=hy;exact ⟨rfl,rfl⟩
theorem Ev{W:World}(h:laidMet prog [("copse/sheet.layout",Rows.laid_copse_sheet_layout)] W):Lay W:=by
 obtain ⟨ps,⟨g,t,cs,fuel,p,q,hg,ht,T8,hd,_,_⟩,_,_⟩:=h;obtain rfl:=Option.some.inj (acb.symm.trans hg);obtain rfl:=Option.some.inj (aeb.symm.trans ht);have hc:=World.var?_cell acb T8;obtain ⟨xs,m,_,hx,ry,hxl,hf⟩:=DataW.trod_array underlying327 hd;rw [RD] at ry;obtain ⟨cl⟩:=cs;match xs,hxl,cl,ry with
 | [y0,y1,y2,y3,y4],_,[v0,v1,v2,v3,v4,v5,v6,v7,v8,v9],_ =>
  have g0:=hf 0 (by decide)
  have g1:=hf 1 (by decide)
  have g2:=hf 2 (by decide)
  have g3:=hf 3 (by decide)
  have g4:=hf 4 (by decide)
  simp [Rz] at g0 g1 g2 g3 g4
  have sR:=congrArg Prod.fst hx;simp only [Rows.laid_copse_sheet_layout,List.map_cons,List.map_nil,DataW.agg.injEq,List.cons.injEq,and_true] at sR;obtain ⟨x0,x1,x2,x3,x4⟩:=sR;obtain ⟨rfl,rfl⟩:=jm g0 x0.symm;obtain ⟨rfl,rfl⟩:=jm g1 x1.symm;obtain ⟨rfl,rfl⟩:=jm g2 x2.symm;obtain ⟨rfl,rfl⟩:=jm g3 x3.symm;obtain ⟨rfl,rfl⟩:=jm g4 x4.symm;have k0:=hc 0;have k1:=hc 1;have k2:=hc 2;have k3:=hc 3;have k4:=hc 4;have k5:=hc 5;have k6:=hc 6;have k7:=hc 7;have k8:=hc 8;have k9:=hc 9;simp at k0 k1 k2 k3 k4 k5 k6 k7 k8 k9
  exact ⟨World.block_lt_of_cell? W _ k0,k0,k1,k2,k3,k4,k5,k6,k7,k8,k9⟩
end Go.Proofs.YtihmgigfkmofnaaGreatDoor.S
namespace Go.Proofs.YtihmgigfkmofnaaGreatDoor
open Go.ChangeShapes Go.WideShapes Go.ChangeAt Go.WideMaps Go.WideElems Go.RowKit Go.Joins
theorem own:ownKnob prog.godebug=none:=by kernel_rfl
theorem laidOut:laidOutB prog=true:=by kernel_rfl
def Cs:List (String × List UInt8):=[("copse/api.ErrArg",ia Rows.laid_copse_api_ErrArg),("copse/api.ErrText",ia Rows.laid_copse_api_ErrText),("copse/api.ErrMany",ia Rows.laid_copse_api_ErrMany),("copse/api.ErrShort",ia Rows.laid_copse_api_ErrShort),("copse/api.ErrTwice",ia Rows.laid_copse_api_ErrTwice),("copse/api.ErrLost",ia Rows.laid_copse_api_ErrLost),("copse/api.ErrFull",ia Rows.laid_copse_api_ErrFull),("copse/api.ErrDead",ia Rows.laid_copse_api_ErrDead),("copse/api.ErrCorrupt",ia Rows.laid_copse_api_ErrCorrupt),("copse/api.ErrStatus",ia Rows.laid_copse_api_ErrStatus),("copse/api.ErrTxid",ia Rows.laid_copse_api_ErrTxid),("copse/api.ErrOrder",ia Rows.laid_copse_api_ErrOrder),("copse/api.ErrKind",ia Rows.laid_copse_api_ErrKind)]
theorem MJ:Cs.map PC++[]=[("copse/api.ErrArg",Rows.laid_copse_api_ErrArg),("copse/api.ErrText",Rows.laid_copse_api_ErrText),("copse/api.ErrMany",Rows.laid_copse_api_ErrMany),("copse/api.ErrShort",Rows.laid_copse_api_ErrShort),("copse/api.ErrTwice",Rows.laid_copse_api_ErrTwice),("copse/api.ErrLost",Rows.laid_copse_api_ErrLost),("copse/api.ErrFull",Rows.laid_copse_api_ErrFull),("copse/api.ErrDead",Rows.laid_copse_api_ErrDead),("copse/api.ErrCorrupt",Rows.laid_copse_api_ErrCorrupt),("copse/api.ErrStatus",Rows.laid_copse_api_ErrStatus),("copse/api.ErrTxid",Rows.laid_copse_api_ErrTxid),("copse/api.ErrOrder",Rows.laid_copse_api_ErrOrder),("copse/api.ErrKind",Rows.laid_copse_api_ErrKind)]:=rfl
theorem Ix:((List.range 13).all fun i=>match Cs[i]? with
  | some x=>(prog.globalNamed x.1 == some (fe i)) && ((prog.globals[fe i]?).map (·.type) == some 32)
  | none=>false)=true:=by kernel_rfl
theorem Fh:∀ i x,Cs[i]?=some x→prog.globalNamed x.1=some (fe i)∧(prog.globals[fe i]?).map (·.type)=some 32:=by
 intro i x hx;have hi:i<13:=by
  rcases a6 i 13 with h | h
  ·exact h
  ·rw [bu (by exact h)] at hx;cases hx
 have h:=List.all_eq_true.1 Ix i (List.mem_range.2 hi);rw [hx] at h;simpa using h
def TY(x:String × DataW Unit):Bool:=x.1 == "copse/api.ErrArg" || x.1 == "copse/api.ErrText" || x.1 == "copse/api.ErrMany" || x.1 == "copse/api.ErrShort" || x.1 == "copse/api.ErrTwice" || x.1 == "copse/api.ErrLost" || x.1 == "copse/api.ErrFull" || x.1 == "copse/api.ErrDead" || x.1 == "copse/api.ErrCorrupt" || x.1 == "copse/api.ErrStatus" || x.1 == "copse/api.ErrTxid" || x.1 == "copse/api.ErrOrder" || x.1 == "copse/api.ErrKind"
theorem Aa{W:World}(h:laidMet prog [("copse/api.ErrArg",Rows.laid_copse_api_ErrArg),("copse/api.ErrText",Rows.laid_copse_api_ErrText),("copse/api.ErrMany",Rows.laid_copse_api_ErrMany),("copse/api.ErrShort",Rows.laid_copse_api_ErrShort),("copse/api.ErrTwice",Rows.laid_copse_api_ErrTwice),("copse/api.ErrLost",Rows.laid_copse_api_ErrLost),("copse/api.ErrFull",Rows.laid_copse_api_ErrFull),("copse/api.ErrDead",Rows.laid_copse_api_ErrDead),("copse/api.ErrCorrupt",Rows.laid_copse_api_ErrCorrupt),("copse/api.ErrStatus",Rows.laid_copse_api_ErrStatus),("copse/api.ErrTxid",Rows.laid_copse_api_ErrTxid),("copse/api.ErrOrder",Rows.laid_copse_api_ErrOrder),("copse/api.ErrKind",Rows.laid_copse_api_ErrKind)] W):∃ A,dI 13 fe A W:=by
 obtain ⟨A,hA,_⟩:=UF (rest:=[]) fe (show Cs.length=13 from rfl) Fh (by rw [MJ];exact h)
 exact ⟨A,hA⟩
namespace T
def Xh(x:String × DataW Unit):Bool:=x.1 == "copse/codec.halfByteSteps"
def aak(x:String × DataW Unit):Bool:=x.1 == "copse/sheet.layout"
end T
end Go.Proofs.YtihmgigfkmofnaaGreatDoor
namespace Go.Proofs.YtihmgigfkmofnaaGreatDoor
namespace T
open Go.ChangeShapes Go.WideShapes Go.ChangeAt Go.WideMaps Go.WideElems Go.RowKit Go.Joins
theorem og{H:Type}{P:Program}{e:TypeId}:∀ {l:List (DataW H)} {d:DataW H},d ∈ l→∀ n ∈ d.weights P e,n ∈ DataW.weightsAll P e l
 | d'::r,d,hd,n,hn=>by
  simp only [DataW.weightsAll,cA];rcases List.mem_cons.1 hd with rfl | h
  ·exact Or.inl hn
  ·exact Or.inr (og h n hn)
theorem K3{W:World}{a:Addr}{v:Value}(h:W.cell? a=some v):a=⟨a.block,a.off,none⟩:=by
 have Gb:a.spot=none:=by
  unfold World.cell? at h;split at h
  ·split at h
   ·cases h
   ·rename_i hs;simpa using hs
  ·cases h
 cases a;simp at Gb;rw [Gb]
theorem add_plain(b o c:Nat):(⟨b,o,none⟩ : Addr).add c=⟨b,o+c,none⟩:=by
 unfold Addr.add;split
 ·rename_i h;rw [h,Nat.add_zero]
 ·rfl
theorem Lx{H:Type}{enc:TypeId × Value→H}{W:World}{t e:TypeId}{size bs:Nat}(hu:prog.underlying t=some (.slice e))(hc:prog.cellsOf e=size)(hy:prog.bytesOf e=bs)(hp:0<size)(R:List Value→Prop)(fuel:Nat)(v:Value)(x:DataW H × List MemPlace)(h:DataW.trod enc prog W 0 (fun _=>true) true fuel t [v]=some x)(hw:∀ z ∈ x.1.weights prog t,z≤reachBytes)(each:∀ k cs y,DataW.trod enc prog W 0 (fun _=>true) true k e cs=some y→cs.length=size→(∀ z ∈ y.1.weights prog e,z≤reachBytes)→R cs):∃ (a:Option Addr) (len cap:Nat),v = .slice a len cap∧len*bs≤reachBytes∧∀ i,i<len→∃ g off cs,a=some ⟨g,off,none⟩∧g<W.heap.size∧R cs∧cs.length=size∧∀ j,j<size→W.cell? ⟨g,off+i*size+j,none⟩=cs[j]?:=by
 rcases DataW.trod_slice hu h with ⟨h0,_⟩ | ⟨a,len,cap,elems,rest,n,hn,hv,hx,_,hl,hm,hlen,hel,_⟩
 ·simp only [List.cons.injEq,and_true] at h0;subst h0;exact ⟨none,0,0,rfl,by rw [Nat.zero_mul];exact aB _,fun i h=>absurd h (by simp)⟩
 ·simp only [List.cons.injEq,and_true] at hv;subst hv hx hn;have hwt:(elems.length+rest.length)*bs≤reachBytes:=hw _ (by
   simp only [DataW.weights,hu,hy,az];exact dr)
  have hlB:len*bs≤reachBytes:=ar (Nat.mul_le_mul_right bs (by omega)) hwt
  have V8:∀ i,i<len→∃ cs,R cs∧cs.length=size∧∀ j,j<size→W.cell? ((a.add (i*size)).add j)=cs[j]?:=by
   intro i hi;have h1:=hel i hi;rw [hc,af (by omega)] at h1
   obtain ⟨cs',h2,h3⟩:=Option.bind_eq_some_iff.1 h1;obtain ⟨_,ry,bq⟩:=World.cells?_some h2;refine ⟨cs',each n cs' _ h3 ry (fun z hz=>hw z ?_),ry,fun j hj=>bq j (by omega)⟩
   simp only [DataW.weights,hu];exact dU _ (dV _ (og (List.mem_map.2 ⟨elems[i],aJ (by omega),rfl⟩) z hz))
  refine ⟨some a,len,cap,rfl,hlB,fun i hi=>?_⟩
  obtain ⟨cs0,_,SD,qQ⟩:=V8 0 (by omega)
  have h00:=qQ 0 hp;rw [Nat.zero_mul,af (by omega)] at h00
  have ea:=K3 (a:=a) h00;obtain ⟨cs,hr,XK,Bf⟩:=V8 i hi;refine ⟨a.block,a.off,cs,congrArg some ea,World.block_lt_of_cell? W a h00,hr,XK,fun j hj=>?_⟩
  have:=Bf j hj;rw [ea,add_plain,add_plain] at this;exact this
theorem JT{α:Type}{P:Nat→α→Prop}:∀ (n:Nat),(∀ i,i<n→∃ x,P i x)→∃ l:List α,l.length=n∧∀ i (h:i<l.length),P i l[i]
 | 0,_=>⟨[],rfl,fun i h=>by simp at h⟩
 | n+1,h=>by
  obtain ⟨l,hl,hp⟩:=JT n fun i hi=>h i (by omega)
  obtain ⟨x,hx⟩:=h n (by omega)
  refine ⟨l++[x],by simp [hl],fun i hi=>?_⟩
  by_cases bO:i<l.length
  ·rw [aL bO];exact hp i bO
  ·have:i=l.length:=by simp at hi;omega
   subst this;rw [bA (aj _)];simp [hl] at hx ⊢
   exact hx
theorem RF:prog.cellsOf 3=1:=by kernel_rfl
theorem Yc:prog.cellsOf 9=1:=by kernel_rfl
theorem UX:prog.cellsOf 44=6:=by kernel_rfl
theorem U0:prog.bytesOf 44=72:=by kernel_rfl
theorem RC:prog.cellsOf 23=1:=by kernel_rfl
theorem AE:reachBytes=140737488351232:=rfl
end T
end Go.Proofs.YtihmgigfkmofnaaGreatDoor
