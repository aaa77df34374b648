import Derived.Test.YtihmgigfkmofnaaGreatDoorG28
import Derived.Maps.AppendAt
import Derived.Laws.Rows
set_option maxHeartbeats 4000000
set_option maxRecDepth 100000
open Go.Proofs.Tryz
namespace Go.Proofs.YtihmgigfkmofnaaGreatDoor
namespace T
open Go.RowKit
def K7(l:List S.Sh):List Value:=l.flatMap S.Sh.cells
theorem GH(a b:List S.Sh):K7 (a++b)=K7 a++K7 b:=by simp [K7]
def sX(w:World)(base:Nat)(v:Value)(l:List S.Sh):Prop:=w.ownsRow base 87 5 v l.length (K7 l)
theorem sX.nil(w:World)(base:Nat):sX w base (.slice none 0 0) []:=World.ownsRow_nil _ _ _ _
theorem sX.form{w:World}{base:Nat}{v:Value}{l:List S.Sh}(h:sX w base v l):∃ a c,v = .slice a l.length c:=by
 rcases h.2 with ⟨rfl,h0⟩ | ⟨g0,cap,cur,rfl,_⟩
 ·have:l=[]:=List.length_eq_zero_iff.1 h0;subst this;exact ⟨_,_,rfl⟩
 ·exact ⟨_,_,rfl⟩
theorem sX.dx{w:World}{base:Nat}{v:Value}{l:List S.Sh}(h:sX w base v l){g:Nat}(hg:v.ownBlock=some g):base≤g∧g<w.heap.size:=World.ownsRow.lt h g hg
theorem sX.same{w w':World}{lo:Nat}{v:Value}{l:List S.Sh}(h:sX w lo v l)(hb:∀ g,v.ownBlock=some g→w'.heap[g]?=w.heap[g]?):sX w' lo v l:=by
 refine ⟨h.1,?_⟩;rcases h.2 with h' | ⟨g,cap,cur,h',h1,h2,hr⟩
 ·exact .inl h'
 ·exact .inr ⟨g,cap,cur,h',h1,(hb g (by rw [h'];rfl)).trans h2,hr⟩
theorem Xi:(prog.info? 87).map (fun i=>(i.zero,i.size,i.bytes))=some (some (.agg #[.int .i64 0,.int .i64 0,.int .u64 0,.int .i64 0,.string ByteArray.empty]),5,48):=by kernel_rfl
theorem WR(s:S.Sh):∀ u ∈ s.cells,u.oneCell'=true:=by
 intro u hu;simp only [S.Sh.cells,dO,dB,or_false] at hu;rcases hu with rfl | rfl | rfl | rfl | rfl <;> rfl
theorem sX.push(base:Nat)(v:Value)(l:List S.Sh)(s:S.Sh)(w:World)(h:sX w base v l)(hn:l.length≤1000000)(dd:base≤w.heap.size):∃ a' c' w',(Builtin.append_ #[83,83] 83 #[v,.slice (some ⟨w.heap.size,0,none⟩) 1 1]).run prog (w.alloc (.cells s.cells.toArray 87)) = .ok (.slice a' (l.length+1) c') w'∧sX w' base (.slice a' (l.length+1) c') (l++[s])∧(w.alloc (.cells s.cells.toArray 87)).grownBy w' v.ownBlock∧∀ g,(Value.slice a' (l.length+1) c').ownBlock=some g→v.ownBlock=some g∨w.heap.size≤g:=by
 obtain ⟨i0,hi,hz,b8,kQ⟩:=info_parts Xi;obtain ⟨W,hW⟩ : ∃ W,W=w.alloc (.cells s.cells.toArray 87):=⟨_,rfl⟩;have hsW:W.heap.size=w.heap.size+1:=by rw [hW];simp
 have me:=bM w s.cells.toArray 87;rw [← hW] at me;have ho:W.ownsRow base 87 5 v l.length (K7 l):=hW▸World.ownsRow.alloc h _;have ie:∀ j u,s.cells[j]?=some u→W.cell? ((⟨w.heap.size,0,none⟩ : Addr).add j)=some u:=fun j u hj=>by
  rw [bh,Nat.zero_add];obtain ⟨h1,h2⟩:=List.getElem?_eq_some_iff.1 hj;rw [← h2];exact me.2 j (by simpa using h1)
 obtain ⟨v',w',hr,aE,hg,_,sB⟩:=run_append_own_at (P:=prog) W base 83 83 87 i0 _ 5 48 underlying83 hi hz b8 kQ rfl (by decide) v l.length (K7 l) ho ⟨w.heap.size,0,none⟩ 1 1 s.cells rfl ie (WR s) (by unfold maxLen;omega) (by omega) (by omega)
 have gr:sX w' base v' (l++[s]):=by
  unfold sX;rw [ae,GH,show K7 [s]=s.cells by simp [K7]]
  exact aE
 obtain ⟨a',c',lM⟩:=gr.form;rw [ae,aQ] at lM;subst lM;refine ⟨a',c',w',hW▸hr,gr,hW▸hg,fun g Ii=>?_⟩
 rcases sB with h1 | h1
 ·exact .inl (h1▸Ii)
 ·rw [h1] at Ii;cases Ii;right;omega
def j8(tx:Nat):Nat × PD→S.Sh
 | (id,.leaf l)=>⟨76,id,tx,l.length,uy l⟩
 | (id,.br f lk)=>⟨66,id,tx,(lk.length:Int)+1,B.pZ f lk⟩
structure mI(pb:Nat)(w:World)(v:Value)(w':World)(v':Value):Prop where
 size:w.heap.size≤w'.heap.size
 block:∀ k,k<w.heap.size→k≠pb→v.ownBlock≠some k→w'.heap[k]?=w.heap[k]?
 own:∀ g,v'.ownBlock=some g→v.ownBlock=some g∨w.heap.size≤g
theorem mI.refl(pb:Nat)(w:World)(v:Value):mI pb w v w v:=⟨aj _,fun _ _ _ _=>rfl,fun _ h=>.inl h⟩
theorem mI.trans{pb:Nat}{w w1 w2:World}{v v1 v2:Value}(h:mI pb w v w1 v1)(k:mI pb w1 v1 w2 v2):mI pb w v w2 v2:=by
 refine ⟨ar h.size k.size,fun i hi h2 h3=>?_,fun g hg=>?_⟩
 ·rw [k.block i (aq hi h.size) h2 (fun e=>by
   rcases h.own i e with e' | e'
   ·exact h3 e'
   ·omega)]
  exact h.block i hi h2 h3
 ·rcases k.own g hg with e | e
  ·exact h.own g e
  ·exact .inr (ar h.size e)
theorem mI.below{pb:Nat}{w w':World}(v:Value)(h:Below w.heap.size w w'):mI pb w v w' v:=⟨h.size,fun k hk _ _=>h.block k hk,fun _ h=>.inl h⟩
structure p7(w0:World)(lo pb:Nat)(pv:Value)(P:List Nat)(tx:Nat)(w:World)(sv:Value)(Z:List S.Sh):Prop where
 eT:Below w0.heap.size w0 w
 row:B.au w pb #[pv,.int .u64 (tx:Int),sv,.nilIface] 127
 sh:sX w lo sv Z
 ord:w0.heap.size≤pb∧pb<lo
 lo:lo≤w.heap.size
 pg:lF w0 pv (Q.gZ P)
 pl:P.length≤1000000
section
variable {w0:World} {lo pb:Nat} {pv:Value} {P:List Nat} {tx:Nat} {w w':World} {sv ou:Value} {Z Z':List S.Sh}
theorem p7.keep(h:p7 w0 lo pb pv P tx w sv Z)(ht:mI pb w sv w' ou)(Y6:w'.os=w.os)(htp:w'.tape=w.tape)(hou:w'.output=w.output)(hr:B.au w' pb #[pv,.int .u64 (tx:Int),ou,.nilIface] 127)(hs:sX w' lo ou Z'):p7 w0 lo pb pv P tx w' ou Z':=by
 have n7:=h.lo;have ho:=h.ord;refine ⟨⟨Y6.trans h.eT.os,htp.trans h.eT.tape,hou.trans h.eT.output,ar h.eT.size ht.size,fun k hk=>?_⟩,hr,hs,h.ord,ar h.lo ht.size,h.pg,h.pl⟩
 exact (ht.block k (by omega) (by omega) (fun e=>by have:=(h.sh.dx e).1;omega)).trans (h.eT.block k hk)
theorem p7.below(h:p7 w0 lo pb pv P tx w sv Z)(hb:Below w.heap.size w w'):p7 w0 lo pb pv P tx w' sv Z :=
 h.keep (mI.below sv hb) hb.os hb.tape hb.output (h.row.below hb) (h.sh.same fun g hg=>hb.block g (h.sh.dx hg).2)
theorem p7.push(h:p7 w0 lo pb pv P tx w sv Z)(s:S.Sh)(hn:Z.length≤1000000):∃ a' c' w',(Builtin.append_ #[83,83] 83 #[sv,.slice (some ⟨w.heap.size,0,none⟩) 1 1]).run prog (w.alloc (.cells s.cells.toArray 87)) = .ok (.slice a' (Z.length+1) c') w'∧w'.frozen? ⟨pb,2,none⟩=false∧w'.cell? ⟨pb,2,none⟩=some sv∧p7 w0 lo pb pv P tx (w'.setCell ⟨pb,2,none⟩ (.slice a' (Z.length+1) c')) (.slice a' (Z.length+1) c') (Z++[s])∧mI pb w sv (w'.setCell ⟨pb,2,none⟩ (.slice a' (Z.length+1) c')) (.slice a' (Z.length+1) c'):=by
 have n7:=h.lo;have ho:=h.ord;obtain ⟨a',c',w',hr,kt,hg,aE⟩:=sX.push lo sv Z s w h.sh hn n7;have aO:=ai w (.cells s.cells.toArray 87);have b8:(w.alloc (.cells s.cells.toArray 87)).heap.size=w.heap.size+1:=by simp
 have pX:=hg.size;have fl:∀ b,b<lo→some b≠sv.ownBlock:=fun b hb e=>by
  have:=(h.sh.dx e.symm).1;omega
 have QT:∀ k,k<w.heap.size→some k≠sv.ownBlock→w'.heap[k]?=w.heap[k]?:=fun k hk h1=>(hg.block k (by omega) h1).trans (aO.block k hk)
 have bH:B.au w' pb #[pv,.int .u64 (tx:Int),sv,.nilIface] 127:=(QT pb h.row.lt (fl _ ho.2)).trans h.row;have dG:=bG.set pb 2 w' (.slice a' (Z.length+1) c');have iL:=dG.size;have yr:w.heap.size≤(w'.setCell ⟨pb,2,none⟩ (.slice a' (Z.length+1) c')).heap.size:=by omega
 have hth:mI pb w sv (w'.setCell ⟨pb,2,none⟩ (.slice a' (Z.length+1) c')) (.slice a' (Z.length+1) c'):=⟨yr,fun k hk h1 h2=>(dG.block k (by omega) h1).trans (QT k hk (fun e=>h2 e.symm)),aE⟩
 have J1:B.au (w'.setCell ⟨pb,2,none⟩ (.slice a' (Z.length+1) c')) pb #[pv,.int .u64 (tx:Int),.slice a' (Z.length+1) c',.nilIface] 127:=by
  unfold B.au at bH ⊢;rw [setCell_eq_setRow w' pb 2 _ _ (0,0) _ bH];exact setRow_heap w' pb _ _ _ (0,0) bH
 refine ⟨a',c',w',hr,bH.free 2,bH.cell 2 (by simp),h.keep hth (dG.os.trans (hg.os.trans aO.os)) (dG.tape.trans (hg.tape.trans aO.tape)) (dG.output.trans (hg.output.trans aO.output)) J1 (kt.same fun g Ii=>?_),hth⟩
 have:=kt.dx Ii;exact dG.block g this.2 (by omega)
end
end T
open Go.RowKit
theorem rG(v:Value)(l:List ByteArray)(w:World)(hm:dS l≤1152921504606846976)(hr:Ns w v l):Calls prog 241 #[v] w fun e w'=>e = .returned (.int .i64 ((dS l:Nat):Int))∧w=w':=by
 obtain ⟨a,cap,rfl,dj,hc⟩:=hr;have HC:=ab hc;obtain ⟨n,hn⟩ : ∃ n,n=l.length:=⟨_,rfl⟩;rw [← hn];have HN:=ab hn;have HM:=ab hm;have h2:n≤576460752303423488:=by
  have:dS l=2*l.length+(dZ l l.length).length:=rfl;omega
 have hw:IntKind.i64.wrap (2*(n:Int))=((fA l 0:Nat):Int):=by rw [IntKind.wrap_i64,pO];omega
 clear hc hn hm dj;go_enter func241,ntmps241;go_wp2;go_loop [3,11] (fun r i=>∃ k:Nat,k≤n∧i = .int .i64 k∧r = .int .i64 ((fA l k:Nat):Int)) (fun _ i=>n - (intOf i).toNat)
 case atStart=>exact ⟨0,aB _,rfl,rfl⟩
 case round =>
  obtain ⟨k,hk,rfl,rfl⟩:=hrel;clear hw;by_cases bO:k<n
  ·have cZ:k<l.length:=by have:=HN.out;omega
   obtain ⟨g,o,rfl,f1⟩:=HC.out k cZ;have HS:=ab (mB l k cZ);have HL:=ab (uw l (k+1) l.length (by omega) (aj _))
   obtain ⟨p,hp⟩ : ∃ p,p=fA l k:=⟨_,rfl⟩;rw [← hp] at HS ⊢;obtain ⟨q,hq⟩ : ∃ q,q=fA l (k+1):=⟨_,rfl⟩;rw [← hq] at HS HL;have HQ:=ab hq;generalize l[k]=x at *;have hw:IntKind.i64.wrap ((p:Int)+(x.size:Int))=(q:Int):=by
    rw [IntKind.wrap_i64];have h1:=HS.out;have h2:=HL.out;have h3:fA l l.length≤1152921504606846976:=HM.out;omega
   have dE:(k:Int)<(n:Int):=by omega
   clear hp hq HC;go_wp2;go_round
   case rel=>exact ⟨k+1,by omega,by go_num,by rw [← HQ.out]⟩
   case measure=>simp [intOf];omega
  ·have nG:k=n:=by omega
   have HF:Hid (fA l k=dS l):=by show _=_;rw [nG,HN.out];rfl
   obtain ⟨p,hp⟩ : ∃ p,p=fA l k:=⟨_,rfl⟩;rw [← hp] at HF ⊢;have dE:¬ (k:Int)<(n:Int):=by omega
   clear hp HC;go_wp2;go_ret;exact ⟨by rw [← HF.out];rfl,rfl⟩
theorem S7(l:List UInt8)(k:Nat)(x:UInt8):(dW l).set k (.int .u8 (x.toNat:Int))=dW (l.set k x):=by simp [dW,List.map_set]
theorem nS.set{t:TypeId}{w:World}{g:Nat}{l:List UInt8}(h:nS t w g l)(k:Nat)(x:UInt8):nS t (w.setCell ⟨g,k,none⟩ (.int .u8 (x.toNat:Int))) g (l.set k x):=by
 unfold nS;rw [heap_setCell_same w g k _ t _ h,← S7];simp
theorem nS.frozen{t:TypeId}{w:World}{g:Nat}{l:List UInt8}(h:nS t w g l)(k:Nat):w.frozen? ⟨g,k,none⟩=false:=frozen_of_row _ _ _ _ _ h
theorem DB(t:TypeId)(b i e n:Nat)(l:List UInt8)(w:World)(he:e≤4072)(hl:l.length=n)(hi:2*i+1<n)(hn:n≤4072)(hr:nS t w b l):Calls prog 242 #[.slice (some ⟨b,0,none⟩) n n,.int .i64 (i:Int),.int .i64 (e:Int)] w fun ev w'=>ev = .returned (.tuple #[])∧nS t w' b ((l.set (2*i) (Ig e)).set (2*i+1) (Ga e))∧bG b w w':=by
 obtain ⟨p,hp⟩ : ∃ p,p=2*i:=⟨_,rfl⟩;obtain ⟨q,hq⟩ : ∃ q,q=p+1:=⟨_,rfl⟩;have hw:IntKind.i64.wrap (2*(i:Int))=(p:Int):=by rw [IntKind.wrap_i64];omega
 have Sw:IntKind.i64.wrap ((p:Int)+1)=(q:Int):=by rw [IntKind.wrap_i64];omega
 have h1:(p:Int)<(n:Int):=by omega
 have h2:(q:Int)<(n:Int):=by omega
 have Gl:p<n:=by omega
 have Mr:q<n:=by omega
 have hpq:¬ q=p:=by omega
 have c1:=hr.cell p (by omega)
 have c2:=hr.cell q (by omega)
 have z1:=hr.frozen p;have z2:=hr.frozen q;have HR:Hid (nS t ((w.setCell ⟨b,p,none⟩ (.int .u8 ((Ig e).toNat:Int))).setCell ⟨b,q,none⟩ (.int .u8 ((Ga e).toNat:Int))) b ((l.set (2*i) (Ig e)).set (2*i+1) (Ga e))):=by
  have:=(hr.set p (Ig e)).set q (Ga e);rw [hq,hp] at this;rw [hq,hp];exact this
 have HS:Hid (bG b w ((w.setCell ⟨b,p,none⟩ (.int .u8 ((Ig e).toNat:Int))).setCell ⟨b,q,none⟩ (.int .u8 ((Ga e).toNat:Int)))):=(bG.set b p w _).trans (bG.set b q _ _);rw [Bc e he,AR] at HR HS;have e1:((e / 256:Nat):Int)=(e:Int) / 256:=by omega
 have e2:((e % 256:Nat):Int)=(e:Int) % 256:=by omega
 rw [e1,e2] at HR HS;generalize l[p]=y1 at *;generalize l[q]=y2 at *;clear hp hq hl hi hr e1 e2;go_enter func242,ntmps242;go_wp2;go_end0
 exact ⟨rfl,HR.out,HS.out⟩
theorem Na(l:List ByteArray)(k:Nat)(hk:k<l.length):((splice (gR l k) (fA l k) l[k].data.toList).set (2*k) (Ig (fA l (k+1)))).set (2*k+1) (Ga (fA l (k+1)))=gR l (k+1):=by
 have he:fA l k=(fU l k++(List.replicate (2*(l.length - k)) (0:UInt8)++dZ l k)).length:=by
  simp only [ae,bB,dQ];have:fA l k=2*l.length+(dZ l k).length:=rfl;omega
 have h1:gR l k=(fU l k++(List.replicate (2*(l.length - k)) (0:UInt8)++dZ l k))++List.replicate (4072 - fA l k) 0:=by
  unfold gR;simp only [ay]
 have h2:splice (gR l k) (fA l k) l[k].data.toList=(fU l k++(List.replicate (2*(l.length - k)) (0:UInt8)++dZ l k))++(l[k].data.toList++List.replicate (4072 - fA l (k+1)) 0):=by
  unfold splice;rw [h1];conv=>lhs;rw [he]
  rw [ep,← List.drop_drop,fL,← he,nK,bsize,mB l k hk,Nat.sub_sub]
 rw [h2,ay,ay,show 2*(l.length - k)=2*(l.length - (k+1))+1+1 by omega,List.replicate_succ,List.replicate_succ]
 have hs:=dQ l k;rw [b6 _ _ (by omega),hs,de]
 simp only [List.cons_append,List.set_cons_zero];rw [b6 _ _ (by omega),hs,show 2*k+1 - 2*k=1 by omega]
 simp only [List.set_cons_succ,List.set_cons_zero];unfold gR;rw [vp l k hk,fU];simp [List.append_assoc]
theorem Og:∀ w,(zeroValue 333).run prog w = .ok (.agg (dW (List.replicate 4072 0)).toArray) w:=(zero_of_info (P:=prog) (t:=333) (n:=4072) (v:=.agg (dW (List.replicate 4072 0)).toArray) (by kernel_rfl)).1
theorem Tj(b:Nat)(w:World):(Instr.sliceAt 333 (.pointer (some ⟨b,0,none⟩)) none none none).run prog w = .ok (.slice (some ⟨b,0,none⟩) 4072 4072) w:=by kernel_rfl
theorem wM:prog.arrayLen 333=4072:=by kernel_rfl
theorem FO:prog.elem 333=5:=by kernel_rfl
theorem Ti(b e:Nat)(h:e≤4072):∃ o,(e<4072→o=e)∧o≤e∧∀ w,(Instr.sliceAt 333 (.pointer (some ⟨b,0,none⟩)) (some (.int .i64 (e:Int))) none none).run prog w = .ok (.slice (some ⟨b,o,none⟩) (4072 - e) (4072 - e)) w:=by
 by_cases h4:e=4072
 ·refine ⟨0,fun h'=>by omega,aB _,fun w=>?_⟩
  have hz:(sizeOf 5).run prog w = .ok 1 w:=by kernel_rfl
  rw [run_sliceAt_array_l w 333 ⟨b,0,none⟩ (by kernel_rfl) .i64 _ (by omega) (by rw [wM];omega),wM,FO,bt,hz]
  subst h4;rfl
 ·refine ⟨e,fun _=>rfl,aj _,fun w=>?_⟩
  have hz:(sizeOf 5).run prog w = .ok 1 w:=by kernel_rfl
  rw [run_sliceAt_array_l w 333 ⟨b,0,none⟩ (by kernel_rfl) .i64 _ (by omega) (by rw [wM];omega),wM,FO,bt,hz]
  by_cases h0:e=0
  ·subst h0;rfl
  ·simp [slicedAt,Addr.add,show ¬ 4072=e by omega,h0]
theorem US{t:TypeId}{w:World}{g o cap n:Nat}{l:List UInt8}(s:ByteArray)(hr:nS t w g l)(hn:s.size≤n)(eF:o+s.size≤l.length):∃ w2,(Builtin.copy_ #[145,9] 3 #[.slice (some ⟨g,o,none⟩) n cap,.string s]).run prog w = .ok (.int .i64 (s.size:Int)) w2∧nS t w2 g (splice l o s.data.toList)∧bG g w w2:=by
 have bw:=Lib.run_copy_row_string (P:=prog) w 145 9 3 5 g o n cap s _ t underlying145 uT hr hn (by simp [a7];omega)
 refine ⟨_,bw,?_,bG.setRow g w _⟩;have bH:=setRow_heap w g _ ((dW l).toArray.toList.take o++Lib.byteCells s.data.toList++(dW l).toArray.toList.drop (o+s.size)).toArray t _ hr;unfold nS;rw [bH,← qu,splice,a7,bsize,ay];rfl
def afW(A:Nat→Addr)(l:List ByteArray)(e:Ending):Prop :=
 (dS l≤4072∧e = .returned (.tuple #[.string ⟨(jA l).toArray⟩,.nilIface]))∨(¬ dS l≤4072∧e = .returned (.tuple #[.string ⟨#[]⟩,.iface 360 (.pointer (some (A 2)))]))
theorem P6(a:Option Addr)(cap n:Nat)(l:List ByteArray)(w:World)(hn:n=l.length)(hf:dS l≤4072)(hc:∀ j (h:j<l.length),∃ g o,a=some ⟨g,o,none⟩∧w.cell? ⟨g,o+j,none⟩=some (.string l[j]))(hle:n≤cap):Calls prog 223 #[.slice a n cap] w fun e w'=>e = .returned (.tuple #[.string ⟨(jA l).toArray⟩,.nilIface])∧Below w.heap.size w w':=by
 have jc:=ab (rG (.slice a n cap) l w (by omega) ⟨a,cap,by rw [hn],by rw [← hn];exact hle,hc⟩)
 have b8:¬ (4072:Int)<((dS l:Nat):Int):=by omega
 have h2n:2*n≤4072:=by
  have:dS l=2*l.length+(dZ l l.length).length:=rfl;omega
 obtain ⟨zc,YV,z4⟩ : ∃ zc,zc=(dW (List.replicate 4072 0)).toArray∧∀ w,(zeroValue 333).run prog w = .ok (.agg zc) w:=⟨_,rfl,Og⟩;obtain ⟨b,hb⟩ : ∃ b,b=w.heap.size:=⟨_,rfl⟩;have bH:nS 333 (w.alloc (.cells zc 333)) b (gR l 0):=by rw [FE l hf,YV,hb];exact OZ _ _ _
 have aO:=ai w (.cells zc 333);have Hu:IntKind.i64.wrap (2*(n:Int))=((fA l 0:Nat):Int):=by rw [IntKind.wrap_i64,pO,hn];omega
 have sl:=Tj b;have mL:=ab bH;have bT:=ab aO;have HC:=ab hc;have HN:=ab hn;have HF:=ab hf;have HB:=ab hb;have kR:=ab (si l hf);obtain ⟨sz,Qj⟩ : ∃ sz,sz=dS l:=⟨_,rfl⟩;rw [← Qj] at jc b8;clear bH aO hc hn hf YV Qj hb hle;go_enter func223,ntmps223;go_wp2_with fail;refine jc.out.mono ?_
 rintro e w' ⟨rfl,rfl⟩;go_wp2_with fail;rw [← HB.out];generalize w.alloc (.cells zc 333)=W1 at *;clear z4 jc;go_loopw [5,17] (fun en i wr=>∃ k:Nat,k≤n∧i = .int .i64 k∧en = .int .i64 ((fA l k:Nat):Int)∧nS 333 wr b (gR l k)∧Below w.heap.size w wr) (fun _ i _=>n - (intOf i).toNat)
 case atStart=>exact ⟨0,aB _,rfl,rfl,mL.out,bT.out⟩
 case round =>
  obtain ⟨k,hk,rfl,rfl,Ue,bQ⟩:=hrel;clear mL bT Hu;by_cases bO:k<n
  ·have cZ:k<l.length:=by have:=HN.out;omega
   obtain ⟨g,o,rfl,f0⟩:=HC.out k cZ;have f1:wr.cell? ⟨g,o+k,none⟩=some (.string l[k]):=(bQ.cell (p:=⟨g,o+k,none⟩) (World.block_lt_of_cell? w _ f0)).trans f0;have HS:=ab (mB l k cZ);have HL:=ab (wK HF.out (show k+1≤l.length by omega))
   have gy:=ab (Na l k cZ);have Vp:=ab (II l k HF.out (by omega))
   have HGE:=ab (UI l (k+1));obtain ⟨x,hx⟩ : ∃ x,x=l[k]:=⟨_,rfl⟩;rw [← hx] at f1 HS gy;obtain ⟨p,hp⟩ : ∃ p,p=fA l k:=⟨_,rfl⟩;obtain ⟨q,hq⟩ : ∃ q,q=fA l (k+1):=⟨_,rfl⟩;rw [← hp] at HS gy ⊢;rw [← hq] at HS gy HL HGE;have HQ:=ab hq;obtain ⟨so,kP,jf,nP⟩:=Ti b p (by have:=HS.out;have:=HL.out;omega)
   obtain ⟨w2,zr,iM,iL⟩:=US (n:=4072 - p) (cap:=4072 - p) (o:=so) x Ue (by have:=HS.out;have:=HL.out;omega) (by rw [Vp.out];have:=HS.out;have:=HL.out;omega)
   have aaB:splice (gR l k) so x.data.toList=splice (gR l k) p x.data.toList:=by
    by_cases h4:p<4072
    ·rw [kP h4]
    ·have Su:x.data.toList=[]:=List.length_eq_zero_iff.1 (by rw [bsize];have:=HS.out;have:=HL.out;omega)
     rw [Su];simp [splice]
   rw [aaB] at iM;have Ba:(splice (gR l k) p x.data.toList).length=4072:=by
    rw [length_splice _ _ _ (by rw [bsize,Vp.out];have:=HS.out;have:=HL.out;omega)];exact Vp.out
   have mT:=ab (DB 333 b k q 4072 _ w2 HL.out Ba (by have:=HN.out;omega) (aj _) iM)
   rw [gy.out] at mT;have hw:IntKind.i64.wrap ((p:Int)+(x.size:Int))=(q:Int):=by
    rw [IntKind.wrap_i64];have:=HS.out;have:=HL.out;omega
   have bL:Hid (Below w.heap.size w w2):=iL.below bQ (by rw [HB.out];exact aj _)
   have dE:(k:Int)<(n:Int):=by omega
   clear hx hp hq HC iM iL Ue bQ aaB Ba f0 kP jf;go_wp2_with fail;refine mT.out.mono ?_
   rintro e w3 ⟨rfl,nF,Qo⟩;have SS:=ab nF;have eH:Hid (Below w.heap.size w w3):=Qo.below bL.out (by rw [HB.out];exact aj _)
   clear nF Qo zr f1;go_wp2;go_roundw
   case rel=>exact ⟨k+1,by omega,by go_num,by rw [← HQ.out],SS.out,eH.out⟩
   case measure=>simp [intOf];omega
  ·have nG:k=n:=by omega
   have dE:¬ (k:Int)<(n:Int):=by omega
   have Y3:nS 333 wr b (jA l):=by rw [nG,HN.out,IJ] at Ue;exact Ue
   have yA:=lI wr (.slice (some ⟨b,0,none⟩) 4072 4072) (jA l) ⟨some ⟨b,0,none⟩,4072,by rw [kR.out],fun j hj=>⟨b,0,rfl,by rw [Nat.zero_add];exact Y3.cell j hj⟩⟩ (by rw [kR.out];decide)
   have kB:=ab bQ;obtain ⟨p,hp⟩ : ∃ p,p=fA l k:=⟨_,rfl⟩;rw [← hp];obtain ⟨L,hL⟩ : ∃ L,L=jA l:=⟨_,rfl⟩;rw [← hL] at yA;have HLQ:=ab hL;clear hp Ue Y3 bQ HC hL;go_wp2;go_ret2;exact ⟨by rw [← HLQ.out];rfl,kB.out⟩
theorem sg(A:Nat→Addr)(v:Value)(l:List ByteArray)(w:World)(hm:dS l≤1152921504606846976)(hr:Ns w v l)(hE:dI 4 fe A w):Calls prog 223 #[v] w fun e w'=>afW A l e∧Below w.heap.size w w':=by
 by_cases hf:dS l≤4072
 ·obtain ⟨a,cap,rfl,dj,hc⟩:=hr;refine (P6 a cap l.length l w rfl hf hc dj).mono ?_
  rintro e w' ⟨rfl,hb⟩;exact ⟨.inl ⟨hf,rfl⟩,hb⟩
 ·have jc:=ab (rG v l w hm hr);have b8:(4072:Int)<((dS l:Nat):Int):=by omega
  have c0:w.cell? ⟨2,0,none⟩=some (.iface 360 (.pointer (some (A 2)))):=(hE.1 2 (by decide)).1
  have HF:=ab hf;obtain ⟨sz,Qj⟩ : ∃ sz,sz=dS l:=⟨_,rfl⟩;rw [← Qj] at jc b8;clear hf hE hr hm Qj;go_enter func223,ntmps223;go_wp2_with fail;refine jc.out.mono ?_
  rintro e w' ⟨rfl,rfl⟩;go_wp2;go_quiet (fail)
  go_wp2;go_ret2;exact ⟨.inr ⟨HF.out,rfl⟩,aA (Below.refl _ _) _⟩
def xh(l:List Pr)(k:Nat):List Value:=strs ((l.take k).map fw)++List.replicate (l.length - k) (.string ByteArray.empty)
theorem Oy(l:List Pr)(k:Nat)(h:k<l.length):(xh l k).set k (.string (fw l[k]))=xh l (k+1):=by
 have hl:(strs ((l.take k).map fw)).length=k:=by rw [j7,az,ag];omega
 unfold xh;rw [b6 _ _ (by omega),hl,de,ax h,bz,ow,show l.length - k=l.length - (k+1)+1 by omega,List.replicate_succ,List.set_cons_zero,ay]
 rfl
theorem Oz(l:List Pr)(k:Nat)(h:k≤l.length):(xh l k).length=l.length:=by
 unfold xh;rw [ae,j7,az,ag,bB];omega
theorem KL(l:List Pr):xh l 0=List.replicate l.length (.string ByteArray.empty):=by simp [xh,strs]
theorem OA(l:List Pr):xh l l.length=strs (l.map fw):=by simp [xh]
theorem xR{w w':World}{base e n:Nat}{v:Value}{xs:List Value}(h:w.ownsRow base e 1 v n xs)(hb:Below w.heap.size w w'):w'.ownsRow base e 1 v n xs:=by
 refine ⟨h.1,?_⟩;rcases h.2 with h' | ⟨g,cap,cur,h',h1,h2,hr⟩
 ·exact .inl h'
 ·refine .inr ⟨g,cap,cur,h',h1,?_,hr⟩;have hg:g<w.heap.size:=by
   rcases a6 g w.heap.size with h' | h'
   ·exact h'
   ·rw [aZ h'] at h2;cases h2
  rw [hb.block g hg];exact h2
def agX(A:Nat→Addr)(l:List Pr)(e:Ending):Prop :=
 (wL l true=none∧e = .returned (.tuple #[.string (uy l),.nilIface]))∨(∃ k,wL l true=some k∧e = .returned (.tuple #[.string ⟨#[]⟩,im A (some k)]))
theorem PX(A:Nat→Addr)(v:Value)(l:List Pr)(w:World)(cM:SQ l)(hm:l.length≤140737488355328)(hr:gM w v l)(hE:jC A w):Calls prog 182 #[v] w fun e w'=>agX A l e∧Below w.heap.size w w':=by
 have nM:=ab (nj A v l true w cM hm hr hE);have HE:=ab hE;obtain ⟨i0,hi,hz,b8,kQ⟩:=info_parts info9;obtain ⟨a,cap,rfl,dj,_,hc⟩:=hr;have HC:=ab hc;cases kV:wL l true with
 | some k =>
  rw [kV] at nM;have EV:=fun W=>eY (some (A k)) W
  have HV:Hid (wL l true=some k):=kV;clear hc dj hE cM hi hz b8 kQ kV;go_enter func182,ntmps182;go_wp2_with fail;refine nM.out.mono ?_
  rintro e w1 ⟨rfl,aO⟩;unfold im;go_wp2;go_ret2;exact ⟨.inr ⟨k,HV.out,rfl⟩,aO⟩
 | none =>
  rw [kV] at nM;obtain ⟨h1,h2,h3,h4,h5⟩:=sJ kV;have hlen:=gT l;have Yz:=ab h1;have jc:Hid (dS (l.map fw)≤4072):=by rw [qC];exact h3
  have yu:l.length≤814:=by omega
  have HV:Hid (wL l true=none):=kV;obtain ⟨n,hn⟩ : ∃ n,n=l.length:=⟨_,rfl⟩;rw [← hn] at yu nM ⊢;have HN:=ab hn;clear hc dj hE cM kV h1 h2 h3 h4 h5 hlen hn hm;go_enter func182,ntmps182;go_wp2_with fail;refine nM.out.mono ?_
  rintro e w1 ⟨rfl,aO⟩;obtain ⟨wm,nZ,fR,qm⟩:=run_make_full (P:=prog) w1 w1.heap.size 231 9 i0 _ 1 underlying231 hi hz b8 .i64 .i64 n (by rw [kQ];omega) (by unfold maxLen;omega) (aj _)
  have nY:(madeCells (Value.string ByteArray.empty).cells (n*1)).toList=xh l 0:=by
   rw [KL,Nat.mul_one,HN.out];exact toList_madeCells_one _ _
  rw [nY] at fR;have CU:Below w1.heap.size w1 wm:=(Below.refl _ _).grown qm (aj _) (fun j hj=>by cases hj)
  obtain ⟨b,hb⟩ : ∃ b,b=w1.heap.size:=⟨_,rfl⟩;rw [← hb] at nZ fR;have HB:=ab hb;have HO:=ab fR;have Kv:=ab (Below.next aO CU);have bT:=ab aO;clear hb fR CU qm hi hz b8 kQ nY aO nM;unfold im;go_wp2;clear nZ;go_loopw [18] (fun i wr=>∃ k:Nat,k≤n∧i = .int .i64 k∧wr.ownsRow b 9 1 (.slice (some ⟨b,0,none⟩) n n) n (xh l k)∧Below w.heap.size w wr) (fun i _=>n - (intOf i).toNat)
  case atStart=>exact ⟨0,aB _,rfl,HO.out,Kv.out⟩
  case round =>
   obtain ⟨k,hk,rfl,aE,bQ⟩:=hrel;clear HO Kv;by_cases bO:k<n
   ·have cZ:k<l.length:=by have:=HN.out;omega
    obtain ⟨g,o,rfl,f1,f2⟩:=HC.out k cZ;have c1:wr.cell? ⟨g,o+k*2,none⟩=some (.string l[k].1):=(bQ.cell (p:=⟨g,o+k*2,none⟩) (World.block_lt_of_cell? w _ f1)).trans f1;have c2:wr.cell? ⟨g,o+k*2+1,none⟩=some (.string l[k].2):=(bQ.cell (p:=⟨g,o+k*2+1,none⟩) (World.block_lt_of_cell? w _ f2)).trans f2;have A6:=dY (Yz.out l[k] (aJ _));have iB:=ab (Oy l k cZ);have fc:=ai wr (.cells #[.string l[k].1,.string l[k].2] 52);have rA:=ab (xR aE fc);have Ak:=ab (Below.next bQ fc);have HZ:=ab (fun W=>RG l[k] W A6.2.1 (by omega))
    obtain ⟨p,hp⟩ : ∃ p,p=l[k]:=⟨_,rfl⟩;rw [← hp] at c1 c2 iB rA Ak HZ;have iq:=ab (Oz l k (by omega))
    have dE:(k:Int)<(n:Int):=by omega
    have j0:(0:Int)≤(k:Int):=by omega
    clear hp HC f1 f2 bQ aE A6 fc;go_wp2_with fail;refine (HZ.out _).mono ?_
    rintro e w2 ⟨rfl,aV⟩;have kP:=xR rA.out aV;have q1:∃ u,w2.cell? ⟨b,k,none⟩=some u:=by
     rw [World.ownsRow.cellAt kP k (by omega)]
     exact ⟨_,af (by rw [iq.out];exact cZ)⟩
    obtain ⟨u,q1⟩:=q1;have z1:w2.frozen? ⟨b,k,none⟩=false:=World.ownsRow.frozenAt kP k;obtain ⟨z,hz⟩ : ∃ z,z=fw p:=⟨_,rfl⟩;rw [← hz] at iB ⊢;have eZ:=(World.ownsRow.stored kP k (.string z)).1;rw [iB.out] at eZ;have jx:=ab eZ;have bL:Hid (Below w.heap.size w (w2.setCell ⟨b,k,none⟩ (.string z))):=(Below.next Ak.out aV).setCell (by rw [HB.out];exact bT.out.size) _
    clear aV Ak HZ c1 c2 kP eZ hz iB rA;go_wp2;go_roundw
    case rel=>exact ⟨k+1,by omega,by go_num,jx.out,bL.out⟩
    case measure=>simp [intOf];omega
   ·have nG:k=l.length:=by have:=HN.out;omega
    rw [nG,OA] at aE;have hs:=(fV aE).strs;have HLY:=ab (sg A _ (l.map fw) wr (by have:=jc.out;omega) hs (HE.out.below bQ).1)
    have kB:=ab bQ;have dE:¬ (k:Int)<(n:Int):=by have:=HN.out;omega
    have Ww:=ab nG;clear HC bQ aE nG hs;go_wp2_with fail;refine HLY.out.mono ?_
    rintro e w3 ⟨hv,bW⟩;have je:e = .returned (.tuple #[.string (uy l),.nilIface]):=by
     rcases hv with ⟨_,h⟩ | ⟨h,_⟩
     ·exact h
     ·exact absurd jc.out h
    subst je;have eH:=ab (Below.next kB.out bW);clear hv bW HLY;go_wp2;go_ret2;exact ⟨.inl ⟨HV.out,rfl⟩,eH.out⟩
namespace B
theorem IK(n:Nat)(_h:n≤255):bN n 1=[UInt8.ofNat n]:=by
 unfold bN qV kF;simp [List.range,List.range.loop]
theorem rP{w:World}{base g m c:Nat}{l:List UInt8}(h:w.ownsRow base 5 1 (.slice (some ⟨g,0,none⟩) m c) m (dW l))(hl:l.length=m):Wi w (.slice (some ⟨g,0,none⟩) m c) l :=
 ⟨_,_,by rw [hl],fun j hj=>⟨g,0,rfl,by rw [Nat.zero_add,World.ownsRow.cellAt h j (by omega)];exact iC l j hj⟩⟩
def LQ(n:Nat):ByteArray:=⟨[UInt8.ofNat n].toArray⟩
theorem FA(p:Lk):LQ p.1.size++p.1++ko p.2.toNat=mE p:=by
 refine ib ?_
 rw [jT];simp [LQ,ko]
theorem Bq(m:Nat)(w:World)(hm:m<1048576):Calls prog 224 #[.int .i64 (m:Int)] w fun e w'=>e = .returned (.string (ko m))∧Below w.heap.size w w':=by
 have HP:=ab (xH m 4 w (by omega) (by decide) (by decide) (by omega))
 have w1:(m:Int) % 18446744073709551616=(m:Int):=by omega
 have HL:=ab (eE m 4 (by decide))
 go_enter func224,ntmps224;go_wp2_with fail;refine HP.out.mono ?_
 rintro e w2 ⟨g,c2,rfl,aE,hb⟩;have cv:=lI w2 _ _ (rP aE HL.out) (by rw [HL.out];decide)
 have HB:=ab hb;clear aE hb HP;obtain ⟨cc,uf⟩ : ∃ cc,cc=ko m:=⟨_,rfl⟩;have zA:=ab uf;have hce:(⟨(bN m 4).toArray⟩ : ByteArray)=cc:=by rw [uf];rfl
 rw [hce] at cv;clear uf hce;go_wp2;go_ret;exact ⟨by rw [← zA.out];rfl,HB.out⟩
theorem Hr(key:ByteArray)(w:World)(h1:key.size≤255):Calls prog 243 #[.string key] w fun e w'=>e = .returned (.string (LQ key.size))∧Below w.heap.size w w':=by
 have HP:=ab (xH key.size 1 w (by omega) (by decide) (by decide) (by omega))
 have Vq:=ab (IK key.size h1);have w1:(key.size:Int) % 18446744073709551616=(key.size:Int):=by omega
 go_enter func243,ntmps243;go_wp2_with fail;refine HP.out.mono ?_
 rintro e w2 ⟨g,c2,rfl,aE,hb⟩;rw [Vq.out] at aE;have cv:=lI w2 _ _ (rP aE rfl) (by simp)
 have HB:=ab hb;clear aE hb HP;obtain ⟨cc,uf⟩ : ∃ cc,cc=LQ key.size:=⟨_,rfl⟩;have zA:=ab uf;have hce:(⟨[UInt8.ofNat key.size].toArray⟩ : ByteArray)=cc:=by rw [uf];rfl
 rw [hce] at cv;clear uf hce;go_wp2;go_ret;exact ⟨by rw [← zA.out];rfl,HB.out⟩
theorem LO(p:Lk)(w:World)(hp:gE p=true):Calls prog 225 #[.agg #[.string p.1,.int .i64 p.2]] w fun e w'=>e = .returned (.string (mE p))∧Below w.heap.size w w':=by
 obtain ⟨h1,h2,h3,h4⟩:=jN hp;obtain ⟨m,hm⟩ : ∃ m:Nat,p.2=(m:Int):=⟨p.2.toNat,by omega⟩
 have wQ:=ab (FA p);rw [hm] at wQ ⊢;rw [bt] at wQ;have J5:m<1048576:=by omega
 have q0:=ai w (.cells #[.string p.1,.int .i64 (m:Int)] 179);have x0:=au.new w #[.string p.1,.int .i64 (m:Int)] 179;generalize sW:w.alloc (.cells #[.string p.1,.int .i64 (m:Int)] 179)=W0 at *;have p0:=x0.c0;have p1:=x0.c1;have HX:=ab x0;have HQ:=ab q0;have HK:Hid (∀ W,Calls prog 243 #[.string p.1] W fun e w'=>e = .returned (.string (LQ p.1.size))∧Below W.heap.size W w'):=fun W=>Hr p.1 W h2
 have HC:Hid (∀ W,Calls prog 224 #[.int .i64 (m:Int)] W fun e w'=>e = .returned (.string (ko m))∧Below W.heap.size W w'):=fun W=>Bq m W J5
 obtain ⟨t1,EH⟩ : ∃ t,t=LQ p.1.size:=⟨_,rfl⟩;obtain ⟨t2,tX⟩ : ∃ t,t=ko m:=⟨_,rfl⟩;have z1:t1.size=1:=by rw [EH];rfl
 have z2:t2.size=4:=by rw [tX];exact qZ m
 rw [← EH] at HK wQ;rw [← tX] at HC wQ;have a1:∀ w,(Op.stringOp .add t1 p.1).run prog w = .ok (.string (t1++p.1)) w:=fun w=>run_string_add_sum (P:=prog) (w:=w) _ _ (by rw [z1];omega)
 have a2:∀ w,(Op.stringOp .add (t1++p.1) t2).run prog w = .ok (.string (t1++p.1++t2)) w:=fun w=>run_string_add_sum (P:=prog) (w:=w) _ _ (by rw [ByteArray.size_append,z1,z2];omega)
 have zp:W0.heap.size≤W0.heap.size:=aj _;clear h1 h2 h3 h4 hm J5 q0 x0 EH tX hp;go_enter func225,ntmps225;go_wp2_with fail;go_region_held3 (fun w'=>w'.cell? ⟨w.heap.size,0,none⟩=some (.string p.1)∧w'.cell? ⟨w.heap.size,1,none⟩=some (.int .i64 (m:Int))) (go_keep)
  (first
   | (go_at_call 243;refine (HK.out _).mono ?_;rintro e w1 ⟨rfl,aO⟩;have Ux:Below W0.heap.size W0 w1:=(by first | exact Below.next bL.out aO | exact dy aO);have bT:=ab Ux;have m0:=(HX.out.below Ux).c0;have m1:=(HX.out.below Ux).c1;clear aO Ux)
   | (go_at_call 224;refine (HC.out _).mono ?_;rintro e w2 ⟨rfl,aV⟩;have Uw:Below W0.heap.size W0 w2:=(by first | exact Below.next bT.out aV | exact dy aV);have bL:=ab Uw;have n0:=(HX.out.below Uw).c0;have n1:=(HX.out.below Uw).c1;clear aV Uw))
 all_goals
  go_wp2;go_ret;exact ⟨by rw [← wQ.out];rfl,Below.next HQ.out (by first | exact bL.out | exact bT.out)⟩
theorem O9(base:Nat)(v:Value)(xs:List ByteArray)(x:ByteArray)(t:TypeId)(w w0:World)(B n:Nat)(hn:xs.length=n)(aE:w.ownsRow base 9 1 v n (strs xs))(hb:(n+1)*16≤140737488355328)(dd:base≤w.heap.size)(hB:B≤base)(h0:Below B w0 w):∃ a' eO w',(Builtin.append_ #[231,231] 231 #[v,.slice (some ⟨w.heap.size,0,none⟩) 1 1]).run prog (w.alloc (.cells #[.string x] t)) = .ok (.slice a' (n+1) eO) w'∧w'.ownsRow base 9 1 (.slice a' (n+1) eO) (n+1) (strs (xs++[x]))∧Below B w0 w'∧w.heap.size≤w'.heap.size:=by
 subst hn;have hr:lF (w.alloc (.cells #[.string x] t)) (.slice (some ⟨w.heap.size,0,none⟩) 1 1) [.string x]:=by
  have me:=bM w #[.string x] t;refine ⟨_,_,rfl,aj _,fun h=>(by cases h),fun j u hj=>⟨_,_,rfl,?_⟩⟩
  have Gg:j=0:=by
   have:=(List.getElem?_eq_some_iff.1 hj).1;simpa using this
  subst Gg;cases hj;exact me.2 0 (by simp)
 obtain ⟨a',eO,w',bw,gr,hg⟩:=jW 231 9 _ 16 info9 underlying231 rfl base xs.length v (strs xs) _ (World.ownsRow.alloc aE _) _ _ hr (fun u hu=>by simp at hu;subst hu;rfl) (by simpa using hb) (by decide) (by simp;omega)
 refine ⟨a',eO,w',bw,by rw [ow];exact gr,?_,?_⟩
 ·exact (h0.alloc (ar hB dd) _).grown hg (by simp;omega) (fun k hk=>ar hB (World.ownsRow.lt aE k hk).1)
 ·have:=hg.size;simp at this
  omega
def adh(A:Nat→Addr)(f:Int)(l:List Lk)(e:Ending):Prop :=
 (lz f l true=none∧e = .returned (.tuple #[.string (pZ f l),.nilIface]))∨(∃ k,lz f l true=some k∧e = .returned (.tuple #[.string ⟨#[]⟩,im A (some k)]))
theorem RM(A:Nat→Addr)(f:Int)(v:Value)(l:List Lk)(w:World)(cM:Wj l)(hm:l.length≤5864062014805)(hr:dm w v l)(hE:p9 A w):Calls prog 185 #[.agg #[.int .i64 f,v]] w fun e w'=>adh A f l e∧Below w.heap.size w w':=by
 obtain ⟨a,cap,hv⟩:=hr.form;subst hv;obtain ⟨n,hn⟩ : ∃ n,n=l.length:=⟨_,rfl⟩;rw [← hn] at hr ⊢;have q0:=ai w (.cells #[.int .i64 f,.slice a n cap] 150);have x0:=au.new w #[.int .i64 f,.slice a n cap] 150;generalize sW:w.alloc (.cells #[.int .i64 f,.slice a n cap] 150)=W0 at *;have p0:=x0.c0;have p1:=x0.c1;have HX:=ab x0;have HQ:=ab q0;have HE:=ab (hE.below q0);have HR:=ab (hr.below q0);have HN:=ab hn;have nM:=ab (rh A f _ l true W0 cM hm (hr.below q0) (hE.below q0));cases kV:lz f l true with
 | some k =>
  rw [kV] at nM;have EV:=fun W=>eY (some (A k)) W
  have HV:Hid (lz f l true=some k):=kV;clear hr hE cM kV q0 x0 hn hm;go_enter func185,ntmps185;go_wp2_with fail;refine nM.out.mono ?_
  rintro e w1 ⟨rfl,aO⟩;have HB:=ab (Below.next HQ.out aO);clear aO;unfold im;go_wp2;go_ret2;exact ⟨.inr ⟨k,HV.out,rfl⟩,HB.out⟩
 | none =>
  rw [kV] at nM;obtain ⟨h1,h2,h3,h4,h5,h6,h7⟩:=iX kV;have hlen:=py l;have Yz:=ab h3;have jc:Hid (dS (dA f l)≤4072):=by rw [ox];exact h6
  have yu:n≤581:=by omega
  have HV:Hid (lz f l true=none):=kV;obtain ⟨m,jD⟩ : ∃ m:Nat,f=(m:Int):=by
   have:2≤f∧f<1048576:=of_decide_eq_true h2;exact ⟨f.toNat,by omega⟩
  have J5:m<1048576:=by
   have:2≤f∧f<1048576:=of_decide_eq_true h2;omega
  have HC:=ab (fun W=>Bq m W J5)
  subst jD;have Sm:Hid ([ko m]=dA (m:Int) (l.take 0)):=by show _=_;simp [dA]
  clear hr hE cM kV h1 h2 h3 h4 h5 h6 h7 hlen hn hm q0 x0 J5;go_enter func185,ntmps185;go_wp2_with fail;refine nM.out.mono ?_
  rintro e w1 ⟨rfl,aO⟩;have bT:=ab aO;clear aO p0 p1 nM;have p0:=(HX.out.below bT.out).c0;unfold im;go_wp2_with fail;refine (HC.out _).mono ?_
  rintro e w2 ⟨rfl,aV⟩;have bL:=ab (Below.next bT.out aV);clear aV p0 HC bT;have q2:=ai w2 (.cells #[.string (ko m)] 9);have o2:(w2.alloc (.cells #[.string (ko m)] 9)).ownsRow w2.heap.size 9 1 (.slice (some ⟨w2.heap.size,0,none⟩) 1 1) 1 (strs [ko m]):=World.ownsRow_lit w2 #[.string (ko m)] 1 (aj _) (by decide) rfl
  rw [Sm.out] at o2;obtain ⟨cc,uf⟩ : ∃ cc,cc=ko m:=⟨_,rfl⟩;rw [← uf] at q2 o2 ⊢;generalize Ip:w2.alloc (.cells #[.string cc] 9)=W2 at *;have eH:=ab (Below.next bL.out q2);have jx:=ab o2;have p1:=(HX.out.below eH.out).c1;have lD:=ab bL.out.size;clear q2 o2 uf Sm;go_wp2;clear p1;go_loopw [5,20] (fun u i wr=>∃ k:Nat,k≤n∧i = .int .i64 k∧wr.ownsRow W0.heap.size 9 1 u (k+1) (strs (dA (m:Int) (l.take k)))∧Below W0.heap.size W0 wr) (fun _ i _=>n - (intOf i).toNat)
  case atStart=>exact ⟨0,aB _,rfl,AK jx.out lD.out,eH.out⟩
  case round =>
   obtain ⟨k,hk,rfl,aE,bQ⟩:=hrel;clear jx eH;have lE:(dA (m:Int) (l.take k)).length=k+1:=by rw [ny,ag];have:=HN.out;omega
   obtain ⟨ua,uc,hu⟩ : ∃ a c,u5 = .slice a (k+1) c:=by
    rcases aE.2 with ⟨rfl,h⟩ | ⟨g,cap,cur,rfl,_⟩
    ·omega
    ·exact ⟨_,_,rfl⟩
   subst hu;by_cases bO:k<n
   ·have cZ:k<l.length:=by have:=HN.out;omega
    obtain ⟨g,o,rfl,c1,c2⟩:=(HR.out.below bQ).spot k cZ;have HS:=ab (Fx (m:Int) l k cZ);have q2:=ai wr (.cells #[.string l[k].1,.int .i64 l[k].2] 179);have zv:=ab (fun W=>LO l[k] W (Yz.out l[k] (aJ _)))
    obtain ⟨p,hp⟩ : ∃ p,p=l[k]:=⟨_,rfl⟩;rw [← hp] at c1 c2 HS zv q2;have kB:=ab (Below.next bQ q2);have HO:=ab (iS aE q2);have dE:(k:Int)<(n:Int):=by omega
    clear hp bQ aE q2;go_wp2_with fail;refine (zv.out _).mono ?_
    rintro e w3 ⟨rfl,bW⟩;obtain ⟨a3,cp3,w4,bw,ic,fS,_⟩:=O9 W0.heap.size _ _ (mE p) 9 w3 W0 W0.heap.size (k+1) lE (iS HO.out bW) (by omega) (ar kB.out.size bW.size) (aj _) (Below.next kB.out bW)
    rw [← HS.out] at ic;have Zz:=ab ic;have iY:=ab fS;obtain ⟨cc2,abJ⟩ : ∃ cc,cc=mE p:=⟨_,rfl⟩;rw [← abJ] at bw ⊢;clear ic fS bW zv HS kB HO lE abJ c1 c2;go_wp2_with (first | (at_builtin;have h0:=bw;clear bw;refine wpList_append_run 231 rfl (.tmp 24) (.tmp 27) rfl rfl _ _ rfl rfl _ _ h0 ?_;clear h0))
    go_wp2;go_roundw
    case rel=>exact ⟨k+1,by omega,by go_num,Zz.out,iY.out⟩
    case measure=>simp [intOf];omega
   ·have nG:k=n:=by omega
    have dn:l.take k=l:=by rw [ao];have:=HN.out;omega
    rw [dn] at aE;have hs:=(fV aE).strs;have HLY:=ab (sg A _ (dA (m:Int) l) wr (by have:=jc.out;omega) hs ((HE.out.below bQ).1.KF (by decide)))
    have kB:=ab (Below.next HQ.out bQ);have dE:¬ (k:Int)<(n:Int):=by omega
    clear bQ aE nG hs dn lE;go_wp2_with fail;refine HLY.out.mono ?_
    rintro e w3 ⟨hv,bW⟩;have je:e = .returned (.tuple #[.string (pZ (m:Int) l),.nilIface]):=by
     rcases hv with ⟨_,h⟩ | ⟨h,_⟩
     ·exact h
     ·exact absurd jc.out h
    subst je;have eH:=ab (Below.next kB.out bW);clear hv bW HLY;go_wp2;go_ret2;exact ⟨.inl ⟨HV.out,rfl⟩,eH.out⟩
end B
namespace T
theorem AG(pb:Nat)(w:World):Calls prog 183 #[.pointer (some ⟨pb,0,none⟩),.nilIface] w fun e w'=>e = .returned (.tuple #[])∧w=w':=by
 go_enter func183,ntmps183;go_wp2;go_end0
 exact ⟨rfl,rfl⟩
theorem Th{w:World}{b:Nat}{n:SN}{pv lv cv:Value}(h:dP w b n pv lv cv):SQ n.ps:=fun p hp=>by
 have:=tN (h.fine.1 p hp);omega
theorem eV{P:Program}{ops:Array Oper}{rest:List Oper}{op:Oper}{a:Act}{w w':World}{Q:Exit→Act→World→Prop}(nH:op.guard=none)(ty:TypeId)(x y:Operand)(ho:op.op = .store ty x y)(p v:Value)(hx:a.eval x=p)(hy:a.eval y=v)(bw:(Instr.storeAt ty p v).run P w = .ok () w')(h:wpList P ops Q rest (a.put op.dst undef) w'):wpList P ops Q (op::rest) a w :=
 wpList_plain nH fun _ hK=>by
  unfold Oper.wp execOp;simp only [ho,hx,hy,Sem.run_bind,bw,Result.andThen_ok,Sem.run_pure];exact hK _ _ h
theorem info87:(prog.info? 87).map (·.size)=some 5:=by kernel_rfl
theorem Dq(w:World)(H:Nat)(F8:Array Value)(a b c d e:Value)(hr:B.au w H F8 87)(ho:F8.size=5)(h1:a.oneCell'=true∧b.oneCell'=true∧c.oneCell'=true∧d.oneCell'=true∧e.oneCell'=true):(Instr.storeAt 87 (.pointer (some ⟨H,0,none⟩)) (.agg #[a,b,c,d,e])).run prog w = .ok () (w.setRow H #[a,b,c,d,e]):=by
 have:=run_storeVar_row (P:=prog) w H 87 87 F8 #[a,b,c,d,e] hr info87 (by rw [ho];rfl) (by simp [h1.1,h1.2.1,h1.2.2.1,h1.2.2.2.1,h1.2.2.2.2])
 simp only [Instr.storeAt,Instr.sureAddr,Sem.run_bind,Sem.run_pure,Result.andThen_ok,this]
theorem OY(w:World)(H:Nat)(F8 cs:Array Value)(hr:B.au w H F8 87):B.au (w.setRow H cs) H cs 87:=setRow_heap w H F8 cs _ _ hr
theorem Du(w:World)(H:Nat)(cs:Array Value):bG H w (w.setRow H cs):=by
 refine ⟨rfl,rfl,rfl,by simp [World.setRow],fun k hk cY=>?_⟩
 have aeN:¬ H=k:=fun e=>cY e.symm
 simp [World.setRow,Array.getElem?_modify,aeN]
theorem GI(A:Nat→Addr)(pb b:Nat)(n:SN)(pv lv cv:Value)(w:World)(hs:dP w b n pv lv cv)(hu:n.us=[])(hE:jC A w)(hc:wL n.ps true=none):Calls prog 149 #[.pointer (some ⟨pb,0,none⟩),.pointer (some ⟨b,0,none⟩)] w fun e w'=>e = .returned (.agg #[.int .i64 76,.int .i64 0,.int .u64 0,.int .i64 (n.ps.length:Int),.string (uy n.ps)])∧Below w.heap.size w w':=by
 obtain ⟨W1,ig⟩ : ∃ W1,w.alloc (.cells #[.int .i64 0,.int .i64 0,.int .u64 0,.int .i64 0,.string ⟨#[]⟩] 87)=W1:=⟨_,rfl⟩;have aO:Below w.heap.size w W1:=ig▸ai w _;have r1:B.au W1 w.heap.size #[.int .i64 0,.int .i64 0,.int .u64 0,.int .i64 0,.string ⟨#[]⟩] 87:=ig▸B.au.new w _ _;obtain ⟨H,hH⟩ : ∃ H,w.heap.size=H:=⟨_,rfl⟩;rw [hH] at r1;have ja:=hs.below aO;have ti:=ab (cG b n pv lv cv W1 ja);rw [show decide (n.us.length=0)=true by rw [hu];rfl] at ti
 have hlen:n.ps.length≤4000:=hs.fine.2.1;have Wz:=ab (PX A pv n.ps W1 (Th hs) (by omega) ja.iH (hE.below aO))
 have p0:=ja.c0;obtain ⟨xa,xc,wG⟩:=hs.iH.form;subst wG;have nT:=ab r1;have bT:=ab aO;have HC:=ab hc;have mf:=ab ja;have HL:=ab hlen;clear hs ja hE hc aO r1 hu;go_enter func149,ntmps149;go_wp2_with fail;refine ti.out.mono ?_
 rintro e w1' ⟨rfl,rfl⟩;go_wp2_with fail;refine Wz.out.mono ?_
 rintro e w2 ⟨he,aV⟩;rcases he with ⟨_,rfl⟩ | ⟨k,hk,_⟩
 ·have bL:=ab (Below.next bT.out aV);have r2:=nT.out.below aV;have p0':=(mf.out.below aV).c0;have pe:=ab r2;clear aV Wz ti r2;go_wp2_with fail;refine (AG pb w2).mono ?_
  rintro e w2' ⟨rfl,rfl⟩;have eZ:=Dq w2 H _ (.int .i64 76) (.int .i64 0) (.int .u64 0) (.int .i64 (n.ps.length:Int)) (.string (uy n.ps)) pe.out rfl ⟨rfl,rfl,rfl,rfl,rfl⟩;have gy:=ab eZ;clear eZ;go_wp2_with (refine eV rfl 87 _ _ rfl _ _ rfl rfl gy.out ?_)
  have HE:Hid (Below w.heap.size w (w2.setRow H #[.int .i64 76,.int .i64 0,.int .u64 0,.int .i64 (n.ps.length:Int),.string (uy n.ps)])):=by
   have hb:=bL.out;exact ⟨hb.os,hb.tape,hb.output,by simpa [World.setRow] using hb.size,fun k hk=>(setRow_other w2 H k _ (by omega)).trans (hb.block k hk)⟩
  refine bodyPost_ret (results_cell_row rfl _ _ H 87 _ (0,0) _ rfl (OY w2 H _ _ pe.out) underlying87 rfl info87) rfl ?_
  exact ⟨rfl,HE.out⟩
 ·rw [HC.out] at hk;cases hk
end T
end Go.Proofs.YtihmgigfkmofnaaGreatDoor
