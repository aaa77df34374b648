import Derived.Test.YtihmgigfkmofnaaGreatDoorG29
import Derived.Maps.AppendAt
import Derived.Laws.Rows
set_option maxHeartbeats 4000000
set_option maxRecDepth 100000
open Go.Proofs.Tryz
namespace Go.Proofs.YtihmgigfkmofnaaGreatDoor
namespace T
open Go.RowKit
def Kr(l:List S.Sh):List Value:=l.flatMap S.Sh.cells
theorem Gf(a b:List S.Sh):Kr (a++b)=Kr a++Kr b:=by simp [Kr]
def sD(w:World)(base:Nat)(v:Value)(l:List S.Sh):Prop:=w.ownsRow base 87 5 v l.length (Kr l)
theorem sD.nil(w:World)(base:Nat):sD w base (.slice none 0 0) []:=World.ownsRow_nil _ _ _ _
theorem sD.form{w:World}{base:Nat}{v:Value}{l:List S.Sh}(h:sD w base v l):∃ a c,v = .slice a l.length c:=by
 rcases h.2 with ⟨rfl,h0⟩ | ⟨g0,cap,cur,rfl,_⟩
 ·have:l=[]:=List.length_eq_zero_iff.1 h0;subst this;exact ⟨_,_,rfl⟩
 ·exact ⟨_,_,rfl⟩
theorem sD.dF{w:World}{base:Nat}{v:Value}{l:List S.Sh}(h:sD w base v l){g:Nat}(hg:v.ownBlock=some g):base≤g∧g<w.heap.size:=World.ownsRow.lt h g hg
theorem sD.same{w w':World}{lo:Nat}{v:Value}{l:List S.Sh}(h:sD w lo v l)(hb:∀ g,v.ownBlock=some g→w'.heap[g]?=w.heap[g]?):sD w' lo v l:=by
 refine ⟨h.1,?_⟩;rcases h.2 with h' | ⟨g,cap,cur,h',h1,h2,hr⟩
 ·exact .inl h'
 ·exact .inr ⟨g,cap,cur,h',h1,(hb g (by rw [h'];rfl)).trans h2,hr⟩
theorem Wc:(prog.info? 87).map (fun i=>(i.zero,i.size,i.bytes))=some (some (.agg #[.int .i64 0,.int .i64 0,.int .u64 0,.int .i64 0,.string ByteArray.empty]),5,48):=by kernel_rfl
theorem VT(s:S.Sh):∀ u ∈ s.cells,u.oneCell'=true:=by
 intro u hu;simp only [S.Sh.cells,dP,dA,or_false] at hu;rcases hu with rfl | rfl | rfl | rfl | rfl <;> rfl
theorem sD.push(base:Nat)(v:Value)(l:List S.Sh)(s:S.Sh)(w:World)(h:sD w base v l)(hn:l.length≤1000000)(dx:base≤w.heap.size):∃ a' c' w',(Builtin.append_ #[83,83] 83 #[v,.slice (some ⟨w.heap.size,0,none⟩) 1 1]).run prog (w.alloc (.cells s.cells.toArray 87)) = .ok (.slice a' (l.length+1) c') w'∧sD w' base (.slice a' (l.length+1) c') (l++[s])∧(w.alloc (.cells s.cells.toArray 87)).grownBy w' v.ownBlock∧∀ g,(Value.slice a' (l.length+1) c').ownBlock=some g→v.ownBlock=some g∨w.heap.size≤g:=by
 obtain ⟨i0,hi,hz,b8,kP⟩:=info_parts Wc;obtain ⟨W,hW⟩ : ∃ W,W=w.alloc (.cells s.cells.toArray 87):=⟨_,rfl⟩;have hsW:W.heap.size=w.heap.size+1:=by rw [hW];simp
 have ny:=bM w s.cells.toArray 87;rw [← hW] at ny;have ho:W.ownsRow base 87 5 v l.length (Kr l):=hW▸World.ownsRow.alloc h _;have ik:∀ j u,s.cells[j]?=some u→W.cell? ((⟨w.heap.size,0,none⟩ : Addr).add j)=some u:=fun j u hj=>by
  rw [bt,Nat.zero_add];obtain ⟨h1,h2⟩:=List.getElem?_eq_some_iff.1 hj;rw [← h2];exact ny.2 j (by simpa using h1)
 obtain ⟨v',w',hr,aF,hg,_,rR⟩:=run_append_own_at (P:=prog) W base 83 83 87 i0 _ 5 48 underlying83 hi hz b8 kP rfl (by decide) v l.length (Kr l) ho ⟨w.heap.size,0,none⟩ 1 1 s.cells rfl ik (VT s) (by unfold maxLen;omega) (by omega) (by omega)
 have gu:sD w' base v' (l++[s]):=by
  unfold sD;rw [ae,Gf,show Kr [s]=s.cells by simp [Kr]]
  exact aF
 obtain ⟨a',c',kq⟩:=gu.form;rw [ae,aQ] at kq;subst kq;refine ⟨a',c',w',hW▸hr,gu,hW▸hg,fun g Ct=>?_⟩
 rcases rR with h1 | h1
 ·exact .inl (h1▸Ct)
 ·rw [h1] at Ct;cases Ct;right;omega
def gK(tx:Nat):Nat × PD→S.Sh
 | (id,.leaf l)=>⟨76,id,tx,l.length,tG l⟩
 | (id,.br f lk)=>⟨66,id,tx,(lk.length:Int)+1,B.pQ f lk⟩
structure mL(pb:Nat)(w:World)(v:Value)(w':World)(v':Value):Prop where
 size:w.heap.size≤w'.heap.size
 block:∀ k,k<w.heap.size→k≠pb→v.ownBlock≠some k→w'.heap[k]?=w.heap[k]?
 own:∀ g,v'.ownBlock=some g→v.ownBlock=some g∨w.heap.size≤g
theorem mL.refl(pb:Nat)(w:World)(v:Value):mL pb w v w v:=⟨aj _,fun _ _ _ _=>rfl,fun _ h=>.inl h⟩
theorem mL.trans{pb:Nat}{w w1 w2:World}{v v1 v2:Value}(h:mL pb w v w1 v1)(k:mL pb w1 v1 w2 v2):mL pb w v w2 v2:=by
 refine ⟨ar h.size k.size,fun i hi h2 h3=>?_,fun g hg=>?_⟩
 ·rw [k.block i (aq hi h.size) h2 (fun e=>by
   rcases h.own i e with e' | e'
   ·exact h3 e'
   ·omega)]
  exact h.block i hi h2 h3
 ·rcases k.own g hg with e | e
  ·exact h.own g e
  ·exact .inr (ar h.size e)
theorem mL.below{pb:Nat}{w w':World}(v:Value)(h:Below w.heap.size w w'):mL pb w v w' v:=⟨h.size,fun k hk _ _=>h.block k hk,fun _ h=>.inl h⟩
structure pR(w0:World)(lo pb:Nat)(pv:Value)(P:List Nat)(tx:Nat)(w:World)(sv:Value)(Z:List S.Sh):Prop where
 eZ:Below w0.heap.size w0 w
 row:B.au w pb #[pv,.int .u64 (tx:Int),sv,.nilIface] 127
 sh:sD w lo sv Z
 ord:w0.heap.size≤pb∧pb<lo
 lo:lo≤w.heap.size
 pg:nG w0 pv (Q.j7 P)
 pl:P.length≤1000000
section
variable {w0:World} {lo pb:Nat} {pv:Value} {P:List Nat} {tx:Nat} {w w':World} {sv oe:Value} {Z Z':List S.Sh}
theorem pR.keep(h:pR w0 lo pb pv P tx w sv Z)(ht:mL pb w sv w' oe)(X3:w'.os=w.os)(htp:w'.tape=w.tape)(hou:w'.output=w.output)(hr:B.au w' pb #[pv,.int .u64 (tx:Int),oe,.nilIface] 127)(hs:sD w' lo oe Z'):pR w0 lo pb pv P tx w' oe Z':=by
 have pz:=h.lo;have ho:=h.ord;refine ⟨⟨X3.trans h.eZ.os,htp.trans h.eZ.tape,hou.trans h.eZ.output,ar h.eZ.size ht.size,fun k hk=>?_⟩,hr,hs,h.ord,ar h.lo ht.size,h.pg,h.pl⟩
 exact (ht.block k (by omega) (by omega) (fun e=>by have:=(h.sh.dF e).1;omega)).trans (h.eZ.block k hk)
theorem pR.below(h:pR w0 lo pb pv P tx w sv Z)(hb:Below w.heap.size w w'):pR w0 lo pb pv P tx w' sv Z :=
 h.keep (mL.below sv hb) hb.os hb.tape hb.output (h.row.below hb) (h.sh.same fun g hg=>hb.block g (h.sh.dF hg).2)
theorem pR.push(h:pR w0 lo pb pv P tx w sv Z)(s:S.Sh)(hn:Z.length≤1000000):∃ a' c' w',(Builtin.append_ #[83,83] 83 #[sv,.slice (some ⟨w.heap.size,0,none⟩) 1 1]).run prog (w.alloc (.cells s.cells.toArray 87)) = .ok (.slice a' (Z.length+1) c') w'∧w'.frozen? ⟨pb,2,none⟩=false∧w'.cell? ⟨pb,2,none⟩=some sv∧pR w0 lo pb pv P tx (w'.setCell ⟨pb,2,none⟩ (.slice a' (Z.length+1) c')) (.slice a' (Z.length+1) c') (Z++[s])∧mL pb w sv (w'.setCell ⟨pb,2,none⟩ (.slice a' (Z.length+1) c')) (.slice a' (Z.length+1) c'):=by
 have pz:=h.lo;have ho:=h.ord;obtain ⟨a',c',w',hr,kt,hg,aF⟩:=sD.push lo sv Z s w h.sh hn pz;have aM:=ai w (.cells s.cells.toArray 87);have b8:(w.alloc (.cells s.cells.toArray 87)).heap.size=w.heap.size+1:=by simp
 have pO:=hg.size;have fQ:∀ b,b<lo→some b≠sv.ownBlock:=fun b hb e=>by
  have:=(h.sh.dF e.symm).1;omega
 have Qb:∀ k,k<w.heap.size→some k≠sv.ownBlock→w'.heap[k]?=w.heap[k]?:=fun k hk h1=>(hg.block k (by omega) h1).trans (aM.block k hk)
 have bE:B.au w' pb #[pv,.int .u64 (tx:Int),sv,.nilIface] 127:=(Qb pb h.row.lt (fQ _ ho.2)).trans h.row;have dE:=bJ.set pb 2 w' (.slice a' (Z.length+1) c');have jv:=dE.size;have yd:w.heap.size≤(w'.setCell ⟨pb,2,none⟩ (.slice a' (Z.length+1) c')).heap.size:=by omega
 have Zf:mL pb w sv (w'.setCell ⟨pb,2,none⟩ (.slice a' (Z.length+1) c')) (.slice a' (Z.length+1) c'):=⟨yd,fun k hk h1 h2=>(dE.block k (by omega) h1).trans (Qb k hk (fun e=>h2 e.symm)),aF⟩
 have Jl:B.au (w'.setCell ⟨pb,2,none⟩ (.slice a' (Z.length+1) c')) pb #[pv,.int .u64 (tx:Int),.slice a' (Z.length+1) c',.nilIface] 127:=by
  unfold B.au at bE ⊢;rw [setCell_eq_setRow w' pb 2 _ _ (0,0) _ bE];exact setRow_heap w' pb _ _ _ (0,0) bE
 refine ⟨a',c',w',hr,bE.free 2,bE.cell 2 (by simp),h.keep Zf (dE.os.trans (hg.os.trans aM.os)) (dE.tape.trans (hg.tape.trans aM.tape)) (dE.output.trans (hg.output.trans aM.output)) Jl (kt.same fun g Ct=>?_),Zf⟩
 have:=kt.dF Ct;exact dE.block g this.2 (by omega)
end
end T
open Go.RowKit
theorem rh(v:Value)(l:List ByteArray)(w:World)(hm:dW l≤1152921504606846976)(hr:MD w v l):Calls prog 241 #[v] w fun e w'=>e = .returned (.int .i64 ((dW l:Nat):Int))∧w=w':=by
 obtain ⟨a,cap,rfl,cT,hc⟩:=hr;have HC:=ab hc;obtain ⟨n,hn⟩ : ∃ n,n=l.length:=⟨_,rfl⟩;rw [← hn];have HN:=ab hn;have HM:=ab hm;have h2:n≤576460752303423488:=by
  have:dW l=2*l.length+(ee l l.length).length:=rfl;omega
 have hw:IntKind.i64.wrap (2*(n:Int))=((fx l 0:Nat):Int):=by rw [IntKind.wrap_i64,pC];omega
 clear hc hn hm cT;go_enter func241,ntmps241;go_wp2;go_loop [3,11] (fun r i=>∃ k:Nat,k≤n∧i = .int .i64 k∧r = .int .i64 ((fx l k:Nat):Int)) (fun _ i=>n - (intOf i).toNat)
 case atStart=>exact ⟨0,aB _,rfl,rfl⟩
 case round =>
  obtain ⟨k,hk,rfl,rfl⟩:=hrel;clear hw;by_cases bK:k<n
  ·have de:k<l.length:=by have:=HN.out;omega
   obtain ⟨g,o,rfl,f1⟩:=HC.out k de;have HS:=ab (mE l k de);have HL:=ab (tF l (k+1) l.length (by omega) (aj _))
   obtain ⟨p,hp⟩ : ∃ p,p=fx l k:=⟨_,rfl⟩;rw [← hp] at HS ⊢;obtain ⟨q,hq⟩ : ∃ q,q=fx l (k+1):=⟨_,rfl⟩;rw [← hq] at HS HL;have HQ:=ab hq;generalize l[k]=x at *;have hw:IntKind.i64.wrap ((p:Int)+(x.size:Int))=(q:Int):=by
    rw [IntKind.wrap_i64];have h1:=HS.out;have h2:=HL.out;have h3:fx l l.length≤1152921504606846976:=HM.out;omega
   have dK:(k:Int)<(n:Int):=by omega
   clear hp hq HC;go_wp2;go_round
   case rel=>exact ⟨k+1,by omega,by go_num,by rw [← HQ.out]⟩
   case measure=>simp [intOf];omega
  ·have nU:k=n:=by omega
   have HF:Hid (fx l k=dW l):=by show _=_;rw [nU,HN.out];rfl
   obtain ⟨p,hp⟩ : ∃ p,p=fx l k:=⟨_,rfl⟩;rw [← hp] at HF ⊢;have dK:¬ (k:Int)<(n:Int):=by omega
   clear hp HC;go_wp2;go_ret;exact ⟨by rw [← HF.out];rfl,rfl⟩
theorem Sd(l:List UInt8)(k:Nat)(x:UInt8):(eb l).set k (.int .u8 (x.toNat:Int))=eb (l.set k x):=by simp [eb,List.map_set]
theorem nS.set{t:TypeId}{w:World}{g:Nat}{l:List UInt8}(h:nS t w g l)(k:Nat)(x:UInt8):nS t (w.setCell ⟨g,k,none⟩ (.int .u8 (x.toNat:Int))) g (l.set k x):=by
 unfold nS;rw [heap_setCell_same w g k _ t _ h,← Sd];simp
theorem nS.frozen{t:TypeId}{w:World}{g:Nat}{l:List UInt8}(h:nS t w g l)(k:Nat):w.frozen? ⟨g,k,none⟩=false:=frozen_of_row _ _ _ _ _ h
theorem Dd(t:TypeId)(b i e n:Nat)(l:List UInt8)(w:World)(he:e≤4072)(hl:l.length=n)(hi:2*i+1<n)(hn:n≤4072)(hr:nS t w b l):Calls prog 242 #[.slice (some ⟨b,0,none⟩) n n,.int .i64 (i:Int),.int .i64 (e:Int)] w fun ev w'=>ev = .returned (.tuple #[])∧nS t w' b ((l.set (2*i) (G9 e)).set (2*i+1) (FE e))∧bJ b w w':=by
 obtain ⟨p,hp⟩ : ∃ p,p=2*i:=⟨_,rfl⟩;obtain ⟨q,hq⟩ : ∃ q,q=p+1:=⟨_,rfl⟩;have hw:IntKind.i64.wrap (2*(i:Int))=(p:Int):=by rw [IntKind.wrap_i64];omega
 have GY:IntKind.i64.wrap ((p:Int)+1)=(q:Int):=by rw [IntKind.wrap_i64];omega
 have h1:(p:Int)<(n:Int):=by omega
 have h2:(q:Int)<(n:Int):=by omega
 have Jw:p<n:=by omega
 have Qj:q<n:=by omega
 have hpq:¬ q=p:=by omega
 have c1:=hr.cell p (by omega)
 have c2:=hr.cell q (by omega)
 have z1:=hr.frozen p;have z2:=hr.frozen q;have HR:Hid (nS t ((w.setCell ⟨b,p,none⟩ (.int .u8 ((G9 e).toNat:Int))).setCell ⟨b,q,none⟩ (.int .u8 ((FE e).toNat:Int))) b ((l.set (2*i) (G9 e)).set (2*i+1) (FE e))):=by
  have:=(hr.set p (G9 e)).set q (FE e);rw [hq,hp] at this;rw [hq,hp];exact this
 have HS:Hid (bJ b w ((w.setCell ⟨b,p,none⟩ (.int .u8 ((G9 e).toNat:Int))).setCell ⟨b,q,none⟩ (.int .u8 ((FE e).toNat:Int)))):=(bJ.set b p w _).trans (bJ.set b q _ _);rw [AS e he,Az] at HR HS;have e1:((e / 256:Nat):Int)=(e:Int) / 256:=by omega
 have e2:((e % 256:Nat):Int)=(e:Int) % 256:=by omega
 rw [e1,e2] at HR HS;generalize l[p]=y1 at *;generalize l[q]=y2 at *;clear hp hq hl hi hr e1 e2;go_enter func242,ntmps242;go_wp2;go_end0
 exact ⟨rfl,HR.out,HS.out⟩
theorem Mm(l:List ByteArray)(k:Nat)(hk:k<l.length):((splice (gV l k) (fx l k) l[k].data.toList).set (2*k) (G9 (fx l (k+1)))).set (2*k+1) (FE (fx l (k+1)))=gV l (k+1):=by
 have he:fx l k=(fZ l k++(List.replicate (2*(l.length - k)) (0:UInt8)++ee l k)).length:=by
  simp only [ae,bA,dS];have:fx l k=2*l.length+(ee l k).length:=rfl;omega
 have h1:gV l k=(fZ l k++(List.replicate (2*(l.length - k)) (0:UInt8)++ee l k))++List.replicate (4072 - fx l k) 0:=by
  unfold gV;simp only [ay]
 have h2:splice (gV l k) (fx l k) l[k].data.toList=(fZ l k++(List.replicate (2*(l.length - k)) (0:UInt8)++ee l k))++(l[k].data.toList++List.replicate (4072 - fx l (k+1)) 0):=by
  unfold splice;rw [h1];conv=>lhs;rw [he]
  rw [eu,← List.drop_drop,fN,← he,nN,bsize,mE l k hk,Nat.sub_sub]
 rw [h2,ay,ay,show 2*(l.length - k)=2*(l.length - (k+1))+1+1 by omega,List.replicate_succ,List.replicate_succ]
 have hs:=dS l k;rw [bW _ _ (by omega),hs,dR]
 simp only [List.cons_append,List.set_cons_zero];rw [bW _ _ (by omega),hs,show 2*k+1 - 2*k=1 by omega]
 simp only [List.set_cons_succ,List.set_cons_zero];unfold gV;rw [uG l k hk,fZ];simp [List.append_assoc]
theorem Np:∀ w,(zeroValue 333).run prog w = .ok (.agg (eb (List.replicate 4072 0)).toArray) w:=(zero_of_info (P:=prog) (t:=333) (n:=4072) (v:=.agg (eb (List.replicate 4072 0)).toArray) (by kernel_rfl)).1
theorem Sr(b:Nat)(w:World):(Instr.sliceAt 333 (.pointer (some ⟨b,0,none⟩)) none none none).run prog w = .ok (.slice (some ⟨b,0,none⟩) 4072 4072) w:=by kernel_rfl
theorem vX:prog.arrayLen 333=4072:=by kernel_rfl
theorem Fi:prog.elem 333=5:=by kernel_rfl
theorem Sq(b e:Nat)(h:e≤4072):∃ o,(e<4072→o=e)∧o≤e∧∀ w,(Instr.sliceAt 333 (.pointer (some ⟨b,0,none⟩)) (some (.int .i64 (e:Int))) none none).run prog w = .ok (.slice (some ⟨b,o,none⟩) (4072 - e) (4072 - e)) w:=by
 by_cases h4:e=4072
 ·refine ⟨0,fun h'=>by omega,aB _,fun w=>?_⟩
  have hz:(sizeOf 5).run prog w = .ok 1 w:=by kernel_rfl
  rw [run_sliceAt_array_l w 333 ⟨b,0,none⟩ (by kernel_rfl) .i64 _ (by omega) (by rw [vX];omega),vX,Fi,aW,hz]
  subst h4;rfl
 ·refine ⟨e,fun _=>rfl,aj _,fun w=>?_⟩
  have hz:(sizeOf 5).run prog w = .ok 1 w:=by kernel_rfl
  rw [run_sliceAt_array_l w 333 ⟨b,0,none⟩ (by kernel_rfl) .i64 _ (by omega) (by rw [vX];omega),vX,Fi,aW,hz]
  by_cases h0:e=0
  ·subst h0;rfl
  ·simp [slicedAt,Addr.add,show ¬ 4072=e by omega,h0]
theorem T4{t:TypeId}{w:World}{g o cap n:Nat}{l:List UInt8}(s:ByteArray)(hr:nS t w g l)(hn:s.size≤n)(eM:o+s.size≤l.length):∃ w2,(Builtin.copy_ #[145,9] 3 #[.slice (some ⟨g,o,none⟩) n cap,.string s]).run prog w = .ok (.int .i64 (s.size:Int)) w2∧nS t w2 g (splice l o s.data.toList)∧bJ g w w2:=by
 have bq:=Lib.run_copy_row_string (P:=prog) w 145 9 3 5 g o n cap s _ t underlying145 uf hr hn (by simp [aZ];omega)
 refine ⟨_,bq,?_,bJ.setRow g w _⟩;have bE:=setRow_heap w g _ ((eb l).toArray.toList.take o++Lib.byteCells s.data.toList++(eb l).toArray.toList.drop (o+s.size)).toArray t _ hr;unfold nS;rw [bE,← qg,splice,aZ,bsize,ay];rfl
def aen(A:Nat→Addr)(l:List ByteArray)(e:Ending):Prop :=
 (dW l≤4072∧e = .returned (.tuple #[.string ⟨(jy l).toArray⟩,.nilIface]))∨(¬ dW l≤4072∧e = .returned (.tuple #[.string ⟨#[]⟩,.iface 360 (.pointer (some (A 2)))]))
theorem Pg(a:Option Addr)(cap n:Nat)(l:List ByteArray)(w:World)(hn:n=l.length)(hf:dW l≤4072)(hc:∀ j (h:j<l.length),∃ g o,a=some ⟨g,o,none⟩∧w.cell? ⟨g,o+j,none⟩=some (.string l[j]))(hle:n≤cap):Calls prog 223 #[.slice a n cap] w fun e w'=>e = .returned (.tuple #[.string ⟨(jy l).toArray⟩,.nilIface])∧Below w.heap.size w w':=by
 have jb:=ab (rh (.slice a n cap) l w (by omega) ⟨a,cap,by rw [hn],by rw [← hn];exact hle,hc⟩)
 have b8:¬ (4072:Int)<((dW l:Nat):Int):=by omega
 have h2n:2*n≤4072:=by
  have:dW l=2*l.length+(ee l l.length).length:=rfl;omega
 obtain ⟨zc,XR,z4⟩ : ∃ zc,zc=(eb (List.replicate 4072 0)).toArray∧∀ w,(zeroValue 333).run prog w = .ok (.agg zc) w:=⟨_,rfl,Np⟩;obtain ⟨b,hb⟩ : ∃ b,b=w.heap.size:=⟨_,rfl⟩;have bE:nS 333 (w.alloc (.cells zc 333)) b (gV l 0):=by rw [E8 l hf,XR,hb];exact N8 _ _ _
 have aM:=ai w (.cells zc 333);have GW:IntKind.i64.wrap (2*(n:Int))=((fx l 0:Nat):Int):=by rw [IntKind.wrap_i64,pC,hn];omega
 have sl:=Sr b;have mO:=ab bE;have bN:=ab aM;have HC:=ab hc;have HN:=ab hn;have HF:=ab hf;have HB:=ab hb;have lW:=ab (rI l hf);obtain ⟨sz,Px⟩ : ∃ sz,sz=dW l:=⟨_,rfl⟩;rw [← Px] at jb b8;clear bE aM hc hn hf XR Px hb hle;go_enter func223,ntmps223;go_wp2_with fail;refine jb.out.mono ?_
 rintro e w' ⟨rfl,rfl⟩;go_wp2_with fail;rw [← HB.out];generalize w.alloc (.cells zc 333)=W1 at *;clear z4 jb;go_loopw [5,17] (fun en i wr=>∃ k:Nat,k≤n∧i = .int .i64 k∧en = .int .i64 ((fx l k:Nat):Int)∧nS 333 wr b (gV l k)∧Below w.heap.size w wr) (fun _ i _=>n - (intOf i).toNat)
 case atStart=>exact ⟨0,aB _,rfl,rfl,mO.out,bN.out⟩
 case round =>
  obtain ⟨k,hk,rfl,rfl,To,bO⟩:=hrel;clear mO bN GW;by_cases bK:k<n
  ·have de:k<l.length:=by have:=HN.out;omega
   obtain ⟨g,o,rfl,f0⟩:=HC.out k de;have f1:wr.cell? ⟨g,o+k,none⟩=some (.string l[k]):=(bO.cell (p:=⟨g,o+k,none⟩) (World.block_lt_of_cell? w _ f0)).trans f0;have HS:=ab (mE l k de);have HL:=ab (vW HF.out (show k+1≤l.length by omega))
   have gP:=ab (Mm l k de);have UD:=ab (Hz l k HF.out (by omega))
   have HGE:=ab (TT l (k+1));obtain ⟨x,hx⟩ : ∃ x,x=l[k]:=⟨_,rfl⟩;rw [← hx] at f1 HS gP;obtain ⟨p,hp⟩ : ∃ p,p=fx l k:=⟨_,rfl⟩;obtain ⟨q,hq⟩ : ∃ q,q=fx l (k+1):=⟨_,rfl⟩;rw [← hp] at HS gP ⊢;rw [← hq] at HS gP HL HGE;have HQ:=ab hq;obtain ⟨so,kI,ja,pZ⟩:=Sq b p (by have:=HS.out;have:=HL.out;omega)
   obtain ⟨w2,tn,iF,jv⟩:=T4 (n:=4072 - p) (cap:=4072 - p) (o:=so) x To (by have:=HS.out;have:=HL.out;omega) (by rw [UD.out];have:=HS.out;have:=HL.out;omega)
   have Zo:splice (gV l k) so x.data.toList=splice (gV l k) p x.data.toList:=by
    by_cases h4:p<4072
    ·rw [kI h4]
    ·have RC:x.data.toList=[]:=List.length_eq_zero_iff.1 (by rw [bsize];have:=HS.out;have:=HL.out;omega)
     rw [RC];simp [splice]
   rw [Zo] at iF;have Ev:(splice (gV l k) p x.data.toList).length=4072:=by
    rw [length_splice _ _ _ (by rw [bsize,UD.out];have:=HS.out;have:=HL.out;omega)];exact UD.out
   have mW:=ab (Dd 333 b k q 4072 _ w2 HL.out Ev (by have:=HN.out;omega) (aj _) iF)
   rw [gP.out] at mW;have hw:IntKind.i64.wrap ((p:Int)+(x.size:Int))=(q:Int):=by
    rw [IntKind.wrap_i64];have:=HS.out;have:=HL.out;omega
   have bG:Hid (Below w.heap.size w w2):=jv.below bO (by rw [HB.out];exact aj _)
   have dK:(k:Int)<(n:Int):=by omega
   clear hx hp hq HC iF jv To bO Zo Ev f0 kI ja;go_wp2_with fail;refine mW.out.mono ?_
   rintro e w3 ⟨rfl,pM,PC⟩;have RY:=ab pM;have eG:Hid (Below w.heap.size w w3):=PC.below bG.out (by rw [HB.out];exact aj _)
   clear pM PC tn f1;go_wp2;go_roundw
   case rel=>exact ⟨k+1,by omega,by go_num,by rw [← HQ.out],RY.out,eG.out⟩
   case measure=>simp [intOf];omega
  ·have nU:k=n:=by omega
   have dK:¬ (k:Int)<(n:Int):=by omega
   have XZ:nS 333 wr b (jy l):=by rw [nU,HN.out,H5] at To;exact To
   have yl:=lL wr (.slice (some ⟨b,0,none⟩) 4072 4072) (jy l) ⟨some ⟨b,0,none⟩,4072,by rw [lW.out],fun j hj=>⟨b,0,rfl,by rw [Nat.zero_add];exact XZ.cell j hj⟩⟩ (by rw [lW.out];decide)
   have jW:=ab bO;obtain ⟨p,hp⟩ : ∃ p,p=fx l k:=⟨_,rfl⟩;rw [← hp];obtain ⟨L,hL⟩ : ∃ L,L=jy l:=⟨_,rfl⟩;rw [← hL] at yl;have HLQ:=ab hL;clear hp To XZ bO HC hL;go_wp2;go_ret2;exact ⟨by rw [← HLQ.out];rfl,jW.out⟩
theorem rG(A:Nat→Addr)(v:Value)(l:List ByteArray)(w:World)(hm:dW l≤1152921504606846976)(hr:MD w v l)(hE:dy 4 eV A w):Calls prog 223 #[v] w fun e w'=>aen A l e∧Below w.heap.size w w':=by
 by_cases hf:dW l≤4072
 ·obtain ⟨a,cap,rfl,cT,hc⟩:=hr;refine (Pg a cap l.length l w rfl hf hc cT).mono ?_
  rintro e w' ⟨rfl,hb⟩;exact ⟨.inl ⟨hf,rfl⟩,hb⟩
 ·have jb:=ab (rh v l w hm hr);have b8:(4072:Int)<((dW l:Nat):Int):=by omega
  have c0:w.cell? ⟨2,0,none⟩=some (.iface 360 (.pointer (some (A 2)))):=(hE.1 2 (by decide)).1
  have HF:=ab hf;obtain ⟨sz,Px⟩ : ∃ sz,sz=dW l:=⟨_,rfl⟩;rw [← Px] at jb b8;clear hf hE hr hm Px;go_enter func223,ntmps223;go_wp2_with fail;refine jb.out.mono ?_
  rintro e w' ⟨rfl,rfl⟩;go_wp2;go_quiet (fail)
  go_wp2;go_ret2;exact ⟨.inr ⟨HF.out,rfl⟩,aA (Below.refl _ _) _⟩
def wH(l:List Pr)(k:Nat):List Value:=strs ((l.take k).map ft)++List.replicate (l.length - k) (.string ByteArray.empty)
theorem ND(l:List Pr)(k:Nat)(h:k<l.length):(wH l k).set k (.string (ft l[k]))=wH l (k+1):=by
 have hl:(strs ((l.take k).map ft)).length=k:=by rw [jY,az,ag];omega
 unfold wH;rw [bW _ _ (by omega),hl,dR,ax h,bz,og,show l.length - k=l.length - (k+1)+1 by omega,List.replicate_succ,List.set_cons_zero,ay]
 rfl
theorem NF(l:List Pr)(k:Nat)(h:k≤l.length):(wH l k).length=l.length:=by
 unfold wH;rw [ae,jY,az,ag,bA];omega
theorem J8(l:List Pr):wH l 0=List.replicate l.length (.string ByteArray.empty):=by simp [wH,strs]
theorem NG(l:List Pr):wH l l.length=strs (l.map ft):=by simp [wH]
theorem xB{w w':World}{base e n:Nat}{v:Value}{xs:List Value}(h:w.ownsRow base e 1 v n xs)(hb:Below w.heap.size w w'):w'.ownsRow base e 1 v n xs:=by
 refine ⟨h.1,?_⟩;rcases h.2 with h' | ⟨g,cap,cur,h',h1,h2,hr⟩
 ·exact .inl h'
 ·refine .inr ⟨g,cap,cur,h',h1,?_,hr⟩;have hg:g<w.heap.size:=by
   rcases a8 g w.heap.size with h' | h'
   ·exact h'
   ·rw [aY h'] at h2;cases h2
  rw [hb.block g hg];exact h2
def afr(A:Nat→Addr)(l:List Pr)(e:Ending):Prop :=
 (zI l true=none∧e = .returned (.tuple #[.string (tG l),.nilIface]))∨(∃ k,zI l true=some k∧e = .returned (.tuple #[.string ⟨#[]⟩,gC A (some k)]))
theorem O7(A:Nat→Addr)(v:Value)(l:List Pr)(w:World)(cO:Un l)(hm:l.length≤140737488355328)(hr:gM w v l)(hE:jS A w):Calls prog 182 #[v] w fun e w'=>afr A l e∧Below w.heap.size w w':=by
 have nX:=ab (qw A v l true w cO hm hr hE);have HE:=ab hE;obtain ⟨i0,hi,hz,b8,kP⟩:=info_parts info9;obtain ⟨a,cap,rfl,cT,_,hc⟩:=hr;have HC:=ab hc;cases lG:zI l true with
 | some k =>
  rw [lG] at nX;have Et:=fun W=>fh (some (A k)) W
  have HV:Hid (zI l true=some k):=lG;clear hc cT hE cO hi hz b8 kP lG;go_enter func182,ntmps182;go_wp2_with fail;refine nX.out.mono ?_
  rintro e w1 ⟨rfl,aM⟩;unfold gC;go_wp2;go_ret2;exact ⟨.inr ⟨k,HV.out,rfl⟩,aM⟩
 | none =>
  rw [lG] at nX;obtain ⟨h1,h2,h3,h4,h5⟩:=sd lG;have hlen:=iE l;have Xy:=ab h1;have jb:Hid (dW (l.map ft)≤4072):=by rw [ql];exact h3
  have yf:l.length≤814:=by omega
  have HV:Hid (zI l true=none):=lG;obtain ⟨n,hn⟩ : ∃ n,n=l.length:=⟨_,rfl⟩;rw [← hn] at yf nX ⊢;have HN:=ab hn;clear hc cT hE cO lG h1 h2 h3 h4 h5 hlen hn hm;go_enter func182,ntmps182;go_wp2_with fail;refine nX.out.mono ?_
  rintro e w1 ⟨rfl,aM⟩;obtain ⟨wm,oG,fV,oH⟩:=run_make_full (P:=prog) w1 w1.heap.size 231 9 i0 _ 1 underlying231 hi hz b8 .i64 .i64 n (by rw [kP];omega) (by unfold maxLen;omega) (aj _)
  have mV:(madeCells (Value.string ByteArray.empty).cells (n*1)).toList=wH l 0:=by
   rw [J8,Nat.mul_one,HN.out];exact toList_madeCells_one _ _
  rw [mV] at fV;have Cu:Below w1.heap.size w1 wm:=(Below.refl _ _).grown oH (aj _) (fun j hj=>by cases hj)
  obtain ⟨b,hb⟩ : ∃ b,b=w1.heap.size:=⟨_,rfl⟩;rw [← hb] at oG fV;have HB:=ab hb;have HO:=ab fV;have JS:=ab (Below.next aM Cu);have bN:=ab aM;clear hb fV Cu oH hi hz b8 kP mV aM nX;unfold gC;go_wp2;clear oG;go_loopw [18] (fun i wr=>∃ k:Nat,k≤n∧i = .int .i64 k∧wr.ownsRow b 9 1 (.slice (some ⟨b,0,none⟩) n n) n (wH l k)∧Below w.heap.size w wr) (fun i _=>n - (intOf i).toNat)
  case atStart=>exact ⟨0,aB _,rfl,HO.out,JS.out⟩
  case round =>
   obtain ⟨k,hk,rfl,aF,bO⟩:=hrel;clear HO JS;by_cases bK:k<n
   ·have de:k<l.length:=by have:=HN.out;omega
    obtain ⟨g,o,rfl,f1,f2⟩:=HC.out k de;have c1:wr.cell? ⟨g,o+k*2,none⟩=some (.string l[k].1):=(bO.cell (p:=⟨g,o+k*2,none⟩) (World.block_lt_of_cell? w _ f1)).trans f1;have c2:wr.cell? ⟨g,o+k*2+1,none⟩=some (.string l[k].2):=(bO.cell (p:=⟨g,o+k*2+1,none⟩) (World.block_lt_of_cell? w _ f2)).trans f2;have AQ:=eS (Xy.out l[k] (aI _));have iC:=ab (ND l k de);have fi:=ai wr (.cells #[.string l[k].1,.string l[k].2] 52);have qV:=ab (xB aF fi);have zS:=ab (Below.next bO fi);have HZ:=ab (fun W=>QS l[k] W AQ.2.1 (by omega))
    obtain ⟨p,hp⟩ : ∃ p,p=l[k]:=⟨_,rfl⟩;rw [← hp] at c1 c2 iC qV zS HZ;have kQ:=ab (NF l k (by omega))
    have dK:(k:Int)<(n:Int):=by omega
    have j0:(0:Int)≤(k:Int):=by omega
    clear hp HC f1 f2 bO aF AQ fi;go_wp2_with fail;refine (HZ.out _).mono ?_
    rintro e w2 ⟨rfl,aS⟩;have kI:=xB qV.out aS;have q1:∃ u,w2.cell? ⟨b,k,none⟩=some u:=by
     rw [World.ownsRow.cellAt kI k (by omega)]
     exact ⟨_,af (by rw [kQ.out];exact de)⟩
    obtain ⟨u,q1⟩:=q1;have z1:w2.frozen? ⟨b,k,none⟩=false:=World.ownsRow.frozenAt kI k;obtain ⟨z,hz⟩ : ∃ z,z=ft p:=⟨_,rfl⟩;rw [← hz] at iC ⊢;have eK:=(World.ownsRow.stored kI k (.string z)).1;rw [iC.out] at eK;have jE:=ab eK;have bG:Hid (Below w.heap.size w (w2.setCell ⟨b,k,none⟩ (.string z))):=(Below.next zS.out aS).setCell (by rw [HB.out];exact bN.out.size) _
    clear aS zS HZ c1 c2 kI eK hz iC qV;go_wp2;go_roundw
    case rel=>exact ⟨k+1,by omega,by go_num,jE.out,bG.out⟩
    case measure=>simp [intOf];omega
   ·have nU:k=l.length:=by have:=HN.out;omega
    rw [nU,NG] at aF;have hs:=(gd aF).strs;have HLY:=ab (rG A _ (l.map ft) wr (by have:=jb.out;omega) hs (HE.out.below bO).1)
    have jW:=ab bO;have dK:¬ (k:Int)<(n:Int):=by have:=HN.out;omega
    have VG:=ab nU;clear HC bO aF nU hs;go_wp2_with fail;refine HLY.out.mono ?_
    rintro e w3 ⟨hv,bQ⟩;have kD:e = .returned (.tuple #[.string (tG l),.nilIface]):=by
     rcases hv with ⟨_,h⟩ | ⟨h,_⟩
     ·exact h
     ·exact absurd jb.out h
    subst kD;have eG:=ab (Below.next jW.out bQ);clear hv bQ HLY;go_wp2;go_ret2;exact ⟨.inl ⟨HV.out,rfl⟩,eG.out⟩
namespace B
theorem H6(n:Nat)(_h:n≤255):bI n 1=[UInt8.ofNat n]:=by
 unfold bI qJ kE;simp [List.range,List.range.loop]
theorem rq{w:World}{base g m c:Nat}{l:List UInt8}(h:w.ownsRow base 5 1 (.slice (some ⟨g,0,none⟩) m c) m (eb l))(hl:l.length=m):Vt w (.slice (some ⟨g,0,none⟩) m c) l :=
 ⟨_,_,by rw [hl],fun j hj=>⟨g,0,rfl,by rw [Nat.zero_add,World.ownsRow.cellAt h j (by omega)];exact iD l j hj⟩⟩
def K6(n:Nat):ByteArray:=⟨[UInt8.ofNat n].toArray⟩
theorem E5(p:Lk):K6 p.1.size++p.1++km p.2.toNat=mH p:=by
 refine ig ?_
 rw [jO];simp [K6,km]
theorem A6(m:Nat)(w:World)(hm:m<1048576):Calls prog 224 #[.int .i64 (m:Int)] w fun e w'=>e = .returned (.string (km m))∧Below w.heap.size w w':=by
 have HP:=ab (xg m 4 w (by omega) (by decide) (by decide) (by omega))
 have w1:(m:Int) % 18446744073709551616=(m:Int):=by omega
 have HL:=ab (eI m 4 (by decide))
 go_enter func224,ntmps224;go_wp2_with fail;refine HP.out.mono ?_
 rintro e w2 ⟨g,c2,rfl,aF,hb⟩;have cv:=lL w2 _ _ (rq aF HL.out) (by rw [HL.out];decide)
 have HB:=ab hb;clear aF hb HP;obtain ⟨cc,tq⟩ : ∃ cc,cc=km m:=⟨_,rfl⟩;have yZ:=ab tq;have hce:(⟨(bI m 4).toArray⟩ : ByteArray)=cc:=by rw [tq];rfl
 rw [hce] at cv;clear tq hce;go_wp2;go_ret;exact ⟨by rw [← yZ.out];rfl,HB.out⟩
theorem GS(key:ByteArray)(w:World)(h1:key.size≤255):Calls prog 243 #[.string key] w fun e w'=>e = .returned (.string (K6 key.size))∧Below w.heap.size w w':=by
 have HP:=ab (xg key.size 1 w (by omega) (by decide) (by decide) (by omega))
 have JT:=ab (H6 key.size h1);have w1:(key.size:Int) % 18446744073709551616=(key.size:Int):=by omega
 go_enter func243,ntmps243;go_wp2_with fail;refine HP.out.mono ?_
 rintro e w2 ⟨g,c2,rfl,aF,hb⟩;rw [JT.out] at aF;have cv:=lL w2 _ _ (rq aF rfl) (by simp)
 have HB:=ab hb;clear aF hb HP;obtain ⟨cc,tq⟩ : ∃ cc,cc=K6 key.size:=⟨_,rfl⟩;have yZ:=ab tq;have hce:(⟨[UInt8.ofNat key.size].toArray⟩ : ByteArray)=cc:=by rw [tq];rfl
 rw [hce] at cv;clear tq hce;go_wp2;go_ret;exact ⟨by rw [← yZ.out];rfl,HB.out⟩
theorem K4(p:Lk)(w:World)(hp:gB p=true):Calls prog 225 #[.agg #[.string p.1,.int .i64 p.2]] w fun e w'=>e = .returned (.string (mH p))∧Below w.heap.size w w':=by
 obtain ⟨h1,h2,h3,h4⟩:=ll hp;obtain ⟨m,hm⟩ : ∃ m:Nat,p.2=(m:Int):=⟨p.2.toNat,by omega⟩
 have wi:=ab (E5 p);rw [hm] at wi ⊢;rw [aW] at wi;have Jn:m<1048576:=by omega
 have q0:=ai w (.cells #[.string p.1,.int .i64 (m:Int)] 179);have x0:=au.new w #[.string p.1,.int .i64 (m:Int)] 179;generalize Cw:w.alloc (.cells #[.string p.1,.int .i64 (m:Int)] 179)=W0 at *;have p0:=x0.c0;have p1:=x0.c1;have HX:=ab x0;have HQ:=ab q0;have HK:Hid (∀ W,Calls prog 243 #[.string p.1] W fun e w'=>e = .returned (.string (K6 p.1.size))∧Below W.heap.size W w'):=fun W=>GS p.1 W h2
 have HC:Hid (∀ W,Calls prog 224 #[.int .i64 (m:Int)] W fun e w'=>e = .returned (.string (km m))∧Below W.heap.size W w'):=fun W=>A6 m W Jn
 obtain ⟨t1,Eg⟩ : ∃ t,t=K6 p.1.size:=⟨_,rfl⟩;obtain ⟨t2,tk⟩ : ∃ t,t=km m:=⟨_,rfl⟩;have z1:t1.size=1:=by rw [Eg];rfl
 have z2:t2.size=4:=by rw [tk];exact qM m
 rw [← Eg] at HK wi;rw [← tk] at HC wi;have a1:∀ w,(Op.stringOp .add t1 p.1).run prog w = .ok (.string (t1++p.1)) w:=fun w=>run_string_add_sum (P:=prog) (w:=w) _ _ (by rw [z1];omega)
 have a2:∀ w,(Op.stringOp .add (t1++p.1) t2).run prog w = .ok (.string (t1++p.1++t2)) w:=fun w=>run_string_add_sum (P:=prog) (w:=w) _ _ (by rw [ByteArray.size_append,z1,z2];omega)
 have BS:W0.heap.size≤W0.heap.size:=aj _;clear h1 h2 h3 h4 hm Jn q0 x0 Eg tk hp;go_enter func225,ntmps225;go_wp2_with fail;go_region_held3 (fun w'=>w'.cell? ⟨w.heap.size,0,none⟩=some (.string p.1)∧w'.cell? ⟨w.heap.size,1,none⟩=some (.int .i64 (m:Int))) (go_keep)
  (first
   | (go_at_call 243;refine (HK.out _).mono ?_;rintro e w1 ⟨rfl,aM⟩;have TM:Below W0.heap.size W0 w1:=(by first | exact Below.next bG.out aM | exact du aM);have bN:=ab TM;have m0:=(HX.out.below TM).c0;have m1:=(HX.out.below TM).c1;clear aM TM)
   | (go_at_call 224;refine (HC.out _).mono ?_;rintro e w2 ⟨rfl,aS⟩;have TL:Below W0.heap.size W0 w2:=(by first | exact Below.next bN.out aS | exact du aS);have bG:=ab TL;have n0:=(HX.out.below TL).c0;have n1:=(HX.out.below TL).c1;clear aS TL))
 all_goals
  go_wp2;go_ret;exact ⟨by rw [← wi.out];rfl,Below.next HQ.out (by first | exact bG.out | exact bN.out)⟩
theorem Oh(base:Nat)(v:Value)(xs:List ByteArray)(x:ByteArray)(t:TypeId)(w w0:World)(B n:Nat)(hn:xs.length=n)(aF:w.ownsRow base 9 1 v n (strs xs))(hb:(n+1)*16≤140737488355328)(dx:base≤w.heap.size)(hB:B≤base)(h0:Below B w0 w):∃ a' eY w',(Builtin.append_ #[231,231] 231 #[v,.slice (some ⟨w.heap.size,0,none⟩) 1 1]).run prog (w.alloc (.cells #[.string x] t)) = .ok (.slice a' (n+1) eY) w'∧w'.ownsRow base 9 1 (.slice a' (n+1) eY) (n+1) (strs (xs++[x]))∧Below B w0 w'∧w.heap.size≤w'.heap.size:=by
 subst hn;have hr:nG (w.alloc (.cells #[.string x] t)) (.slice (some ⟨w.heap.size,0,none⟩) 1 1) [.string x]:=by
  have ny:=bM w #[.string x] t;refine ⟨_,_,rfl,aj _,fun h=>(by cases h),fun j u hj=>⟨_,_,rfl,?_⟩⟩
  have Lp:j=0:=by
   have:=(List.getElem?_eq_some_iff.1 hj).1;simpa using this
  subst Lp;cases hj;exact ny.2 0 (by simp)
 obtain ⟨a',eY,w',bq,gu,hg⟩:=nF 231 9 _ 16 info9 underlying231 rfl base xs.length v (strs xs) _ (World.ownsRow.alloc aF _) _ _ hr (fun u hu=>by simp at hu;subst hu;rfl) (by simpa using hb) (by decide) (by simp;omega)
 refine ⟨a',eY,w',bq,by rw [og];exact gu,?_,?_⟩
 ·exact (h0.alloc (ar hB dx) _).grown hg (by simp;omega) (fun k hk=>ar hB (World.ownsRow.lt aF k hk).1)
 ·have:=hg.size;simp at this
  omega
def abO(A:Nat→Addr)(f:Int)(l:List Lk)(e:Ending):Prop :=
 (nB f l true=none∧e = .returned (.tuple #[.string (pQ f l),.nilIface]))∨(∃ k,nB f l true=some k∧e = .returned (.tuple #[.string ⟨#[]⟩,gC A (some k)]))
theorem QY(A:Nat→Addr)(f:Int)(v:Value)(l:List Lk)(w:World)(cO:Vu l)(hm:l.length≤5864062014805)(hr:di w v l)(hE:pU A w):Calls prog 185 #[.agg #[.int .i64 f,v]] w fun e w'=>abO A f l e∧Below w.heap.size w w':=by
 obtain ⟨a,cap,hv⟩:=hr.form;subst hv;obtain ⟨n,hn⟩ : ∃ n,n=l.length:=⟨_,rfl⟩;rw [← hn] at hr ⊢;have q0:=ai w (.cells #[.int .i64 f,.slice a n cap] 150);have x0:=au.new w #[.int .i64 f,.slice a n cap] 150;generalize Cw:w.alloc (.cells #[.int .i64 f,.slice a n cap] 150)=W0 at *;have p0:=x0.c0;have p1:=x0.c1;have HX:=ab x0;have HQ:=ab q0;have HE:=ab (hE.below q0);have HR:=ab (hr.below q0);have HN:=ab hn;have nX:=ab (yH A f _ l true W0 cO hm (hr.below q0) (hE.below q0));cases lG:nB f l true with
 | some k =>
  rw [lG] at nX;have Et:=fun W=>fh (some (A k)) W
  have HV:Hid (nB f l true=some k):=lG;clear hr hE cO lG q0 x0 hn hm;go_enter func185,ntmps185;go_wp2_with fail;refine nX.out.mono ?_
  rintro e w1 ⟨rfl,aM⟩;have HB:=ab (Below.next HQ.out aM);clear aM;unfold gC;go_wp2;go_ret2;exact ⟨.inr ⟨k,HV.out,rfl⟩,HB.out⟩
 | none =>
  rw [lG] at nX;obtain ⟨h1,h2,h3,h4,h5,h6,h7⟩:=kV lG;have hlen:=q9 l;have Xy:=ab h3;have jb:Hid (dW (dz f l)≤4072):=by rw [oh];exact h6
  have yf:n≤581:=by omega
  have HV:Hid (nB f l true=none):=lG;obtain ⟨m,kO⟩ : ∃ m:Nat,f=(m:Int):=by
   have:2≤f∧f<1048576:=of_decide_eq_true h2;exact ⟨f.toNat,by omega⟩
  have Jn:m<1048576:=by
   have:2≤f∧f<1048576:=of_decide_eq_true h2;omega
  have HC:=ab (fun W=>A6 m W Jn)
  subst kO;have Rs:Hid ([km m]=dz (m:Int) (l.take 0)):=by show _=_;simp [dz]
  clear hr hE cO lG h1 h2 h3 h4 h5 h6 h7 hlen hn hm q0 x0 Jn;go_enter func185,ntmps185;go_wp2_with fail;refine nX.out.mono ?_
  rintro e w1 ⟨rfl,aM⟩;have bN:=ab aM;clear aM p0 p1 nX;have p0:=(HX.out.below bN.out).c0;unfold gC;go_wp2_with fail;refine (HC.out _).mono ?_
  rintro e w2 ⟨rfl,aS⟩;have bG:=ab (Below.next bN.out aS);clear aS p0 HC bN;have q2:=ai w2 (.cells #[.string (km m)] 9);have o2:(w2.alloc (.cells #[.string (km m)] 9)).ownsRow w2.heap.size 9 1 (.slice (some ⟨w2.heap.size,0,none⟩) 1 1) 1 (strs [km m]):=World.ownsRow_lit w2 #[.string (km m)] 1 (aj _) (by decide) rfl
  rw [Rs.out] at o2;obtain ⟨cc,tq⟩ : ∃ cc,cc=km m:=⟨_,rfl⟩;rw [← tq] at q2 o2 ⊢;generalize Lx:w2.alloc (.cells #[.string cc] 9)=W2 at *;have eG:=ab (Below.next bG.out q2);have jE:=ab o2;have p1:=(HX.out.below eG.out).c1;have lD:=ab bG.out.size;clear q2 o2 tq Rs;go_wp2;clear p1;go_loopw [5,20] (fun u i wr=>∃ k:Nat,k≤n∧i = .int .i64 k∧wr.ownsRow W0.heap.size 9 1 u (k+1) (strs (dz (m:Int) (l.take k)))∧Below W0.heap.size W0 wr) (fun _ i _=>n - (intOf i).toNat)
  case atStart=>exact ⟨0,aB _,rfl,As jE.out lD.out,eG.out⟩
  case round =>
   obtain ⟨k,hk,rfl,aF,bO⟩:=hrel;clear jE eG;have mf:(dz (m:Int) (l.take k)).length=k+1:=by rw [nC,ag];have:=HN.out;omega
   obtain ⟨ua,uc,hu⟩ : ∃ a c,u5 = .slice a (k+1) c:=by
    rcases aF.2 with ⟨rfl,h⟩ | ⟨g,cap,cur,rfl,_⟩
    ·omega
    ·exact ⟨_,_,rfl⟩
   subst hu;by_cases bK:k<n
   ·have de:k<l.length:=by have:=HN.out;omega
    obtain ⟨g,o,rfl,c1,c2⟩:=(HR.out.below bO).spot k de;have HS:=ab (E2 (m:Int) l k de);have q2:=ai wr (.cells #[.string l[k].1,.int .i64 l[k].2] 179);have FP:=ab (fun W=>K4 l[k] W (Xy.out l[k] (aI _)))
    obtain ⟨p,hp⟩ : ∃ p,p=l[k]:=⟨_,rfl⟩;rw [← hp] at c1 c2 HS FP q2;have jW:=ab (Below.next bO q2);have HO:=ab (iR aF q2);have dK:(k:Int)<(n:Int):=by omega
    clear hp bO aF q2;go_wp2_with fail;refine (FP.out _).mono ?_
    rintro e w3 ⟨rfl,bQ⟩;obtain ⟨a3,cp3,w4,bq,ij,fW,_⟩:=Oh W0.heap.size _ _ (mH p) 9 w3 W0 W0.heap.size (k+1) mf (iR HO.out bQ) (by omega) (ar jW.out.size bQ.size) (aj _) (Below.next jW.out bQ)
    rw [← HS.out] at ij;have Yr:=ab ij;have iY:=ab fW;obtain ⟨cc2,aas⟩ : ∃ cc,cc=mH p:=⟨_,rfl⟩;rw [← aas] at bq ⊢;clear ij fW bQ FP HS jW HO mf aas c1 c2;go_wp2_with (first | (at_builtin;have h0:=bq;clear bq;refine wpList_append_run 231 rfl (.tmp 24) (.tmp 27) rfl rfl _ _ rfl rfl _ _ h0 ?_;clear h0))
    go_wp2;go_roundw
    case rel=>exact ⟨k+1,by omega,by go_num,Yr.out,iY.out⟩
    case measure=>simp [intOf];omega
   ·have nU:k=n:=by omega
    have df:l.take k=l:=by rw [al];have:=HN.out;omega
    rw [df] at aF;have hs:=(gd aF).strs;have HLY:=ab (rG A _ (dz (m:Int) l) wr (by have:=jb.out;omega) hs ((HE.out.below bO).1.J2 (by decide)))
    have jW:=ab (Below.next HQ.out bO);have dK:¬ (k:Int)<(n:Int):=by omega
    clear bO aF nU hs df mf;go_wp2_with fail;refine HLY.out.mono ?_
    rintro e w3 ⟨hv,bQ⟩;have kD:e = .returned (.tuple #[.string (pQ (m:Int) l),.nilIface]):=by
     rcases hv with ⟨_,h⟩ | ⟨h,_⟩
     ·exact h
     ·exact absurd jb.out h
    subst kD;have eG:=ab (Below.next jW.out bQ);clear hv bQ HLY;go_wp2;go_ret2;exact ⟨.inl ⟨HV.out,rfl⟩,eG.out⟩
end B
namespace T
theorem An(pb:Nat)(w:World):Calls prog 183 #[.pointer (some ⟨pb,0,none⟩),.nilIface] w fun e w'=>e = .returned (.tuple #[])∧w=w':=by
 go_enter func183,ntmps183;go_wp2;go_end0
 exact ⟨rfl,rfl⟩
theorem Sp{w:World}{b:Nat}{n:SN}{pv lv cv:Value}(h:dQ w b n pv lv cv):Un n.ps:=fun p hp=>by
 have:=sY (h.fine.1 p hp);omega
theorem fe{P:Program}{ops:Array Oper}{rest:List Oper}{op:Oper}{a:Act}{w w':World}{Q:Exit→Act→World→Prop}(nK:op.guard=none)(ty:TypeId)(x y:Operand)(ho:op.op = .store ty x y)(p v:Value)(hx:a.eval x=p)(hy:a.eval y=v)(bq:(Instr.storeAt ty p v).run P w = .ok () w')(h:wpList P ops Q rest (a.put op.dst undef) w'):wpList P ops Q (op::rest) a w :=
 wpList_plain nK fun _ hK=>by
  unfold Oper.wp execOp;simp only [ho,hx,hy,Sem.run_bind,bq,Result.andThen_ok,Sem.run_pure];exact hK _ _ h
theorem info87:(prog.info? 87).map (·.size)=some 5:=by kernel_rfl
theorem C5(w:World)(H:Nat)(FC:Array Value)(a b c d e:Value)(hr:B.au w H FC 87)(ho:FC.size=5)(h1:a.oneCell'=true∧b.oneCell'=true∧c.oneCell'=true∧d.oneCell'=true∧e.oneCell'=true):(Instr.storeAt 87 (.pointer (some ⟨H,0,none⟩)) (.agg #[a,b,c,d,e])).run prog w = .ok () (w.setRow H #[a,b,c,d,e]):=by
 have:=run_storeVar_row (P:=prog) w H 87 87 FC #[a,b,c,d,e] hr info87 (by rw [ho];rfl) (by simp [h1.1,h1.2.1,h1.2.2.1,h1.2.2.2.1,h1.2.2.2.2])
 simp only [Instr.storeAt,Instr.sureAddr,Sem.run_bind,Sem.run_pure,Result.andThen_ok,this]
theorem N7(w:World)(H:Nat)(FC cs:Array Value)(hr:B.au w H FC 87):B.au (w.setRow H cs) H cs 87:=setRow_heap w H FC cs _ _ hr
theorem C7(w:World)(H:Nat)(cs:Array Value):bJ H w (w.setRow H cs):=by
 refine ⟨rfl,rfl,rfl,by simp [World.setRow],fun k hk dH=>?_⟩
 have adm:¬ H=k:=fun e=>dH e.symm
 simp [World.setRow,Array.getElem?_modify,adm]
theorem Gg(A:Nat→Addr)(pb b:Nat)(n:SN)(pv lv cv:Value)(w:World)(hs:dQ w b n pv lv cv)(hu:n.us=[])(hE:jS A w)(hc:zI n.ps true=none):Calls prog 149 #[.pointer (some ⟨pb,0,none⟩),.pointer (some ⟨b,0,none⟩)] w fun e w'=>e = .returned (.agg #[.int .i64 76,.int .i64 0,.int .u64 0,.int .i64 (n.ps.length:Int),.string (tG n.ps)])∧Below w.heap.size w w':=by
 obtain ⟨W1,gL⟩ : ∃ W1,w.alloc (.cells #[.int .i64 0,.int .i64 0,.int .u64 0,.int .i64 0,.string ⟨#[]⟩] 87)=W1:=⟨_,rfl⟩;have aM:Below w.heap.size w W1:=gL▸ai w _;have r1:B.au W1 w.heap.size #[.int .i64 0,.int .i64 0,.int .u64 0,.int .i64 0,.string ⟨#[]⟩] 87:=gL▸B.au.new w _ _;obtain ⟨H,hH⟩ : ∃ H,w.heap.size=H:=⟨_,rfl⟩;rw [hH] at r1;have ke:=hs.below aM;have sJ:=ab (cB b n pv lv cv W1 ke);rw [show decide (n.us.length=0)=true by rw [hu];rfl] at sJ
 have hlen:n.ps.length≤4000:=hs.fine.2.1;have VJ:=ab (O7 A pv n.ps W1 (Sp hs) (by omega) ke.iI (hE.below aM))
 have p0:=ke.c0;obtain ⟨xa,xc,BN⟩:=hs.iI.form;subst BN;have nT:=ab r1;have bN:=ab aM;have HC:=ab hc;have mh:=ab ke;have HL:=ab hlen;clear hs ke hE hc aM r1 hu;go_enter func149,ntmps149;go_wp2_with fail;refine sJ.out.mono ?_
 rintro e w1' ⟨rfl,rfl⟩;go_wp2_with fail;refine VJ.out.mono ?_
 rintro e w2 ⟨he,aS⟩;rcases he with ⟨_,rfl⟩ | ⟨k,hk,_⟩
 ·have bG:=ab (Below.next bN.out aS);have r2:=nT.out.below aS;have p0':=(mh.out.below aS).c0;have oT:=ab r2;clear aS VJ sJ r2;go_wp2_with fail;refine (An pb w2).mono ?_
  rintro e w2' ⟨rfl,rfl⟩;have eK:=C5 w2 H _ (.int .i64 76) (.int .i64 0) (.int .u64 0) (.int .i64 (n.ps.length:Int)) (.string (tG n.ps)) oT.out rfl ⟨rfl,rfl,rfl,rfl,rfl⟩;have gP:=ab eK;clear eK;go_wp2_with (refine fe rfl 87 _ _ rfl _ _ rfl rfl gP.out ?_)
  have HE:Hid (Below w.heap.size w (w2.setRow H #[.int .i64 76,.int .i64 0,.int .u64 0,.int .i64 (n.ps.length:Int),.string (tG n.ps)])):=by
   have hb:=bG.out;exact ⟨hb.os,hb.tape,hb.output,by simpa [World.setRow] using hb.size,fun k hk=>(setRow_other w2 H k _ (by omega)).trans (hb.block k hk)⟩
  refine bodyPost_ret (results_cell_row rfl _ _ H 87 _ (0,0) _ rfl (N7 w2 H _ _ oT.out) underlying87 rfl info87) rfl ?_
  exact ⟨rfl,HE.out⟩
 ·rw [HC.out] at hk;cases hk
end T
end Go.Proofs.YtihmgigfkmofnaaGreatDoor
