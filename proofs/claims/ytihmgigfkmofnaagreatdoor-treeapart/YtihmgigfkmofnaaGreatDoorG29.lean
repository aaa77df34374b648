import Derived.Test.YtihmgigfkmofnaaGreatDoorG28
import Derived.Maps.AppendAt
import Derived.Laws.Rows
set_option maxHeartbeats 4000000
set_option maxRecDepth 100000
open Go.Proofs.Tryz
namespace Go.Proofs.YtihmgigfkmofnaaGreatDoor
namespace T
open Go.RowKit
def J7(l:List S.Sh):List Value:=l.flatMap S.Sh.cells
theorem FM(a b:List S.Sh):J7 (a++b)=J7 a++J7 b:=by simp [J7]
def sj(w:World)(base:Nat)(v:Value)(l:List S.Sh):Prop:=w.ownsRow base 87 5 v l.length (J7 l)
theorem sj.nil(w:World)(base:Nat):sj w base (.slice none 0 0) []:=World.ownsRow_nil _ _ _ _
theorem sj.form{w:World}{base:Nat}{v:Value}{l:List S.Sh}(h:sj w base v l):∃ a c,v = .slice a l.length c:=by
 rcases h.2 with ⟨rfl,h0⟩ | ⟨g0,cap,cur,rfl,_⟩
 ·have:l=[]:=List.length_eq_zero_iff.1 h0;subst this;exact ⟨_,_,rfl⟩
 ·exact ⟨_,_,rfl⟩
theorem sj.dr{w:World}{base:Nat}{v:Value}{l:List S.Sh}(h:sj w base v l){g:Nat}(hg:v.ownBlock=some g):base≤g∧g<w.heap.size:=World.ownsRow.lt h g hg
theorem sj.same{w w':World}{lo:Nat}{v:Value}{l:List S.Sh}(h:sj w lo v l)(hb:∀ g,v.ownBlock=some g→w'.heap[g]?=w.heap[g]?):sj w' lo v l:=by
 refine ⟨h.1,?_⟩;rcases h.2 with h' | ⟨g,cap,cur,h',h1,h2,hr⟩
 ·exact .inl h'
 ·exact .inr ⟨g,cap,cur,h',h1,(hb g (by rw [h'];rfl)).trans h2,hr⟩
theorem VE:(prog.info? 87).map (fun i=>(i.zero,i.size,i.bytes))=some (some (.agg #[.int .i64 0,.int .i64 0,.int .u64 0,.int .i64 0,.string ByteArray.empty]),5,48):=by kernel_rfl
theorem Vm(s:S.Sh):∀ u ∈ s.cells,u.oneCell'=true:=by
 intro u hu;simp only [S.Sh.cells,dK,dx,or_false] at hu;rcases hu with rfl | rfl | rfl | rfl | rfl <;> rfl
theorem sj.push(base:Nat)(v:Value)(l:List S.Sh)(s:S.Sh)(w:World)(h:sj w base v l)(hn:l.length≤1000000)(du:base≤w.heap.size):∃ a' c' w',(Builtin.append_ #[83,83] 83 #[v,.slice (some ⟨w.heap.size,0,none⟩) 1 1]).run prog (w.alloc (.cells s.cells.toArray 87)) = .ok (.slice a' (l.length+1) c') w'∧sj w' base (.slice a' (l.length+1) c') (l++[s])∧(w.alloc (.cells s.cells.toArray 87)).grownBy w' v.ownBlock∧∀ g,(Value.slice a' (l.length+1) c').ownBlock=some g→v.ownBlock=some g∨w.heap.size≤g:=by
 obtain ⟨i0,hi,hz,b7,kF⟩:=info_parts VE;obtain ⟨W,hW⟩ : ∃ W,W=w.alloc (.cells s.cells.toArray 87):=⟨_,rfl⟩;have hsW:W.heap.size=w.heap.size+1:=by rw [hW];simp
 have mU:=bL w s.cells.toArray 87;rw [← hW] at mU;have ho:W.ownsRow base 87 5 v l.length (J7 l):=hW▸World.ownsRow.alloc h _;have ia:∀ j u,s.cells[j]?=some u→W.cell? ((⟨w.heap.size,0,none⟩ : Addr).add j)=some u:=fun j u hj=>by
  rw [bz,Nat.zero_add];obtain ⟨h1,h2⟩:=List.getElem?_eq_some_iff.1 hj;rw [← h2];exact mU.2 j (by simpa using h1)
 obtain ⟨v',w',hr,aE,hg,_,rG⟩:=run_append_own_at (P:=prog) W base 83 83 87 i0 _ 5 48 underlying83 hi hz b7 kF rfl (by decide) v l.length (J7 l) ho ⟨w.heap.size,0,none⟩ 1 1 s.cells rfl ia (Vm s) (by unfold maxLen;omega) (by omega) (by omega)
 have gi:sj w' base v' (l++[s]):=by
  unfold sj;rw [ae,FM,show J7 [s]=s.cells by simp [J7]]
  exact aE
 obtain ⟨a',c',kL⟩:=gi.form;rw [ae,aP] at kL;subst kL;refine ⟨a',c',w',hW▸hr,gi,hW▸hg,fun g GR=>?_⟩
 rcases rG with h1 | h1
 ·exact .inl (h1▸GR)
 ·rw [h1] at GR;cases GR;right;omega
def jT(tx:Nat):Nat × PD→S.Sh
 | (id,.leaf l)=>⟨76,id,tx,l.length,tk l⟩
 | (id,.br f lk)=>⟨66,id,tx,(lk.length:Int)+1,B.pF f lk⟩
structure mx(pb:Nat)(w:World)(v:Value)(w':World)(v':Value):Prop where
 size:w.heap.size≤w'.heap.size
 block:∀ k,k<w.heap.size→k≠pb→v.ownBlock≠some k→w'.heap[k]?=w.heap[k]?
 own:∀ g,v'.ownBlock=some g→v.ownBlock=some g∨w.heap.size≤g
theorem mx.refl(pb:Nat)(w:World)(v:Value):mx pb w v w v:=⟨aj _,fun _ _ _ _=>rfl,fun _ h=>.inl h⟩
theorem mx.trans{pb:Nat}{w w1 w2:World}{v v1 v2:Value}(h:mx pb w v w1 v1)(k:mx pb w1 v1 w2 v2):mx pb w v w2 v2:=by
 refine ⟨ar h.size k.size,fun i hi h2 h3=>?_,fun g hg=>?_⟩
 ·rw [k.block i (aq hi h.size) h2 (fun e=>by
   rcases h.own i e with e' | e'
   ·exact h3 e'
   ·omega)]
  exact h.block i hi h2 h3
 ·rcases k.own g hg with e | e
  ·exact h.own g e
  ·exact .inr (ar h.size e)
theorem mx.below{pb:Nat}{w w':World}(v:Value)(h:Below w.heap.size w w'):mx pb w v w' v:=⟨h.size,fun k hk _ _=>h.block k hk,fun _ h=>.inl h⟩
structure pH(w0:World)(lo pb:Nat)(pv:Value)(P:List Nat)(tx:Nat)(w:World)(sv:Value)(Z:List S.Sh):Prop where
 ew:Below w0.heap.size w0 w
 row:B.au w pb #[pv,.int .u64 (tx:Int),sv,.nilIface] 127
 sh:sj w lo sv Z
 ord:w0.heap.size≤pb∧pb<lo
 lo:lo≤w.heap.size
 pg:ni w0 pv (Q.kE P)
 pl:P.length≤1000000
section
variable {w0:World} {lo pb:Nat} {pv:Value} {P:List Nat} {tx:Nat} {w w':World} {sv nZ:Value} {Z Z':List S.Sh}
theorem pH.keep(h:pH w0 lo pb pv P tx w sv Z)(ht:mx pb w sv w' nZ)(Xt:w'.os=w.os)(htp:w'.tape=w.tape)(hou:w'.output=w.output)(hr:B.au w' pb #[pv,.int .u64 (tx:Int),nZ,.nilIface] 127)(hs:sj w' lo nZ Z'):pH w0 lo pb pv P tx w' nZ Z':=by
 have o8:=h.lo;have ho:=h.ord;refine ⟨⟨Xt.trans h.ew.os,htp.trans h.ew.tape,hou.trans h.ew.output,ar h.ew.size ht.size,fun k hk=>?_⟩,hr,hs,h.ord,ar h.lo ht.size,h.pg,h.pl⟩
 exact (ht.block k (by omega) (by omega) (fun e=>by have:=(h.sh.dr e).1;omega)).trans (h.ew.block k hk)
theorem pH.below(h:pH w0 lo pb pv P tx w sv Z)(hb:Below w.heap.size w w'):pH w0 lo pb pv P tx w' sv Z :=
 h.keep (mx.below sv hb) hb.os hb.tape hb.output (h.row.below hb) (h.sh.same fun g hg=>hb.block g (h.sh.dr hg).2)
theorem pH.push(h:pH w0 lo pb pv P tx w sv Z)(s:S.Sh)(hn:Z.length≤1000000):∃ a' c' w',(Builtin.append_ #[83,83] 83 #[sv,.slice (some ⟨w.heap.size,0,none⟩) 1 1]).run prog (w.alloc (.cells s.cells.toArray 87)) = .ok (.slice a' (Z.length+1) c') w'∧w'.frozen? ⟨pb,2,none⟩=false∧w'.cell? ⟨pb,2,none⟩=some sv∧pH w0 lo pb pv P tx (w'.setCell ⟨pb,2,none⟩ (.slice a' (Z.length+1) c')) (.slice a' (Z.length+1) c') (Z++[s])∧mx pb w sv (w'.setCell ⟨pb,2,none⟩ (.slice a' (Z.length+1) c')) (.slice a' (Z.length+1) c'):=by
 have o8:=h.lo;have ho:=h.ord;obtain ⟨a',c',w',hr,j6,hg,aE⟩:=sj.push lo sv Z s w h.sh hn o8;have aL:=ai w (.cells s.cells.toArray 87);have b7:(w.alloc (.cells s.cells.toArray 87)).heap.size=w.heap.size+1:=by simp
 have pE:=hg.size;have fJ:∀ b,b<lo→some b≠sv.ownBlock:=fun b hb e=>by
  have:=(h.sh.dr e.symm).1;omega
 have PC:∀ k,k<w.heap.size→some k≠sv.ownBlock→w'.heap[k]?=w.heap[k]?:=fun k hk h1=>(hg.block k (by omega) h1).trans (aL.block k hk)
 have bE:B.au w' pb #[pv,.int .u64 (tx:Int),sv,.nilIface] 127:=(PC pb h.row.lt (fJ _ ho.2)).trans h.row;have dC:=bJ.set pb 2 w' (.slice a' (Z.length+1) c');have jm:=dC.size;have xA:w.heap.size≤(w'.setCell ⟨pb,2,none⟩ (.slice a' (Z.length+1) c')).heap.size:=by omega
 have YD:mx pb w sv (w'.setCell ⟨pb,2,none⟩ (.slice a' (Z.length+1) c')) (.slice a' (Z.length+1) c'):=⟨xA,fun k hk h1 h2=>(dC.block k (by omega) h1).trans (PC k hk (fun e=>h2 e.symm)),aE⟩
 have I5:B.au (w'.setCell ⟨pb,2,none⟩ (.slice a' (Z.length+1) c')) pb #[pv,.int .u64 (tx:Int),.slice a' (Z.length+1) c',.nilIface] 127:=by
  unfold B.au at bE ⊢;rw [setCell_eq_setRow w' pb 2 _ _ (0,0) _ bE];exact setRow_heap w' pb _ _ _ (0,0) bE
 refine ⟨a',c',w',hr,bE.free 2,bE.cell 2 (by simp),h.keep YD (dC.os.trans (hg.os.trans aL.os)) (dC.tape.trans (hg.tape.trans aL.tape)) (dC.output.trans (hg.output.trans aL.output)) I5 (j6.same fun g GR=>?_),YD⟩
 have:=j6.dr GR;exact dC.block g this.2 (by omega)
end
end T
open Go.RowKit
theorem qV(v:Value)(l:List ByteArray)(w:World)(hm:dO l≤1152921504606846976)(hr:Ml w v l):Calls prog 241 #[v] w fun e w'=>e = .returned (.int .i64 ((dO l:Nat):Int))∧w=w':=by
 obtain ⟨a,cap,rfl,dd,hc⟩:=hr;have HC:=ab hc;obtain ⟨n,hn⟩ : ∃ n,n=l.length:=⟨_,rfl⟩;rw [← hn];have HN:=ab hn;have HM:=ab hm;have h2:n≤576460752303423488:=by
  have:dO l=2*l.length+(dV l l.length).length:=rfl;omega
 have hw:IntKind.i64.wrap (2*(n:Int))=((fs l 0:Nat):Int):=by rw [IntKind.wrap_i64,pe];omega
 clear hc hn hm dd;go_enter func241,ntmps241;go_wp2;go_loop [3,11] (fun r i=>∃ k:Nat,k≤n∧i = .int .i64 k∧r = .int .i64 ((fs l k:Nat):Int)) (fun _ i=>n - (intOf i).toNat)
 case atStart=>exact ⟨0,aD _,rfl,rfl⟩
 case round =>
  obtain ⟨k,hk,rfl,rfl⟩:=hrel;clear hw;by_cases bN:k<n
  ·have cL:k<l.length:=by have:=HN.out;omega
   obtain ⟨g,o,rfl,f1⟩:=HC.out k cL;have HS:=ab (mm l k cL);have HL:=ab (tj l (k+1) l.length (by omega) (aj _))
   obtain ⟨p,hp⟩ : ∃ p,p=fs l k:=⟨_,rfl⟩;rw [← hp] at HS ⊢;obtain ⟨q,hq⟩ : ∃ q,q=fs l (k+1):=⟨_,rfl⟩;rw [← hq] at HS HL;have HQ:=ab hq;generalize l[k]=x at *;have hw:IntKind.i64.wrap ((p:Int)+(x.size:Int))=(q:Int):=by
    rw [IntKind.wrap_i64];have h1:=HS.out;have h2:=HL.out;have h3:fs l l.length≤1152921504606846976:=HM.out;omega
   have dP:(k:Int)<(n:Int):=by omega
   clear hp hq HC;go_wp2;go_round
   case rel=>exact ⟨k+1,by omega,by go_num,by rw [← HQ.out]⟩
   case measure=>simp [intOf];omega
  ·have nM:k=n:=by omega
   have HF:Hid (fs l k=dO l):=by show _=_;rw [nM,HN.out];rfl
   obtain ⟨p,hp⟩ : ∃ p,p=fs l k:=⟨_,rfl⟩;rw [← hp] at HF ⊢;have dP:¬ (k:Int)<(n:Int):=by omega
   clear hp HC;go_wp2;go_ret;exact ⟨by rw [← HF.out];rfl,rfl⟩
theorem RK(l:List UInt8)(k:Nat)(x:UInt8):(dS l).set k (.int .u8 (x.toNat:Int))=dS (l.set k x):=by simp [dS,List.map_set]
theorem nG.set{t:TypeId}{w:World}{g:Nat}{l:List UInt8}(h:nG t w g l)(k:Nat)(x:UInt8):nG t (w.setCell ⟨g,k,none⟩ (.int .u8 (x.toNat:Int))) g (l.set k x):=by
 unfold nG;rw [heap_setCell_same w g k _ t _ h,← RK];simp
theorem nG.frozen{t:TypeId}{w:World}{g:Nat}{l:List UInt8}(h:nG t w g l)(k:Nat):w.frozen? ⟨g,k,none⟩=false:=frozen_of_row _ _ _ _ _ h
theorem CM(t:TypeId)(b i e n:Nat)(l:List UInt8)(w:World)(he:e≤4072)(hl:l.length=n)(hi:2*i+1<n)(hn:n≤4072)(hr:nG t w b l):Calls prog 242 #[.slice (some ⟨b,0,none⟩) n n,.int .i64 (i:Int),.int .i64 (e:Int)] w fun ev w'=>ev = .returned (.tuple #[])∧nG t w' b ((l.set (2*i) (GQ e)).set (2*i+1) (Fa e))∧bJ b w w':=by
 obtain ⟨p,hp⟩ : ∃ p,p=2*i:=⟨_,rfl⟩;obtain ⟨q,hq⟩ : ∃ q,q=p+1:=⟨_,rfl⟩;have hw:IntKind.i64.wrap (2*(i:Int))=(p:Int):=by rw [IntKind.wrap_i64];omega
 have Q6:IntKind.i64.wrap ((p:Int)+1)=(q:Int):=by rw [IntKind.wrap_i64];omega
 have h1:(p:Int)<(n:Int):=by omega
 have h2:(q:Int)<(n:Int):=by omega
 have Jf:p<n:=by omega
 have PM:q<n:=by omega
 have hpq:¬ q=p:=by omega
 have c1:=hr.cell p (by omega)
 have c2:=hr.cell q (by omega)
 have z1:=hr.frozen p;have z2:=hr.frozen q;have HR:Hid (nG t ((w.setCell ⟨b,p,none⟩ (.int .u8 ((GQ e).toNat:Int))).setCell ⟨b,q,none⟩ (.int .u8 ((Fa e).toNat:Int))) b ((l.set (2*i) (GQ e)).set (2*i+1) (Fa e))):=by
  have:=(hr.set p (GQ e)).set q (Fa e);rw [hq,hp] at this;rw [hq,hp];exact this
 have HS:Hid (bJ b w ((w.setCell ⟨b,p,none⟩ (.int .u8 ((GQ e).toNat:Int))).setCell ⟨b,q,none⟩ (.int .u8 ((Fa e).toNat:Int)))):=(bJ.set b p w _).trans (bJ.set b q _ _);rw [Ar e he,z8] at HR HS;have e1:((e / 256:Nat):Int)=(e:Int) / 256:=by omega
 have e2:((e % 256:Nat):Int)=(e:Int) % 256:=by omega
 rw [e1,e2] at HR HS;generalize l[p]=y1 at *;generalize l[q]=y2 at *;clear hp hq hl hi hr e1 e2;go_enter func242,ntmps242;go_wp2;go_end0
 exact ⟨rfl,HR.out,HS.out⟩
theorem L6(l:List ByteArray)(k:Nat)(hk:k<l.length):((splice (gN l k) (fs l k) l[k].data.toList).set (2*k) (GQ (fs l (k+1)))).set (2*k+1) (Fa (fs l (k+1)))=gN l (k+1):=by
 have he:fs l k=(fS l k++(List.replicate (2*(l.length - k)) (0:UInt8)++dV l k)).length:=by
  simp only [ae,bu,dM];have:fs l k=2*l.length+(dV l k).length:=rfl;omega
 have h1:gN l k=(fS l k++(List.replicate (2*(l.length - k)) (0:UInt8)++dV l k))++List.replicate (4072 - fs l k) 0:=by
  unfold gN;simp only [ax]
 have h2:splice (gN l k) (fs l k) l[k].data.toList=(fS l k++(List.replicate (2*(l.length - k)) (0:UInt8)++dV l k))++(l[k].data.toList++List.replicate (4072 - fs l (k+1)) 0):=by
  unfold splice;rw [h1];conv=>lhs;rw [he]
  rw [ee,← List.drop_drop,fF,← he,nA,bsize,mm l k hk,Nat.sub_sub]
 rw [h2,ax,ax,show 2*(l.length - k)=2*(l.length - (k+1))+1+1 by omega,List.replicate_succ,List.replicate_succ]
 have hs:=dM l k;rw [bV _ _ (by omega),hs,dL]
 simp only [List.cons_append,List.set_cons_zero];rw [bV _ _ (by omega),hs,show 2*k+1 - 2*k=1 by omega]
 simp only [List.set_cons_succ,List.set_cons_zero];unfold gN;rw [uh l k hk,fS];simp [List.append_assoc]
theorem MW:∀ w,(zeroValue 333).run prog w = .ok (.agg (dS (List.replicate 4072 0)).toArray) w:=(zero_of_info (P:=prog) (t:=333) (n:=4072) (v:=.agg (dS (List.replicate 4072 0)).toArray) (by kernel_rfl)).1
theorem RV(b:Nat)(w:World):(Instr.sliceAt 333 (.pointer (some ⟨b,0,none⟩)) none none none).run prog w = .ok (.slice (some ⟨b,0,none⟩) 4072 4072) w:=by kernel_rfl
theorem vD:prog.arrayLen 333=4072:=by kernel_rfl
theorem ET:prog.elem 333=5:=by kernel_rfl
theorem RU(b e:Nat)(h:e≤4072):∃ o,(e<4072→o=e)∧o≤e∧∀ w,(Instr.sliceAt 333 (.pointer (some ⟨b,0,none⟩)) (some (.int .i64 (e:Int))) none none).run prog w = .ok (.slice (some ⟨b,o,none⟩) (4072 - e) (4072 - e)) w:=by
 by_cases h4:e=4072
 ·refine ⟨0,fun h'=>by omega,aD _,fun w=>?_⟩
  have hz:(sizeOf 5).run prog w = .ok 1 w:=by kernel_rfl
  rw [run_sliceAt_array_l w 333 ⟨b,0,none⟩ (by kernel_rfl) .i64 _ (by omega) (by rw [vD];omega),vD,ET,bm,hz]
  subst h4;rfl
 ·refine ⟨e,fun _=>rfl,aj _,fun w=>?_⟩
  have hz:(sizeOf 5).run prog w = .ok 1 w:=by kernel_rfl
  rw [run_sliceAt_array_l w 333 ⟨b,0,none⟩ (by kernel_rfl) .i64 _ (by omega) (by rw [vD];omega),vD,ET,bm,hz]
  by_cases h0:e=0
  ·subst h0;rfl
  ·simp [slicedAt,Addr.add,show ¬ 4072=e by omega,h0]
theorem Tq{t:TypeId}{w:World}{g o cap n:Nat}{l:List UInt8}(s:ByteArray)(hr:nG t w g l)(hn:s.size≤n)(eC:o+s.size≤l.length):∃ w2,(Builtin.copy_ #[145,9] 3 #[.slice (some ⟨g,o,none⟩) n cap,.string s]).run prog w = .ok (.int .i64 (s.size:Int)) w2∧nG t w2 g (splice l o s.data.toList)∧bJ g w w2:=by
 have bn:=Lib.run_copy_row_string (P:=prog) w 145 9 3 5 g o n cap s _ t underlying145 tO hr hn (by simp [aY];omega)
 refine ⟨_,bn,?_,bJ.setRow g w _⟩;have bE:=setRow_heap w g _ ((dS l).toArray.toList.take o++Lib.byteCells s.data.toList++(dS l).toArray.toList.drop (o+s.size)).toArray t _ hr;unfold nG;rw [bE,← pY,splice,aY,bsize,ax];rfl
def adX(A:Nat→Addr)(l:List ByteArray)(e:Ending):Prop :=
 (dO l≤4072∧e = .returned (.tuple #[.string ⟨(js l).toArray⟩,.nilIface]))∨(¬ dO l≤4072∧e = .returned (.tuple #[.string ⟨#[]⟩,.iface 360 (.pointer (some (A 2)))]))
theorem OK(a:Option Addr)(cap n:Nat)(l:List ByteArray)(w:World)(hn:n=l.length)(hf:dO l≤4072)(hc:∀ j (h:j<l.length),∃ g o,a=some ⟨g,o,none⟩∧w.cell? ⟨g,o+j,none⟩=some (.string l[j]))(hle:n≤cap):Calls prog 223 #[.slice a n cap] w fun e w'=>e = .returned (.tuple #[.string ⟨(js l).toArray⟩,.nilIface])∧Below w.heap.size w w':=by
 have gD:=ab (qV (.slice a n cap) l w (by omega) ⟨a,cap,by rw [hn],by rw [← hn];exact hle,hc⟩)
 have b7:¬ (4072:Int)<((dO l:Nat):Int):=by omega
 have h2n:2*n≤4072:=by
  have:dO l=2*l.length+(dV l l.length).length:=rfl;omega
 obtain ⟨zc,Xh,z4⟩ : ∃ zc,zc=(dS (List.replicate 4072 0)).toArray∧∀ w,(zeroValue 333).run prog w = .ok (.agg zc) w:=⟨_,rfl,MW⟩;obtain ⟨b,hb⟩ : ∃ b,b=w.heap.size:=⟨_,rfl⟩;have bE:nG 333 (w.alloc (.cells zc 333)) b (gN l 0):=by rw [EM l hf,Xh,hb];exact NI _ _ _
 have aL:=ai w (.cells zc 333);have GB:IntKind.i64.wrap (2*(n:Int))=((fs l 0:Nat):Int):=by rw [IntKind.wrap_i64,pe,hn];omega
 have sl:=RV b;have mA:=ab bE;have bP:=ab aL;have HC:=ab hc;have HN:=ab hn;have HF:=ab hf;have HB:=ab hb;have lU:=ab (rz l hf);obtain ⟨sz,OX⟩ : ∃ sz,sz=dO l:=⟨_,rfl⟩;rw [← OX] at gD b7;clear bE aL hc hn hf Xh OX hb hle;go_enter func223,ntmps223;go_wp2_with fail;refine gD.out.mono ?_
 rintro e w' ⟨rfl,rfl⟩;go_wp2_with fail;rw [← HB.out];generalize w.alloc (.cells zc 333)=W1 at *;clear z4 gD;go_loopw [5,17] (fun en i wr=>∃ k:Nat,k≤n∧i = .int .i64 k∧en = .int .i64 ((fs l k:Nat):Int)∧nG 333 wr b (gN l k)∧Below w.heap.size w wr) (fun _ i _=>n - (intOf i).toNat)
 case atStart=>exact ⟨0,aD _,rfl,rfl,mA.out,bP.out⟩
 case round =>
  obtain ⟨k,hk,rfl,rfl,SL,bO⟩:=hrel;clear mA bP GB;by_cases bN:k<n
  ·have cL:k<l.length:=by have:=HN.out;omega
   obtain ⟨g,o,rfl,f0⟩:=HC.out k cL;have f1:wr.cell? ⟨g,o+k,none⟩=some (.string l[k]):=(bO.cell (p:=⟨g,o+k,none⟩) (World.block_lt_of_cell? w _ f0)).trans f0;have HS:=ab (mm l k cL);have HL:=ab (vC HF.out (show k+1≤l.length by omega))
   have gS:=ab (L6 l k cL);have T3:=ab (Hh l k HF.out (by omega))
   have HGE:=ab (Tg l (k+1));obtain ⟨x,hx⟩ : ∃ x,x=l[k]:=⟨_,rfl⟩;rw [← hx] at f1 HS gS;obtain ⟨p,hp⟩ : ∃ p,p=fs l k:=⟨_,rfl⟩;obtain ⟨q,hq⟩ : ∃ q,q=fs l (k+1):=⟨_,rfl⟩;rw [← hp] at HS gS ⊢;rw [← hq] at HS gS HL HGE;have HQ:=ab hq;obtain ⟨so,lp,jE,qq⟩:=RU b p (by have:=HS.out;have:=HL.out;omega)
   obtain ⟨w2,yz,iG,jm⟩:=Tq (n:=4072 - p) (cap:=4072 - p) (o:=so) x SL (by have:=HS.out;have:=HL.out;omega) (by rw [T3.out];have:=HS.out;have:=HL.out;omega)
   have YK:splice (gN l k) so x.data.toList=splice (gN l k) p x.data.toList:=by
    by_cases h4:p<4072
    ·rw [lp h4]
    ·have Q4:x.data.toList=[]:=List.length_eq_zero_iff.1 (by rw [bsize];have:=HS.out;have:=HL.out;omega)
     rw [Q4];simp [splice]
   rw [YK] at iG;have I8:(splice (gN l k) p x.data.toList).length=4072:=by
    rw [length_splice _ _ _ (by rw [bsize,T3.out];have:=HS.out;have:=HL.out;omega)];exact T3.out
   have mI:=ab (CM 333 b k q 4072 _ w2 HL.out I8 (by have:=HN.out;omega) (aj _) iG)
   rw [gS.out] at mI;have hw:IntKind.i64.wrap ((p:Int)+(x.size:Int))=(q:Int):=by
    rw [IntKind.wrap_i64];have:=HS.out;have:=HL.out;omega
   have bH:Hid (Below w.heap.size w w2):=jm.below bO (by rw [HB.out];exact aj _)
   have dP:(k:Int)<(n:Int):=by omega
   clear hx hp hq HC iG jm SL bO YK I8 f0 lp jE;go_wp2_with fail;refine mI.out.mono ?_
   rintro e w3 ⟨rfl,pO,O0⟩;have Rw:=ab pO;have eG:Hid (Below w.heap.size w w3):=O0.below bH.out (by rw [HB.out];exact aj _)
   clear pO O0 yz f1;go_wp2;go_roundw
   case rel=>exact ⟨k+1,by omega,by go_num,by rw [← HQ.out],Rw.out,eG.out⟩
   case measure=>simp [intOf];omega
  ·have nM:k=n:=by omega
   have dP:¬ (k:Int)<(n:Int):=by omega
   have Xp:nG 333 wr b (js l):=by rw [nM,HN.out,Hi] at SL;exact SL
   have xJ:=ly wr (.slice (some ⟨b,0,none⟩) 4072 4072) (js l) ⟨some ⟨b,0,none⟩,4072,by rw [lU.out],fun j hj=>⟨b,0,rfl,by rw [Nat.zero_add];exact Xp.cell j hj⟩⟩ (by rw [lU.out];decide)
   have jQ:=ab bO;obtain ⟨p,hp⟩ : ∃ p,p=fs l k:=⟨_,rfl⟩;rw [← hp];obtain ⟨L,hL⟩ : ∃ L,L=js l:=⟨_,rfl⟩;rw [← hL] at xJ;have HLQ:=ab hL;clear hp SL Xp bO HC hL;go_wp2;go_ret2;exact ⟨by rw [← HLQ.out];rfl,jQ.out⟩
theorem ry(A:Nat→Addr)(v:Value)(l:List ByteArray)(w:World)(hm:dO l≤1152921504606846976)(hr:Ml w v l)(hE:dA 4 eR A w):Calls prog 223 #[v] w fun e w'=>adX A l e∧Below w.heap.size w w':=by
 by_cases hf:dO l≤4072
 ·obtain ⟨a,cap,rfl,dd,hc⟩:=hr;refine (OK a cap l.length l w rfl hf hc dd).mono ?_
  rintro e w' ⟨rfl,hb⟩;exact ⟨.inl ⟨hf,rfl⟩,hb⟩
 ·have gD:=ab (qV v l w hm hr);have b7:(4072:Int)<((dO l:Nat):Int):=by omega
  have c0:w.cell? ⟨2,0,none⟩=some (.iface 360 (.pointer (some (A 2)))):=(hE.1 2 (by decide)).1
  have HF:=ab hf;obtain ⟨sz,OX⟩ : ∃ sz,sz=dO l:=⟨_,rfl⟩;rw [← OX] at gD b7;clear hf hE hr hm OX;go_enter func223,ntmps223;go_wp2_with fail;refine gD.out.mono ?_
  rintro e w' ⟨rfl,rfl⟩;go_wp2;go_quiet (fail)
  go_wp2;go_ret2;exact ⟨.inr ⟨HF.out,rfl⟩,aA (Below.refl _ _) _⟩
def vR(l:List Pr)(k:Nat):List Value:=strs ((l.take k).map fk)++List.replicate (l.length - k) (.string ByteArray.empty)
theorem Nc(l:List Pr)(k:Nat)(h:k<l.length):(vR l k).set k (.string (fk l[k]))=vR l (k+1):=by
 have hl:(strs ((l.take k).map fk)).length=k:=by rw [jS,az,ag];omega
 unfold vR;rw [bV _ _ (by omega),hl,dL,ay h,bt,n7,show l.length - k=l.length - (k+1)+1 by omega,List.replicate_succ,List.set_cons_zero,ax]
 rfl
theorem Nf(l:List Pr)(k:Nat)(h:k≤l.length):(vR l k).length=l.length:=by
 unfold vR;rw [ae,jS,az,ag,bu];omega
theorem JO(l:List Pr):vR l 0=List.replicate l.length (.string ByteArray.empty):=by simp [vR,strs]
theorem Ng(l:List Pr):vR l l.length=strs (l.map fk):=by simp [vR]
theorem wR{w w':World}{base e n:Nat}{v:Value}{xs:List Value}(h:w.ownsRow base e 1 v n xs)(hb:Below w.heap.size w w'):w'.ownsRow base e 1 v n xs:=by
 refine ⟨h.1,?_⟩;rcases h.2 with h' | ⟨g,cap,cur,h',h1,h2,hr⟩
 ·exact .inl h'
 ·refine .inr ⟨g,cap,cur,h',h1,?_,hr⟩;have hg:g<w.heap.size:=by
   rcases bg g w.heap.size with h' | h'
   ·exact h'
   ·rw [aX h'] at h2;cases h2
  rw [hb.block g hg];exact h2
def ae5(A:Nat→Addr)(l:List Pr)(e:Ending):Prop :=
 (zh l true=none∧e = .returned (.tuple #[.string (tk l),.nilIface]))∨(∃ k,zh l true=some k∧e = .returned (.tuple #[.string ⟨#[]⟩,ig A (some k)]))
theorem OC(A:Nat→Addr)(v:Value)(l:List Pr)(w:World)(cN:TL l)(hm:l.length≤140737488355328)(hr:gG w v l)(hE:jL A w):Calls prog 182 #[v] w fun e w'=>ae5 A l e∧Below w.heap.size w w':=by
 have nO:=ab (qk A v l true w cN hm hr hE);have HE:=ab hE;obtain ⟨i0,hi,hz,b7,kF⟩:=info_parts info9;obtain ⟨a,cap,rfl,dd,_,hc⟩:=hr;have HC:=ab hc;cases lu:zh l true with
 | some k =>
  rw [lu] at nO;have D6:=fun W=>eZ (some (A k)) W
  have HV:Hid (zh l true=some k):=lu;clear hc dd hE cN hi hz b7 kF lu;go_enter func182,ntmps182;go_wp2_with fail;refine nO.out.mono ?_
  rintro e w1 ⟨rfl,aL⟩;unfold ig;go_wp2;go_ret2;exact ⟨.inr ⟨k,HV.out,rfl⟩,aL⟩
 | none =>
  rw [lu] at nO;obtain ⟨h1,h2,h3,h4,h5⟩:=rQ lu;have hlen:=iw l;have WO:=ab h1;have gD:Hid (dO (l.map fk)≤4072):=by rw [qc];exact h3
  have xD:l.length≤814:=by omega
  have HV:Hid (zh l true=none):=lu;obtain ⟨n,hn⟩ : ∃ n,n=l.length:=⟨_,rfl⟩;rw [← hn] at xD nO ⊢;have HN:=ab hn;clear hc dd hE cN lu h1 h2 h3 h4 h5 hlen hn hm;go_enter func182,ntmps182;go_wp2_with fail;refine nO.out.mono ?_
  rintro e w1 ⟨rfl,aL⟩;obtain ⟨wm,pC,fP,pR⟩:=run_make_full (P:=prog) w1 w1.heap.size 231 9 i0 _ 1 underlying231 hi hz b7 .i64 .i64 n (by rw [kF];omega) (by unfold maxLen;omega) (aj _)
  have nK:(madeCells (Value.string ByteArray.empty).cells (n*1)).toList=vR l 0:=by
   rw [JO,Nat.mul_one,HN.out];exact toList_madeCells_one _ _
  rw [nK] at fP;have Ca:Below w1.heap.size w1 wm:=(Below.refl _ _).grown pR (aj _) (fun j hj=>by cases hj)
  obtain ⟨b,hb⟩ : ∃ b,b=w1.heap.size:=⟨_,rfl⟩;rw [← hb] at pC fP;have HB:=ab hb;have HO:=ab fP;have JA:=ab (Below.next aL Ca);have bP:=ab aL;clear hb fP Ca pR hi hz b7 kF nK aL nO;unfold ig;go_wp2;clear pC;go_loopw [18] (fun i wr=>∃ k:Nat,k≤n∧i = .int .i64 k∧wr.ownsRow b 9 1 (.slice (some ⟨b,0,none⟩) n n) n (vR l k)∧Below w.heap.size w wr) (fun i _=>n - (intOf i).toNat)
  case atStart=>exact ⟨0,aD _,rfl,HO.out,JA.out⟩
  case round =>
   obtain ⟨k,hk,rfl,aE,bO⟩:=hrel;clear HO JA;by_cases bN:k<n
   ·have cL:k<l.length:=by have:=HN.out;omega
    obtain ⟨g,o,rfl,f1,f2⟩:=HC.out k cL;have c1:wr.cell? ⟨g,o+k*2,none⟩=some (.string l[k].1):=(bO.cell (p:=⟨g,o+k*2,none⟩) (World.block_lt_of_cell? w _ f1)).trans f1;have c2:wr.cell? ⟨g,o+k*2+1,none⟩=some (.string l[k].2):=(bO.cell (p:=⟨g,o+k*2+1,none⟩) (World.block_lt_of_cell? w _ f2)).trans f2;have Ao:=eL (WO.out l[k] (aG _));have ir:=ab (Nc l k cL);have eU:=ai wr (.cells #[.string l[k].1,.string l[k].2] 52);have qP:=ab (wR aE eU);have zq:=ab (Below.next bO eU);have HZ:=ab (fun W=>Qm l[k] W Ao.2.1 (by omega))
    obtain ⟨p,hp⟩ : ∃ p,p=l[k]:=⟨_,rfl⟩;rw [← hp] at c1 c2 ir qP zq HZ;have kH:=ab (Nf l k (by omega))
    have dP:(k:Int)<(n:Int):=by omega
    have j0:(0:Int)≤(k:Int):=by omega
    clear hp HC f1 f2 bO aE Ao eU;go_wp2_with fail;refine (HZ.out _).mono ?_
    rintro e w2 ⟨rfl,aU⟩;have lp:=wR qP.out aU;have q1:∃ u,w2.cell? ⟨b,k,none⟩=some u:=by
     rw [World.ownsRow.cellAt lp k (by omega)]
     exact ⟨_,af (by rw [kH.out];exact cL)⟩
    obtain ⟨u,q1⟩:=q1;have z1:w2.frozen? ⟨b,k,none⟩=false:=World.ownsRow.frozenAt lp k;obtain ⟨z,hz⟩ : ∃ z,z=fk p:=⟨_,rfl⟩;rw [← hz] at ir ⊢;have fj:=(World.ownsRow.stored lp k (.string z)).1;rw [ir.out] at fj;have jP:=ab fj;have bH:Hid (Below w.heap.size w (w2.setCell ⟨b,k,none⟩ (.string z))):=(Below.next zq.out aU).setCell (by rw [HB.out];exact bP.out.size) _
    clear aU zq HZ c1 c2 lp fj hz ir qP;go_wp2;go_roundw
    case rel=>exact ⟨k+1,by omega,by go_num,jP.out,bH.out⟩
    case measure=>simp [intOf];omega
   ·have nM:k=l.length:=by have:=HN.out;omega
    rw [nM,Ng] at aE;have hs:=(fT aE).strs;have HLY:=ab (ry A _ (l.map fk) wr (by have:=gD.out;omega) hs (HE.out.below bO).1)
    have jQ:=ab bO;have dP:¬ (k:Int)<(n:Int):=by have:=HN.out;omega
    have U9:=ab nM;clear HC bO aE nM hs;go_wp2_with fail;refine HLY.out.mono ?_
    rintro e w3 ⟨hv,bT⟩;have km:e = .returned (.tuple #[.string (tk l),.nilIface]):=by
     rcases hv with ⟨_,h⟩ | ⟨h,_⟩
     ·exact h
     ·exact absurd gD.out h
    subst km;have eG:=ab (Below.next jQ.out bT);clear hv bT HLY;go_wp2;go_ret2;exact ⟨.inl ⟨HV.out,rfl⟩,eG.out⟩
namespace B
theorem Hj(n:Nat)(_h:n≤255):bI n 1=[UInt8.ofNat n]:=by
 unfold bI qA ko;simp [List.range,List.range.loop]
theorem q9{w:World}{base g m c:Nat}{l:List UInt8}(h:w.ownsRow base 5 1 (.slice (some ⟨g,0,none⟩) m c) m (dS l))(hl:l.length=m):UW w (.slice (some ⟨g,0,none⟩) m c) l :=
 ⟨_,_,by rw [hl],fun j hj=>⟨g,0,rfl,by rw [Nat.zero_add,World.ownsRow.cellAt h j (by omega)];exact iu l j hj⟩⟩
def KL(n:Nat):ByteArray:=⟨[UInt8.ofNat n].toArray⟩
theorem EJ(p:Lk):KL p.1.size++p.1++jY p.2.toNat=mq p:=by
 refine hO ?_
 rw [jH];simp [KL,jY]
theorem AF(m:Nat)(w:World)(hm:m<1048576):Calls prog 224 #[.int .i64 (m:Int)] w fun e w'=>e = .returned (.string (jY m))∧Below w.heap.size w w':=by
 have HP:=ab (wF m 4 w (by omega) (by decide) (by decide) (by omega))
 have w1:(m:Int) % 18446744073709551616=(m:Int):=by omega
 have HL:=ab (eA m 4 (by decide))
 go_enter func224,ntmps224;go_wp2_with fail;refine HP.out.mono ?_
 rintro e w2 ⟨g,c2,rfl,aE,hb⟩;have cv:=ly w2 _ _ (q9 aE HL.out) (by rw [HL.out];decide)
 have HB:=ab hb;clear aE hb HP;obtain ⟨cc,s7⟩ : ∃ cc,cc=jY m:=⟨_,rfl⟩;have yC:=ab s7;have ZP:(⟨(bI m 4).toArray⟩ : ByteArray)=cc:=by rw [s7];rfl
 rw [ZP] at cv;clear s7 ZP;go_wp2;go_ret;exact ⟨by rw [← yC.out];rfl,HB.out⟩
theorem Gy(key:ByteArray)(w:World)(h1:key.size≤255):Calls prog 243 #[.string key] w fun e w'=>e = .returned (.string (KL key.size))∧Below w.heap.size w w':=by
 have HP:=ab (wF key.size 1 w (by omega) (by decide) (by decide) (by omega))
 have Fw:=ab (Hj key.size h1);have w1:(key.size:Int) % 18446744073709551616=(key.size:Int):=by omega
 go_enter func243,ntmps243;go_wp2_with fail;refine HP.out.mono ?_
 rintro e w2 ⟨g,c2,rfl,aE,hb⟩;rw [Fw.out] at aE;have cv:=ly w2 _ _ (q9 aE rfl) (by simp)
 have HB:=ab hb;clear aE hb HP;obtain ⟨cc,s7⟩ : ∃ cc,cc=KL key.size:=⟨_,rfl⟩;have yC:=ab s7;have ZP:(⟨[UInt8.ofNat key.size].toArray⟩ : ByteArray)=cc:=by rw [s7];rfl
 rw [ZP] at cv;clear s7 ZP;go_wp2;go_ret;exact ⟨by rw [← yC.out];rfl,HB.out⟩
theorem KJ(p:Lk)(w:World)(hp:gy p=true):Calls prog 225 #[.agg #[.string p.1,.int .i64 p.2]] w fun e w'=>e = .returned (.string (mq p))∧Below w.heap.size w w':=by
 obtain ⟨h1,h2,h3,h4⟩:=kV hp;obtain ⟨m,hm⟩ : ∃ m:Nat,p.2=(m:Int):=⟨p.2.toNat,by omega⟩
 have vH:=ab (EJ p);rw [hm] at vH ⊢;rw [bm] at vH;have I7:m<1048576:=by omega
 have q0:=ai w (.cells #[.string p.1,.int .i64 (m:Int)] 179);have x0:=au.new w #[.string p.1,.int .i64 (m:Int)] 179;generalize Cc:w.alloc (.cells #[.string p.1,.int .i64 (m:Int)] 179)=W0 at *;have p0:=x0.c0;have p1:=x0.c1;have HX:=ab x0;have HQ:=ab q0;have HK:Hid (∀ W,Calls prog 243 #[.string p.1] W fun e w'=>e = .returned (.string (KL p.1.size))∧Below W.heap.size W w'):=fun W=>Gy p.1 W h2
 have HC:Hid (∀ W,Calls prog 224 #[.int .i64 (m:Int)] W fun e w'=>e = .returned (.string (jY m))∧Below W.heap.size W w'):=fun W=>AF m W I7
 obtain ⟨t1,DV⟩ : ∃ t,t=KL p.1.size:=⟨_,rfl⟩;obtain ⟨t2,sX⟩ : ∃ t,t=jY m:=⟨_,rfl⟩;have z1:t1.size=1:=by rw [DV];rfl
 have z2:t2.size=4:=by rw [sX];exact qD m
 rw [← DV] at HK vH;rw [← sX] at HC vH;have a1:∀ w,(Op.stringOp .add t1 p.1).run prog w = .ok (.string (t1++p.1)) w:=fun w=>run_string_add_sum (P:=prog) (w:=w) _ _ (by rw [z1];omega)
 have a2:∀ w,(Op.stringOp .add (t1++p.1) t2).run prog w = .ok (.string (t1++p.1++t2)) w:=fun w=>run_string_add_sum (P:=prog) (w:=w) _ _ (by rw [ByteArray.size_append,z1,z2];omega)
 have Bw:W0.heap.size≤W0.heap.size:=aj _;clear h1 h2 h3 h4 hm I7 q0 x0 DV sX hp;go_enter func225,ntmps225;go_wp2_with fail;go_region_held3 (fun w'=>w'.cell? ⟨w.heap.size,0,none⟩=some (.string p.1)∧w'.cell? ⟨w.heap.size,1,none⟩=some (.int .i64 (m:Int))) (go_keep)
  (first
   | (go_at_call 243;refine (HK.out _).mono ?_;rintro e w1 ⟨rfl,aL⟩;have S7:Below W0.heap.size W0 w1:=(by first | exact Below.next bH.out aL | exact dq aL);have bP:=ab S7;have m0:=(HX.out.below S7).c0;have m1:=(HX.out.below S7).c1;clear aL S7)
   | (go_at_call 224;refine (HC.out _).mono ?_;rintro e w2 ⟨rfl,aU⟩;have S6:Below W0.heap.size W0 w2:=(by first | exact Below.next bP.out aU | exact dq aU);have bH:=ab S6;have n0:=(HX.out.below S6).c0;have n1:=(HX.out.below S6).c1;clear aU S6))
 all_goals
  go_wp2;go_ret;exact ⟨by rw [← vH.out];rfl,Below.next HQ.out (by first | exact bH.out | exact bP.out)⟩
theorem NQ(base:Nat)(v:Value)(xs:List ByteArray)(x:ByteArray)(t:TypeId)(w w0:World)(B n:Nat)(hn:xs.length=n)(aE:w.ownsRow base 9 1 v n (strs xs))(hb:(n+1)*16≤140737488355328)(du:base≤w.heap.size)(hB:B≤base)(h0:Below B w0 w):∃ a' eS w',(Builtin.append_ #[231,231] 231 #[v,.slice (some ⟨w.heap.size,0,none⟩) 1 1]).run prog (w.alloc (.cells #[.string x] t)) = .ok (.slice a' (n+1) eS) w'∧w'.ownsRow base 9 1 (.slice a' (n+1) eS) (n+1) (strs (xs++[x]))∧Below B w0 w'∧w.heap.size≤w'.heap.size:=by
 subst hn;have hr:ni (w.alloc (.cells #[.string x] t)) (.slice (some ⟨w.heap.size,0,none⟩) 1 1) [.string x]:=by
  have mU:=bL w #[.string x] t;refine ⟨_,_,rfl,aj _,fun h=>(by cases h),fun j u hj=>⟨_,_,rfl,?_⟩⟩
  have K7:j=0:=by
   have:=(List.getElem?_eq_some_iff.1 hj).1;simpa using this
  subst K7;cases hj;exact mU.2 0 (by simp)
 obtain ⟨a',eS,w',bn,gi,hg⟩:=nh 231 9 _ 16 info9 underlying231 rfl base xs.length v (strs xs) _ (World.ownsRow.alloc aE _) _ _ hr (fun u hu=>by simp at hu;subst hu;rfl) (by simpa using hb) (by decide) (by simp;omega)
 refine ⟨a',eS,w',bn,by rw [n7];exact gi,?_,?_⟩
 ·exact (h0.alloc (ar hB du) _).grown hg (by simp;omega) (fun k hk=>ar hB (World.ownsRow.lt aE k hk).1)
 ·have:=hg.size;simp at this
  omega
def abg(A:Nat→Addr)(f:Int)(l:List Lk)(e:Ending):Prop :=
 (mX f l true=none∧e = .returned (.tuple #[.string (pF f l),.nilIface]))∨(∃ k,mX f l true=some k∧e = .returned (.tuple #[.string ⟨#[]⟩,ig A (some k)]))
theorem Qs(A:Nat→Addr)(f:Int)(v:Value)(l:List Lk)(w:World)(cN:UX l)(hm:l.length≤5864062014805)(hr:di w v l)(hE:pJ A w):Calls prog 185 #[.agg #[.int .i64 f,v]] w fun e w'=>abg A f l e∧Below w.heap.size w w':=by
 obtain ⟨a,cap,hv⟩:=hr.form;subst hv;obtain ⟨n,hn⟩ : ∃ n,n=l.length:=⟨_,rfl⟩;rw [← hn] at hr ⊢;have q0:=ai w (.cells #[.int .i64 f,.slice a n cap] 150);have x0:=au.new w #[.int .i64 f,.slice a n cap] 150;generalize Cc:w.alloc (.cells #[.int .i64 f,.slice a n cap] 150)=W0 at *;have p0:=x0.c0;have p1:=x0.c1;have HX:=ab x0;have HQ:=ab q0;have HE:=ab (hE.below q0);have HR:=ab (hr.below q0);have HN:=ab hn;have nO:=ab (yg A f _ l true W0 cN hm (hr.below q0) (hE.below q0));cases lu:mX f l true with
 | some k =>
  rw [lu] at nO;have D6:=fun W=>eZ (some (A k)) W
  have HV:Hid (mX f l true=some k):=lu;clear hr hE cN lu q0 x0 hn hm;go_enter func185,ntmps185;go_wp2_with fail;refine nO.out.mono ?_
  rintro e w1 ⟨rfl,aL⟩;have HB:=ab (Below.next HQ.out aL);clear aL;unfold ig;go_wp2;go_ret2;exact ⟨.inr ⟨k,HV.out,rfl⟩,HB.out⟩
 | none =>
  rw [lu] at nO;obtain ⟨h1,h2,h3,h4,h5,h6,h7⟩:=kN lu;have hlen:=qU l;have WO:=ab h3;have gD:Hid (dO (dw f l)≤4072):=by rw [n9];exact h6
  have xD:n≤581:=by omega
  have HV:Hid (mX f l true=none):=lu;obtain ⟨m,lq⟩ : ∃ m:Nat,f=(m:Int):=by
   have:2≤f∧f<1048576:=of_decide_eq_true h2;exact ⟨f.toNat,by omega⟩
  have I7:m<1048576:=by
   have:2≤f∧f<1048576:=of_decide_eq_true h2;omega
  have HC:=ab (fun W=>AF m W I7)
  subst lq;have QU:Hid ([jY m]=dw (m:Int) (l.take 0)):=by show _=_;simp [dw]
  clear hr hE cN lu h1 h2 h3 h4 h5 h6 h7 hlen hn hm q0 x0 I7;go_enter func185,ntmps185;go_wp2_with fail;refine nO.out.mono ?_
  rintro e w1 ⟨rfl,aL⟩;have bP:=ab aL;clear aL p0 p1 nO;have p0:=(HX.out.below bP.out).c0;unfold ig;go_wp2_with fail;refine (HC.out _).mono ?_
  rintro e w2 ⟨rfl,aU⟩;have bH:=ab (Below.next bP.out aU);clear aU p0 HC bP;have q2:=ai w2 (.cells #[.string (jY m)] 9);have o2:(w2.alloc (.cells #[.string (jY m)] 9)).ownsRow w2.heap.size 9 1 (.slice (some ⟨w2.heap.size,0,none⟩) 1 1) 1 (strs [jY m]):=World.ownsRow_lit w2 #[.string (jY m)] 1 (aj _) (by decide) rfl
  rw [QU.out] at o2;obtain ⟨cc,s7⟩ : ∃ cc,cc=jY m:=⟨_,rfl⟩;rw [← s7] at q2 o2 ⊢;generalize Lh:w2.alloc (.cells #[.string cc] 9)=W2 at *;have eG:=ab (Below.next bH.out q2);have jP:=ab o2;have p1:=(HX.out.below eG.out).c1;have ll:=ab bH.out.size;clear q2 o2 s7 QU;go_wp2;clear p1;go_loopw [5,20] (fun u i wr=>∃ k:Nat,k≤n∧i = .int .i64 k∧wr.ownsRow W0.heap.size 9 1 u (k+1) (strs (dw (m:Int) (l.take k)))∧Below W0.heap.size W0 wr) (fun _ i _=>n - (intOf i).toNat)
  case atStart=>exact ⟨0,aD _,rfl,zW jP.out ll.out,eG.out⟩
  case round =>
   obtain ⟨k,hk,rfl,aE,bO⟩:=hrel;clear jP eG;have mH:(dw (m:Int) (l.take k)).length=k+1:=by rw [mY,ag];have:=HN.out;omega
   obtain ⟨ua,uc,hu⟩ : ∃ a c,u5 = .slice a (k+1) c:=by
    rcases aE.2 with ⟨rfl,h⟩ | ⟨g,cap,cur,rfl,_⟩
    ·omega
    ·exact ⟨_,_,rfl⟩
   subst hu;by_cases bN:k<n
   ·have cL:k<l.length:=by have:=HN.out;omega
    obtain ⟨g,o,rfl,c1,c2⟩:=(HR.out.below bO).spot k cL;have HS:=ab (EG (m:Int) l k cL);have q2:=ai wr (.cells #[.string l[k].1,.int .i64 l[k].2] 179);have Fu:=ab (fun W=>KJ l[k] W (WO.out l[k] (aG _)))
    obtain ⟨p,hp⟩ : ∃ p,p=l[k]:=⟨_,rfl⟩;rw [← hp] at c1 c2 HS Fu q2;have jQ:=ab (Below.next bO q2);have HO:=ab (iN aE q2);have dP:(k:Int)<(n:Int):=by omega
    clear hp bO aE q2;go_wp2_with fail;refine (Fu.out _).mono ?_
    rintro e w3 ⟨rfl,bT⟩;obtain ⟨a3,cp3,w4,bn,hU,gj,_⟩:=NQ W0.heap.size _ _ (mq p) 9 w3 W0 W0.heap.size (k+1) mH (iN HO.out bT) (by omega) (ar jQ.out.size bT.size) (aj _) (Below.next jQ.out bT)
    rw [← HS.out] at hU;have XP:=ab hU;have iU:=ab gj;obtain ⟨cc2,ZQ⟩ : ∃ cc,cc=mq p:=⟨_,rfl⟩;rw [← ZQ] at bn ⊢;clear hU gj bT Fu HS jQ HO mH ZQ c1 c2;go_wp2_with (first | (at_builtin;have h0:=bn;clear bn;refine wpList_append_run 231 rfl (.tmp 24) (.tmp 27) rfl rfl _ _ rfl rfl _ _ h0 ?_;clear h0))
    go_wp2;go_roundw
    case rel=>exact ⟨k+1,by omega,by go_num,XP.out,iU.out⟩
    case measure=>simp [intOf];omega
   ·have nM:k=n:=by omega
    have df:l.take k=l:=by rw [al];have:=HN.out;omega
    rw [df] at aE;have hs:=(fT aE).strs;have HLY:=ab (ry A _ (dw (m:Int) l) wr (by have:=gD.out;omega) hs ((HE.out.below bO).1.JJ (by decide)))
    have jQ:=ab (Below.next HQ.out bO);have dP:¬ (k:Int)<(n:Int):=by omega
    clear bO aE nM hs df mH;go_wp2_with fail;refine HLY.out.mono ?_
    rintro e w3 ⟨hv,bT⟩;have km:e = .returned (.tuple #[.string (pF (m:Int) l),.nilIface]):=by
     rcases hv with ⟨_,h⟩ | ⟨h,_⟩
     ·exact h
     ·exact absurd gD.out h
    subst km;have eG:=ab (Below.next jQ.out bT);clear hv bT HLY;go_wp2;go_ret2;exact ⟨.inl ⟨HV.out,rfl⟩,eG.out⟩
end B
namespace T
theorem zR(pb:Nat)(w:World):Calls prog 183 #[.pointer (some ⟨pb,0,none⟩),.nilIface] w fun e w'=>e = .returned (.tuple #[])∧w=w':=by
 go_enter func183,ntmps183;go_wp2;go_end0
 exact ⟨rfl,rfl⟩
theorem RT{w:World}{b:Nat}{n:SN}{pv lv cv:Value}(h:dH w b n pv lv cv):TL n.ps:=fun p hp=>by
 have:=sN (h.fine.1 p hp);omega
theorem eV{P:Program}{ops:Array Oper}{rest:List Oper}{op:Oper}{a:Act}{w w':World}{Q:Exit→Act→World→Prop}(nx:op.guard=none)(ty:TypeId)(x y:Operand)(ho:op.op = .store ty x y)(p v:Value)(hx:a.eval x=p)(hy:a.eval y=v)(bn:(Instr.storeAt ty p v).run P w = .ok () w')(h:wpList P ops Q rest (a.put op.dst undef) w'):wpList P ops Q (op::rest) a w :=
 wpList_plain nx fun _ hK=>by
  unfold Oper.wp execOp;simp only [ho,hx,hy,Sem.run_bind,bn,Result.andThen_ok,Sem.run_pure];exact hK _ _ h
theorem info87:(prog.info? 87).map (·.size)=some 5:=by kernel_rfl
theorem CE(w:World)(H:Nat)(E8:Array Value)(a b c d e:Value)(hr:B.au w H E8 87)(ho:E8.size=5)(h1:a.oneCell'=true∧b.oneCell'=true∧c.oneCell'=true∧d.oneCell'=true∧e.oneCell'=true):(Instr.storeAt 87 (.pointer (some ⟨H,0,none⟩)) (.agg #[a,b,c,d,e])).run prog w = .ok () (w.setRow H #[a,b,c,d,e]):=by
 have:=run_storeVar_row (P:=prog) w H 87 87 E8 #[a,b,c,d,e] hr info87 (by rw [ho];rfl) (by simp [h1.1,h1.2.1,h1.2.2.1,h1.2.2.2.1,h1.2.2.2.2])
 simp only [Instr.storeAt,Instr.sureAddr,Sem.run_bind,Sem.run_pure,Result.andThen_ok,this]
theorem NH(w:World)(H:Nat)(E8 cs:Array Value)(hr:B.au w H E8 87):B.au (w.setRow H cs) H cs 87:=setRow_heap w H E8 cs _ _ hr
theorem CG(w:World)(H:Nat)(cs:Array Value):bJ H w (w.setRow H cs):=by
 refine ⟨rfl,rfl,rfl,by simp [World.setRow],fun k hk dE=>?_⟩
 have acP:¬ H=k:=fun e=>dE e.symm
 simp [World.setRow,Array.getElem?_modify,acP]
theorem FN(A:Nat→Addr)(pb b:Nat)(n:SN)(pv lv cv:Value)(w:World)(hs:dH w b n pv lv cv)(hu:n.us=[])(hE:jL A w)(hc:zh n.ps true=none):Calls prog 149 #[.pointer (some ⟨pb,0,none⟩),.pointer (some ⟨b,0,none⟩)] w fun e w'=>e = .returned (.agg #[.int .i64 76,.int .i64 0,.int .u64 0,.int .i64 (n.ps.length:Int),.string (tk n.ps)])∧Below w.heap.size w w':=by
 obtain ⟨W1,gF⟩ : ∃ W1,w.alloc (.cells #[.int .i64 0,.int .i64 0,.int .u64 0,.int .i64 0,.string ⟨#[]⟩] 87)=W1:=⟨_,rfl⟩;have aL:Below w.heap.size w W1:=gF▸ai w _;have r1:B.au W1 w.heap.size #[.int .i64 0,.int .i64 0,.int .u64 0,.int .i64 0,.string ⟨#[]⟩] 87:=gF▸B.au.new w _ _;obtain ⟨H,hH⟩ : ∃ H,w.heap.size=H:=⟨_,rfl⟩;rw [hH] at r1;have kn:=hs.below aL;have su:=ab (cB b n pv lv cv W1 kn);rw [show decide (n.us.length=0)=true by rw [hu];rfl] at su
 have hlen:n.ps.length≤4000:=hs.fine.2.1;have Vd:=ab (OC A pv n.ps W1 (RT hs) (by omega) kn.iy (hE.below aL))
 have p0:=kn.c0;obtain ⟨xa,xc,Bo⟩:=hs.iy.form;subst Bo;have nH:=ab r1;have bP:=ab aL;have HC:=ab hc;have lT:=ab kn;have HL:=ab hlen;clear hs kn hE hc aL r1 hu;go_enter func149,ntmps149;go_wp2_with fail;refine su.out.mono ?_
 rintro e w1' ⟨rfl,rfl⟩;go_wp2_with fail;refine Vd.out.mono ?_
 rintro e w2 ⟨he,aU⟩;rcases he with ⟨_,rfl⟩ | ⟨k,hk,_⟩
 ·have bH:=ab (Below.next bP.out aU);have r2:=nH.out.below aU;have p0':=(lT.out.below aU).c0;have oL:=ab r2;clear aU Vd su r2;go_wp2_with fail;refine (zR pb w2).mono ?_
  rintro e w2' ⟨rfl,rfl⟩;have fj:=CE w2 H _ (.int .i64 76) (.int .i64 0) (.int .u64 0) (.int .i64 (n.ps.length:Int)) (.string (tk n.ps)) oL.out rfl ⟨rfl,rfl,rfl,rfl,rfl⟩;have gS:=ab fj;clear fj;go_wp2_with (refine eV rfl 87 _ _ rfl _ _ rfl rfl gS.out ?_)
  have HE:Hid (Below w.heap.size w (w2.setRow H #[.int .i64 76,.int .i64 0,.int .u64 0,.int .i64 (n.ps.length:Int),.string (tk n.ps)])):=by
   have hb:=bH.out;exact ⟨hb.os,hb.tape,hb.output,by simpa [World.setRow] using hb.size,fun k hk=>(setRow_other w2 H k _ (by omega)).trans (hb.block k hk)⟩
  refine bodyPost_ret (results_cell_row rfl _ _ H 87 _ (0,0) _ rfl (NH w2 H _ _ oL.out) underlying87 rfl info87) rfl ?_
  exact ⟨rfl,HE.out⟩
 ·rw [HC.out] at hk;cases hk
end T
end Go.Proofs.YtihmgigfkmofnaaGreatDoor
