import Derived.Test.YtihmgigfkmofnaaGreatDoorG30
import Derived.Maps.AppendAt
import Derived.Laws.Rows
set_option maxHeartbeats 4000000
set_option maxRecDepth 100000
open Go.Proofs.Tryz
namespace Go.Proofs.YtihmgigfkmofnaaGreatDoor
namespace T
open Go.RowKit
def Kb(l:List S.Sh):List Value:=l.flatMap S.Sh.cells
theorem F5(a b:List S.Sh):Kb (a++b)=Kb a++Kb b:=by simp [Kb]
def sQ(w:World)(base:Nat)(v:Value)(l:List S.Sh):Prop:=w.ownsRow base 87 5 v l.length (Kb l)
theorem sQ.nil(w:World)(base:Nat):sQ w base (.slice none 0 0) []:=World.ownsRow_nil _ _ _ _
theorem sQ.form{w:World}{base:Nat}{v:Value}{l:List S.Sh}(h:sQ w base v l):∃ a c,v = .slice a l.length c:=by
 rcases h.2 with ⟨rfl,h0⟩ | ⟨g0,cap,cur,rfl,_⟩
 ·have:l=[]:=List.length_eq_zero_iff.1 h0;subst this;exact ⟨_,_,rfl⟩
 ·exact ⟨_,_,rfl⟩
theorem sQ.dy{w:World}{base:Nat}{v:Value}{l:List S.Sh}(h:sQ w base v l){g:Nat}(hg:v.ownBlock=some g):base≤g∧g<w.heap.size:=World.ownsRow.lt h g hg
theorem sQ.same{w w':World}{lo:Nat}{v:Value}{l:List S.Sh}(h:sQ w lo v l)(hb:∀ g,v.ownBlock=some g→w'.heap[g]?=w.heap[g]?):sQ w' lo v l:=by
 refine ⟨h.1,?_⟩;rcases h.2 with h' | ⟨g,cap,cur,h',h1,h2,hr⟩
 ·exact .inl h'
 ·exact .inr ⟨g,cap,cur,h',h1,(hb g (by rw [h'];rfl)).trans h2,hr⟩
theorem U8:(prog.info? 87).map (fun i=>(i.zero,i.size,i.bytes))=some (some (.agg #[.int .i64 0,.int .i64 0,.int .u64 0,.int .i64 0,.string ByteArray.empty]),5,48):=by kernel_rfl
theorem UR(s:S.Sh):∀ u ∈ s.cells,u.oneCell'=true:=by
 intro u hu;simp only [S.Sh.cells,dG,dx,or_false] at hu;rcases hu with rfl | rfl | rfl | rfl | rfl <;> rfl
theorem sQ.push(base:Nat)(v:Value)(l:List S.Sh)(s:S.Sh)(w:World)(h:sQ w base v l)(hn:l.length≤1000000)(dr:base≤w.heap.size):∃ a' c' w',(Builtin.append_ #[83,83] 83 #[v,.slice (some ⟨w.heap.size,0,none⟩) 1 1]).run prog (w.alloc (.cells s.cells.toArray 87)) = .ok (.slice a' (l.length+1) c') w'∧sQ w' base (.slice a' (l.length+1) c') (l++[s])∧(w.alloc (.cells s.cells.toArray 87)).grownBy w' v.ownBlock∧∀ g,(Value.slice a' (l.length+1) c').ownBlock=some g→v.ownBlock=some g∨w.heap.size≤g:=by
 obtain ⟨i0,hi,hz,cp,kL⟩:=info_parts U8;obtain ⟨W,hW⟩ : ∃ W,W=w.alloc (.cells s.cells.toArray 87):=⟨_,rfl⟩;have hsW:W.heap.size=w.heap.size+1:=by rw [hW];simp
 have pO:=bM w s.cells.toArray 87;rw [← hW] at pO;have ho:W.ownsRow base 87 5 v l.length (Kb l):=hW▸World.ownsRow.alloc h _;have iR:∀ j u,s.cells[j]?=some u→W.cell? ((⟨w.heap.size,0,none⟩ : Addr).add j)=some u:=fun j u hj=>by
  rw [bA,Nat.zero_add];obtain ⟨h1,h2⟩:=List.getElem?_eq_some_iff.1 hj;rw [← h2];exact pO.2 j (by simpa using h1)
 obtain ⟨v',w',hr,aD,hg,_,Cx⟩:=run_append_own_at (P:=prog) W base 83 83 87 i0 _ 5 48 underlying83 hi hz cp kL rfl (by decide) v l.length (Kb l) ho ⟨w.heap.size,0,none⟩ 1 1 s.cells rfl iR (UR s) (by unfold maxLen;omega) (by omega) (by omega)
 have gk:sQ w' base v' (l++[s]):=by
  unfold sQ;rw [ae,F5,show Kb [s]=s.cells by simp [Kb]]
  exact aD
 obtain ⟨a',c',mQ⟩:=gk.form;rw [ae,aO] at mQ;subst mQ;refine ⟨a',c',w',hW▸hr,gk,hW▸hg,fun g G0=>?_⟩
 rcases Cx with h1 | h1
 ·exact .inl (h1▸G0)
 ·rw [h1] at G0;cases G0;right;omega
def jM(tx:Nat):Nat × PD→S.Sh
 | (id,.leaf l)=>⟨76,id,tx,l.length,tQ l⟩
 | (id,.br f lk)=>⟨66,id,tx,(lk.length:Int)+1,B.pP f lk⟩
structure mo(pb:Nat)(w:World)(v:Value)(w':World)(v':Value):Prop where
 size:w.heap.size≤w'.heap.size
 block:∀ k,k<w.heap.size→k≠pb→v.ownBlock≠some k→w'.heap[k]?=w.heap[k]?
 own:∀ g,v'.ownBlock=some g→v.ownBlock=some g∨w.heap.size≤g
theorem mo.refl(pb:Nat)(w:World)(v:Value):mo pb w v w v:=⟨aj _,fun _ _ _ _=>rfl,fun _ h=>.inl h⟩
theorem mo.trans{pb:Nat}{w w1 w2:World}{v v1 v2:Value}(h:mo pb w v w1 v1)(k:mo pb w1 v1 w2 v2):mo pb w v w2 v2:=by
 refine ⟨aq h.size k.size,fun i hi h2 h3=>?_,fun g hg=>?_⟩
 ·rw [k.block i (al hi h.size) h2 (fun e=>by
   rcases h.own i e with e' | e'
   ·exact h3 e'
   ·omega)]
  exact h.block i hi h2 h3
 ·rcases k.own g hg with e | e
  ·exact h.own g e
  ·exact .inr (aq h.size e)
theorem mo.below{pb:Nat}{w w':World}(v:Value)(h:Below w.heap.size w w'):mo pb w v w' v:=⟨h.size,fun k hk _ _=>h.block k hk,fun _ h=>.inl h⟩
structure pR(w0:World)(lo pb:Nat)(pv:Value)(P:List Nat)(tx:Nat)(w:World)(sv:Value)(Z:List S.Sh):Prop where
 ff:Below w0.heap.size w0 w
 row:B.au w pb #[pv,.int .u64 (tx:Int),sv,.nilIface] 127
 sh:sQ w lo sv Z
 ord:w0.heap.size≤pb∧pb<lo
 lo:lo≤w.heap.size
 pg:nh w0 pv (Q.kq P)
 pl:P.length≤1000000
section
variable {w0:World} {lo pb:Nat} {pv:Value} {P:List Nat} {tx:Nat} {w w':World} {sv n7:Value} {Z Z':List S.Sh}
theorem pR.keep(h:pR w0 lo pb pv P tx w sv Z)(ht:mo pb w sv w' n7)(QX:w'.os=w.os)(htp:w'.tape=w.tape)(hou:w'.output=w.output)(hr:B.au w' pb #[pv,.int .u64 (tx:Int),n7,.nilIface] 127)(hs:sQ w' lo n7 Z'):pR w0 lo pb pv P tx w' n7 Z':=by
 have tG:=h.lo;have ho:=h.ord;refine ⟨⟨QX.trans h.ff.os,htp.trans h.ff.tape,hou.trans h.ff.output,aq h.ff.size ht.size,fun k hk=>?_⟩,hr,hs,h.ord,aq h.lo ht.size,h.pg,h.pl⟩
 exact (ht.block k (by omega) (by omega) (fun e=>by have:=(h.sh.dy e).1;omega)).trans (h.ff.block k hk)
theorem pR.below(h:pR w0 lo pb pv P tx w sv Z)(hb:Below w.heap.size w w'):pR w0 lo pb pv P tx w' sv Z :=
 h.keep (mo.below sv hb) hb.os hb.tape hb.output (h.row.below hb) (h.sh.same fun g hg=>hb.block g (h.sh.dy hg).2)
theorem pR.push(h:pR w0 lo pb pv P tx w sv Z)(s:S.Sh)(hn:Z.length≤1000000):∃ a' c' w',(Builtin.append_ #[83,83] 83 #[sv,.slice (some ⟨w.heap.size,0,none⟩) 1 1]).run prog (w.alloc (.cells s.cells.toArray 87)) = .ok (.slice a' (Z.length+1) c') w'∧w'.frozen? ⟨pb,2,none⟩=false∧w'.cell? ⟨pb,2,none⟩=some sv∧pR w0 lo pb pv P tx (w'.setCell ⟨pb,2,none⟩ (.slice a' (Z.length+1) c')) (.slice a' (Z.length+1) c') (Z++[s])∧mo pb w sv (w'.setCell ⟨pb,2,none⟩ (.slice a' (Z.length+1) c')) (.slice a' (Z.length+1) c'):=by
 have tG:=h.lo;have ho:=h.ord;obtain ⟨a',c',w',hr,nG,hg,aD⟩:=sQ.push lo sv Z s w h.sh hn tG;have aN:=ai w (.cells s.cells.toArray 87);have cp:(w.alloc (.cells s.cells.toArray 87)).heap.size=w.heap.size+1:=by simp
 have pN:=hg.size;have fy:∀ b,b<lo→some b≠sv.ownBlock:=fun b hb e=>by
  have:=(h.sh.dy e.symm).1;omega
 have Pt:∀ k,k<w.heap.size→some k≠sv.ownBlock→w'.heap[k]?=w.heap[k]?:=fun k hk h1=>(hg.block k (by omega) h1).trans (aN.block k hk)
 have bV:B.au w' pb #[pv,.int .u64 (tx:Int),sv,.nilIface] 127:=(Pt pb h.row.lt (fy _ ho.2)).trans h.row;have dB:=bK.set pb 2 w' (.slice a' (Z.length+1) c');have j8:=dB.size;have xS:w.heap.size≤(w'.setCell ⟨pb,2,none⟩ (.slice a' (Z.length+1) c')).heap.size:=by omega
 have Yb:mo pb w sv (w'.setCell ⟨pb,2,none⟩ (.slice a' (Z.length+1) c')) (.slice a' (Z.length+1) c'):=⟨xS,fun k hk h1 h2=>(dB.block k (by omega) h1).trans (Pt k hk (fun e=>h2 e.symm)),aD⟩
 have Jc:B.au (w'.setCell ⟨pb,2,none⟩ (.slice a' (Z.length+1) c')) pb #[pv,.int .u64 (tx:Int),.slice a' (Z.length+1) c',.nilIface] 127:=by
  unfold B.au at bV ⊢;rw [setCell_eq_setRow w' pb 2 _ _ (0,0) _ bV];exact setRow_heap w' pb _ _ _ (0,0) bV
 refine ⟨a',c',w',hr,bV.free 2,bV.cell 2 (by simp),h.keep Yb (dB.os.trans (hg.os.trans aN.os)) (dB.tape.trans (hg.tape.trans aN.tape)) (dB.output.trans (hg.output.trans aN.output)) Jc (nG.same fun g G0=>?_),Yb⟩
 have:=nG.dy G0;exact dB.block g this.2 (by omega)
end
end T
open Go.RowKit
theorem ru(v:Value)(l:List ByteArray)(w:World)(hm:dN l≤1152921504606846976)(hr:L4 w v l):Calls prog 241 #[v] w fun e w'=>e = .returned (.int .i64 ((dN l:Nat):Int))∧w=w':=by
 obtain ⟨a,cap,rfl,du,hc⟩:=hr;have HC:=ab hc;obtain ⟨n,hn⟩ : ∃ n,n=l.length:=⟨_,rfl⟩;rw [← hn];have HN:=ab hn;have HM:=ab hm;have h2:n≤576460752303423488:=by
  have:dN l=2*l.length+(dS l l.length).length:=rfl;omega
 have hw:IntKind.i64.wrap (2*(n:Int))=((fu l 0:Nat):Int):=by rw [IntKind.wrap_i64,pE];omega
 clear hc hn hm du;go_enter func241,ntmps241;go_wp2;go_loop [3,11] (fun r i=>∃ k:Nat,k≤n∧i = .int .i64 k∧r = .int .i64 ((fu l k:Nat):Int)) (fun _ i=>n - (intOf i).toNat)
 case atStart=>exact ⟨0,aC _,rfl,rfl⟩
 case round =>
  obtain ⟨k,hk,rfl,rfl⟩:=hrel;clear hw;by_cases bX:k<n
  ·have ep:k<l.length:=by have:=HN.out;omega
   obtain ⟨g,o,rfl,f1⟩:=HC.out k ep;have HS:=ab (mc l k ep);have HL:=ab (tP l (k+1) l.length (by omega) (aj _))
   obtain ⟨p,hp⟩ : ∃ p,p=fu l k:=⟨_,rfl⟩;rw [← hp] at HS ⊢;obtain ⟨q,hq⟩ : ∃ q,q=fu l (k+1):=⟨_,rfl⟩;rw [← hq] at HS HL;have HQ:=ab hq;generalize l[k]=x at *;have hw:IntKind.i64.wrap ((p:Int)+(x.size:Int))=(q:Int):=by
    rw [IntKind.wrap_i64];have h1:=HS.out;have h2:=HL.out;have h3:fu l l.length≤1152921504606846976:=HM.out;omega
   have dO:(k:Int)<(n:Int):=by omega
   clear hp hq HC;go_wp2;go_round
   case rel=>exact ⟨k+1,by omega,by go_num,by rw [← HQ.out]⟩
   case measure=>simp [intOf];omega
  ·have oD:k=n:=by omega
   have HF:Hid (fu l k=dN l):=by show _=_;rw [oD,HN.out];rfl
   obtain ⟨p,hp⟩ : ∃ p,p=fu l k:=⟨_,rfl⟩;rw [← hp] at HF ⊢;have dO:¬ (k:Int)<(n:Int):=by omega
   clear hp HC;go_wp2;go_ret;exact ⟨by rw [← HF.out];rfl,rfl⟩
theorem Rp(l:List UInt8)(k:Nat)(x:UInt8):(dR l).set k (.int .u8 (x.toNat:Int))=dR (l.set k x):=by simp [dR,List.map_set]
theorem nI.set{t:TypeId}{w:World}{g:Nat}{l:List UInt8}(h:nI t w g l)(k:Nat)(x:UInt8):nI t (w.setCell ⟨g,k,none⟩ (.int .u8 (x.toNat:Int))) g (l.set k x):=by
 unfold nI;rw [heap_setCell_same w g k _ t _ h,← Rp];simp
theorem nI.frozen{t:TypeId}{w:World}{g:Nat}{l:List UInt8}(h:nI t w g l)(k:Nat):w.frozen? ⟨g,k,none⟩=false:=frozen_of_row _ _ _ _ _ h
theorem Da(t:TypeId)(b i e n:Nat)(l:List UInt8)(w:World)(he:e≤4072)(hl:l.length=n)(hi:2*i+1<n)(hn:n≤4072)(hr:nI t w b l):Calls prog 242 #[.slice (some ⟨b,0,none⟩) n n,.int .i64 (i:Int),.int .i64 (e:Int)] w fun ev w'=>ev = .returned (.tuple #[])∧nI t w' b ((l.set (2*i) (GZ e)).set (2*i+1) (Fu e))∧bK b w w':=by
 obtain ⟨p,hp⟩ : ∃ p,p=2*i:=⟨_,rfl⟩;obtain ⟨q,hq⟩ : ∃ q,q=p+1:=⟨_,rfl⟩;have hw:IntKind.i64.wrap (2*(i:Int))=(p:Int):=by rw [IntKind.wrap_i64];omega
 have QU:IntKind.i64.wrap ((p:Int)+1)=(q:Int):=by rw [IntKind.wrap_i64];omega
 have h1:(p:Int)<(n:Int):=by omega
 have h2:(q:Int)<(n:Int):=by omega
 have Jm:p<n:=by omega
 have PA:q<n:=by omega
 have hpq:¬ q=p:=by omega
 have c1:=hr.cell p (by omega)
 have c2:=hr.cell q (by omega)
 have z1:=hr.frozen p;have z2:=hr.frozen q;have HR:Hid (nI t ((w.setCell ⟨b,p,none⟩ (.int .u8 ((GZ e).toNat:Int))).setCell ⟨b,q,none⟩ (.int .u8 ((Fu e).toNat:Int))) b ((l.set (2*i) (GZ e)).set (2*i+1) (Fu e))):=by
  have:=(hr.set p (GZ e)).set q (Fu e);rw [hq,hp] at this;rw [hq,hp];exact this
 have HS:Hid (bK b w ((w.setCell ⟨b,p,none⟩ (.int .u8 ((GZ e).toNat:Int))).setCell ⟨b,q,none⟩ (.int .u8 ((Fu e).toNat:Int)))):=(bK.set b p w _).trans (bK.set b q _ _);rw [AL e he,As] at HR HS;have e1:((e / 256:Nat):Int)=(e:Int) / 256:=by omega
 have e2:((e % 256:Nat):Int)=(e:Int) % 256:=by omega
 rw [e1,e2] at HR HS;generalize l[p]=y1 at *;generalize l[q]=y2 at *;clear hp hq hl hi hr e1 e2;go_enter func242,ntmps242;go_wp2;go_end0
 exact ⟨rfl,HR.out,HS.out⟩
theorem LP(l:List ByteArray)(k:Nat)(hk:k<l.length):((splice (gS l k) (fu l k) l[k].data.toList).set (2*k) (GZ (fu l (k+1)))).set (2*k+1) (Fu (fu l (k+1)))=gS l (k+1):=by
 have he:fu l k=(fR l k++(List.replicate (2*(l.length - k)) (0:UInt8)++dS l k)).length:=by
  simp only [ae,bw,dJ];have:fu l k=2*l.length+(dS l k).length:=rfl;omega
 have h1:gS l k=(fR l k++(List.replicate (2*(l.length - k)) (0:UInt8)++dS l k))++List.replicate (4072 - fu l k) 0:=by
  unfold gS;simp only [ax]
 have h2:splice (gS l k) (fu l k) l[k].data.toList=(fR l k++(List.replicate (2*(l.length - k)) (0:UInt8)++dS l k))++(l[k].data.toList++List.replicate (4072 - fu l (k+1)) 0):=by
  unfold splice;rw [h1];conv=>lhs;rw [he]
  rw [ej,← List.drop_drop,fH,← he,nB,bsize,mc l k hk,Nat.sub_sub]
 rw [h2,ax,ax,show 2*(l.length - k)=2*(l.length - (k+1))+1+1 by omega,List.replicate_succ,List.replicate_succ]
 have hs:=dJ l k;rw [bO _ _ (by omega),hs,dI]
 simp only [List.cons_append,List.set_cons_zero];rw [bO _ _ (by omega),hs,show 2*k+1 - 2*k=1 by omega]
 simp only [List.set_cons_succ,List.set_cons_zero];unfold gS;rw [uM l k hk,fR];simp [List.append_assoc]
theorem ML:∀ w,(zeroValue 333).run prog w = .ok (.agg (dR (List.replicate 4072 0)).toArray) w:=(zero_of_info (P:=prog) (t:=333) (n:=4072) (v:=.agg (dR (List.replicate 4072 0)).toArray) (by kernel_rfl)).1
theorem RC(b:Nat)(w:World):(Instr.sliceAt 333 (.pointer (some ⟨b,0,none⟩)) none none none).run prog w = .ok (.slice (some ⟨b,0,none⟩) 4072 4072) w:=by kernel_rfl
theorem wg:prog.arrayLen 333=4072:=by kernel_rfl
theorem E4:prog.elem 333=5:=by kernel_rfl
theorem Rz(b e:Nat)(h:e≤4072):∃ o,(e<4072→o=e)∧o≤e∧∀ w,(Instr.sliceAt 333 (.pointer (some ⟨b,0,none⟩)) (some (.int .i64 (e:Int))) none none).run prog w = .ok (.slice (some ⟨b,o,none⟩) (4072 - e) (4072 - e)) w:=by
 by_cases h4:e=4072
 ·refine ⟨0,fun h'=>by omega,aC _,fun w=>?_⟩
  have hz:(sizeOf 5).run prog w = .ok 1 w:=by kernel_rfl
  rw [run_sliceAt_array_l w 333 ⟨b,0,none⟩ (by kernel_rfl) .i64 _ (by omega) (by rw [wg];omega),wg,E4,bn,hz]
  subst h4;rfl
 ·refine ⟨e,fun _=>rfl,aj _,fun w=>?_⟩
  have hz:(sizeOf 5).run prog w = .ok 1 w:=by kernel_rfl
  rw [run_sliceAt_array_l w 333 ⟨b,0,none⟩ (by kernel_rfl) .i64 _ (by omega) (by rw [wg];omega),wg,E4,bn,hz]
  by_cases h0:e=0
  ·subst h0;rfl
  ·simp [slicedAt,Addr.add,show ¬ 4072=e by omega,h0]
theorem S8{t:TypeId}{w:World}{g o cap n:Nat}{l:List UInt8}(s:ByteArray)(hr:nI t w g l)(hn:s.size≤n)(eE:o+s.size≤l.length):∃ w2,(Builtin.copy_ #[145,9] 3 #[.slice (some ⟨g,o,none⟩) n cap,.string s]).run prog w = .ok (.int .i64 (s.size:Int)) w2∧nI t w2 g (splice l o s.data.toList)∧bK g w w2:=by
 have bo:=Lib.run_copy_row_string (P:=prog) w 145 9 3 5 g o n cap s _ t underlying145 uk hr hn (by simp [a6];omega)
 refine ⟨_,bo,?_,bK.setRow g w _⟩;have bV:=setRow_heap w g _ ((dR l).toArray.toList.take o++Lib.byteCells s.data.toList++(dR l).toArray.toList.drop (o+s.size)).toArray t _ hr;unfold nI;rw [bV,← qh,splice,a6,bsize,ax];rfl
def ac1(A:Nat→Addr)(l:List ByteArray)(e:Ending):Prop :=
 (dN l≤4072∧e = .returned (.tuple #[.string ⟨(jl l).toArray⟩,.nilIface]))∨(¬ dN l≤4072∧e = .returned (.tuple #[.string ⟨#[]⟩,.iface 360 (.pointer (some (A 2)))]))
theorem Oz(a:Option Addr)(cap n:Nat)(l:List ByteArray)(w:World)(hn:n=l.length)(hf:dN l≤4072)(hc:∀ j (h:j<l.length),∃ g o,a=some ⟨g,o,none⟩∧w.cell? ⟨g,o+j,none⟩=some (.string l[j]))(hle:n≤cap):Calls prog 223 #[.slice a n cap] w fun e w'=>e = .returned (.tuple #[.string ⟨(jl l).toArray⟩,.nilIface])∧Below w.heap.size w w':=by
 have gM:=ab (ru (.slice a n cap) l w (by omega) ⟨a,cap,by rw [hn],by rw [← hn];exact hle,hc⟩)
 have cp:¬ (4072:Int)<((dN l:Nat):Int):=by omega
 have h2n:2*n≤4072:=by
  have:dN l=2*l.length+(dS l l.length).length:=rfl;omega
 obtain ⟨zc,WO,z4⟩ : ∃ zc,zc=(dR (List.replicate 4072 0)).toArray∧∀ w,(zeroValue 333).run prog w = .ok (.agg zc) w:=⟨_,rfl,ML⟩;obtain ⟨b,hb⟩ : ∃ b,b=w.heap.size:=⟨_,rfl⟩;have bV:nI 333 (w.alloc (.cells zc 333)) b (gS l 0):=by rw [EZ l hf,WO,hb];exact Nx _ _ _
 have aN:=ai w (.cells zc 333);have OK:IntKind.i64.wrap (2*(n:Int))=((fu l 0:Nat):Int):=by rw [IntKind.wrap_i64,pE,hn];omega
 have sl:=RC b;have mu:=ab bV;have bN:=ab aN;have HC:=ab hc;have HN:=ab hn;have HF:=ab hf;have HB:=ab hb;have kj:=ab (rY l hf);obtain ⟨sz,OP⟩ : ∃ sz,sz=dN l:=⟨_,rfl⟩;rw [← OP] at gM cp;clear bV aN hc hn hf WO OP hb hle;go_enter func223,ntmps223;go_wp2_with fail;refine gM.out.mono ?_
 rintro e w' ⟨rfl,rfl⟩;go_wp2_with fail;rw [← HB.out];generalize w.alloc (.cells zc 333)=W1 at *;clear z4 gM;go_loopw [5,17] (fun en i wr=>∃ k:Nat,k≤n∧i = .int .i64 k∧en = .int .i64 ((fu l k:Nat):Int)∧nI 333 wr b (gS l k)∧Below w.heap.size w wr) (fun _ i _=>n - (intOf i).toNat)
 case atStart=>exact ⟨0,aC _,rfl,rfl,mu.out,bN.out⟩
 case round =>
  obtain ⟨k,hk,rfl,rfl,Sr,bL⟩:=hrel;clear mu bN OK;by_cases bX:k<n
  ·have ep:k<l.length:=by have:=HN.out;omega
   obtain ⟨g,o,rfl,f0⟩:=HC.out k ep;have f1:wr.cell? ⟨g,o+k,none⟩=some (.string l[k]):=(bL.cell (p:=⟨g,o+k,none⟩) (World.block_lt_of_cell? w _ f0)).trans f0;have HS:=ab (mc l k ep);have HL:=ab (we HF.out (show k+1≤l.length by omega))
   have gN:=ab (LP l k ep);have HBL:=ab (Ho l k HF.out (by omega))
   have HGE:=ab (SY l (k+1));obtain ⟨x,hx⟩ : ∃ x,x=l[k]:=⟨_,rfl⟩;rw [← hx] at f1 HS gN;obtain ⟨p,hp⟩ : ∃ p,p=fu l k:=⟨_,rfl⟩;obtain ⟨q,hq⟩ : ∃ q,q=fu l (k+1):=⟨_,rfl⟩;rw [← hp] at HS gN ⊢;rw [← hq] at HS gN HL HGE;have HQ:=ab hq;obtain ⟨so,jB,dW,qE⟩:=Rz b p (by have:=HS.out;have:=HL.out;omega)
   obtain ⟨w2,zf,iK,j8⟩:=S8 (n:=4072 - p) (cap:=4072 - p) (o:=so) x Sr (by have:=HS.out;have:=HL.out;omega) (by rw [HBL.out];have:=HS.out;have:=HL.out;omega)
   have Yg:splice (gS l k) so x.data.toList=splice (gS l k) p x.data.toList:=by
    by_cases h4:p<4072
    ·rw [jB h4]
    ·have QT:x.data.toList=[]:=List.length_eq_zero_iff.1 (by rw [bsize];have:=HS.out;have:=HL.out;omega)
     rw [QT];simp [splice]
   rw [Yg] at iK;have Je:(splice (gS l k) p x.data.toList).length=4072:=by
    rw [length_splice _ _ _ (by rw [bsize,HBL.out];have:=HS.out;have:=HL.out;omega)];exact HBL.out
   have mG:=ab (Da 333 b k q 4072 _ w2 HL.out Je (by have:=HN.out;omega) (aj _) iK)
   rw [gN.out] at mG;have hw:IntKind.i64.wrap ((p:Int)+(x.size:Int))=(q:Int):=by
    rw [IntKind.wrap_i64];have:=HS.out;have:=HL.out;omega
   have bH:Hid (Below w.heap.size w w2):=j8.below bL (by rw [HB.out];exact aj _)
   have dO:(k:Int)<(n:Int):=by omega
   clear hx hp hq HC iK j8 Sr bL Yg Je f0 jB dW;go_wp2_with fail;refine mG.out.mono ?_
   rintro e w3 ⟨rfl,gj,Fy⟩;have Rb:=ab gj;have dH:Hid (Below w.heap.size w w3):=Fy.below bH.out (by rw [HB.out];exact aj _)
   clear gj Fy zf f1;go_wp2;go_roundw
   case rel=>exact ⟨k+1,by omega,by go_num,by rw [← HQ.out],Rb.out,dH.out⟩
   case measure=>simp [intOf];omega
  ·have oD:k=n:=by omega
   have dO:¬ (k:Int)<(n:Int):=by omega
   have WX:nI 333 wr b (jl l):=by rw [oD,HN.out,Hp] at Sr;exact Sr
   have yh:=kY wr (.slice (some ⟨b,0,none⟩) 4072 4072) (jl l) ⟨some ⟨b,0,none⟩,4072,by rw [kj.out],fun j hj=>⟨b,0,rfl,by rw [Nat.zero_add];exact WX.cell j hj⟩⟩ (by rw [kj.out];decide)
   have jY:=ab bL;obtain ⟨p,hp⟩ : ∃ p,p=fu l k:=⟨_,rfl⟩;rw [← hp];obtain ⟨L,hL⟩ : ∃ L,L=jl l:=⟨_,rfl⟩;rw [← hL] at yh;have HLQ:=ab hL;clear hp Sr WX bL HC hL;go_wp2;go_ret2;exact ⟨by rw [← HLQ.out];rfl,jY.out⟩
theorem rW(A:Nat→Addr)(v:Value)(l:List ByteArray)(w:World)(hm:dN l≤1152921504606846976)(hr:L4 w v l)(hE:dk 4 fl A w):Calls prog 223 #[v] w fun e w'=>ac1 A l e∧Below w.heap.size w w':=by
 by_cases hf:dN l≤4072
 ·obtain ⟨a,cap,rfl,du,hc⟩:=hr;refine (Oz a cap l.length l w rfl hf hc du).mono ?_
  rintro e w' ⟨rfl,hb⟩;exact ⟨.inl ⟨hf,rfl⟩,hb⟩
 ·have gM:=ab (ru v l w hm hr);have cp:(4072:Int)<((dN l:Nat):Int):=by omega
  have c0:w.cell? ⟨2,0,none⟩=some (.iface 360 (.pointer (some (A 2)))):=(hE.1 2 (by decide)).1
  have HF:=ab hf;obtain ⟨sz,OP⟩ : ∃ sz,sz=dN l:=⟨_,rfl⟩;rw [← OP] at gM cp;clear hf hE hr hm OP;go_enter func223,ntmps223;go_wp2_with fail;refine gM.out.mono ?_
  rintro e w' ⟨rfl,rfl⟩;go_wp2;go_quiet (fail)
  go_wp2;go_ret2;exact ⟨.inr ⟨HF.out,rfl⟩,aB (Below.refl _ _) _⟩
def wE(l:List Pr)(k:Nat):List Value:=strs ((l.take k).map fs)++List.replicate (l.length - k) (.string ByteArray.empty)
theorem M0(l:List Pr)(k:Nat)(h:k<l.length):(wE l k).set k (.string (fs l[k]))=wE l (k+1):=by
 have hl:(strs ((l.take k).map fs)).length=k:=by rw [jL,az,ag];omega
 unfold wE;rw [bO _ _ (by omega),hl,dI,ay h,aW,n9,show l.length - k=l.length - (k+1)+1 by omega,List.replicate_succ,List.set_cons_zero,ax]
 rfl
theorem M1(l:List Pr)(k:Nat)(h:k≤l.length):(wE l k).length=l.length:=by
 unfold wE;rw [ae,jL,az,ag,bw];omega
theorem JU(l:List Pr):wE l 0=List.replicate l.length (.string ByteArray.empty):=by simp [wE,strs]
theorem M3(l:List Pr):wE l l.length=strs (l.map fs):=by simp [wE]
theorem xp{w w':World}{base e n:Nat}{v:Value}{xs:List Value}(h:w.ownsRow base e 1 v n xs)(hb:Below w.heap.size w w'):w'.ownsRow base e 1 v n xs:=by
 refine ⟨h.1,?_⟩;rcases h.2 with h' | ⟨g,cap,cur,h',h1,h2,hr⟩
 ·exact .inl h'
 ·refine .inr ⟨g,cap,cur,h',h1,?_,hr⟩;have hg:g<w.heap.size:=by
   rcases aZ g w.heap.size with h' | h'
   ·exact h'
   ·rw [aV h'] at h2;cases h2
  rw [hb.block g hg];exact h2
def adY(A:Nat→Addr)(l:List Pr)(e:Ending):Prop :=
 (zO l true=none∧e = .returned (.tuple #[.string (tQ l),.nilIface]))∨(∃ k,zO l true=some k∧e = .returned (.tuple #[.string ⟨#[]⟩,im A (some k)]))
theorem Ot(A:Nat→Addr)(v:Value)(l:List Pr)(w:World)(cC:To l)(hm:l.length≤140737488355328)(hr:gZ w v l)(hE:jG A w):Calls prog 182 #[v] w fun e w'=>adY A l e∧Below w.heap.size w w':=by
 have nR:=ab (qw A v l true w cC hm hr hE);have HE:=ab hE;obtain ⟨i0,hi,hz,cp,kL⟩:=info_parts info9;obtain ⟨a,cap,rfl,du,_,hc⟩:=hr;have HC:=ab hc;cases kV:zO l true with
 | some k =>
  rw [kV] at nR;have GW:=fun W=>fe (some (A k)) W
  have HV:Hid (zO l true=some k):=kV;clear hc du hE cC hi hz cp kL kV;go_enter func182,ntmps182;go_wp2_with fail;refine nR.out.mono ?_
  rintro e w1 ⟨rfl,aN⟩;unfold im;go_wp2;go_ret2;exact ⟨.inr ⟨k,HV.out,rfl⟩,aN⟩
 | none =>
  rw [kV] at nR;obtain ⟨h1,h2,h3,h4,h5⟩:=sD kV;have hlen:=ko l;have Wr:=ab h1;have gM:Hid (dN (l.map fs)≤4072):=by rw [qm];exact h3
  have Eh:l.length≤814:=by omega
  have HV:Hid (zO l true=none):=kV;obtain ⟨n,hn⟩ : ∃ n,n=l.length:=⟨_,rfl⟩;rw [← hn] at Eh nR ⊢;have HN:=ab hn;clear hc du hE cC kV h1 h2 h3 h4 h5 hlen hn hm;go_enter func182,ntmps182;go_wp2_with fail;refine nR.out.mono ?_
  rintro e w1 ⟨rfl,aN⟩;obtain ⟨wm,pM,fP,pZ⟩:=run_make_full (P:=prog) w1 w1.heap.size 231 9 i0 _ 1 underlying231 hi hz cp .i64 .i64 n (by rw [kL];omega) (by unfold maxLen;omega) (aj _)
  have nP:(madeCells (Value.string ByteArray.empty).cells (n*1)).toList=wE l 0:=by
   rw [JU,Nat.mul_one,HN.out];exact toList_madeCells_one _ _
  rw [nP] at fP;have Cw:Below w1.heap.size w1 wm:=(Below.refl _ _).grown pZ (aj _) (fun j hj=>by cases hj)
  obtain ⟨b,hb⟩ : ∃ b,b=w1.heap.size:=⟨_,rfl⟩;rw [← hb] at pM fP;have HB:=ab hb;have HO:=ab fP;have JH:=ab (Below.next aN Cw);have bN:=ab aN;clear hb fP Cw pZ hi hz cp kL nP aN nR;unfold im;go_wp2;clear pM;go_loopw [18] (fun i wr=>∃ k:Nat,k≤n∧i = .int .i64 k∧wr.ownsRow b 9 1 (.slice (some ⟨b,0,none⟩) n n) n (wE l k)∧Below w.heap.size w wr) (fun i _=>n - (intOf i).toNat)
  case atStart=>exact ⟨0,aC _,rfl,HO.out,JH.out⟩
  case round =>
   obtain ⟨k,hk,rfl,aD,bL⟩:=hrel;clear HO JH;by_cases bX:k<n
   ·have ep:k<l.length:=by have:=HN.out;omega
    obtain ⟨g,o,rfl,f1,f2⟩:=HC.out k ep;have c1:wr.cell? ⟨g,o+k*2,none⟩=some (.string l[k].1):=(bL.cell (p:=⟨g,o+k*2,none⟩) (World.block_lt_of_cell? w _ f1)).trans f1;have c2:wr.cell? ⟨g,o+k*2+1,none⟩=some (.string l[k].2):=(bL.cell (p:=⟨g,o+k*2+1,none⟩) (World.block_lt_of_cell? w _ f2)).trans f2;have AI:=eu (Wr.out l[k] (aH _));have iw:=ab (M0 l k ep);have fh:=ai wr (.cells #[.string l[k].1,.string l[k].2] 52);have pH:=ab (xp aD fh);have zT:=ab (Below.next bL fh);have HZ:=ab (fun W=>Qe l[k] W AI.2.1 (by omega))
    obtain ⟨p,hp⟩ : ∃ p,p=l[k]:=⟨_,rfl⟩;rw [← hp] at c1 c2 iw pH zT HZ;have fL:=ab (M1 l k (by omega))
    have dO:(k:Int)<(n:Int):=by omega
    have j0:(0:Int)≤(k:Int):=by omega
    clear hp HC f1 f2 bL aD AI fh;go_wp2_with fail;refine (HZ.out _).mono ?_
    rintro e w2 ⟨rfl,aY⟩;have jB:=xp pH.out aY;have q1:∃ u,w2.cell? ⟨b,k,none⟩=some u:=by
     rw [World.ownsRow.cellAt jB k (by omega)]
     exact ⟨_,af (by rw [fL.out];exact ep)⟩
    obtain ⟨u,q1⟩:=q1;have z1:w2.frozen? ⟨b,k,none⟩=false:=World.ownsRow.frozenAt jB k;obtain ⟨z,hz⟩ : ∃ z,z=fs p:=⟨_,rfl⟩;rw [← hz] at iw ⊢;have eS:=(World.ownsRow.stored jB k (.string z)).1;rw [iw.out] at eS;have gX:=ab eS;have bH:Hid (Below w.heap.size w (w2.setCell ⟨b,k,none⟩ (.string z))):=(Below.next zT.out aY).setCell (by rw [HB.out];exact bN.out.size) _
    clear aY zT HZ c1 c2 jB eS hz iw pH;go_wp2;go_roundw
    case rel=>exact ⟨k+1,by omega,by go_num,gX.out,bH.out⟩
    case measure=>simp [intOf];omega
   ·have oD:k=l.length:=by have:=HN.out;omega
    rw [oD,M3] at aD;have hs:=(fS aD).strs;have Z6:=ab (rW A _ (l.map fs) wr (by have:=gM.out;omega) hs (HE.out.below bL).1)
    have jY:=ab bL;have dO:¬ (k:Int)<(n:Int):=by have:=HN.out;omega
    have UH:=ab oD;clear HC bL aD oD hs;go_wp2_with fail;refine Z6.out.mono ?_
    rintro e w3 ⟨hv,b6⟩;have nF:e = .returned (.tuple #[.string (tQ l),.nilIface]):=by
     rcases hv with ⟨_,h⟩ | ⟨h,_⟩
     ·exact h
     ·exact absurd gM.out h
    subst nF;have dH:=ab (Below.next jY.out b6);clear hv b6 Z6;go_wp2;go_ret2;exact ⟨.inl ⟨HV.out,rfl⟩,dH.out⟩
namespace B
theorem Hr(n:Nat)(_h:n≤255):bI n 1=[UInt8.ofNat n]:=by
 unfold bI qQ j7;simp [List.range,List.range.loop]
theorem rD{w:World}{base g m c:Nat}{l:List UInt8}(h:w.ownsRow base 5 1 (.slice (some ⟨g,0,none⟩) m c) m (dR l))(hl:l.length=m):Uy w (.slice (some ⟨g,0,none⟩) m c) l :=
 ⟨_,_,by rw [hl],fun j hj=>⟨g,0,rfl,by rw [Nat.zero_add,World.ownsRow.cellAt h j (by omega)];exact iz l j hj⟩⟩
def KI(n:Nat):ByteArray:=⟨[UInt8.ofNat n].toArray⟩
theorem EX(p:Lk):KI p.1.size++p.1++jS p.2.toNat=mj p:=by
 refine jf ?_
 rw [jD];simp [KI,jS]
theorem A1(m:Nat)(w:World)(hm:m<1048576):Calls prog 224 #[.int .i64 (m:Int)] w fun e w'=>e = .returned (.string (jS m))∧Below w.heap.size w w':=by
 have HP:=ab (wZ m 4 w (by omega) (by decide) (by decide) (by omega))
 have w1:(m:Int) % 18446744073709551616=(m:Int):=by omega
 have HL:=ab (eD m 4 (by decide))
 go_enter func224,ntmps224;go_wp2_with fail;refine HP.out.mono ?_
 rintro e w2 ⟨g,c2,rfl,aD,hb⟩;have cv:=kY w2 _ _ (rD aD HL.out) (by rw [HL.out];decide)
 have HB:=ab hb;clear aD hb HP;obtain ⟨cc,vX⟩ : ∃ cc,cc=jS m:=⟨_,rfl⟩;have zm:=ab vX;have Y6:(⟨(bI m 4).toArray⟩ : ByteArray)=cc:=by rw [vX];rfl
 rw [Y6] at cv;clear vX Y6;go_wp2;go_ret;exact ⟨by rw [← zm.out];rfl,HB.out⟩
theorem GK(key:ByteArray)(w:World)(h1:key.size≤255):Calls prog 243 #[.string key] w fun e w'=>e = .returned (.string (KI key.size))∧Below w.heap.size w w':=by
 have HP:=ab (wZ key.size 1 w (by omega) (by decide) (by decide) (by omega))
 have TF:=ab (Hr key.size h1);have w1:(key.size:Int) % 18446744073709551616=(key.size:Int):=by omega
 go_enter func243,ntmps243;go_wp2_with fail;refine HP.out.mono ?_
 rintro e w2 ⟨g,c2,rfl,aD,hb⟩;rw [TF.out] at aD;have cv:=kY w2 _ _ (rD aD rfl) (by simp)
 have HB:=ab hb;clear aD hb HP;obtain ⟨cc,vX⟩ : ∃ cc,cc=KI key.size:=⟨_,rfl⟩;have zm:=ab vX;have Y6:(⟨[UInt8.ofNat key.size].toArray⟩ : ByteArray)=cc:=by rw [vX];rfl
 rw [Y6] at cv;clear vX Y6;go_wp2;go_ret;exact ⟨by rw [← zm.out];rfl,HB.out⟩
theorem KG(p:Lk)(w:World)(hp:gz p=true):Calls prog 225 #[.agg #[.string p.1,.int .i64 p.2]] w fun e w'=>e = .returned (.string (mj p))∧Below w.heap.size w w':=by
 obtain ⟨h1,h2,h3,h4⟩:=kJ hp;obtain ⟨m,hm⟩ : ∃ m:Nat,p.2=(m:Int):=⟨p.2.toNat,by omega⟩
 have JC:=ab (EX p);rw [hm] at JC ⊢;rw [bn] at JC;have Ek:m<1048576:=by omega
 have q0:=ai w (.cells #[.string p.1,.int .i64 (m:Int)] 179);have x0:=au.new w #[.string p.1,.int .i64 (m:Int)] 179;generalize Cy:w.alloc (.cells #[.string p.1,.int .i64 (m:Int)] 179)=W0 at *;have p0:=x0.c0;have p1:=x0.c1;have HX:=ab x0;have HQ:=ab q0;have HK:Hid (∀ W,Calls prog 243 #[.string p.1] W fun e w'=>e = .returned (.string (KI p.1.size))∧Below W.heap.size W w'):=fun W=>GK p.1 W h2
 have HC:Hid (∀ W,Calls prog 224 #[.int .i64 (m:Int)] W fun e w'=>e = .returned (.string (jS m))∧Below W.heap.size W w'):=fun W=>A1 m W Ek
 obtain ⟨t1,D9⟩ : ∃ t,t=KI p.1.size:=⟨_,rfl⟩;obtain ⟨t2,vU⟩ : ∃ t,t=jS m:=⟨_,rfl⟩;have z1:t1.size=1:=by rw [D9];rfl
 have z2:t2.size=4:=by rw [vU];exact qT m
 rw [← D9] at HK JC;rw [← vU] at HC JC;have a1:∀ w,(Op.stringOp .add t1 p.1).run prog w = .ok (.string (t1++p.1)) w:=fun w=>run_string_add_sum (P:=prog) (w:=w) _ _ (by rw [z1];omega)
 have a2:∀ w,(Op.stringOp .add (t1++p.1) t2).run prog w = .ok (.string (t1++p.1++t2)) w:=fun w=>run_string_add_sum (P:=prog) (w:=w) _ _ (by rw [ByteArray.size_append,z1,z2];omega)
 have Ep:W0.heap.size≤W0.heap.size:=aj _;clear h1 h2 h3 h4 hm Ek q0 x0 D9 vU hp;go_enter func225,ntmps225;go_wp2_with fail;go_region_held3 (fun w'=>w'.cell? ⟨w.heap.size,0,none⟩=some (.string p.1)∧w'.cell? ⟨w.heap.size,1,none⟩=some (.int .i64 (m:Int))) (go_keep)
  (first
   | (go_at_call 243;refine (HK.out _).mono ?_;rintro e w1 ⟨rfl,aN⟩;have SK:Below W0.heap.size W0 w1:=(by first | exact Below.next bH.out aN | exact dL aN);have bN:=ab SK;have m0:=(HX.out.below SK).c0;have m1:=(HX.out.below SK).c1;clear aN SK)
   | (go_at_call 224;refine (HC.out _).mono ?_;rintro e w2 ⟨rfl,aY⟩;have SJ:Below W0.heap.size W0 w2:=(by first | exact Below.next bN.out aY | exact dL aY);have bH:=ab SJ;have n0:=(HX.out.below SJ).c0;have n1:=(HX.out.below SJ).c1;clear aY SJ))
 all_goals
  go_wp2;go_ret;exact ⟨by rw [← JC.out];rfl,Below.next HQ.out (by first | exact bH.out | exact bN.out)⟩
theorem NG(base:Nat)(v:Value)(xs:List ByteArray)(x:ByteArray)(t:TypeId)(w w0:World)(B n:Nat)(hn:xs.length=n)(aD:w.ownsRow base 9 1 v n (strs xs))(hb:(n+1)*16≤140737488355328)(dr:base≤w.heap.size)(hB:B≤base)(h0:Below B w0 w):∃ a' eO w',(Builtin.append_ #[231,231] 231 #[v,.slice (some ⟨w.heap.size,0,none⟩) 1 1]).run prog (w.alloc (.cells #[.string x] t)) = .ok (.slice a' (n+1) eO) w'∧w'.ownsRow base 9 1 (.slice a' (n+1) eO) (n+1) (strs (xs++[x]))∧Below B w0 w'∧w.heap.size≤w'.heap.size:=by
 subst hn;have hr:nh (w.alloc (.cells #[.string x] t)) (.slice (some ⟨w.heap.size,0,none⟩) 1 1) [.string x]:=by
  have pO:=bM w #[.string x] t;refine ⟨_,_,rfl,aj _,fun h=>(by cases h),fun j u hj=>⟨_,_,rfl,?_⟩⟩
  have Mu:j=0:=by
   have:=(List.getElem?_eq_some_iff.1 hj).1;simpa using this
  subst Mu;cases hj;exact pO.2 0 (by simp)
 obtain ⟨a',eO,w',bo,gk,hg⟩:=ng 231 9 _ 16 info9 underlying231 rfl base xs.length v (strs xs) _ (World.ownsRow.alloc aD _) _ _ hr (fun u hu=>by simp at hu;subst hu;rfl) (by simpa using hb) (by decide) (by simp;omega)
 refine ⟨a',eO,w',bo,by rw [n9];exact gk,?_,?_⟩
 ·exact (h0.alloc (aq hB dr) _).grown hg (by simp;omega) (fun k hk=>aq hB (World.ownsRow.lt aD k hk).1)
 ·have:=hg.size;simp at this
  omega
def aau(A:Nat→Addr)(f:Int)(l:List Lk)(e:Ending):Prop :=
 (mX f l true=none∧e = .returned (.tuple #[.string (pP f l),.nilIface]))∨(∃ k,mX f l true=some k∧e = .returned (.tuple #[.string ⟨#[]⟩,im A (some k)]))
theorem Qk(A:Nat→Addr)(f:Int)(v:Value)(l:List Lk)(w:World)(cC:Uz l)(hm:l.length≤5864062014805)(hr:dm w v l)(hE:pT A w):Calls prog 185 #[.agg #[.int .i64 f,v]] w fun e w'=>aau A f l e∧Below w.heap.size w w':=by
 obtain ⟨a,cap,hv⟩:=hr.form;subst hv;obtain ⟨n,hn⟩ : ∃ n,n=l.length:=⟨_,rfl⟩;rw [← hn] at hr ⊢;have q0:=ai w (.cells #[.int .i64 f,.slice a n cap] 150);have x0:=au.new w #[.int .i64 f,.slice a n cap] 150;generalize Cy:w.alloc (.cells #[.int .i64 f,.slice a n cap] 150)=W0 at *;have p0:=x0.c0;have p1:=x0.c1;have HX:=ab x0;have HQ:=ab q0;have HE:=ab (hE.below q0);have HR:=ab (hr.below q0);have HN:=ab hn;have nR:=ab (yE A f _ l true W0 cC hm (hr.below q0) (hE.below q0));cases kV:mX f l true with
 | some k =>
  rw [kV] at nR;have GW:=fun W=>fe (some (A k)) W
  have HV:Hid (mX f l true=some k):=kV;clear hr hE cC kV q0 x0 hn hm;go_enter func185,ntmps185;go_wp2_with fail;refine nR.out.mono ?_
  rintro e w1 ⟨rfl,aN⟩;have HB:=ab (Below.next HQ.out aN);clear aN;unfold im;go_wp2;go_ret2;exact ⟨.inr ⟨k,HV.out,rfl⟩,HB.out⟩
 | none =>
  rw [kV] at nR;obtain ⟨h1,h2,h3,h4,h5,h6,h7⟩:=kD kV;have hlen:=rr l;have Wr:=ab h3;have gM:Hid (dN (dw f l)≤4072):=by rw [oc];exact h6
  have Eh:n≤581:=by omega
  have HV:Hid (mX f l true=none):=kV;obtain ⟨m,qJ⟩ : ∃ m:Nat,f=(m:Int):=by
   have:2≤f∧f<1048576:=of_decide_eq_true h2;exact ⟨f.toNat,by omega⟩
  have Ek:m<1048576:=by
   have:2≤f∧f<1048576:=of_decide_eq_true h2;omega
  have HC:=ab (fun W=>A1 m W Ek)
  subst qJ;have QL:Hid ([jS m]=dw (m:Int) (l.take 0)):=by show _=_;simp [dw]
  clear hr hE cC kV h1 h2 h3 h4 h5 h6 h7 hlen hn hm q0 x0 Ek;go_enter func185,ntmps185;go_wp2_with fail;refine nR.out.mono ?_
  rintro e w1 ⟨rfl,aN⟩;have bN:=ab aN;clear aN p0 p1 nR;have p0:=(HX.out.below bN.out).c0;unfold im;go_wp2_with fail;refine (HC.out _).mono ?_
  rintro e w2 ⟨rfl,aY⟩;have bH:=ab (Below.next bN.out aY);clear aY p0 HC bN;have q2:=ai w2 (.cells #[.string (jS m)] 9);have o2:(w2.alloc (.cells #[.string (jS m)] 9)).ownsRow w2.heap.size 9 1 (.slice (some ⟨w2.heap.size,0,none⟩) 1 1) 1 (strs [jS m]):=World.ownsRow_lit w2 #[.string (jS m)] 1 (aj _) (by decide) rfl
  rw [QL.out] at o2;obtain ⟨cc,vX⟩ : ∃ cc,cc=jS m:=⟨_,rfl⟩;rw [← vX] at q2 o2 ⊢;generalize K3:w2.alloc (.cells #[.string cc] 9)=W2 at *;have dH:=ab (Below.next bH.out q2);have gX:=ab o2;have p1:=(HX.out.below dH.out).c1;have nJ:=ab bH.out.size;clear q2 o2 vX QL;go_wp2;clear p1;go_loopw [5,20] (fun u i wr=>∃ k:Nat,k≤n∧i = .int .i64 k∧wr.ownsRow W0.heap.size 9 1 u (k+1) (strs (dw (m:Int) (l.take k)))∧Below W0.heap.size W0 wr) (fun _ i _=>n - (intOf i).toNat)
  case atStart=>exact ⟨0,aC _,rfl,An gX.out nJ.out,dH.out⟩
  case round =>
   obtain ⟨k,hk,rfl,aD,bL⟩:=hrel;clear gX dH;have mC:(dw (m:Int) (l.take k)).length=k+1:=by rw [mY,ag];have:=HN.out;omega
   obtain ⟨ua,uc,hu⟩ : ∃ a c,u5 = .slice a (k+1) c:=by
    rcases aD.2 with ⟨rfl,h⟩ | ⟨g,cap,cur,rfl,_⟩
    ·omega
    ·exact ⟨_,_,rfl⟩
   subst hu;by_cases bX:k<n
   ·have ep:k<l.length:=by have:=HN.out;omega
    obtain ⟨g,o,rfl,c1,c2⟩:=(HR.out.below bL).spot k ep;have HS:=ab (EU (m:Int) l k ep);have q2:=ai wr (.cells #[.string l[k].1,.int .i64 l[k].2] 179);have JF:=ab (fun W=>KG l[k] W (Wr.out l[k] (aH _)))
    obtain ⟨p,hp⟩ : ∃ p,p=l[k]:=⟨_,rfl⟩;rw [← hp] at c1 c2 HS JF q2;have jY:=ab (Below.next bL q2);have HO:=ab (iP aD q2);have dO:(k:Int)<(n:Int):=by omega
    clear hp bL aD q2;go_wp2_with fail;refine (JF.out _).mono ?_
    rintro e w3 ⟨rfl,b6⟩;obtain ⟨a3,cp3,w4,bo,dq,gH,_⟩:=NG W0.heap.size _ _ (mj p) 9 w3 W0 W0.heap.size (k+1) mC (iP HO.out b6) (by omega) (aq jY.out.size b6.size) (aj _) (Below.next jY.out b6)
    rw [← HS.out] at dq;have wj:=ab dq;have gY:=ab gH;obtain ⟨cc2,Y7⟩ : ∃ cc,cc=mj p:=⟨_,rfl⟩;rw [← Y7] at bo ⊢;clear dq gH b6 JF HS jY HO mC Y7 c1 c2;go_wp2_with (first | (at_builtin;have h0:=bo;clear bo;refine wpList_append_run 231 rfl (.tmp 24) (.tmp 27) rfl rfl _ _ rfl rfl _ _ h0 ?_;clear h0))
    go_wp2;go_roundw
    case rel=>exact ⟨k+1,by omega,by go_num,wj.out,gY.out⟩
    case measure=>simp [intOf];omega
   ·have oD:k=n:=by omega
    have cZ:l.take k=l:=by rw [ar];have:=HN.out;omega
    rw [cZ] at aD;have hs:=(fS aD).strs;have Z6:=ab (rW A _ (dw (m:Int) l) wr (by have:=gM.out;omega) hs ((HE.out.below bL).1.JQ (by decide)))
    have jY:=ab (Below.next HQ.out bL);have dO:¬ (k:Int)<(n:Int):=by omega
    clear bL aD oD hs cZ mC;go_wp2_with fail;refine Z6.out.mono ?_
    rintro e w3 ⟨hv,b6⟩;have nF:e = .returned (.tuple #[.string (pP (m:Int) l),.nilIface]):=by
     rcases hv with ⟨_,h⟩ | ⟨h,_⟩
     ·exact h
     ·exact absurd gM.out h
    subst nF;have dH:=ab (Below.next jY.out b6);clear hv b6 Z6;go_wp2;go_ret2;exact ⟨.inl ⟨HV.out,rfl⟩,dH.out⟩
end B
namespace T
theorem Ai(pb:Nat)(w:World):Calls prog 183 #[.pointer (some ⟨pb,0,none⟩),.nilIface] w fun e w'=>e = .returned (.tuple #[])∧w=w':=by
 go_enter func183,ntmps183;go_wp2;go_end0
 exact ⟨rfl,rfl⟩
theorem Ry{w:World}{b:Nat}{n:SN}{pv lv cv:Value}(h:dM w b n pv lv cv):To n.ps:=fun p hp=>by
 have:=tm (h.fine.1 p hp);omega
theorem eW{P:Program}{ops:Array Oper}{rest:List Oper}{op:Oper}{a:Act}{w w':World}{Q:Exit→Act→World→Prop}(nQ:op.guard=none)(ty:TypeId)(x y:Operand)(ho:op.op = .store ty x y)(p v:Value)(hx:a.eval x=p)(hy:a.eval y=v)(bo:(Instr.storeAt ty p v).run P w = .ok () w')(h:wpList P ops Q rest (a.put op.dst undef) w'):wpList P ops Q (op::rest) a w :=
 wpList_plain nQ fun _ hK=>by
  unfold Oper.wp execOp;simp only [ho,hx,hy,Sem.run_bind,bo,Result.andThen_ok,Sem.run_pure];exact hK _ _ h
theorem info87:(prog.info? 87).map (·.size)=some 5:=by kernel_rfl
theorem C0(w:World)(H:Nat)(Fq:Array Value)(a b c d e:Value)(hr:B.au w H Fq 87)(ho:Fq.size=5)(h1:a.oneCell'=true∧b.oneCell'=true∧c.oneCell'=true∧d.oneCell'=true∧e.oneCell'=true):(Instr.storeAt 87 (.pointer (some ⟨H,0,none⟩)) (.agg #[a,b,c,d,e])).run prog w = .ok () (w.setRow H #[a,b,c,d,e]):=by
 have:=run_storeVar_row (P:=prog) w H 87 87 Fq #[a,b,c,d,e] hr info87 (by rw [ho];rfl) (by simp [h1.1,h1.2.1,h1.2.2.1,h1.2.2.2.1,h1.2.2.2.2])
 simp only [Instr.storeAt,Instr.sureAddr,Sem.run_bind,Sem.run_pure,Result.andThen_ok,this]
theorem Nw(w:World)(H:Nat)(Fq cs:Array Value)(hr:B.au w H Fq 87):B.au (w.setRow H cs) H cs 87:=setRow_heap w H Fq cs _ _ hr
theorem C4(w:World)(H:Nat)(cs:Array Value):bK H w (w.setRow H cs):=by
 refine ⟨rfl,rfl,rfl,by simp [World.setRow],fun k hk ey=>?_⟩
 have abX:¬ H=k:=fun e=>ey e.symm
 simp [World.setRow,Array.getElem?_modify,abX]
theorem F7(A:Nat→Addr)(pb b:Nat)(n:SN)(pv lv cv:Value)(w:World)(hs:dM w b n pv lv cv)(hu:n.us=[])(hE:jG A w)(hc:zO n.ps true=none):Calls prog 149 #[.pointer (some ⟨pb,0,none⟩),.pointer (some ⟨b,0,none⟩)] w fun e w'=>e = .returned (.agg #[.int .i64 76,.int .i64 0,.int .u64 0,.int .i64 (n.ps.length:Int),.string (tQ n.ps)])∧Below w.heap.size w w':=by
 obtain ⟨W1,lf⟩ : ∃ W1,w.alloc (.cells #[.int .i64 0,.int .i64 0,.int .u64 0,.int .i64 0,.string ⟨#[]⟩] 87)=W1:=⟨_,rfl⟩;have aN:Below w.heap.size w W1:=lf▸ai w _;have r1:B.au W1 w.heap.size #[.int .i64 0,.int .i64 0,.int .u64 0,.int .i64 0,.string ⟨#[]⟩] 87:=lf▸B.au.new w _ _;obtain ⟨H,hH⟩ : ∃ H,w.heap.size=H:=⟨_,rfl⟩;rw [hH] at r1;have jT:=hs.below aN;have pI:=ab (cd b n pv lv cv W1 jT);rw [show decide (n.us.length=0)=true by rw [hu];rfl] at pI
 have hlen:n.ps.length≤4000:=hs.fine.2.1;have UK:=ab (Ot A pv n.ps W1 (Ry hs) (by omega) jT.jj (hE.below aN))
 have p0:=jT.c0;obtain ⟨xa,xc,KR⟩:=hs.jj.form;subst KR;have nK:=ab r1;have bN:=ab aN;have HC:=ab hc;have qe:=ab jT;have HL:=ab hlen;clear hs jT hE hc aN r1 hu;go_enter func149,ntmps149;go_wp2_with fail;refine pI.out.mono ?_
 rintro e w1' ⟨rfl,rfl⟩;go_wp2_with fail;refine UK.out.mono ?_
 rintro e w2 ⟨he,aY⟩;rcases he with ⟨_,rfl⟩ | ⟨k,hk,_⟩
 ·have bH:=ab (Below.next bN.out aY);have r2:=nK.out.below aY;have p0':=(qe.out.below aY).c0;have oR:=ab r2;clear aY UK pI r2;go_wp2_with fail;refine (Ai pb w2).mono ?_
  rintro e w2' ⟨rfl,rfl⟩;have eS:=C0 w2 H _ (.int .i64 76) (.int .i64 0) (.int .u64 0) (.int .i64 (n.ps.length:Int)) (.string (tQ n.ps)) oR.out rfl ⟨rfl,rfl,rfl,rfl,rfl⟩;have gN:=ab eS;clear eS;go_wp2_with (refine eW rfl 87 _ _ rfl _ _ rfl rfl gN.out ?_)
  have HE:Hid (Below w.heap.size w (w2.setRow H #[.int .i64 76,.int .i64 0,.int .u64 0,.int .i64 (n.ps.length:Int),.string (tQ n.ps)])):=by
   have hb:=bH.out;exact ⟨hb.os,hb.tape,hb.output,by simpa [World.setRow] using hb.size,fun k hk=>(setRow_other w2 H k _ (by omega)).trans (hb.block k hk)⟩
  refine bodyPost_ret (results_cell_row rfl _ _ H 87 _ (0,0) _ rfl (Nw w2 H _ _ oR.out) underlying87 rfl info87) rfl ?_
  exact ⟨rfl,HE.out⟩
 ·rw [HC.out] at hk;cases hk
end T
end Go.Proofs.YtihmgigfkmofnaaGreatDoor
