import Derived.Test.YtihmgigfkmofnaaGreatDoorG31
import Derived.Maps.AppendAt
import Derived.Laws.Rows
set_option maxHeartbeats 4000000
set_option maxRecDepth 100000
open Go.Proofs.Tryz
namespace Go.Proofs.YtihmgigfkmofnaaGreatDoor
namespace T
open Go.RowKit
def Kk(l:List S.Sh):List Value:=l.flatMap S.Sh.cells
theorem Gd(a b:List S.Sh):Kk (a++b)=Kk a++Kk b:=by simp [Kk]
def sS(w:World)(base:Nat)(v:Value)(l:List S.Sh):Prop:=w.ownsRow base 87 5 v l.length (Kk l)
theorem sS.nil(w:World)(base:Nat):sS w base (.slice none 0 0) []:=World.ownsRow_nil _ _ _ _
theorem sS.form{w:World}{base:Nat}{v:Value}{l:List S.Sh}(h:sS w base v l):∃ a c,v = .slice a l.length c:=by
 rcases h.2 with ⟨rfl,h0⟩ | ⟨g0,cap,cur,rfl,_⟩
 ·have:l=[]:=List.length_eq_zero_iff.1 h0;subst this;exact ⟨_,_,rfl⟩
 ·exact ⟨_,_,rfl⟩
theorem sS.dn{w:World}{base:Nat}{v:Value}{l:List S.Sh}(h:sS w base v l){g:Nat}(hg:v.ownBlock=some g):base≤g∧g<w.heap.size:=World.ownsRow.lt h g hg
theorem sS.same{w w':World}{lo:Nat}{v:Value}{l:List S.Sh}(h:sS w lo v l)(hb:∀ g,v.ownBlock=some g→w'.heap[g]?=w.heap[g]?):sS w' lo v l:=by
 refine ⟨h.1,?_⟩;rcases h.2 with h' | ⟨g,cap,cur,h',h1,h2,hr⟩
 ·exact .inl h'
 ·exact .inr ⟨g,cap,cur,h',h1,(hb g (by rw [h'];rfl)).trans h2,hr⟩
theorem VC:(prog.info? 87).map (fun i=>(i.zero,i.size,i.bytes))=some (some (.agg #[.int .i64 0,.int .i64 0,.int .u64 0,.int .i64 0,.string ByteArray.empty]),5,48):=by kernel_rfl
theorem Vk(s:S.Sh):∀ u ∈ s.cells,u.oneCell'=true:=by
 intro u hu;simp only [S.Sh.cells,dN,dA,or_false] at hu;rcases hu with rfl | rfl | rfl | rfl | rfl <;> rfl
theorem sS.push(base:Nat)(v:Value)(l:List S.Sh)(s:S.Sh)(w:World)(h:sS w base v l)(hn:l.length≤1000000)(dy:base≤w.heap.size):∃ a' c' w',(Builtin.append_ #[83,83] 83 #[v,.slice (some ⟨w.heap.size,0,none⟩) 1 1]).run prog (w.alloc (.cells s.cells.toArray 87)) = .ok (.slice a' (l.length+1) c') w'∧sS w' base (.slice a' (l.length+1) c') (l++[s])∧(w.alloc (.cells s.cells.toArray 87)).grownBy w' v.ownBlock∧∀ g,(Value.slice a' (l.length+1) c').ownBlock=some g→v.ownBlock=some g∨w.heap.size≤g:=by
 obtain ⟨i0,hi,hz,cx,kU⟩:=info_parts VC;obtain ⟨W,hW⟩ : ∃ W,W=w.alloc (.cells s.cells.toArray 87):=⟨_,rfl⟩;have hsW:W.heap.size=w.heap.size+1:=by rw [hW];simp
 have nz:=bN w s.cells.toArray 87;rw [← hW] at nz;have ho:W.ownsRow base 87 5 v l.length (Kk l):=hW▸World.ownsRow.alloc h _;have ik:∀ j u,s.cells[j]?=some u→W.cell? ((⟨w.heap.size,0,none⟩ : Addr).add j)=some u:=fun j u hj=>by
  rw [bB,Nat.zero_add];obtain ⟨h1,h2⟩:=List.getElem?_eq_some_iff.1 hj;rw [← h2];exact nz.2 j (by simpa using h1)
 obtain ⟨v',w',hr,aE,hg,_,sk⟩:=run_append_own_at (P:=prog) W base 83 83 87 i0 _ 5 48 underlying83 hi hz cx kU rfl (by decide) v l.length (Kk l) ho ⟨w.heap.size,0,none⟩ 1 1 s.cells rfl ik (Vk s) (by unfold maxLen;omega) (by omega) (by omega)
 have gk:sS w' base v' (l++[s]):=by
  unfold sS;rw [ae,Gd,show Kk [s]=s.cells by simp [Kk]]
  exact aE
 obtain ⟨a',c',jS⟩:=gk.form;rw [ae,aS] at jS;subst jS;refine ⟨a',c',w',hW▸hr,gk,hW▸hg,fun g G7=>?_⟩
 rcases sk with h1 | h1
 ·exact .inl (h1▸G7)
 ·rw [h1] at G7;cases G7;right;omega
def kj(tx:Nat):Nat × PD→S.Sh
 | (id,.leaf l)=>⟨76,id,tx,l.length,tV l⟩
 | (id,.br f lk)=>⟨66,id,tx,(lk.length:Int)+1,B.pX f lk⟩
structure mN(pb:Nat)(w:World)(v:Value)(w':World)(v':Value):Prop where
 size:w.heap.size≤w'.heap.size
 block:∀ k,k<w.heap.size→k≠pb→v.ownBlock≠some k→w'.heap[k]?=w.heap[k]?
 own:∀ g,v'.ownBlock=some g→v.ownBlock=some g∨w.heap.size≤g
theorem mN.refl(pb:Nat)(w:World)(v:Value):mN pb w v w v:=⟨aj _,fun _ _ _ _=>rfl,fun _ h=>.inl h⟩
theorem mN.trans{pb:Nat}{w w1 w2:World}{v v1 v2:Value}(h:mN pb w v w1 v1)(k:mN pb w1 v1 w2 v2):mN pb w v w2 v2:=by
 refine ⟨al h.size k.size,fun i hi h2 h3=>?_,fun g hg=>?_⟩
 ·rw [k.block i (ar hi h.size) h2 (fun e=>by
   rcases h.own i e with e' | e'
   ·exact h3 e'
   ·omega)]
  exact h.block i hi h2 h3
 ·rcases k.own g hg with e | e
  ·exact h.own g e
  ·exact .inr (al h.size e)
theorem mN.below{pb:Nat}{w w':World}(v:Value)(h:Below w.heap.size w w'):mN pb w v w' v:=⟨h.size,fun k hk _ _=>h.block k hk,fun _ h=>.inl h⟩
structure pY(w0:World)(lo pb:Nat)(pv:Value)(P:List Nat)(tx:Nat)(w:World)(sv:Value)(Z:List S.Sh):Prop where
 eV:Below w0.heap.size w0 w
 row:B.ax w pb #[pv,.int .u64 (tx:Int),sv,.nilIface] 127
 sh:sS w lo sv Z
 ord:w0.heap.size≤pb∧pb<lo
 lo:lo≤w.heap.size
 pg:nI w0 pv (Q.kS P)
 pl:P.length≤1000000
section
variable {w0:World} {lo pb:Nat} {pv:Value} {P:List Nat} {tx:Nat} {w w':World} {sv ov:Value} {Z Z':List S.Sh}
theorem pY.keep(h:pY w0 lo pb pv P tx w sv Z)(ht:mN pb w sv w' ov)(Xt:w'.os=w.os)(htp:w'.tape=w.tape)(hou:w'.output=w.output)(hr:B.ax w' pb #[pv,.int .u64 (tx:Int),ov,.nilIface] 127)(hs:sS w' lo ov Z'):pY w0 lo pb pv P tx w' ov Z':=by
 have si:=h.lo;have ho:=h.ord;refine ⟨⟨Xt.trans h.eV.os,htp.trans h.eV.tape,hou.trans h.eV.output,al h.eV.size ht.size,fun k hk=>?_⟩,hr,hs,h.ord,al h.lo ht.size,h.pg,h.pl⟩
 exact (ht.block k (by omega) (by omega) (fun e=>by have:=(h.sh.dn e).1;omega)).trans (h.eV.block k hk)
theorem pY.below(h:pY w0 lo pb pv P tx w sv Z)(hb:Below w.heap.size w w'):pY w0 lo pb pv P tx w' sv Z :=
 h.keep (mN.below sv hb) hb.os hb.tape hb.output (h.row.below hb) (h.sh.same fun g hg=>hb.block g (h.sh.dn hg).2)
theorem pY.push(h:pY w0 lo pb pv P tx w sv Z)(s:S.Sh)(hn:Z.length≤1000000):∃ a' c' w',(Builtin.append_ #[83,83] 83 #[sv,.slice (some ⟨w.heap.size,0,none⟩) 1 1]).run prog (w.alloc (.cells s.cells.toArray 87)) = .ok (.slice a' (Z.length+1) c') w'∧w'.frozen? ⟨pb,2,none⟩=false∧w'.cell? ⟨pb,2,none⟩=some sv∧pY w0 lo pb pv P tx (w'.setCell ⟨pb,2,none⟩ (.slice a' (Z.length+1) c')) (.slice a' (Z.length+1) c') (Z++[s])∧mN pb w sv (w'.setCell ⟨pb,2,none⟩ (.slice a' (Z.length+1) c')) (.slice a' (Z.length+1) c'):=by
 have si:=h.lo;have ho:=h.ord;obtain ⟨a',c',w',hr,kB,hg,aE⟩:=sS.push lo sv Z s w h.sh hn si;have aP:=ai w (.cells s.cells.toArray 87);have cx:(w.alloc (.cells s.cells.toArray 87)).heap.size=w.heap.size+1:=by simp
 have pW:=hg.size;have fM:∀ b,b<lo→some b≠sv.ownBlock:=fun b hb e=>by
  have:=(h.sh.dn e.symm).1;omega
 have PS:∀ k,k<w.heap.size→some k≠sv.ownBlock→w'.heap[k]?=w.heap[k]?:=fun k hk h1=>(hg.block k (by omega) h1).trans (aP.block k hk)
 have bG:B.ax w' pb #[pv,.int .u64 (tx:Int),sv,.nilIface] 127:=(PS pb h.row.lt (fM _ ho.2)).trans h.row;have dF:=bL.set pb 2 w' (.slice a' (Z.length+1) c');have jy:=dF.size;have xS:w.heap.size≤(w'.setCell ⟨pb,2,none⟩ (.slice a' (Z.length+1) c')).heap.size:=by omega
 have Yx:mN pb w sv (w'.setCell ⟨pb,2,none⟩ (.slice a' (Z.length+1) c')) (.slice a' (Z.length+1) c'):=⟨xS,fun k hk h1 h2=>(dF.block k (by omega) h1).trans (PS k hk (fun e=>h2 e.symm)),aE⟩
 have Je:B.ax (w'.setCell ⟨pb,2,none⟩ (.slice a' (Z.length+1) c')) pb #[pv,.int .u64 (tx:Int),.slice a' (Z.length+1) c',.nilIface] 127:=by
  unfold B.ax at bG ⊢;rw [setCell_eq_setRow w' pb 2 _ _ (0,0) _ bG];exact setRow_heap w' pb _ _ _ (0,0) bG
 refine ⟨a',c',w',hr,bG.free 2,bG.cell 2 (by simp),h.keep Yx (dF.os.trans (hg.os.trans aP.os)) (dF.tape.trans (hg.tape.trans aP.tape)) (dF.output.trans (hg.output.trans aP.output)) Je (kB.same fun g G7=>?_),Yx⟩
 have:=kB.dn G7;exact dF.block g this.2 (by omega)
end
end T
open Go.RowKit
theorem rA(v:Value)(l:List ByteArray)(w:World)(hm:dR l≤1152921504606846976)(hr:Mr w v l):Calls prog 241 #[v] w fun e w'=>e = .returned (.int .i64 ((dR l:Nat):Int))∧w=w':=by
 obtain ⟨a,cap,rfl,di,hc⟩:=hr;have HC:=ab hc;obtain ⟨n,hn⟩ : ∃ n,n=l.length:=⟨_,rfl⟩;rw [← hn];have HN:=ab hn;have HM:=ab hm;have h2:n≤576460752303423488:=by
  have:dR l=2*l.length+(dY l l.length).length:=rfl;omega
 have hw:IntKind.i64.wrap (2*(n:Int))=((fw l 0:Nat):Int):=by rw [IntKind.wrap_i64,pK];omega
 clear hc hn hm di;go_enter func241,ntmps241;go_wp2;go_loop [3,11] (fun r i=>∃ k:Nat,k≤n∧i = .int .i64 k∧r = .int .i64 ((fw l k:Nat):Int)) (fun _ i=>n - (intOf i).toNat)
 case atStart=>exact ⟨0,aD _,rfl,rfl⟩
 case round =>
  obtain ⟨k,hk,rfl,rfl⟩:=hrel;clear hw;by_cases bP:k<n
  ·have dm:k<l.length:=by have:=HN.out;omega
   obtain ⟨g,o,rfl,f1⟩:=HC.out k dm;have HS:=ab (mG l k dm);have HL:=ab (tU l (k+1) l.length (by omega) (aj _))
   obtain ⟨p,hp⟩ : ∃ p,p=fw l k:=⟨_,rfl⟩;rw [← hp] at HS ⊢;obtain ⟨q,hq⟩ : ∃ q,q=fw l (k+1):=⟨_,rfl⟩;rw [← hq] at HS HL;have HQ:=ab hq;generalize l[k]=x at *;have hw:IntKind.i64.wrap ((p:Int)+(x.size:Int))=(q:Int):=by
    rw [IntKind.wrap_i64];have h1:=HS.out;have h2:=HL.out;have h3:fw l l.length≤1152921504606846976:=HM.out;omega
   have dS:(k:Int)<(n:Int):=by omega
   clear hp hq HC;go_wp2;go_round
   case rel=>exact ⟨k+1,by omega,by go_num,by rw [← HQ.out]⟩
   case measure=>simp [intOf];omega
  ·have n9:k=n:=by omega
   have HF:Hid (fw l k=dR l):=by show _=_;rw [n9,HN.out];rfl
   obtain ⟨p,hp⟩ : ∃ p,p=fw l k:=⟨_,rfl⟩;rw [← hp] at HF ⊢;have dS:¬ (k:Int)<(n:Int):=by omega
   clear hp HC;go_wp2;go_ret;exact ⟨by rw [← HF.out];rfl,rfl⟩
theorem RT(l:List UInt8)(k:Nat)(x:UInt8):(dW l).set k (.int .u8 (x.toNat:Int))=dW (l.set k x):=by simp [dW,List.map_set]
theorem nU.set{t:TypeId}{w:World}{g:Nat}{l:List UInt8}(h:nU t w g l)(k:Nat)(x:UInt8):nU t (w.setCell ⟨g,k,none⟩ (.int .u8 (x.toNat:Int))) g (l.set k x):=by
 unfold nU;rw [heap_setCell_same w g k _ t _ h,← RT];simp
theorem nU.frozen{t:TypeId}{w:World}{g:Nat}{l:List UInt8}(h:nU t w g l)(k:Nat):w.frozen? ⟨g,k,none⟩=false:=frozen_of_row _ _ _ _ _ h
theorem C9(t:TypeId)(b i e n:Nat)(l:List UInt8)(w:World)(he:e≤4072)(hl:l.length=n)(hi:2*i+1<n)(hn:n≤4072)(hr:nU t w b l):Calls prog 242 #[.slice (some ⟨b,0,none⟩) n n,.int .i64 (i:Int),.int .i64 (e:Int)] w fun ev w'=>ev = .returned (.tuple #[])∧nU t w' b ((l.set (2*i) (G6 e)).set (2*i+1) (FB e))∧bL b w w':=by
 obtain ⟨p,hp⟩ : ∃ p,p=2*i:=⟨_,rfl⟩;obtain ⟨q,hq⟩ : ∃ q,q=p+1:=⟨_,rfl⟩;have hw:IntKind.i64.wrap (2*(i:Int))=(p:Int):=by rw [IntKind.wrap_i64];omega
 have Ri:IntKind.i64.wrap ((p:Int)+1)=(q:Int):=by rw [IntKind.wrap_i64];omega
 have h1:(p:Int)<(n:Int):=by omega
 have h2:(q:Int)<(n:Int):=by omega
 have Jo:p<n:=by omega
 have P3:q<n:=by omega
 have hpq:¬ q=p:=by omega
 have c1:=hr.cell p (by omega)
 have c2:=hr.cell q (by omega)
 have z1:=hr.frozen p;have z2:=hr.frozen q;have HR:Hid (nU t ((w.setCell ⟨b,p,none⟩ (.int .u8 ((G6 e).toNat:Int))).setCell ⟨b,q,none⟩ (.int .u8 ((FB e).toNat:Int))) b ((l.set (2*i) (G6 e)).set (2*i+1) (FB e))):=by
  have:=(hr.set p (G6 e)).set q (FB e);rw [hq,hp] at this;rw [hq,hp];exact this
 have HS:Hid (bL b w ((w.setCell ⟨b,p,none⟩ (.int .u8 ((G6 e).toNat:Int))).setCell ⟨b,q,none⟩ (.int .u8 ((FB e).toNat:Int)))):=(bL.set b p w _).trans (bL.set b q _ _);rw [AP e he,Ax] at HR HS;have e1:((e / 256:Nat):Int)=(e:Int) / 256:=by omega
 have e2:((e % 256:Nat):Int)=(e:Int) % 256:=by omega
 rw [e1,e2] at HR HS;generalize l[p]=y1 at *;generalize l[q]=y2 at *;clear hp hq hl hi hr e1 e2;go_enter func242,ntmps242;go_wp2;go_end0
 exact ⟨rfl,HR.out,HS.out⟩
theorem Mb(l:List ByteArray)(k:Nat)(hk:k<l.length):((splice (gU l k) (fw l k) l[k].data.toList).set (2*k) (G6 (fw l (k+1)))).set (2*k+1) (FB (fw l (k+1)))=gU l (k+1):=by
 have he:fw l k=(fS l k++(List.replicate (2*(l.length - k)) (0:UInt8)++dY l k)).length:=by
  simp only [ae,bw,dP];have:fw l k=2*l.length+(dY l k).length:=rfl;omega
 have h1:gU l k=(fS l k++(List.replicate (2*(l.length - k)) (0:UInt8)++dY l k))++List.replicate (4072 - fw l k) 0:=by
  unfold gU;simp only [ay]
 have h2:splice (gU l k) (fw l k) l[k].data.toList=(fS l k++(List.replicate (2*(l.length - k)) (0:UInt8)++dY l k))++(l[k].data.toList++List.replicate (4072 - fw l (k+1)) 0):=by
  unfold splice;rw [h1];conv=>lhs;rw [he]
  rw [et,← List.drop_drop,fJ,← he,nP,bsize,mG l k hk,Nat.sub_sub]
 rw [h2,ay,ay,show 2*(l.length - k)=2*(l.length - (k+1))+1+1 by omega,List.replicate_succ,List.replicate_succ]
 have hs:=dP l k;rw [bX _ _ (by omega),hs,dO]
 simp only [List.cons_append,List.set_cons_zero];rw [bX _ _ (by omega),hs,show 2*k+1 - 2*k=1 by omega]
 simp only [List.set_cons_succ,List.set_cons_zero];unfold gU;rw [uR l k hk,fS];simp [List.append_assoc]
theorem M5:∀ w,(zeroValue 333).run prog w = .ok (.agg (dW (List.replicate 4072 0)).toArray) w:=(zero_of_info (P:=prog) (t:=333) (n:=4072) (v:=.agg (dW (List.replicate 4072 0)).toArray) (by kernel_rfl)).1
theorem R8(b:Nat)(w:World):(Instr.sliceAt 333 (.pointer (some ⟨b,0,none⟩)) none none none).run prog w = .ok (.slice (some ⟨b,0,none⟩) 4072 4072) w:=by kernel_rfl
theorem vY:prog.arrayLen 333=4072:=by kernel_rfl
theorem Fg:prog.elem 333=5:=by kernel_rfl
theorem R7(b e:Nat)(h:e≤4072):∃ o,(e<4072→o=e)∧o≤e∧∀ w,(Instr.sliceAt 333 (.pointer (some ⟨b,0,none⟩)) (some (.int .i64 (e:Int))) none none).run prog w = .ok (.slice (some ⟨b,o,none⟩) (4072 - e) (4072 - e)) w:=by
 by_cases h4:e=4072
 ·refine ⟨0,fun h'=>by omega,aD _,fun w=>?_⟩
  have hz:(sizeOf 5).run prog w = .ok 1 w:=by kernel_rfl
  rw [run_sliceAt_array_l w 333 ⟨b,0,none⟩ (by kernel_rfl) .i64 _ (by omega) (by rw [vY];omega),vY,Fg,bo,hz]
  subst h4;rfl
 ·refine ⟨e,fun _=>rfl,aj _,fun w=>?_⟩
  have hz:(sizeOf 5).run prog w = .ok 1 w:=by kernel_rfl
  rw [run_sliceAt_array_l w 333 ⟨b,0,none⟩ (by kernel_rfl) .i64 _ (by omega) (by rw [vY];omega),vY,Fg,bo,hz]
  by_cases h0:e=0
  ·subst h0;rfl
  ·simp [slicedAt,Addr.add,show ¬ 4072=e by omega,h0]
theorem TF{t:TypeId}{w:World}{g o cap n:Nat}{l:List UInt8}(s:ByteArray)(hr:nU t w g l)(hn:s.size≤n)(eE:o+s.size≤l.length):∃ w2,(Builtin.copy_ #[145,9] 3 #[.slice (some ⟨g,o,none⟩) n cap,.string s]).run prog w = .ok (.int .i64 (s.size:Int)) w2∧nU t w2 g (splice l o s.data.toList)∧bL g w w2:=by
 have bg:=Lib.run_copy_row_string (P:=prog) w 145 9 3 5 g o n cap s _ t underlying145 uz hr hn (by simp [a6];omega)
 refine ⟨_,bg,?_,bL.setRow g w _⟩;have bG:=setRow_heap w g _ ((dW l).toArray.toList.take o++Lib.byteCells s.data.toList++(dW l).toArray.toList.drop (o+s.size)).toArray t _ hr;unfold nU;rw [bG,← qq,splice,a6,bsize,ay];rfl
def adw(A:Nat→Addr)(l:List ByteArray)(e:Ending):Prop :=
 (dR l≤4072∧e = .returned (.tuple #[.string ⟨(jC l).toArray⟩,.nilIface]))∨(¬ dR l≤4072∧e = .returned (.tuple #[.string ⟨#[]⟩,.iface 360 (.pointer (some (A 2)))]))
theorem OV(a:Option Addr)(cap n:Nat)(l:List ByteArray)(w:World)(hn:n=l.length)(hf:dR l≤4072)(hc:∀ j (h:j<l.length),∃ g o,a=some ⟨g,o,none⟩∧w.cell? ⟨g,o+j,none⟩=some (.string l[j]))(hle:n≤cap):Calls prog 223 #[.slice a n cap] w fun e w'=>e = .returned (.tuple #[.string ⟨(jC l).toArray⟩,.nilIface])∧Below w.heap.size w w':=by
 have ji:=ab (rA (.slice a n cap) l w (by omega) ⟨a,cap,by rw [hn],by rw [← hn];exact hle,hc⟩)
 have cx:¬ (4072:Int)<((dR l:Nat):Int):=by omega
 have h2n:2*n≤4072:=by
  have:dR l=2*l.length+(dY l l.length).length:=rfl;omega
 obtain ⟨zc,Xi,z4⟩ : ∃ zc,zc=(dW (List.replicate 4072 0)).toArray∧∀ w,(zeroValue 333).run prog w = .ok (.agg zc) w:=⟨_,rfl,M5⟩;obtain ⟨b,hb⟩ : ∃ b,b=w.heap.size:=⟨_,rfl⟩;have bG:nU 333 (w.alloc (.cells zc 333)) b (gU l 0):=by rw [E6 l hf,Xi,hb];exact NR _ _ _
 have aP:=ai w (.cells zc 333);have GS:IntKind.i64.wrap (2*(n:Int))=((fw l 0:Nat):Int):=by rw [IntKind.wrap_i64,pK,hn];omega
 have sl:=R8 b;have mR:=ab bG;have bQ:=ab aP;have HC:=ab hc;have HN:=ab hn;have HF:=ab hf;have HB:=ab hb;have iq:=ab (rX l hf);obtain ⟨sz,Pc⟩ : ∃ sz,sz=dR l:=⟨_,rfl⟩;rw [← Pc] at ji cx;clear bG aP hc hn hf Xi Pc hb hle;go_enter func223,ntmps223;go_wp2_with fail;refine ji.out.mono ?_
 rintro e w' ⟨rfl,rfl⟩;go_wp2_with fail;rw [← HB.out];generalize w.alloc (.cells zc 333)=W1 at *;clear z4 ji;go_loopw [5,17] (fun en i wr=>∃ k:Nat,k≤n∧i = .int .i64 k∧en = .int .i64 ((fw l k:Nat):Int)∧nU 333 wr b (gU l k)∧Below w.heap.size w wr) (fun _ i _=>n - (intOf i).toNat)
 case atStart=>exact ⟨0,aD _,rfl,rfl,mR.out,bQ.out⟩
 case round =>
  obtain ⟨k,hk,rfl,rfl,SY,bO⟩:=hrel;clear mR bQ GS;by_cases bP:k<n
  ·have dm:k<l.length:=by have:=HN.out;omega
   obtain ⟨g,o,rfl,f0⟩:=HC.out k dm;have f1:wr.cell? ⟨g,o+k,none⟩=some (.string l[k]):=(bO.cell (p:=⟨g,o+k,none⟩) (World.block_lt_of_cell? w _ f0)).trans f0;have HS:=ab (mG l k dm);have HL:=ab (vX HF.out (show k+1≤l.length by omega))
   have gY:=ab (Mb l k dm);have CD:=ab (Hw l k HF.out (by omega))
   have HGE:=ab (Tr l (k+1));obtain ⟨x,hx⟩ : ∃ x,x=l[k]:=⟨_,rfl⟩;rw [← hx] at f1 HS gY;obtain ⟨p,hp⟩ : ∃ p,p=fw l k:=⟨_,rfl⟩;obtain ⟨q,hq⟩ : ∃ q,q=fw l (k+1):=⟨_,rfl⟩;rw [← hp] at HS gY ⊢;rw [← hq] at HS gY HL HGE;have HQ:=ab hq;obtain ⟨so,jT,gC,qM⟩:=R7 b p (by have:=HS.out;have:=HL.out;omega)
   obtain ⟨w2,yV,iT,jy⟩:=TF (n:=4072 - p) (cap:=4072 - p) (o:=so) x SY (by have:=HS.out;have:=HL.out;omega) (by rw [CD.out];have:=HS.out;have:=HL.out;omega)
   have YD:splice (gU l k) so x.data.toList=splice (gU l k) p x.data.toList:=by
    by_cases h4:p<4072
    ·rw [jT h4]
    ·have Rg:x.data.toList=[]:=List.length_eq_zero_iff.1 (by rw [bsize];have:=HS.out;have:=HL.out;omega)
     rw [Rg];simp [splice]
   rw [YD] at iT;have Jh:(splice (gU l k) p x.data.toList).length=4072:=by
    rw [length_splice _ _ _ (by rw [bsize,CD.out];have:=HS.out;have:=HL.out;omega)];exact CD.out
   have lf:=ab (C9 333 b k q 4072 _ w2 HL.out Jh (by have:=HN.out;omega) (aj _) iT)
   rw [gY.out] at lf;have hw:IntKind.i64.wrap ((p:Int)+(x.size:Int))=(q:Int):=by
    rw [IntKind.wrap_i64];have:=HS.out;have:=HL.out;omega
   have bJ:Hid (Below w.heap.size w w2):=jy.below bO (by rw [HB.out];exact aj _)
   have dS:(k:Int)<(n:Int):=by omega
   clear hx hp hq HC iT jy SY bO YD Jh f0 jT gC;go_wp2_with fail;refine lf.out.mono ?_
   rintro e w3 ⟨rfl,gj,zy⟩;have RG:=ab gj;have dD:Hid (Below w.heap.size w w3):=zy.below bJ.out (by rw [HB.out];exact aj _)
   clear gj zy yV f1;go_wp2;go_roundw
   case rel=>exact ⟨k+1,by omega,by go_num,by rw [← HQ.out],RG.out,dD.out⟩
   case measure=>simp [intOf];omega
  ·have n9:k=n:=by omega
   have dS:¬ (k:Int)<(n:Int):=by omega
   have Xq:nU 333 wr b (jC l):=by rw [n9,HN.out,Hy] at SY;exact SY
   have yf:=lM wr (.slice (some ⟨b,0,none⟩) 4072 4072) (jC l) ⟨some ⟨b,0,none⟩,4072,by rw [iq.out],fun j hj=>⟨b,0,rfl,by rw [Nat.zero_add];exact Xq.cell j hj⟩⟩ (by rw [iq.out];decide)
   have kF:=ab bO;obtain ⟨p,hp⟩ : ∃ p,p=fw l k:=⟨_,rfl⟩;rw [← hp];obtain ⟨L,hL⟩ : ∃ L,L=jC l:=⟨_,rfl⟩;rw [← hL] at yf;have HLQ:=ab hL;clear hp SY Xq bO HC hL;go_wp2;go_ret2;exact ⟨by rw [← HLQ.out];rfl,kF.out⟩
theorem rW(A:Nat→Addr)(v:Value)(l:List ByteArray)(w:World)(hm:dR l≤1152921504606846976)(hr:Mr w v l)(hE:du 4 fl A w):Calls prog 223 #[v] w fun e w'=>adw A l e∧Below w.heap.size w w':=by
 by_cases hf:dR l≤4072
 ·obtain ⟨a,cap,rfl,di,hc⟩:=hr;refine (OV a cap l.length l w rfl hf hc di).mono ?_
  rintro e w' ⟨rfl,hb⟩;exact ⟨.inl ⟨hf,rfl⟩,hb⟩
 ·have ji:=ab (rA v l w hm hr);have cx:(4072:Int)<((dR l:Nat):Int):=by omega
  have c0:w.cell? ⟨2,0,none⟩=some (.iface 360 (.pointer (some (A 2)))):=(hE.1 2 (by decide)).1
  have HF:=ab hf;obtain ⟨sz,Pc⟩ : ∃ sz,sz=dR l:=⟨_,rfl⟩;rw [← Pc] at ji cx;clear hf hE hr hm Pc;go_enter func223,ntmps223;go_wp2_with fail;refine ji.out.mono ?_
  rintro e w' ⟨rfl,rfl⟩;go_wp2;go_quiet (fail)
  go_wp2;go_ret2;exact ⟨.inr ⟨HF.out,rfl⟩,aB (Below.refl _ _) _⟩
def wD(l:List Pr)(k:Nat):List Value:=strs ((l.take k).map ft)++List.replicate (l.length - k) (.string ByteArray.empty)
theorem Nn(l:List Pr)(k:Nat)(h:k<l.length):(wD l k).set k (.string (ft l[k]))=wD l (k+1):=by
 have hl:(strs ((l.take k).map ft)).length=k:=by rw [kh,aA,ag];omega
 unfold wD;rw [bX _ _ (by omega),hl,dO,az h,bn,ow,show l.length - k=l.length - (k+1)+1 by omega,List.replicate_succ,List.set_cons_zero,ay]
 rfl
theorem No(l:List Pr)(k:Nat)(h:k≤l.length):(wD l k).length=l.length:=by
 unfold wD;rw [ae,kh,aA,ag,bw];omega
theorem J0(l:List Pr):wD l 0=List.replicate l.length (.string ByteArray.empty):=by simp [wD,strs]
theorem Np(l:List Pr):wD l l.length=strs (l.map ft):=by simp [wD]
theorem xq{w w':World}{base e n:Nat}{v:Value}{xs:List Value}(h:w.ownsRow base e 1 v n xs)(hb:Below w.heap.size w w'):w'.ownsRow base e 1 v n xs:=by
 refine ⟨h.1,?_⟩;rcases h.2 with h' | ⟨g,cap,cur,h',h1,h2,hr⟩
 ·exact .inl h'
 ·refine .inr ⟨g,cap,cur,h',h1,?_,hr⟩;have hg:g<w.heap.size:=by
   rcases a7 g w.heap.size with h' | h'
   ·exact h'
   ·rw [aY h'] at h2;cases h2
  rw [hb.block g hg];exact h2
def aeB(A:Nat→Addr)(l:List Pr)(e:Ending):Prop :=
 (zL l true=none∧e = .returned (.tuple #[.string (tV l),.nilIface]))∨(∃ k,zL l true=some k∧e = .returned (.tuple #[.string ⟨#[]⟩,iz A (some k)]))
theorem ON(A:Nat→Addr)(v:Value)(l:List Pr)(w:World)(cT:TU l)(hm:l.length≤140737488355328)(hr:gK w v l)(hE:j7 A w):Calls prog 182 #[v] w fun e w'=>aeB A l e∧Below w.heap.size w w':=by
 have od:=ab (qG A v l true w cT hm hr hE);have HE:=ab hE;obtain ⟨i0,hi,hz,cx,kU⟩:=info_parts info9;obtain ⟨a,cap,rfl,di,_,hc⟩:=hr;have HC:=ab hc;cases lJ:zL l true with
 | some k =>
  rw [lJ] at od;have Er:=fun W=>ff (some (A k)) W
  have HV:Hid (zL l true=some k):=lJ;clear hc di hE cT hi hz cx kU lJ;go_enter func182,ntmps182;go_wp2_with fail;refine od.out.mono ?_
  rintro e w1 ⟨rfl,aP⟩;unfold iz;go_wp2;go_ret2;exact ⟨.inr ⟨k,HV.out,rfl⟩,aP⟩
 | none =>
  rw [lJ] at od;obtain ⟨h1,h2,h3,h4,h5⟩:=oU lJ;have hlen:=iM l;have WQ:=ab h1;have ji:Hid (dR (l.map ft)≤4072):=by rw [qz];exact h3
  have xV:l.length≤814:=by omega
  have HV:Hid (zL l true=none):=lJ;obtain ⟨n,hn⟩ : ∃ n,n=l.length:=⟨_,rfl⟩;rw [← hn] at xV od ⊢;have HN:=ab hn;clear hc di hE cT lJ h1 h2 h3 h4 h5 hlen hn hm;go_enter func182,ntmps182;go_wp2_with fail;refine od.out.mono ?_
  rintro e w1 ⟨rfl,aP⟩;obtain ⟨wm,pV,fR,qh⟩:=run_make_full (P:=prog) w1 w1.heap.size 231 9 i0 _ 1 underlying231 hi hz cx .i64 .i64 n (by rw [kU];omega) (by unfold maxLen;omega) (aj _)
  have n7:(madeCells (Value.string ByteArray.empty).cells (n*1)).toList=wD l 0:=by
   rw [J0,Nat.mul_one,HN.out];exact toList_madeCells_one _ _
  rw [n7] at fR;have Cs:Below w1.heap.size w1 wm:=(Below.refl _ _).grown qh (aj _) (fun j hj=>by cases hj)
  obtain ⟨b,hb⟩ : ∃ b,b=w1.heap.size:=⟨_,rfl⟩;rw [← hb] at pV fR;have HB:=ab hb;have HO:=ab fR;have JL:=ab (Below.next aP Cs);have bQ:=ab aP;clear hb fR Cs qh hi hz cx kU n7 aP od;unfold iz;go_wp2;clear pV;go_loopw [18] (fun i wr=>∃ k:Nat,k≤n∧i = .int .i64 k∧wr.ownsRow b 9 1 (.slice (some ⟨b,0,none⟩) n n) n (wD l k)∧Below w.heap.size w wr) (fun i _=>n - (intOf i).toNat)
  case atStart=>exact ⟨0,aD _,rfl,HO.out,JL.out⟩
  case round =>
   obtain ⟨k,hk,rfl,aE,bO⟩:=hrel;clear HO JL;by_cases bP:k<n
   ·have dm:k<l.length:=by have:=HN.out;omega
    obtain ⟨g,o,rfl,f1,f2⟩:=HC.out k dm;have c1:wr.cell? ⟨g,o+k*2,none⟩=some (.string l[k].1):=(bO.cell (p:=⟨g,o+k*2,none⟩) (World.block_lt_of_cell? w _ f1)).trans f1;have c2:wr.cell? ⟨g,o+k*2+1,none⟩=some (.string l[k].2):=(bO.cell (p:=⟨g,o+k*2+1,none⟩) (World.block_lt_of_cell? w _ f2)).trans f2;have AM:=eM (WQ.out l[k] (aH _));have iJ:=ab (Nn l k dm);have fh:=ai wr (.cells #[.string l[k].1,.string l[k].2] 52);have nR:=ab (xq aE fh);have zS:=ab (Below.next bO fh);have HZ:=ab (fun W=>QB l[k] W AM.2.1 (by omega))
    obtain ⟨p,hp⟩ : ∃ p,p=l[k]:=⟨_,rfl⟩;rw [← hp] at c1 c2 iJ nR zS HZ;have kV:=ab (No l k (by omega))
    have dS:(k:Int)<(n:Int):=by omega
    have j0:(0:Int)≤(k:Int):=by omega
    clear hp HC f1 f2 bO aE AM fh;go_wp2_with fail;refine (HZ.out _).mono ?_
    rintro e w2 ⟨rfl,aO⟩;have jT:=xq nR.out aO;have q1:∃ u,w2.cell? ⟨b,k,none⟩=some u:=by
     rw [World.ownsRow.cellAt jT k (by omega)]
     exact ⟨_,af (by rw [kV.out];exact dm)⟩
    obtain ⟨u,q1⟩:=q1;have z1:w2.frozen? ⟨b,k,none⟩=false:=World.ownsRow.frozenAt jT k;obtain ⟨z,hz⟩ : ∃ z,z=ft p:=⟨_,rfl⟩;rw [← hz] at iJ ⊢;have fi:=(World.ownsRow.stored jT k (.string z)).1;rw [iJ.out] at fi;have im:=ab fi;have bJ:Hid (Below w.heap.size w (w2.setCell ⟨b,k,none⟩ (.string z))):=(Below.next zS.out aO).setCell (by rw [HB.out];exact bQ.out.size) _
    clear aO zS HZ c1 c2 jT fi hz iJ nR;go_wp2;go_roundw
    case rel=>exact ⟨k+1,by omega,by go_num,im.out,bJ.out⟩
    case measure=>simp [intOf];omega
   ·have n9:k=l.length:=by have:=HN.out;omega
    rw [n9,Np] at aE;have hs:=(fT aE).strs;have HLY:=ab (rW A _ (l.map ft) wr (by have:=ji.out;omega) hs (HE.out.below bO).1)
    have kF:=ab bO;have dS:¬ (k:Int)<(n:Int):=by have:=HN.out;omega
    have U7:=ab n9;clear HC bO aE n9 hs;go_wp2_with fail;refine HLY.out.mono ?_
    rintro e w3 ⟨hv,bF⟩;have iG:e = .returned (.tuple #[.string (tV l),.nilIface]):=by
     rcases hv with ⟨_,h⟩ | ⟨h,_⟩
     ·exact h
     ·exact absurd ji.out h
    subst iG;have dD:=ab (Below.next kF.out bF);clear hv bF HLY;go_wp2;go_ret2;exact ⟨.inl ⟨HV.out,rfl⟩,dD.out⟩
namespace B
theorem Hz(n:Nat)(_h:n≤255):bK n 1=[UInt8.ofNat n]:=by
 unfold bK qT kJ;simp [List.range,List.range.loop]
theorem rG{w:World}{base g m c:Nat}{l:List UInt8}(h:w.ownsRow base 5 1 (.slice (some ⟨g,0,none⟩) m c) m (dW l))(hl:l.length=m):UW w (.slice (some ⟨g,0,none⟩) m c) l :=
 ⟨_,_,by rw [hl],fun j hj=>⟨g,0,rfl,by rw [Nat.zero_add,World.ownsRow.cellAt h j (by omega)];exact iL l j hj⟩⟩
def KX(n:Nat):ByteArray:=⟨[UInt8.ofNat n].toArray⟩
theorem E3(p:Lk):KX p.1.size++p.1++kA p.2.toNat=mJ p:=by
 refine ig ?_
 rw [jX];simp [KX,kA]
theorem A1(m:Nat)(w:World)(hm:m<1048576):Calls prog 224 #[.int .i64 (m:Int)] w fun e w'=>e = .returned (.string (kA m))∧Below w.heap.size w w':=by
 have HP:=ab (wY m 4 w (by omega) (by decide) (by decide) (by omega))
 have w1:(m:Int) % 18446744073709551616=(m:Int):=by omega
 have HL:=ab (eC m 4 (by decide))
 go_enter func224,ntmps224;go_wp2_with fail;refine HP.out.mono ?_
 rintro e w2 ⟨g,c2,rfl,aE,hb⟩;have cv:=lM w2 _ _ (rG aE HL.out) (by rw [HL.out];decide)
 have HB:=ab hb;clear aE hb HP;obtain ⟨cc,tO⟩ : ∃ cc,cc=kA m:=⟨_,rfl⟩;have yX:=ab tO;have ZE:(⟨(bK m 4).toArray⟩ : ByteArray)=cc:=by rw [tO];rfl
 rw [ZE] at cv;clear tO ZE;go_wp2;go_ret;exact ⟨by rw [← yX.out];rfl,HB.out⟩
theorem GP(key:ByteArray)(w:World)(h1:key.size≤255):Calls prog 243 #[.string key] w fun e w'=>e = .returned (.string (KX key.size))∧Below w.heap.size w w':=by
 have HP:=ab (wY key.size 1 w (by omega) (by decide) (by decide) (by omega))
 have T9:=ab (Hz key.size h1);have w1:(key.size:Int) % 18446744073709551616=(key.size:Int):=by omega
 go_enter func243,ntmps243;go_wp2_with fail;refine HP.out.mono ?_
 rintro e w2 ⟨g,c2,rfl,aE,hb⟩;rw [T9.out] at aE;have cv:=lM w2 _ _ (rG aE rfl) (by simp)
 have HB:=ab hb;clear aE hb HP;obtain ⟨cc,tO⟩ : ∃ cc,cc=KX key.size:=⟨_,rfl⟩;have yX:=ab tO;have ZE:(⟨[UInt8.ofNat key.size].toArray⟩ : ByteArray)=cc:=by rw [tO];rfl
 rw [ZE] at cv;clear tO ZE;go_wp2;go_ret;exact ⟨by rw [← yX.out];rfl,HB.out⟩
theorem KV(p:Lk)(w:World)(hp:gz p=true):Calls prog 225 #[.agg #[.string p.1,.int .i64 p.2]] w fun e w'=>e = .returned (.string (mJ p))∧Below w.heap.size w w':=by
 obtain ⟨h1,h2,h3,h4⟩:=lA hp;obtain ⟨m,hm⟩ : ∃ m:Nat,p.2=(m:Int):=⟨p.2.toNat,by omega⟩
 have sH:=ab (E3 p);rw [hm] at sH ⊢;rw [bo] at sH;have Et:m<1048576:=by omega
 have q0:=ai w (.cells #[.string p.1,.int .i64 (m:Int)] 179);have x0:=ax.new w #[.string p.1,.int .i64 (m:Int)] 179;generalize Cv:w.alloc (.cells #[.string p.1,.int .i64 (m:Int)] 179)=W0 at *;have p0:=x0.c0;have p1:=x0.c1;have HX:=ab x0;have HQ:=ab q0;have HK:Hid (∀ W,Calls prog 243 #[.string p.1] W fun e w'=>e = .returned (.string (KX p.1.size))∧Below W.heap.size W w'):=fun W=>GP p.1 W h2
 have HC:Hid (∀ W,Calls prog 224 #[.int .i64 (m:Int)] W fun e w'=>e = .returned (.string (kA m))∧Below W.heap.size W w'):=fun W=>A1 m W Et
 obtain ⟨t1,Eh⟩ : ∃ t,t=KX p.1.size:=⟨_,rfl⟩;obtain ⟨t2,tJ⟩ : ∃ t,t=kA m:=⟨_,rfl⟩;have z1:t1.size=1:=by rw [Eh];rfl
 have z2:t2.size=4:=by rw [tJ];exact qW m
 rw [← Eh] at HK sH;rw [← tJ] at HC sH;have a1:∀ w,(Op.stringOp .add t1 p.1).run prog w = .ok (.string (t1++p.1)) w:=fun w=>run_string_add_sum (P:=prog) (w:=w) _ _ (by rw [z1];omega)
 have a2:∀ w,(Op.stringOp .add (t1++p.1) t2).run prog w = .ok (.string (t1++p.1++t2)) w:=fun w=>run_string_add_sum (P:=prog) (w:=w) _ _ (by rw [ByteArray.size_append,z1,z2];omega)
 have BO:W0.heap.size≤W0.heap.size:=aj _;clear h1 h2 h3 h4 hm Et q0 x0 Eh tJ hp;go_enter func225,ntmps225;go_wp2_with fail;go_region_held3 (fun w'=>w'.cell? ⟨w.heap.size,0,none⟩=some (.string p.1)∧w'.cell? ⟨w.heap.size,1,none⟩=some (.int .i64 (m:Int))) (go_keep)
  (first
   | (go_at_call 243;refine (HK.out _).mono ?_;rintro e w1 ⟨rfl,aP⟩;have Tk:Below W0.heap.size W0 w1:=(by first | exact Below.next bJ.out aP | exact dw aP);have bQ:=ab Tk;have m0:=(HX.out.below Tk).c0;have m1:=(HX.out.below Tk).c1;clear aP Tk)
   | (go_at_call 224;refine (HC.out _).mono ?_;rintro e w2 ⟨rfl,aO⟩;have Tj:Below W0.heap.size W0 w2:=(by first | exact Below.next bQ.out aO | exact dw aO);have bJ:=ab Tj;have n0:=(HX.out.below Tj).c0;have n1:=(HX.out.below Tj).c1;clear aO Tj))
 all_goals
  go_wp2;go_ret;exact ⟨by rw [← sH.out];rfl,Below.next HQ.out (by first | exact bJ.out | exact bQ.out)⟩
theorem NZ(base:Nat)(v:Value)(xs:List ByteArray)(x:ByteArray)(t:TypeId)(w w0:World)(B n:Nat)(hn:xs.length=n)(aE:w.ownsRow base 9 1 v n (strs xs))(hb:(n+1)*16≤140737488355328)(dy:base≤w.heap.size)(hB:B≤base)(h0:Below B w0 w):∃ a' eP w',(Builtin.append_ #[231,231] 231 #[v,.slice (some ⟨w.heap.size,0,none⟩) 1 1]).run prog (w.alloc (.cells #[.string x] t)) = .ok (.slice a' (n+1) eP) w'∧w'.ownsRow base 9 1 (.slice a' (n+1) eP) (n+1) (strs (xs++[x]))∧Below B w0 w'∧w.heap.size≤w'.heap.size:=by
 subst hn;have hr:nI (w.alloc (.cells #[.string x] t)) (.slice (some ⟨w.heap.size,0,none⟩) 1 1) [.string x]:=by
  have nz:=bN w #[.string x] t;refine ⟨_,_,rfl,aj _,fun h=>(by cases h),fun j u hj=>⟨_,_,rfl,?_⟩⟩
  have Lg:j=0:=by
   have:=(List.getElem?_eq_some_iff.1 hj).1;simpa using this
  subst Lg;cases hj;exact nz.2 0 (by simp)
 obtain ⟨a',eP,w',bg,gk,hg⟩:=nH 231 9 _ 16 info9 underlying231 rfl base xs.length v (strs xs) _ (World.ownsRow.alloc aE _) _ _ hr (fun u hu=>by simp at hu;subst hu;rfl) (by simpa using hb) (by decide) (by simp;omega)
 refine ⟨a',eP,w',bg,by rw [ow];exact gk,?_,?_⟩
 ·exact (h0.alloc (al hB dy) _).grown hg (by simp;omega) (fun k hk=>al hB (World.ownsRow.lt aE k hk).1)
 ·have:=hg.size;simp at this
  omega
def aa5(A:Nat→Addr)(f:Int)(l:List Lk)(e:Ending):Prop :=
 (nB f l true=none∧e = .returned (.tuple #[.string (pX f l),.nilIface]))∨(∃ k,nB f l true=some k∧e = .returned (.tuple #[.string ⟨#[]⟩,iz A (some k)]))
theorem QH(A:Nat→Addr)(f:Int)(v:Value)(l:List Lk)(w:World)(cT:UX l)(hm:l.length≤5864062014805)(hr:cV w v l)(hE:p8 A w):Calls prog 185 #[.agg #[.int .i64 f,v]] w fun e w'=>aa5 A f l e∧Below w.heap.size w w':=by
 obtain ⟨a,cap,hv⟩:=hr.form;subst hv;obtain ⟨n,hn⟩ : ∃ n,n=l.length:=⟨_,rfl⟩;rw [← hn] at hr ⊢;have q0:=ai w (.cells #[.int .i64 f,.slice a n cap] 150);have x0:=ax.new w #[.int .i64 f,.slice a n cap] 150;generalize Cv:w.alloc (.cells #[.int .i64 f,.slice a n cap] 150)=W0 at *;have p0:=x0.c0;have p1:=x0.c1;have HX:=ab x0;have HQ:=ab q0;have HE:=ab (hE.below q0);have HR:=ab (hr.below q0);have HN:=ab hn;have od:=ab (yA A f _ l true W0 cT hm (hr.below q0) (hE.below q0));cases lJ:nB f l true with
 | some k =>
  rw [lJ] at od;have Er:=fun W=>ff (some (A k)) W
  have HV:Hid (nB f l true=some k):=lJ;clear hr hE cT lJ q0 x0 hn hm;go_enter func185,ntmps185;go_wp2_with fail;refine od.out.mono ?_
  rintro e w1 ⟨rfl,aP⟩;have HB:=ab (Below.next HQ.out aP);clear aP;unfold iz;go_wp2;go_ret2;exact ⟨.inr ⟨k,HV.out,rfl⟩,HB.out⟩
 | none =>
  rw [lJ] at od;obtain ⟨h1,h2,h3,h4,h5,h6,h7⟩:=jV lJ;have hlen:=rz l;have WQ:=ab h3;have ji:Hid (dR (dz f l)≤4072):=by rw [ox];exact h6
  have xV:n≤581:=by omega
  have HV:Hid (nB f l true=none):=lJ;obtain ⟨m,iw⟩ : ∃ m:Nat,f=(m:Int):=by
   have:2≤f∧f<1048576:=of_decide_eq_true h2;exact ⟨f.toNat,by omega⟩
  have Et:m<1048576:=by
   have:2≤f∧f<1048576:=of_decide_eq_true h2;omega
  have HC:=ab (fun W=>A1 m W Et)
  subst iw;have Q6:Hid ([kA m]=dz (m:Int) (l.take 0)):=by show _=_;simp [dz]
  clear hr hE cT lJ h1 h2 h3 h4 h5 h6 h7 hlen hn hm q0 x0 Et;go_enter func185,ntmps185;go_wp2_with fail;refine od.out.mono ?_
  rintro e w1 ⟨rfl,aP⟩;have bQ:=ab aP;clear aP p0 p1 od;have p0:=(HX.out.below bQ.out).c0;unfold iz;go_wp2_with fail;refine (HC.out _).mono ?_
  rintro e w2 ⟨rfl,aO⟩;have bJ:=ab (Below.next bQ.out aO);clear aO p0 HC bQ;have q2:=ai w2 (.cells #[.string (kA m)] 9);have o2:(w2.alloc (.cells #[.string (kA m)] 9)).ownsRow w2.heap.size 9 1 (.slice (some ⟨w2.heap.size,0,none⟩) 1 1) 1 (strs [kA m]):=World.ownsRow_lit w2 #[.string (kA m)] 1 (aj _) (by decide) rfl
  rw [Q6.out] at o2;obtain ⟨cc,tO⟩ : ∃ cc,cc=kA m:=⟨_,rfl⟩;rw [← tO] at q2 o2 ⊢;generalize Hc:w2.alloc (.cells #[.string cc] 9)=W2 at *;have dD:=ab (Below.next bJ.out q2);have im:=ab o2;have p1:=(HX.out.below dD.out).c1;have lI:=ab bJ.out.size;clear q2 o2 tO Q6;go_wp2;clear p1;go_loopw [5,20] (fun u i wr=>∃ k:Nat,k≤n∧i = .int .i64 k∧wr.ownsRow W0.heap.size 9 1 u (k+1) (strs (dz (m:Int) (l.take k)))∧Below W0.heap.size W0 wr) (fun _ i _=>n - (intOf i).toNat)
  case atStart=>exact ⟨0,aD _,rfl,Ap im.out lI.out,dD.out⟩
  case round =>
   obtain ⟨k,hk,rfl,aE,bO⟩:=hrel;clear im dD;have mX:(dz (m:Int) (l.take k)).length=k+1:=by rw [nC,ag];have:=HN.out;omega
   obtain ⟨ua,uc,hu⟩ : ∃ a c,u5 = .slice a (k+1) c:=by
    rcases aE.2 with ⟨rfl,h⟩ | ⟨g,cap,cur,rfl,_⟩
    ·omega
    ·exact ⟨_,_,rfl⟩
   subst hu;by_cases bP:k<n
   ·have dm:k<l.length:=by have:=HN.out;omega
    obtain ⟨g,o,rfl,c1,c2⟩:=(HR.out.below bO).spot k dm;have HS:=ab (E0 (m:Int) l k dm);have q2:=ai wr (.cells #[.string l[k].1,.int .i64 l[k].2] 179);have FQ:=ab (fun W=>KV l[k] W (WQ.out l[k] (aH _)))
    obtain ⟨p,hp⟩ : ∃ p,p=l[k]:=⟨_,rfl⟩;rw [← hp] at c1 c2 HS FQ q2;have kF:=ab (Below.next bO q2);have HO:=ab (iZ aE q2);have dS:(k:Int)<(n:Int):=by omega
    clear hp bO aE q2;go_wp2_with fail;refine (FQ.out _).mono ?_
    rintro e w3 ⟨rfl,bF⟩;obtain ⟨a3,cp3,w4,bg,ij,eO,_⟩:=NZ W0.heap.size _ _ (mJ p) 9 w3 W0 W0.heap.size (k+1) mX (iZ HO.out bF) (by omega) (al kF.out.size bF.size) (aj _) (Below.next kF.out bF)
    rw [← HS.out] at ij;have XP:=ab ij;have gr:=ab eO;obtain ⟨cc2,ZF⟩ : ∃ cc,cc=mJ p:=⟨_,rfl⟩;rw [← ZF] at bg ⊢;clear ij eO bF FQ HS kF HO mX ZF c1 c2;go_wp2_with (first | (at_builtin;have h0:=bg;clear bg;refine wpList_append_run 231 rfl (.tmp 24) (.tmp 27) rfl rfl _ _ rfl rfl _ _ h0 ?_;clear h0))
    go_wp2;go_roundw
    case rel=>exact ⟨k+1,by omega,by go_num,XP.out,gr.out⟩
    case measure=>simp [intOf];omega
   ·have n9:k=n:=by omega
    have dj:l.take k=l:=by rw [aq];have:=HN.out;omega
    rw [dj] at aE;have hs:=(fT aE).strs;have HLY:=ab (rW A _ (dz (m:Int) l) wr (by have:=ji.out;omega) hs ((HE.out.below bO).1.JU (by decide)))
    have kF:=ab (Below.next HQ.out bO);have dS:¬ (k:Int)<(n:Int):=by omega
    clear bO aE n9 hs dj mX;go_wp2_with fail;refine HLY.out.mono ?_
    rintro e w3 ⟨hv,bF⟩;have iG:e = .returned (.tuple #[.string (pX (m:Int) l),.nilIface]):=by
     rcases hv with ⟨_,h⟩ | ⟨h,_⟩
     ·exact h
     ·exact absurd ji.out h
    subst iG;have dD:=ab (Below.next kF.out bF);clear hv bF HLY;go_wp2;go_ret2;exact ⟨.inl ⟨HV.out,rfl⟩,dD.out⟩
end B
namespace T
theorem Al(pb:Nat)(w:World):Calls prog 183 #[.pointer (some ⟨pb,0,none⟩),.nilIface] w fun e w'=>e = .returned (.tuple #[])∧w=w':=by
 go_enter func183,ntmps183;go_wp2;go_end0
 exact ⟨rfl,rfl⟩
theorem R6{w:World}{b:Nat}{n:SN}{pv lv cv:Value}(h:dG w b n pv lv cv):TU n.ps:=fun p hp=>by
 have:=tv (h.fine.1 p hp);omega
theorem eY{P:Program}{ops:Array Oper}{rest:List Oper}{op:Oper}{a:Act}{w w':World}{Q:Exit→Act→World→Prop}(nM:op.guard=none)(ty:TypeId)(x y:Operand)(ho:op.op = .store ty x y)(p v:Value)(hx:a.eval x=p)(hy:a.eval y=v)(bg:(Instr.storeAt ty p v).run P w = .ok () w')(h:wpList P ops Q rest (a.put op.dst undef) w'):wpList P ops Q (op::rest) a w :=
 wpList_plain nM fun _ hK=>by
  unfold Oper.wp execOp;simp only [ho,hx,hy,Sem.run_bind,bg,Result.andThen_ok,Sem.run_pure];exact hK _ _ h
theorem info87:(prog.info? 87).map (·.size)=some 5:=by kernel_rfl
theorem CZ(w:World)(H:Nat)(Fz:Array Value)(a b c d e:Value)(hr:B.ax w H Fz 87)(ho:Fz.size=5)(h1:a.oneCell'=true∧b.oneCell'=true∧c.oneCell'=true∧d.oneCell'=true∧e.oneCell'=true):(Instr.storeAt 87 (.pointer (some ⟨H,0,none⟩)) (.agg #[a,b,c,d,e])).run prog w = .ok () (w.setRow H #[a,b,c,d,e]):=by
 have:=run_storeVar_row (P:=prog) w H 87 87 Fz #[a,b,c,d,e] hr info87 (by rw [ho];rfl) (by simp [h1.1,h1.2.1,h1.2.2.1,h1.2.2.2.1,h1.2.2.2.2])
 simp only [Instr.storeAt,Instr.sureAddr,Sem.run_bind,Sem.run_pure,Result.andThen_ok,this]
theorem NQ(w:World)(H:Nat)(Fz cs:Array Value)(hr:B.ax w H Fz 87):B.ax (w.setRow H cs) H cs 87:=setRow_heap w H Fz cs _ _ hr
theorem C3(w:World)(H:Nat)(cs:Array Value):bL H w (w.setRow H cs):=by
 refine ⟨rfl,rfl,rfl,by simp [World.setRow],fun k hk dK=>?_⟩
 have acv:¬ H=k:=fun e=>dK e.symm
 simp [World.setRow,Array.getElem?_modify,acv]
theorem Ge(A:Nat→Addr)(pb b:Nat)(n:SN)(pv lv cv:Value)(w:World)(hs:dG w b n pv lv cv)(hu:n.us=[])(hE:j7 A w)(hc:zL n.ps true=none):Calls prog 149 #[.pointer (some ⟨pb,0,none⟩),.pointer (some ⟨b,0,none⟩)] w fun e w'=>e = .returned (.agg #[.int .i64 76,.int .i64 0,.int .u64 0,.int .i64 (n.ps.length:Int),.string (tV n.ps)])∧Below w.heap.size w w':=by
 obtain ⟨W1,iy⟩ : ∃ W1,w.alloc (.cells #[.int .i64 0,.int .i64 0,.int .u64 0,.int .i64 0,.string ⟨#[]⟩] 87)=W1:=⟨_,rfl⟩;have aP:Below w.heap.size w W1:=iy▸ai w _;have r1:B.ax W1 w.heap.size #[.int .i64 0,.int .i64 0,.int .u64 0,.int .i64 0,.string ⟨#[]⟩] 87:=iy▸B.ax.new w _ _;obtain ⟨H,hH⟩ : ∃ H,w.heap.size=H:=⟨_,rfl⟩;rw [hH] at r1;have jk:=hs.below aP;have mZ:=ab (ch b n pv lv cv W1 jk);rw [show decide (n.us.length=0)=true by rw [hu];rfl] at mZ
 have hlen:n.ps.length≤4000:=hs.fine.2.1;have Va:=ab (ON A pv n.ps W1 (R6 hs) (by omega) jk.iD (hE.below aP))
 have p0:=jk.c0;obtain ⟨xa,xc,zC⟩:=hs.iD.form;subst zC;have nV:=ab r1;have bQ:=ab aP;have HC:=ab hc;have mh:=ab jk;have HL:=ab hlen;clear hs jk hE hc aP r1 hu;go_enter func149,ntmps149;go_wp2_with fail;refine mZ.out.mono ?_
 rintro e w1' ⟨rfl,rfl⟩;go_wp2_with fail;refine Va.out.mono ?_
 rintro e w2 ⟨he,aO⟩;rcases he with ⟨_,rfl⟩ | ⟨k,hk,_⟩
 ·have bJ:=ab (Below.next bQ.out aO);have r2:=nV.out.below aO;have p0':=(mh.out.below aO).c0;have o7:=ab r2;clear aO Va mZ r2;go_wp2_with fail;refine (Al pb w2).mono ?_
  rintro e w2' ⟨rfl,rfl⟩;have fi:=CZ w2 H _ (.int .i64 76) (.int .i64 0) (.int .u64 0) (.int .i64 (n.ps.length:Int)) (.string (tV n.ps)) o7.out rfl ⟨rfl,rfl,rfl,rfl,rfl⟩;have gY:=ab fi;clear fi;go_wp2_with (refine eY rfl 87 _ _ rfl _ _ rfl rfl gY.out ?_)
  have HE:Hid (Below w.heap.size w (w2.setRow H #[.int .i64 76,.int .i64 0,.int .u64 0,.int .i64 (n.ps.length:Int),.string (tV n.ps)])):=by
   have hb:=bJ.out;exact ⟨hb.os,hb.tape,hb.output,by simpa [World.setRow] using hb.size,fun k hk=>(setRow_other w2 H k _ (by omega)).trans (hb.block k hk)⟩
  refine bodyPost_ret (results_cell_row rfl _ _ H 87 _ (0,0) _ rfl (NQ w2 H _ _ o7.out) underlying87 rfl info87) rfl ?_
  exact ⟨rfl,HE.out⟩
 ·rw [HC.out] at hk;cases hk
end T
end Go.Proofs.YtihmgigfkmofnaaGreatDoor
