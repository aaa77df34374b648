import Derived.Test.YtihmgigfkmofnaaGreatDoorG22
import Derived.Test.YtihmgigfkmofnaaGreatDoorG23
import Derived.Shelf.Strconv.Clone
set_option maxHeartbeats 2000000
set_option maxRecDepth 100000
open Go.Proofs.Tryz
namespace Go.Proofs.YtihmgigfkmofnaaGreatDoor
namespace T
open Go.RowKit
theorem mW(t:TypeId)(v:Value)(w:World):(binOp .eql 97 (.iface t v) .nilIface).run prog w = .ok (.bool false) w:=by
 have h2:∀ d:Nat,(Op.equalIn (d+1) 97 (.iface t v) .nilIface).run prog w = .ok false w:=fun d=>by
  simp [Op.equalIn,run_underlying underlying97]
 simp only [binOp];simp [Op.equal,Op.maxDepth,h2 9999]
theorem oE(w:World):(binOp .eql 97 .nilIface .nilIface).run prog w = .ok (.bool true) w:=by
 have h2:∀ d:Nat,(Op.equalIn (d+1) 97 .nilIface .nilIface).run prog w = .ok true w:=fun d=>by
  simp [Op.equalIn,run_underlying underlying97]
 simp only [binOp];simp [Op.equal,Op.maxDepth,h2 9999]
theorem vQ(pk:Value)(B3:∃ f a c,pk = .func f a c)(tb:Nat)(dv:Value)(w:World)(ht:B.au w tb #[dv,.nilIface] 100):Calls prog 54 #[.pointer (some ⟨tb,0,none⟩),pk] w fun e w'=>e = .returned (.tuple #[.slice none 0 0,.nilIface])∧w=w':=by
 obtain ⟨f,a,c,rfl⟩:=B3;have c1:=ht.c1;have hn:=fun W=>oE W
 clear ht;go_enter func54,ntmps54;go_wp2;go_ret2;exact ⟨rfl,rfl⟩
theorem nC.form{d:S.V.bq}{X:Type}{S:Sys d X}{Pk:SN→Nat→Prop}{A:Nat→Addr}{pre:List W.Lk}{x:X}{bs:Nat}{e:Ending}{w':World}(h:nC S Pk A pre x bs e w'):∃ a n c v,e = .returned (.tuple #[.slice a n c,v])∧(v = .nilIface∨v = .iface 360 (.pointer (some (A 8)))):=by
 rcases h with ⟨_,rfl⟩ | ⟨ss,s,a,c,rfl,_⟩
 ·exact ⟨_,_,_,_,rfl,.inr rfl⟩
 ·exact ⟨_,_,_,_,rfl,.inl rfl⟩
theorem AT{base:Nat}{A:Nat→Addr}{db:Nat}{F:Nat→Prop}{d:S.V.bq}{X:Type}(S:Sys d X)(Pk:SN→Nat→Prop)(Q:World→Prop)(hQ:∀ W W',cP W W'→Q W→Q W')(p:C.Ch)(x:X)(tb:Nat)(fn:Nat)(cp:Array Value)(sg:∀ args w,Sem.run prog (callFunc fn args) w = .ok (.enter fn args) w)(w0 w:World)(hk:S.K w p x)(ht:B.au w tb #[.pointer (some ⟨db,0,none⟩),p.val] 100)(hv:Dv base A db F d w)(hm:Mv db F w0 w)(iF:Dv base A db F d w0)(hq:Q w)(nF:S.E∨S.rk x+1≤64)(DZ:∀ W b n pv lv cv y,Q W→dH W b n pv lv cv→S.N W n y→¬ n.us.length=0→Calls prog fn (#[.agg #[.int .i64 n.f,lv]]++cp) W fun e w'=>∃ q:Nat,e = .returned (.int .i64 (q:Int))∧Pk n q∧q<n.us.length∧Below W.heap.size W w'):Calls prog 54 #[.pointer (some ⟨tb,0,none⟩),.func (.func fn) #[] cp] w fun e w'=>nC S Pk A [] x w0.heap.size e w'∧Dv base A db F d w'∧Mv db F w0 w':=by
 have HG:=ab (xN S Pk Q hQ [] (.slice none 0 0) p x tb p.val fn cp sg w0 w hk ht hv hm iF (tv.nil _ _) hq (by simp) (by simpa using nF) DZ)
 have c1:=ht.c1;obtain ⟨pt,px,iS⟩:=bM p;rw [iS] at HG c1;have hn:=fun W=>mW pt px W
 clear hk ht hv hm iF hq nF DZ hQ iS;go_enter func54,ntmps54;go_wp2_with fail;refine HG.out.mono ?_
 rintro e w1 ⟨hdn,fI,fK,-⟩;obtain ⟨a,n,c,v,he,Ak⟩:=hdn.form;subst he;have HR:Hid (nC S Pk A [] x w0.heap.size (.returned (.tuple #[.slice a n c,v])) w1∧Dv base A db F d w1∧Mv db F w0 w1):=⟨hdn,fI,fK⟩;clear hdn fI fK HG c1;rcases Ak with rfl | rfl
 ·go_wp2;go_ret2;exact HR.out
 ·go_wp2;go_ret2;exact HR.out
theorem FC(b:Nat)(n:SN)(pv lv cv:Value)(kb:Nat)(key:ByteArray)(w:World)(hs:dH w b n pv lv cv)(hk:w.cell? ⟨kb,0,none⟩=some (.string key))(hlen:n.us.length=n.lk.length+1):Calls prog 80 #[.agg #[.int .i64 n.f,lv],.pointer (some ⟨kb,0,none⟩)] w fun e w'=>∃ q:Nat,e = .returned (.int .i64 (q:Int))∧B.fE n.lk key q∧q<n.us.length∧Below w.heap.size w w':=by
 have q0:=ai w (.cells #[.int .i64 n.f,lv] 150);have x0:=B.au.new w #[.int .i64 n.f,lv] 150;have k0:=x0.c0;have k1:=x0.c1;have jv:(w.alloc (.cells #[.int .i64 n.f,lv] 150)).cell? ⟨kb,0,none⟩=some (.string key):=(q0.cell (p:=⟨kb,0,none⟩) (World.block_lt_of_cell? w _ hk)).trans hk;have HP:=ab (B.AH n.f lv n.lk key (w.alloc (.cells #[.int .i64 n.f,lv] 150)) (by have:=hs.fine.2.2.2.1;omega) (hs.a8.below q0))
 have HQ:=ab q0;have HL:=ab hlen;obtain ⟨la,lc,pD⟩:=hs.a8.form;subst pD;clear hs hk hlen q0 x0;go_enter func80,ntmps80;go_wp2_with fail;refine HP.out.mono ?_
 rintro e w1 ⟨⟨q,rfl,hq⟩,hb⟩;have HB:=ab (Below.next HQ.out hb);have U4:=ab hq;clear hq hb HP k0 k1 jv;go_wp2;go_ret;exact ⟨q,rfl,U4.out,by have:=U4.out.1;have:=HL.out;omega,HB.out⟩
theorem FI(n:SN)(lv:Value)(w:World):Calls prog 57 #[.agg #[.int .i64 n.f,lv]] w fun e w'=>e = .returned (.int .i64 0)∧Below w.heap.size w w':=by
 have q0:=ai w (.cells #[.int .i64 n.f,lv] 150);have HQ:=ab q0;clear q0;go_enter func57,ntmps57;go_wp2;go_ret;exact ⟨rfl,HQ.out⟩
theorem zA(n:SN)(lv:Value)(w:World)(hl:B.di w lv n.lk):Calls prog 55 #[.agg #[.int .i64 n.f,lv]] w fun e w'=>e = .returned (.int .i64 (n.lk.length:Int))∧Below w.heap.size w w':=by
 have q0:=ai w (.cells #[.int .i64 n.f,lv] 150);have x0:=B.au.new w #[.int .i64 n.f,lv] 150;have k1:=x0.c1;obtain ⟨la,lc,pD⟩:=hl.form;subst pD;have HQ:=ab q0;clear q0 x0 hl;go_enter func55,ntmps55;go_wp2;go_ret;exact ⟨rfl,HQ.out⟩
theorem vM{base:Nat}{A:Nat→Addr}{db:Nat}{F:Nat→Prop}{d:S.V.bq}{X:Type}(S:Sys d X)(p:C.Ch)(x:X)(tb:Nat)(key:ByteArray)(w0 w:World)(hk:S.K w p x)(ht:B.au w tb #[.pointer (some ⟨db,0,none⟩),p.val] 100)(hv:Dv base A db F d w)(hm:Mv db F w0 w)(iF:Dv base A db F d w0)(nF:S.E∨S.rk x+1≤64):Calls prog 46 #[.pointer (some ⟨tb,0,none⟩),.string key] w fun e w'=>nC S (fun n q=>B.fE n.lk key q) A [] x w0.heap.size e w'∧Dv base A db F d w'∧Mv db F w0 w':=by
 have q0:=ai w (.cells #[.string key] 9);have k0:(w.alloc (.cells #[.string key] 9)).cell? ⟨w.heap.size,0,none⟩=some (.string key):=(B.au.new w #[.string key] 9).cell 0 (by simp)
 have HW:=ab (AT S (fun n q=>B.fE n.lk key q) (fun W=>W.cell? ⟨w.heap.size,0,none⟩=some (.string key)) (fun W W' ha h=>bB (ha.str h) h) p x tb 80 #[.pointer (some ⟨w.heap.size,0,none⟩)] Tryz.call80 w0 (w.alloc (.cells #[.string key] 9)) (S.ka (cP.of q0) hk) (ht.below q0) (hv.below q0) (hm.trans (Mv.of q0)) iF k0 nF (fun W b n pv lv cv y hc hs hn xD=>FC b n pv lv cv w.heap.size key W hs hc ((S.fit hn).1.resolve_left xD)))
 have K3:∀ (fn:Fn) (first cap:Array Value) (w:World),(Instr.makeFunc fn first cap).run prog w = .ok (.func fn first cap) w:=fun _ _ _ _=>rfl
 clear hk ht hv hm iF nF q0 k0;go_enter func46,ntmps46;go_wp2_with fail;refine HW.out.mono ?_
 rintro e w1 ⟨hdn,fI,fK⟩;obtain ⟨a,n,c,v,he,Ak⟩:=hdn.form;subst he;have HR:Hid (nC S (fun n q=>B.fE n.lk key q) A [] x w0.heap.size (.returned (.tuple #[.slice a n c,v])) w1∧Dv base A db F d w1∧Mv db F w0 w1):=⟨hdn,fI,fK⟩
 clear hdn fI fK HW;rcases Ak with rfl | rfl
 ·go_wp2;go_ret2;exact HR.out
 ·go_wp2;go_ret2;exact HR.out
theorem vN(tb:Nat)(dv:Value)(key:ByteArray)(w:World)(ht:B.au w tb #[dv,.nilIface] 100):Calls prog 46 #[.pointer (some ⟨tb,0,none⟩),.string key] w fun e w'=>e = .returned (.tuple #[.slice none 0 0,.nilIface])∧Below w.heap.size w w':=by
 have q0:=ai w (.cells #[.string key] 9);have HW:=ab (vQ (.func (.func 80) #[] #[.pointer (some ⟨w.heap.size,0,none⟩)]) ⟨_,_,_,rfl⟩ tb dv _ (ht.below q0));have K3:∀ (fn:Fn) (first cap:Array Value) (w:World),(Instr.makeFunc fn first cap).run prog w = .ok (.func fn first cap) w:=fun _ _ _ _=>rfl
 have HQ:=ab q0;clear ht q0;go_enter func46,ntmps46;go_wp2_with fail;refine HW.out.mono ?_
 rintro e w1 ⟨rfl,rfl⟩;go_wp2;go_ret2;exact ⟨rfl,HQ.out⟩
theorem gV(w:World):Calls prog 49 #[.slice none 0 0] w fun e w'=>e = .returned (.slice none 0 0)∧w=w':=by
 go_enter func49,ntmps49;go_wp2;go_ret;exact ⟨rfl,rfl⟩
theorem ja(a:Option Addr)(m c:Nat)(l:List W.Lk)(q:W.Lk)(n:SN)(pv lv cv:Value)(w:World)(hm:m=l.length)(lq:m≤100000)(hr:W.di w (.slice a (m+1) c) (l++[q]))(hs:dH w q.1 n pv lv cv):Calls prog 49 #[.slice a (m+1) c] w fun e w'=>e = .returned pv∧w=w':=by
 obtain ⟨g,o,rfl,c1,-⟩:=W.di.spot hr m (by rw [ae];simp;omega)
 have e:(l++[q])[m]'(by rw [ae];simp;omega)=q:=by
  subst hm;simp
 rw [e] at c1;have p0:=hs.c0;obtain ⟨pa,pc,Bo⟩:=hs.iy.form;subst Bo;have h0:(0:Int)≤(m:Int):=by omega
 have h1:((m:Int)+1) - 1=(m:Int):=by omega
 have h2:(m:Int)<(m:Int)+1:=by omega
 have h3:(((m+1:Nat):Int) == 0)=false:=by simp;omega
 have h4:(m:Int)≤100000:=by omega
 clear hr hs e hm lq;go_enter func49,ntmps49;go_wp2;go_ret;exact ⟨rfl,rfl⟩
theorem kJ{w:World}{tb:Nat}{q:Option Addr}{rv:Value}(ht:B.au w tb #[.pointer q,rv] 100){o:Nat}{v:Value}(hc:w.cell? ⟨tb,o,none⟩=some v):o=0∧v = .pointer q∨o=1∧v=rv:=by
 unfold B.au at ht;rw [cell_of_row w tb o _ _ _ ht] at hc;have ho:o<2:=by have:=(Array.getElem?_eq_some_iff.1 hc).1;simpa using this
 match o,ho,hc with
 | 0,_,hc=>cases hc;exact .inl ⟨rfl,rfl⟩
 | 1,_,hc=>cases hc;exact .inr ⟨rfl,rfl⟩
theorem dH.tree{w:World}{b:Nat}{n:SN}{pv lv cv:Value}(h:dH w b n pv lv cv)(hu:n.us.length=0∨2≤n.us.length){tb:Nat}{q:Option Addr}{rv:Value}(ht:B.au w tb #[.pointer q,rv] 100)(xC:rv = .nilIface∨∃ t x,rv = .iface t x)(u:Value):dH (w.setCell ⟨tb,1,none⟩ u) b n pv lv cv:=by
 have hs:=bJ.set tb 1 w u;have YH:∀ {g o:Nat} {s:ByteArray},w.cell? ⟨g,o,none⟩=some (.string s)→(w.setCell ⟨tb,1,none⟩ u).heap[g]?=w.heap[g]?:=fun {g o s} hc=>hs.block g (World.block_lt_of_cell? w _ hc) fun e=>by
  subst e;rcases kJ ht hc with ⟨_,e⟩ | ⟨_,e⟩
  ·cases e
  ·rcases xC with rfl | ⟨t,x,rfl⟩ <;> cases e
 refine ⟨?_,?_,?_,?_,h.fine⟩
 ·refine (hs.block b h.row.lt (fun e=>?_)).trans h.row
  subst e;have h1:=h.row;unfold B.au at h1 ht;rw [ht] at h1;simp at h1
 ·obtain ⟨a,cap,hv,hle,hn,hc⟩:=h.iy;refine ⟨a,cap,hv,hle,hn,fun j hj=>?_⟩
  obtain ⟨g,o,ha,h1,h2⟩:=hc j hj;have hg:=YH h1;exact ⟨g,o,ha,bB hg h1,bB hg h2⟩
 ·obtain ⟨a,cap,hv,hle,hn,hc⟩:=h.a8;refine ⟨a,cap,hv,hle,hn,fun j hj=>?_⟩
  obtain ⟨g,o,ha,h1,h2⟩:=hc j hj;have hg:=YH h1;exact ⟨g,o,ha,bB hg h1,bB hg h2⟩
 ·obtain ⟨a,cap,hv,hle,hn,hc⟩:=h.kids;refine ⟨a,cap,hv,hle,hn,fun j v hj=>?_⟩
  have Zz:j<n.us.length:=by
   have:=(List.getElem?_eq_some_iff.1 hj).1;rw [C.aS] at this;omega
  have h2:2≤n.us.length:=hu.resolve_left (by omega)
  obtain ⟨g,o,ha,h1⟩:=hc j v hj;have hg:g≠tb:=fun e=>by
   subst e;obtain ⟨g0,o0,Z4,c0⟩:=hc 0 _ (C.fw n.us 0 (by omega))
   obtain ⟨g1,o1,Z3,c1⟩:=hc 1 _ (C.fw n.us 1 (by omega))
   rw [ha] at Z4 Z3;cases Z4;cases Z3;obtain ⟨t,x,e0⟩:=bM (n.us[0]'(by omega))
   rw [e0] at c0;have k0:=kJ ht c0;have k1:=kJ ht c1;rcases k0 with ⟨_,e⟩ | ⟨k0,_⟩
   ·cases e
   ·rcases k1 with ⟨k1,_⟩ | ⟨k1,_⟩ <;> omega
  exact ⟨g,o,ha,bB (hs.block g (World.block_lt_of_cell? w _ h1) hg) h1⟩
theorem Fit.kids{n:SN}(h:Fit n):n.us.length=0∨2≤n.us.length:=by
 rcases h.1 with h0 | h0
 ·exact .inl h0
 ·rcases h.2.2 with h1 | h1
  ·exact .inl h1
  ·right;omega
theorem Dv.tree{base:Nat}{A:Nat→Addr}{db:Nat}{F:Nat→Prop}{d:S.V.bq}{w:World}(hv:Dv base A db F d w){tb:Nat}(hb:base≤tb)(hf:¬ F tb)(o:Nat)(u:Value):Dv base A db F d (w.setCell ⟨tb,o,none⟩ u):=by
 have hs:=bJ.set tb o w u;obtain ⟨d1,n1,Bz⟩:=hv.dev;have fj:S.V.Step (fun k=>k=tb) (fun k=>k=tb) w (w.setCell ⟨tb,o,none⟩ u):=⟨hs.os,hs.tape,hs.output,hs.size,hs.block,fun _ h=>.inl h⟩
 have jt:Below base w (w.setCell ⟨tb,o,none⟩ u):=⟨hs.os,hs.tape,hs.output,hs.size,fun k hk=>hs.block k (aq hk hv.env.errs.size) (by omega)⟩
 refine ⟨⟨d1,n1,Bz.keep fj (fun k hk e=>hf (e▸hk))⟩,hv.env.keep jt,⟨fun i hi=>?_,hv.errs.2⟩,hv.up,hv.alive,hv.lo⟩
 obtain ⟨h1,c,t,h2⟩:=hv.errs.1 i hi;have hg:=hv.lo i hi;exact ⟨(jt.cell (p:=⟨eR i,0,none⟩) hg.1).trans h1,c,t,(hs.block _ (Array.getElem?_eq_some_iff.1 h2).1 (by omega)).trans h2⟩
def TrA(w:World)(db tb:Nat):Prop:=∃ rv,B.au w tb #[.pointer (some ⟨db,0,none⟩),rv] 100∧(rv = .nilIface∨∃ p:C.Ch,rv=p.val∧Any w p)
end T
end Go.Proofs.YtihmgigfkmofnaaGreatDoor
namespace Go.Proofs
open Go.Shelf
def Tryz.DF:Go.Shelf.Ren:=⟨fun | 316=>86 | n=>n,fun | 5=>5 | 9=>9 | 3=>3 | 4=>4 | 37=>145 | 0=>0 | 127=>207 | n=>n,fun | n=>n⟩
theorem Tryz.Su:Go.Proofs.LaysM.n316 prog Tryz.DF:={
 mixed:=by kernel_rfl
 f316:=func86.trans (congrArg some (by kernel_rfl))
 t0:=underlying0
 a0:=isAgg0
 z0:=sizeOf0
 v0:=zeroValue0
 t3:=underlying3
 a3:=isAgg3
 z3:=sizeOf3
 v3:=zeroValue3
 t4:=underlying4
 a4:=isAgg4
 z4:=sizeOf4
 v4:=zeroValue4
 t5:=underlying5
 a5:=isAgg5
 z5:=sizeOf5
 v5:=zeroValue5
 t9:=underlying9
 a9:=isAgg9
 z9:=sizeOf9
 v9:=zeroValue9
 t37:=underlying145
 a37:=isAgg145
 z37:=sizeOf145
 v37:=zeroValue145
 t127:=underlying207
 a127:=isAgg207
 z127:=sizeOf207
 v127:=zeroValue207
 i0:=by kernel_rfl
 i3:=by kernel_rfl
 i4:=by kernel_rfl
 i5:=by kernel_rfl
 i9:=by kernel_rfl
 i37:=by kernel_rfl
 i127:=by kernel_rfl }
namespace YtihmgigfkmofnaaGreatDoor.T
open Go.RowKit
theorem CI(s:ByteArray)(w:World)(h:s.size≤281474976710656):Calls prog 86 #[.string s] w fun e w'=>e = .returned (.string s)∧Below w.heap.size w w':=Any.stringslite_Clone Tryz.Su s w h
theorem mP(s:ByteArray)(w:World)(h:s.size≤281474976710656):Calls prog 50 #[.string s] w fun e w'=>e = .returned (.string s)∧Below w.heap.size w w':=by
 go_enter func50,ntmps50;go_wp2_with fail;refine (CI s w h).mono ?_
 rintro e w1 ⟨rfl,hb⟩;go_wp2_with fail;go_ret;exact ⟨rfl,hb⟩
end YtihmgigfkmofnaaGreatDoor.T
end Go.Proofs
namespace Go.Proofs.YtihmgigfkmofnaaGreatDoor
namespace T
open Go.RowKit
def noS(d:S.V.bq):Sys d Unit where
 K:=fun _ _ _=>False
 N:=fun _ _ _=>False
 E:=False
 sub:=fun _ _ _=>False
 rk:=fun _=>0
 ka:=fun _ h=>h
 na:=fun _ h=>h
 qL:=fun h _=>h.elim
 fit:=fun h=>h.elim
 gW:=fun h=>h.elim
 node:=fun h=>h.elim
 Yf:=.inr fun _ _ _ h=>h.elim
structure Tc(base:Nat)(A:Nat→Addr)(db:Nat)(F:Nat→Prop)(d:S.V.bq)(W0 w:World)(tb:Nat):Prop where
 dv:Dv base A db F d w
 tr:TrA w db tb
 st:S.V.Step F F W0 w
 lo:base≤tb∧W0.heap.size≤tb∧¬ F tb
section
variable {base:Nat} {A:Nat→Addr} {db:Nat} {F:Nat→Prop} {d:S.V.bq} {W0:World}
end
theorem Tr(p:Pr):zh [p] true=if cO p=true then none else some 0:=by
 unfold zh;by_cases h:cO p=true
 ·rw [if_pos h];have hp:=eL h;rw [if_neg (by simp [h]),if_neg (by
   intro hr;apply hr
   intro i hi;simp at hi),if_neg (by
   have:=ve (l:=[p]) (by simpa using h)
   simp at this
   omega),if_neg (by simp)]
 ·rw [if_neg h,if_pos (by simp [h])]
theorem qh(A:Nat→Addr)(key value:ByteArray)(w:World)(hk:key.size≤140737488355328)(hv:value.size≤140737488355328)(hE:jL A w):Calls prog 45 #[.string key,.string value] w fun e w'=>e = .returned (if cO (key,value)=true then .nilIface else .iface 360 (.pointer (some (A 0))))∧Below w.heap.size w w':=by
 have q0:=ai w (.cells #[.string key,.string value] 52);have HC:=ab (qk A _ [(key,value)] true _ (by intro p hp;simp at hp;subst hp;exact ⟨hk,hv⟩) (by simp) (A9 w (key,value) 52) (hE.below q0))
 rw [Tr] at HC;have HQ:=ab q0;obtain ⟨v,SE,kL⟩ : ∃ v,v=ig A (if cO (key,value)=true then none else some 0)∧(v = .nilIface∨∃ q,v = .iface 360 (.pointer (some q))):=by
  refine ⟨_,rfl,?_⟩;split
  ·exact .inl rfl
  ·exact .inr ⟨_,rfl⟩
 rw [← SE] at HC;have HV:Hid (v=if cO (key,value)=true then .nilIface else .iface 360 (.pointer (some (A 0)))):=by
  show v=_
  rw [SE];split <;> rfl
 rw [← HV.out];clear SE q0 hE hk hv;go_enter func45,ntmps45;go_wp2_with fail;refine HC.out.mono ?_
 rintro e w1 ⟨rfl,hb⟩;have HB:=ab (Below.next HQ.out hb);clear hb HC;rcases kL with rfl | ⟨q,rfl⟩
 ·go_wp2;go_ret;exact ⟨rfl,HB.out⟩
 ·go_wp2;go_ret;exact ⟨rfl,HB.out⟩
section
variable {base:Nat} {A:Nat→Addr} {db:Nat} {F:Nat→Prop} {d:S.V.bq} {W0:World}
end
theorem wI(id:Int)(w:World):Calls prog 289 #[.int .i64 id] w fun e w'=>e = .returned (.int .i64 0)∧w=w':=by
 go_enter func289,ntmps289;go_wp2;go_ret;exact ⟨rfl,rfl⟩
section
variable {base:Nat} {A:Nat→Addr} {db:Nat} {F:Nat→Prop} {d:S.V.bq} {W0:World}
theorem Tc.new{w w':World}{rv:Value}(hv:Dv base A db F d w)(fj:S.V.Step F F W0 w)(hb:Below w.heap.size w w')(xC:rv = .nilIface∨∃ p:C.Ch,rv=p.val∧Any w p){tb:Nat}(htb:w.heap.size≤tb)(ht:B.au w' tb #[.pointer (some ⟨db,0,none⟩),rv] 100):Tc base A db F d W0 w' tb:=by
 refine ⟨hv.below hb,⟨rv,ht,?_⟩,fj.trans (S.V.Step.bw hb),ar hv.env.errs.size htb,ar fj.size htb,fun h=>?_⟩
 ·rcases xC with h | ⟨p,h1,h2⟩
  ·exact .inl h
  ·exact .inr ⟨p,h1,h2.cC (cP.of hb)⟩
 ·obtain ⟨d',_,hd⟩:=hv.dev;have:=hd.lt _ h;omega
theorem JV{w:World}(m0 root:Int)(m2:Value)(hv:Dv base A db F d w)(fj:S.V.Step F F W0 w):Calls prog 13 #[.pointer (some ⟨db,0,none⟩),.agg #[.int .i64 m0,.int .i64 root,m2]] w fun e w'=>∃ tb,e = .returned (.pointer (some ⟨tb,0,none⟩))∧Tc base A db F d W0 w' tb∧(root=0→B.au w' tb #[.pointer (some ⟨db,0,none⟩),.nilIface] 100):=by
 have q0:=ai w (.cells #[.int .i64 m0,.int .i64 root,m2] 42);have x0:=B.au.new w #[.int .i64 m0,.int .i64 root,m2] 42;have k1:=x0.cell 1 (by simp)
 simp only [bQ,List.getElem_cons_zero,List.getElem_cons_succ] at k1;generalize hW:w.alloc (.cells #[.int .i64 m0,.int .i64 root,m2] 42)=W at *;have s1:w.heap.size≤W.heap.size:=q0.size;have HN:Hid (∀ rv,(rv = .nilIface∨∃ p:C.Ch,rv=p.val∧Any w p)→Tc base A db F d W0 (W.alloc (.cells #[.pointer (some ⟨db,0,none⟩),rv] 100)) W.heap.size):=fun rv h =>
  Tc.new hv fj (Below.next q0 (ai W _)) h s1 (B.au.new W #[.pointer (some ⟨db,0,none⟩),rv] 100)
 have HR:Hid (B.au (W.alloc (.cells #[.pointer (some ⟨db,0,none⟩),.nilIface] 100)) W.heap.size #[.pointer (some ⟨db,0,none⟩),.nilIface] 100):=B.au.new W #[.pointer (some ⟨db,0,none⟩),.nilIface] 100;clear hv fj q0 x0;by_cases h0:root=0
 ·subst h0;go_enter func13,ntmps13;go_wp2_with fail;refine (oe _).mono ?_
  rintro e w1 ⟨rfl,rfl⟩;go_wp2;go_ret;exact ⟨_,rfl,HN.out _ (.inl rfl),fun _=>HR.out⟩
 ·have H0:=ab h0;clear h0;go_enter func13,ntmps13;go_wp2_with fail;refine (og root _ H0.out).mono ?_
  rintro e w1 ⟨rfl,rfl⟩;have Xm:(C.Ch.pg root).val = .iface 146 (.int .i64 root):=rfl;rw [Xm];go_wp2;go_ret;exact ⟨_,rfl,HN.out _ (.inr ⟨.pg root,rfl,Any.pg _ _⟩),fun h=>absurd h H0.out⟩
end
theorem wB{fn:Func}{p u v:Tmp}{t1:TypeId}(h:fn.results=#[.cell p t1,.tmp u,.tmp v])(tmps:Array Value)(P:Program)(w:World):(results fn tmps).run P w=((asAddr (tmps.getD p undef)).run P w).andThen fun a w₁=>((loadVar t1 a).run P w₁).andThen fun x w₂=>.ok (.tuple #[x,tmps.getD u undef,tmps.getD v undef]) w₂:=by
 simp only [results,h];simp [Sem.run_bind,Result.andThen]
theorem fc{P:Program}{fn:Func}{p u v:Tmp}{ty:TypeId}(h:fn.results=#[.cell p ty,.tmp u,.tmp v])(tmps:Array Value)(w:World)(g:Nat)(t:TypeId)(cs:Array Value)(fr:Nat × Nat)(d:TypeDesc)(hp:tmps.getD p undef = .pointer (some ⟨g,0,none⟩))(hg:w.heap[g]?=some (.cells cs t fr))(hu:P.underlying ty=some d)(hd:(match d with | .struct _ | .array _ _=>true | _=>false)=true)(hi:(P.info? ty).map (·.size)=some cs.size):(results fn tmps).run P w = .ok (.tuple #[.agg cs,tmps.getD u undef,tmps.getD v undef]) w:=by
 rw [wB h tmps P w,hp];simp [asAddr,run_loadVar_row w g t ty cs fr d hg hu hd hi,Result.andThen]
theorem tV(ev:Value)(By:ev = .nilIface∨∃ q,ev = .iface 360 (.pointer (some q)))(w:World):Calls prog 53 #[.slice none 0 0,ev] w fun e w'=>e = .returned (.tuple #[.agg #[.string ⟨#[]⟩,.string ⟨#[]⟩],.bool false,ev])∧Below w.heap.size w w':=by
 have q0:=ai w (.cells #[.string ⟨#[]⟩,.string ⟨#[]⟩] 52);have x0:=B.au.new w #[.string ⟨#[]⟩,.string ⟨#[]⟩] 52;have HX:=ab x0;have z0:=x0.c0;have z1:=x0.c1;have y0:=x0.free 0;have y1:=x0.free 1;have HB:=ab q0;clear q0 x0;rcases By with rfl | ⟨q,rfl⟩
 ·go_enter func53,ntmps53;go_wp2_with fail;refine (gV _).mono ?_
  rintro e w1 ⟨rfl,rfl⟩;go_wp2_with fail
  (try simp only [Exit.inBlock,Exit.then])
  exact bodyPost_ret (fc rfl _ _ w.heap.size 52 _ (0,0) _ rfl HX.out underlying52 rfl (by kernel_rfl)) rfl ⟨rfl,HB.out⟩
 ·go_enter func53,ntmps53;go_wp2_with fail;refine (gV _).mono ?_
  rintro e w1 ⟨rfl,rfl⟩;go_wp2_with fail
  (try simp only [Exit.inBlock,Exit.then])
  exact bodyPost_ret (fc rfl _ _ w.heap.size 52 _ (0,0) _ rfl HX.out underlying52 rfl (by kernel_rfl)) rfl ⟨rfl,HB.out⟩
theorem kj{ops:Array Oper}{o:Oper}{a:Act}{w:World}{K:Act→World→Prop}{Q:Exit→Act→World→Prop}{E:Prop}(t:TypeId)(nx:o.guard=none)(d x:Operand)
  (ho:o.op = .call { callee:=.builtin .append,args:=#[d,x],argTypes:=#[t,t] }) (yS:o.type=t) (vd vx:Value) (hd:a.eval d=vd) (hx:a.eval x=vx) (v:Value) (w':World)
  (bn:(Builtin.append_ #[t,t] t #[vd,vx]).run prog w = .ok v w') (h:K (a.put o.dst v) w'):if Region.wanted o (yielded ops a.tmps)=true then Oper.wp prog o a w K Q else E:=by
 have hw:Region.wanted o (yielded ops a.tmps)=true:=by simp [Region.wanted,nx]
 rw [if_pos hw];unfold Oper.wp;simp [execOp,ho,resolve,invoke,builtin,hd,hx,yS,bn,Result.andThen]
 exact h
theorem NR(g o i n c:Nat)(l:List W.Lk)(p:W.Lk)(w:World)(hr:W.di w (.slice (some ⟨g,o,none⟩) n c) l)(hi:i≤l.length)(hn:i≤100000):∃ c' w',(Builtin.append_ #[101,101] 101 #[.slice (some ⟨g,o,none⟩) i i,.slice (some ⟨w.heap.size,0,none⟩) 1 1]).run prog (w.alloc (.cells #[.pointer (some ⟨p.1,0,none⟩),.int .i64 p.2] 159)) = .ok (.slice (some ⟨w.heap.size+1,0,none⟩) (i+1) c') w'∧tv w' w.heap.size (.slice (some ⟨w.heap.size+1,0,none⟩) (i+1) c') (l.take i++[p])∧Below w.heap.size w w':=by
 obtain ⟨i0,yy,hz,b7,kF⟩:=info_parts W.lB;have mU:=bL w #[.pointer (some ⟨p.1,0,none⟩),.int .i64 p.2] 159;have q0:=ai w (.cells #[.pointer (some ⟨p.1,0,none⟩),.int .i64 p.2] 159);have ia:∀ j u,([.pointer (some ⟨p.1,0,none⟩),.int .i64 p.2] : List Value)[j]?=some u→(w.alloc (.cells #[.pointer (some ⟨p.1,0,none⟩),.int .i64 p.2] 159)).cell? ((⟨w.heap.size,0,none⟩ : Addr).add j)=some u:=fun j u hj=>by
  rw [bz,Nat.zero_add];match j,hj with
  | 0,hj=>cases hj;exact mU.2 0 (by simp)
  | 1,hj=>cases hj;exact mU.2 1 (by simp)
 have bN:(l.take i).length=i:=by rw [ag];omega
 have o8:(W.a8 (l.take i)).length=i*i0.size:=by rw [b7,W.aS,bN]
 have holds:∀ j u,(W.a8 (l.take i))[j]?=some u→(w.alloc (.cells #[.pointer (some ⟨p.1,0,none⟩),.int .i64 p.2] 159)).cell? ((⟨g,o,none⟩ : Addr).add j)=some u:=fun j u hj=>by
  have lL:=(List.getElem?_eq_some_iff.1 hj).1;rw [W.aS,bN] at lL;obtain ⟨a',c',he,hle,D6,hc⟩:=hr;obtain ⟨g',o',ha,c1,c2⟩:=hc (j / 2) (by omega)
  cases he;cases ha;have hg:=W.fw (l.take i) (j / 2) (by omega)
  rw [bK] at hg;rw [bz];rcases bU j with hm | hm
  ·have e:j / 2*2=j:=by omega
   rw [e] at hg c1;rw [hg.1] at hj;cases hj;exact (q0.cell (p:=⟨g,o+j,none⟩) (World.block_lt_of_cell? w _ c1)).trans c1
  ·have e:j / 2*2+1=j:=by omega
   rw [dJ,e] at c2;rw [e] at hg;rw [hg.2] at hj;cases hj;exact (q0.cell (p:=⟨g,o+j,none⟩) (World.block_lt_of_cell? w _ c2)).trans c2
 have hq:=run_append_grow (P:=prog) (w.alloc (.cells #[.pointer (some ⟨p.1,0,none⟩),.int .i64 p.2] 159)) 101 101 159 i0 _ underlying101 yy hz ⟨g,o,none⟩ i i (W.a8 (l.take i)) o8 holds ⟨w.heap.size,0,none⟩ 1 1 _ (by rw [b7];rfl) ia (by omega) (by omega) (growslice_fits (by omega) (by rw [kF];omega))
 have gF:(w.alloc (.cells #[.pointer (some ⟨p.1,0,none⟩),.int .i64 p.2] 159)).heap.size=w.heap.size+1:=by simp
 obtain ⟨cap,dd⟩ : ∃ cap,cap=grownCap (w.alloc (.cells #[.pointer (some ⟨p.1,0,none⟩),.int .i64 p.2] 159)) (i+1) i 159:=⟨_,rfl⟩;have Bw:i+1≤cap:=by rw [dd];exact grownCap_ge _ _ _ _
 have hle:cap≤maxLen:=by rw [dd];exact grownCap_le_maxLen _ _ _ _ (by unfold maxLen;omega)
 rw [← dd,gF] at hq;generalize hV:w.alloc (.cells #[.pointer (some ⟨p.1,0,none⟩),.int .i64 p.2] 159)=V at *;obtain ⟨cur,uT⟩ : ∃ cur,cur=(W.a8 (l.take i)).toArray++([.pointer (some ⟨p.1,0,none⟩),.int .i64 p.2] : List Value).toArray++Builtin.zeroCells (Value.agg #[.pointer none,.int .i64 0]).cells (cap - (i+1)):=⟨_,rfl⟩;rw [← uT] at hq;have me:(V.drew.alloc (.cells cur 159)).heap[w.heap.size+1]?=some (.cells cur 159 (0,0)):=by
  rw [← gF];exact heap_alloc_new V.drew _
 have mf:W.a8 (l.take i++[p])=W.a8 (l.take i)++[.pointer (some ⟨p.1,0,none⟩),.int .i64 p.2]:=by rw [W.cZ];rfl
 refine ⟨cap,_,hq,⟨⟨by rw [W.aS],.inr ⟨w.heap.size+1,cap,cur,?_,by omega,me,?_,hle,?_,?_⟩⟩,fun g' zb=>?_⟩,Below.next q0 ⟨rfl,rfl,rfl,by simp,fun k hk=>heap_alloc_old V.drew _ hk⟩⟩
 ·rw [ae,bN];rfl
 ·rw [ae,bN];exact Bw
 ·rw [uT,ej,ej,size_zeroCells];simp only [List.size_toArray,W.aS,bN,List.length_cons,List.length_nil];show i*2+(0+1+1)+(cap - (i+1))*2=cap*2
  omega
 ·rw [uT,mf,ae,bN];simp only [bW];rw [List.take_left' (by simp only [ae,W.aS,bN,List.length_cons,List.length_nil];omega)]
 ·simp only [Value.ownBlock,Option.some.injEq] at zb;subst zb;refine ⟨cur,me,fun u hu=>?_⟩
  rw [uT] at hu;simp only [bW,cu] at hu;rcases hu with (hu | hu) | hu
  ·exact oW (l.take i) u (by simpa using hu)
  ·exact oW [p] u (by simpa [W.a8] using hu)
  ·exact pX _ u hu
theorem Way.get{d:S.V.bq}{X:Type}{S:Sys d X}{Pk:SN→Nat→Prop}{w:World}:∀ {t:List (gz X)} {x y:X},Way S Pk w x t y→∀ (k:Nat) (h:k<t.length),Rt S w t[k]∧¬ t[k].n.us.length=0∧t[k].at'<t[k].n.us.length
 | [],_,_,_,_,h=>by simp at h
 | _::_,_,_,⟨_,h2,h3,_,h5,_,_,_⟩,0,_=>⟨h2,h3,h5⟩
 | _::_,_,_,⟨_,_,_,_,_,_,_,h7⟩,k+1,h=>Way.get h7 k (by simpa using h)
theorem Yb(w:World)(a:Option Addr)(n cap m:Nat)(hm:m≤cap):(Instr.sliceAt 101 (.slice a n cap) none (some (.int .i64 (m:Int))) (some (.int .i64 (m:Int)))).run prog w = .ok (.slice a m m) w:=by
 rw [run_sliceAt_slice (h:=underlying101),run_slice_hm (ht:=underlying101) (h0:=by omega) (h2:=by omega) (h3:=by omega)]
 have hz:(sizeOf (prog.elem 101)).run prog w = .ok 2 w:=by kernel_rfl
 rw [hz];simp [Result.andThen,sliced,Addr.add]
theorem W.b6.mono{w:World}{b b2:Nat}{v:Value}{l:List W.Lk}(h:W.b6 w b v l)(hb:b2≤b):W.b6 w b2 v l:=by
 refine ⟨h.1,?_⟩;rcases h.2 with h' | ⟨g,cap,cur,h',h1,hr⟩
 ·exact .inl h'
 ·exact .inr ⟨g,cap,cur,h',ar hb h1,hr⟩
section
variable {base:Nat} {A:Nat→Addr} {db:Nat} {F:Nat→Prop} {d:S.V.bq}
end
section
variable {base:Nat} {A:Nat→Addr} {db:Nat} {F:Nat→Prop} {d:S.V.bq} {W0:World}
theorem yF(tb:Nat)(w:World):Calls prog 56 #[.pointer (some ⟨tb,0,none⟩),.slice none 0 0] w fun e w'=>e = .returned (.tuple #[.slice none 0 0,.nilIface])∧w=w':=by
 go_enter func56,ntmps56;go_wp2;go_loopw [6] (fun iv wr=>iv = .int .i64 (-1)∧w=wr) (fun _ _=>0)
 case atStart=>exact ⟨rfl,rfl⟩
 case round =>
  obtain ⟨rfl,rfl⟩:=hrel;go_wp2;go_ret2;exact ⟨rfl,rfl⟩
end
end T
end Go.Proofs.YtihmgigfkmofnaaGreatDoor
