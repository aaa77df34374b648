import Derived.Test.YtihmgigfkmofnaaGreatDoorG23
import Derived.Test.YtihmgigfkmofnaaGreatDoorG24
import Derived.Shelf.Strconv.Clone
set_option maxHeartbeats 2000000
set_option maxRecDepth 100000
open Go.Proofs.Tryz
namespace Go.Proofs.YtihmgigfkmofnaaGreatDoor
namespace T
open Go.RowKit
theorem kM(t:TypeId)(v:Value)(w:World):(binOp .eql 97 (.iface t v) .nilIface).run prog w = .ok (.bool false) w:=by
 have h2:∀ d:Nat,(Op.equalIn (d+1) 97 (.iface t v) .nilIface).run prog w = .ok false w:=fun d=>by
  simp [Op.equalIn,run_underlying underlying97]
 simp only [binOp];simp [Op.equal,Op.maxDepth,h2 9999]
theorem oJ(w:World):(binOp .eql 97 .nilIface .nilIface).run prog w = .ok (.bool true) w:=by
 have h2:∀ d:Nat,(Op.equalIn (d+1) 97 .nilIface .nilIface).run prog w = .ok true w:=fun d=>by
  simp [Op.equalIn,run_underlying underlying97]
 simp only [binOp];simp [Op.equal,Op.maxDepth,h2 9999]
theorem CN(pk:Value)(ze:∃ f a c,pk = .func f a c)(tb:Nat)(dv:Value)(w:World)(ht:B.au w tb #[dv,.nilIface] 100):Calls prog 54 #[.pointer (some ⟨tb,0,none⟩),pk] w fun e w'=>e = .returned (.tuple #[.slice none 0 0,.nilIface])∧w=w':=by
 obtain ⟨f,a,c,rfl⟩:=ze;have c1:=ht.c1;have hn:=fun W=>oJ W
 clear ht;go_enter func54,ntmps54;go_wp2;go_ret2;exact ⟨rfl,rfl⟩
theorem kR.form{d:S.V.bD}{X:Type}{S:Sys d X}{Pk:SN→Nat→Prop}{A:Nat→Addr}{pre:List W.Lk}{x:X}{bs:Nat}{e:Ending}{w':World}(h:kR S Pk A pre x bs e w'):∃ a n c v,e = .returned (.tuple #[.slice a n c,v])∧(v = .nilIface∨v = .iface 360 (.pointer (some (A 8)))):=by
 rcases h with ⟨_,rfl⟩ | ⟨ss,s,a,c,rfl,_⟩
 ·exact ⟨_,_,_,_,rfl,.inr rfl⟩
 ·exact ⟨_,_,_,_,rfl,.inl rfl⟩
theorem Rm{base:Nat}{A:Nat→Addr}{db:Nat}{F:Nat→Prop}{d:S.V.bD}{X:Type}(S:Sys d X)(Pk:SN→Nat→Prop)(Q:World→Prop)(hQ:∀ W W',dd W W'→Q W→Q W')(p:C.Ch)(x:X)(tb:Nat)(kb:Nat)(w0 w:World)(hk:S.K w p x)(ht:B.au w tb #[.pointer (some ⟨db,0,none⟩),p.val] 100)(hv:Dv base A db F d w)(hm:Mv db F w0 w)(il:Dv base A db F d w0)(hq:Q w)(ly:S.E∨S.rk x+1≤64)(oz:∀ W b n pv lv cv y,Q W→dM W b n pv lv cv→S.N W n y→¬ n.us.length=0→Calls prog 80 #[.agg #[.int .i64 n.f,lv],.pointer (some ⟨kb,0,none⟩)] W fun e w'=>∃ q:Nat,e = .returned (.int .i64 (q:Int))∧Pk n q∧q<n.us.length∧Below W.heap.size W w'):Calls prog 54 #[.pointer (some ⟨tb,0,none⟩),.func (.func 80) #[] #[.pointer (some ⟨kb,0,none⟩)]] w fun e w'=>kR S Pk A [] x w0.heap.size e w'∧Dv base A db F d w'∧Mv db F w0 w':=by
 have HG:=ab (G7 S Pk Q hQ [] (.slice none 0 0) p x tb p.val kb w0 w hk ht hv hm il (sP.nil _ _) hq (by simp) (by simpa using ly) oz)
 have c1:=ht.c1;obtain ⟨pt,px,iB⟩:=bJ p;rw [iB] at HG c1;have hn:=fun W=>kM pt px W
 clear hk ht hv hm il hq ly oz hQ iB;go_enter func54,ntmps54;go_wp2_with fail;refine HG.out.mono ?_
 rintro e w1 ⟨hdn,eH,fI,-⟩;obtain ⟨a,n,c,v,he,OL⟩:=hdn.form;subst he;have HR:Hid (kR S Pk A [] x w0.heap.size (.returned (.tuple #[.slice a n c,v])) w1∧Dv base A db F d w1∧Mv db F w0 w1):=⟨hdn,eH,fI⟩;clear hdn eH fI HG c1;rcases OL with rfl | rfl
 ·go_wp2;go_ret2;exact HR.out
 ·go_wp2;go_ret2;exact HR.out
theorem JR{base:Nat}{A:Nat→Addr}{db:Nat}{F:Nat→Prop}{d:S.V.bD}{X:Type}(S:Sys d X)(Pk:SN→Nat→Prop)(Q:World→Prop)(hQ:∀ W W',dd W W'→Q W→Q W')(p:C.Ch)(x:X)(tb:Nat)(w0 w:World)(hk:S.K w p x)(ht:B.au w tb #[.pointer (some ⟨db,0,none⟩),p.val] 100)(hv:Dv base A db F d w)(hm:Mv db F w0 w)(il:Dv base A db F d w0)(hq:Q w)(ly:S.E∨S.rk x+1≤64)(oz:∀ W b n pv lv cv y,Q W→dM W b n pv lv cv→S.N W n y→¬ n.us.length=0→Calls prog 57 #[.agg #[.int .i64 n.f,lv]] W fun e w'=>∃ q:Nat,e = .returned (.int .i64 (q:Int))∧Pk n q∧q<n.us.length∧Below W.heap.size W w'):Calls prog 54 #[.pointer (some ⟨tb,0,none⟩),.func (.func 57) #[] #[]] w fun e w'=>kR S Pk A [] x w0.heap.size e w'∧Dv base A db F d w'∧Mv db F w0 w':=by
 have HG:=ab (BW S Pk Q hQ [] (.slice none 0 0) p x tb p.val w0 w hk ht hv hm il (sP.nil _ _) hq (by simp) (by simpa using ly) oz)
 have c1:=ht.c1;obtain ⟨pt,px,iB⟩:=bJ p;rw [iB] at HG c1;have hn:=fun W=>kM pt px W
 clear hk ht hv hm il hq ly oz hQ iB;go_enter func54,ntmps54;go_wp2_with fail;refine HG.out.mono ?_
 rintro e w1 ⟨hdn,eH,fI,-⟩;obtain ⟨a,n,c,v,he,OL⟩:=hdn.form;subst he;have HR:Hid (kR S Pk A [] x w0.heap.size (.returned (.tuple #[.slice a n c,v])) w1∧Dv base A db F d w1∧Mv db F w0 w1):=⟨hdn,eH,fI⟩;clear hdn eH fI HG c1;rcases OL with rfl | rfl
 ·go_wp2;go_ret2;exact HR.out
 ·go_wp2;go_ret2;exact HR.out
theorem FO(b:Nat)(n:SN)(pv lv cv:Value)(kb:Nat)(key:ByteArray)(w:World)(hs:dM w b n pv lv cv)(hk:w.cell? ⟨kb,0,none⟩=some (.string key))(hlen:n.us.length=n.lk.length+1):Calls prog 80 #[.agg #[.int .i64 n.f,lv],.pointer (some ⟨kb,0,none⟩)] w fun e w'=>∃ q:Nat,e = .returned (.int .i64 (q:Int))∧B.gU n.lk key q∧q<n.us.length∧Below w.heap.size w w':=by
 have q0:=ai w (.cells #[.int .i64 n.f,lv] 150);have x0:=B.au.new w #[.int .i64 n.f,lv] 150;have k0:=x0.c0;have k1:=x0.c1;have jm:(w.alloc (.cells #[.int .i64 n.f,lv] 150)).cell? ⟨kb,0,none⟩=some (.string key):=(q0.cell (p:=⟨kb,0,none⟩) (World.block_lt_of_cell? w _ hk)).trans hk;have HP:=ab (B.A4 n.f lv n.lk key (w.alloc (.cells #[.int .i64 n.f,lv] 150)) (by have:=hs.fine.2.2.2.1;omega) (hs.bg.below q0))
 have HQ:=ab q0;have HL:=ab hlen;obtain ⟨la,lc,tH⟩:=hs.bg.form;subst tH;clear hs hk hlen q0 x0;go_enter func80,ntmps80;go_wp2_with fail;refine HP.out.mono ?_
 rintro e w1 ⟨⟨q,rfl,hq⟩,hb⟩;have HB:=ab (Below.next HQ.out hb);have QE:=ab hq;clear hq hb HP k0 k1 jm;go_wp2;go_ret;exact ⟨q,rfl,QE.out,by have:=QE.out.1;have:=HL.out;omega,HB.out⟩
theorem FX(n:SN)(lv:Value)(w:World):Calls prog 57 #[.agg #[.int .i64 n.f,lv]] w fun e w'=>e = .returned (.int .i64 0)∧Below w.heap.size w w':=by
 have q0:=ai w (.cells #[.int .i64 n.f,lv] 150);have HQ:=ab q0;clear q0;go_enter func57,ntmps57;go_wp2;go_ret;exact ⟨rfl,HQ.out⟩
theorem FP{base:Nat}{A:Nat→Addr}{db:Nat}{F:Nat→Prop}{d:S.V.bD}{X:Type}(S:Sys d X)(p:C.Ch)(x:X)(tb:Nat)(key:ByteArray)(w0 w:World)(hk:S.K w p x)(ht:B.au w tb #[.pointer (some ⟨db,0,none⟩),p.val] 100)(hv:Dv base A db F d w)(hm:Mv db F w0 w)(il:Dv base A db F d w0)(ly:S.E∨S.rk x+1≤64):Calls prog 46 #[.pointer (some ⟨tb,0,none⟩),.string key] w fun e w'=>kR S (fun n q=>B.gU n.lk key q) A [] x w0.heap.size e w'∧Dv base A db F d w'∧Mv db F w0 w':=by
 have q0:=ai w (.cells #[.string key] 9);have k0:(w.alloc (.cells #[.string key] 9)).cell? ⟨w.heap.size,0,none⟩=some (.string key):=(B.au.new w #[.string key] 9).cell 0 (by simp)
 have HW:=ab (Rm S (fun n q=>B.gU n.lk key q) (fun W=>W.cell? ⟨w.heap.size,0,none⟩=some (.string key)) (fun W W' ha h=>b9 (ha.str h) h) p x tb w.heap.size w0 (w.alloc (.cells #[.string key] 9)) (S.ka (dd.of q0) hk) (ht.below q0) (hv.below q0) (hm.trans (Mv.of q0)) il k0 ly (fun W b n pv lv cv y hc hs hn Eh=>FO b n pv lv cv w.heap.size key W hs hc ((S.fit hn).1.resolve_left Eh)))
 have O6:∀ (fn:Fn) (first cap:Array Value) (w:World),(Instr.makeFunc fn first cap).run prog w = .ok (.func fn first cap) w:=fun _ _ _ _=>rfl
 clear hk ht hv hm il ly q0 k0;go_enter func46,ntmps46;go_wp2_with fail;refine HW.out.mono ?_
 rintro e w1 ⟨hdn,eH,fI⟩;obtain ⟨a,n,c,v,he,OL⟩:=hdn.form;subst he;have HR:Hid (kR S (fun n q=>B.gU n.lk key q) A [] x w0.heap.size (.returned (.tuple #[.slice a n c,v])) w1∧Dv base A db F d w1∧Mv db F w0 w1):=⟨hdn,eH,fI⟩
 clear hdn eH fI HW;rcases OL with rfl | rfl
 ·go_wp2;go_ret2;exact HR.out
 ·go_wp2;go_ret2;exact HR.out
theorem FQ(tb:Nat)(dv:Value)(key:ByteArray)(w:World)(ht:B.au w tb #[dv,.nilIface] 100):Calls prog 46 #[.pointer (some ⟨tb,0,none⟩),.string key] w fun e w'=>e = .returned (.tuple #[.slice none 0 0,.nilIface])∧Below w.heap.size w w':=by
 have q0:=ai w (.cells #[.string key] 9);have HW:=ab (CN (.func (.func 80) #[] #[.pointer (some ⟨w.heap.size,0,none⟩)]) ⟨_,_,_,rfl⟩ tb dv _ (ht.below q0));have O6:∀ (fn:Fn) (first cap:Array Value) (w:World),(Instr.makeFunc fn first cap).run prog w = .ok (.func fn first cap) w:=fun _ _ _ _=>rfl
 have HQ:=ab q0;clear ht q0;go_enter func46,ntmps46;go_wp2_with fail;refine HW.out.mono ?_
 rintro e w1 ⟨rfl,rfl⟩;go_wp2;go_ret2;exact ⟨rfl,HQ.out⟩
theorem rM(w:World):Calls prog 49 #[.slice none 0 0] w fun e w'=>e = .returned (.slice none 0 0)∧w=w':=by
 go_enter func49,ntmps49;go_wp2;go_ret;exact ⟨rfl,rfl⟩
theorem rL(a:Option Addr)(m c:Nat)(l:List W.Lk)(q:W.Lk)(n:SN)(pv lv cv:Value)(w:World)(hm:m=l.length)(qJ:m≤100000)(hr:W.dm w (.slice a (m+1) c) (l++[q]))(hs:dM w q.1 n pv lv cv):Calls prog 49 #[.slice a (m+1) c] w fun e w'=>e = .returned pv∧w=w':=by
 obtain ⟨g,o,rfl,c1,-⟩:=W.dm.spot hr m (by rw [ae];simp;omega)
 have e:(l++[q])[m]'(by rw [ae];simp;omega)=q:=by
  subst hm;simp
 rw [e] at c1;have p0:=hs.c0;obtain ⟨pa,pc,KR⟩:=hs.jj.form;subst KR;have h0:(0:Int)≤(m:Int):=by omega
 have h1:((m:Int)+1) - 1=(m:Int):=by omega
 have h2:(m:Int)<(m:Int)+1:=by omega
 have h3:(((m+1:Nat):Int) == 0)=false:=by simp;omega
 have h4:(m:Int)≤100000:=by omega
 clear hr hs e hm qJ;go_enter func49,ntmps49;go_wp2;go_ret;exact ⟨rfl,rfl⟩
theorem s8{w:World}{tb:Nat}{q:Option Addr}{rv:Value}(ht:B.au w tb #[.pointer q,rv] 100){o:Nat}{v:Value}(hc:w.cell? ⟨tb,o,none⟩=some v):o=0∧v = .pointer q∨o=1∧v=rv:=by
 unfold B.au at ht;rw [cell_of_row w tb o _ _ _ ht] at hc;have ho:o<2:=by have:=(Array.getElem?_eq_some_iff.1 hc).1;simpa using this
 match o,ho,hc with
 | 0,_,hc=>cases hc;exact .inl ⟨rfl,rfl⟩
 | 1,_,hc=>cases hc;exact .inr ⟨rfl,rfl⟩
theorem dM.tree{w:World}{b:Nat}{n:SN}{pv lv cv:Value}(h:dM w b n pv lv cv)(hu:n.us.length=0∨2≤n.us.length){tb:Nat}{q:Option Addr}{rv:Value}(ht:B.au w tb #[.pointer q,rv] 100)(zI:rv = .nilIface∨∃ t x,rv = .iface t x)(u:Value):dM (w.setCell ⟨tb,1,none⟩ u) b n pv lv cv:=by
 have hs:=bK.set tb 1 w u;have Ye:∀ {g o:Nat} {s:ByteArray},w.cell? ⟨g,o,none⟩=some (.string s)→(w.setCell ⟨tb,1,none⟩ u).heap[g]?=w.heap[g]?:=fun {g o s} hc=>hs.block g (World.block_lt_of_cell? w _ hc) fun e=>by
  subst e;rcases s8 ht hc with ⟨_,e⟩ | ⟨_,e⟩
  ·cases e
  ·rcases zI with rfl | ⟨t,x,rfl⟩ <;> cases e
 refine ⟨?_,?_,?_,?_,h.fine⟩
 ·refine (hs.block b h.row.lt (fun e=>?_)).trans h.row
  subst e;have h1:=h.row;unfold B.au at h1 ht;rw [ht] at h1;simp at h1
 ·obtain ⟨a,cap,hv,hle,hn,hc⟩:=h.jj;refine ⟨a,cap,hv,hle,hn,fun j hj=>?_⟩
  obtain ⟨g,o,ha,h1,h2⟩:=hc j hj;have hg:=Ye h1;exact ⟨g,o,ha,b9 hg h1,b9 hg h2⟩
 ·obtain ⟨a,cap,hv,hle,hn,hc⟩:=h.bg;refine ⟨a,cap,hv,hle,hn,fun j hj=>?_⟩
  obtain ⟨g,o,ha,h1,h2⟩:=hc j hj;have hg:=Ye h1;exact ⟨g,o,ha,b9 hg h1,b9 hg h2⟩
 ·obtain ⟨a,cap,hv,hle,hn,hc⟩:=h.kids;refine ⟨a,cap,hv,hle,hn,fun j v hj=>?_⟩
  have hjl:j<n.us.length:=by
   have:=(List.getElem?_eq_some_iff.1 hj).1;rw [C.a7] at this;omega
  have h2:2≤n.us.length:=hu.resolve_left (by omega)
  obtain ⟨g,o,ha,h1⟩:=hc j v hj;have hg:g≠tb:=fun e=>by
   subst e;obtain ⟨g0,o0,ha0,c0⟩:=hc 0 _ (C.ib n.us 0 (by omega))
   obtain ⟨g1,o1,ha1,c1⟩:=hc 1 _ (C.ib n.us 1 (by omega))
   rw [ha] at ha0 ha1;cases ha0;cases ha1;obtain ⟨t,x,e0⟩:=bJ (n.us[0]'(by omega))
   rw [e0] at c0;have k0:=s8 ht c0;have k1:=s8 ht c1;rcases k0 with ⟨_,e⟩ | ⟨k0,_⟩
   ·cases e
   ·rcases k1 with ⟨k1,_⟩ | ⟨k1,_⟩ <;> omega
  exact ⟨g,o,ha,b9 (hs.block g (World.block_lt_of_cell? w _ h1) hg) h1⟩
theorem Fit.kids{n:SN}(h:Fit n):n.us.length=0∨2≤n.us.length:=by
 rcases h.1 with h0 | h0
 ·exact .inl h0
 ·rcases h.2.2 with h1 | h1
  ·exact .inl h1
  ·right;omega
theorem Dv.tree{base:Nat}{A:Nat→Addr}{db:Nat}{F:Nat→Prop}{d:S.V.bD}{w:World}(hv:Dv base A db F d w){tb:Nat}(hb:base≤tb)(hf:¬ F tb)(o:Nat)(u:Value):Dv base A db F d (w.setCell ⟨tb,o,none⟩ u):=by
 have hs:=bK.set tb o w u;obtain ⟨d1,n1,sN⟩:=hv.dev;have eS:S.V.Step (fun k=>k=tb) (fun k=>k=tb) w (w.setCell ⟨tb,o,none⟩ u):=⟨hs.os,hs.tape,hs.output,hs.size,hs.block,fun _ h=>.inl h⟩
 have jJ:Below base w (w.setCell ⟨tb,o,none⟩ u):=⟨hs.os,hs.tape,hs.output,hs.size,fun k hk=>hs.block k (al hk hv.env.errs.size) (by omega)⟩
 refine ⟨⟨d1,n1,sN.keep eS (fun k hk e=>hf (e▸hk))⟩,hv.env.keep jJ,⟨fun i hi=>?_,hv.errs.2⟩,hv.up,hv.alive,hv.lo⟩
 obtain ⟨h1,c,t,h2⟩:=hv.errs.1 i hi;have hg:=hv.lo i hi;exact ⟨(jJ.cell (p:=⟨fl i,0,none⟩) hg.1).trans h1,c,t,(hs.block _ (Array.getElem?_eq_some_iff.1 h2).1 (by omega)).trans h2⟩
def TrA(w:World)(db tb:Nat):Prop:=∃ rv,B.au w tb #[.pointer (some ⟨db,0,none⟩),rv] 100∧(rv = .nilIface∨∃ p:C.Ch,rv=p.val∧Any w p)
end T
end Go.Proofs.YtihmgigfkmofnaaGreatDoor
namespace Go.Proofs
open Go.Shelf
def Tryz.DU:Go.Shelf.Ren:=⟨fun | 316=>86 | n=>n,fun | 5=>5 | 9=>9 | 3=>3 | 4=>4 | 37=>145 | 0=>0 | 127=>207 | n=>n,fun | n=>n⟩
theorem Tryz.R9:Go.Proofs.LaysM.n316 prog Tryz.DU:={
 mixed:=by kernel_rfl
 f316:=func86.trans (congrArg some (by kernel_rfl))
 t0:=underlying0
 a0:=isAgg0
 z0:=sizeOf0
 v0:=zeroValue0
 t3:=underlying3
 a3:=isAgg3
 z3:=sizeOf3
 v3:=zeroValue3
 t4:=underlying4
 a4:=isAgg4
 z4:=sizeOf4
 v4:=zeroValue4
 t5:=underlying5
 a5:=isAgg5
 z5:=sizeOf5
 v5:=zeroValue5
 t9:=underlying9
 a9:=isAgg9
 z9:=sizeOf9
 v9:=zeroValue9
 t37:=underlying145
 a37:=isAgg145
 z37:=sizeOf145
 v37:=zeroValue145
 t127:=underlying207
 a127:=isAgg207
 z127:=sizeOf207
 v127:=zeroValue207
 i0:=by kernel_rfl
 i3:=by kernel_rfl
 i4:=by kernel_rfl
 i5:=by kernel_rfl
 i9:=by kernel_rfl
 i37:=by kernel_rfl
 i127:=by kernel_rfl }
namespace YtihmgigfkmofnaaGreatDoor.T
open Go.RowKit
theorem C6(s:ByteArray)(w:World)(h:s.size≤281474976710656):Calls prog 86 #[.string s] w fun e w'=>e = .returned (.string s)∧Below w.heap.size w w':=Any.stringslite_Clone Tryz.R9 s w h
theorem mN(s:ByteArray)(w:World)(h:s.size≤281474976710656):Calls prog 50 #[.string s] w fun e w'=>e = .returned (.string s)∧Below w.heap.size w w':=by
 go_enter func50,ntmps50;go_wp2_with fail;refine (C6 s w h).mono ?_
 rintro e w1 ⟨rfl,hb⟩;go_wp2_with fail;go_ret;exact ⟨rfl,hb⟩
end YtihmgigfkmofnaaGreatDoor.T
end Go.Proofs
namespace Go.Proofs.YtihmgigfkmofnaaGreatDoor
namespace T
open Go.RowKit
def noS(d:S.V.bD):Sys d Unit where
 K:=fun _ _ _=>False
 N:=fun _ _ _=>False
 E:=False
 sub:=fun _ _ _=>False
 rk:=fun _=>0
 ka:=fun _ h=>h
 na:=fun _ h=>h
 rh:=fun h _=>h.elim
 fit:=fun h=>h.elim
 hU:=fun h=>h.elim
 node:=fun h=>h.elim
 rks:=.inr fun _ _ _ h=>h.elim
structure Tc(base:Nat)(A:Nat→Addr)(db:Nat)(F:Nat→Prop)(d:S.V.bD)(W0 w:World)(tb:Nat):Prop where
 dv:Dv base A db F d w
 tr:TrA w db tb
 st:S.V.Step F F W0 w
 lo:base≤tb∧W0.heap.size≤tb∧¬ F tb
section
variable {base:Nat} {A:Nat→Addr} {db:Nat} {F:Nat→Prop} {d:S.V.bD} {W0:World}
end
theorem S9(p:Pr):zO [p] true=if cF p=true then none else some 0:=by
 unfold zO;by_cases h:cF p=true
 ·rw [if_pos h];have hp:=eu h;rw [if_neg (by simp [h]),if_neg (by
   intro hr;apply hr
   intro i hi;simp at hi),if_neg (by
   have:=vC (l:=[p]) (by simpa using h)
   simp at this
   omega),if_neg (by simp)]
 ·rw [if_neg h,if_pos (by simp [h])]
theorem xj(A:Nat→Addr)(key value:ByteArray)(w:World)(hk:key.size≤140737488355328)(hv:value.size≤140737488355328)(hE:jG A w):Calls prog 45 #[.string key,.string value] w fun e w'=>e = .returned (if cF (key,value)=true then .nilIface else .iface 360 (.pointer (some (A 0))))∧Below w.heap.size w w':=by
 have q0:=ai w (.cells #[.string key,.string value] 52);have HC:=ab (qw A _ [(key,value)] true _ (by intro p hp;simp at hp;subst hp;exact ⟨hk,hv⟩) (by simp) (By w (key,value) 52) (hE.below q0))
 rw [S9] at HC;have HQ:=ab q0;obtain ⟨v,X6,mQ⟩ : ∃ v,v=im A (if cF (key,value)=true then none else some 0)∧(v = .nilIface∨∃ q,v = .iface 360 (.pointer (some q))):=by
  refine ⟨_,rfl,?_⟩;split
  ·exact .inl rfl
  ·exact .inr ⟨_,rfl⟩
 rw [← X6] at HC;have HV:Hid (v=if cF (key,value)=true then .nilIface else .iface 360 (.pointer (some (A 0)))):=by
  show v=_
  rw [X6];split <;> rfl
 rw [← HV.out];clear X6 q0 hE hk hv;go_enter func45,ntmps45;go_wp2_with fail;refine HC.out.mono ?_
 rintro e w1 ⟨rfl,hb⟩;have HB:=ab (Below.next HQ.out hb);clear hb HC;rcases mQ with rfl | ⟨q,rfl⟩
 ·go_wp2;go_ret;exact ⟨rfl,HB.out⟩
 ·go_wp2;go_ret;exact ⟨rfl,HB.out⟩
section
variable {base:Nat} {A:Nat→Addr} {db:Nat} {F:Nat→Prop} {d:S.V.bD} {W0:World}
end
theorem xe(id:Int)(w:World):Calls prog 289 #[.int .i64 id] w fun e w'=>e = .returned (.int .i64 0)∧w=w':=by
 go_enter func289,ntmps289;go_wp2;go_ret;exact ⟨rfl,rfl⟩
section
variable {base:Nat} {A:Nat→Addr} {db:Nat} {F:Nat→Prop} {d:S.V.bD} {W0:World}
theorem Tc.new{w w':World}{rv:Value}(hv:Dv base A db F d w)(eS:S.V.Step F F W0 w)(hb:Below w.heap.size w w')(zI:rv = .nilIface∨∃ p:C.Ch,rv=p.val∧Any w p){tb:Nat}(htb:w.heap.size≤tb)(ht:B.au w' tb #[.pointer (some ⟨db,0,none⟩),rv] 100):Tc base A db F d W0 w' tb:=by
 refine ⟨hv.below hb,⟨rv,ht,?_⟩,eS.trans (S.V.Step.bx hb),aq hv.env.errs.size htb,aq eS.size htb,fun h=>?_⟩
 ·rcases zI with h | ⟨p,h1,h2⟩
  ·exact .inl h
  ·exact .inr ⟨p,h1,h2.cx (dd.of hb)⟩
 ·obtain ⟨d',_,hd⟩:=hv.dev;have:=hd.lt _ h;omega
theorem J0{w:World}(m0 root:Int)(m2:Value)(hv:Dv base A db F d w)(eS:S.V.Step F F W0 w):Calls prog 13 #[.pointer (some ⟨db,0,none⟩),.agg #[.int .i64 m0,.int .i64 root,m2]] w fun e w'=>∃ tb,e = .returned (.pointer (some ⟨tb,0,none⟩))∧Tc base A db F d W0 w' tb∧(root=0→B.au w' tb #[.pointer (some ⟨db,0,none⟩),.nilIface] 100):=by
 have q0:=ai w (.cells #[.int .i64 m0,.int .i64 root,m2] 42);have x0:=B.au.new w #[.int .i64 m0,.int .i64 root,m2] 42;have k1:=x0.cell 1 (by simp)
 simp only [aG,List.getElem_cons_zero,List.getElem_cons_succ] at k1;generalize hW:w.alloc (.cells #[.int .i64 m0,.int .i64 root,m2] 42)=W at *;have s1:w.heap.size≤W.heap.size:=q0.size;have HN:Hid (∀ rv,(rv = .nilIface∨∃ p:C.Ch,rv=p.val∧Any w p)→Tc base A db F d W0 (W.alloc (.cells #[.pointer (some ⟨db,0,none⟩),rv] 100)) W.heap.size):=fun rv h =>
  Tc.new hv eS (Below.next q0 (ai W _)) h s1 (B.au.new W #[.pointer (some ⟨db,0,none⟩),rv] 100)
 have HR:Hid (B.au (W.alloc (.cells #[.pointer (some ⟨db,0,none⟩),.nilIface] 100)) W.heap.size #[.pointer (some ⟨db,0,none⟩),.nilIface] 100):=B.au.new W #[.pointer (some ⟨db,0,none⟩),.nilIface] 100;clear hv eS q0 x0;by_cases h0:root=0
 ·subst h0;go_enter func13,ntmps13;go_wp2_with fail;refine (uq _).mono ?_
  rintro e w1 ⟨rfl,rfl⟩;go_wp2;go_ret;exact ⟨_,rfl,HN.out _ (.inl rfl),fun _=>HR.out⟩
 ·have H0:=ab h0;clear h0;go_enter func13,ntmps13;go_wp2_with fail;refine (uv root _ H0.out).mono ?_
  rintro e w1 ⟨rfl,rfl⟩;have hva:(C.Ch.pg root).val = .iface 146 (.int .i64 root):=rfl;rw [hva];go_wp2;go_ret;exact ⟨_,rfl,HN.out _ (.inr ⟨.pg root,rfl,Any.pg _ _⟩),fun h=>absurd h H0.out⟩
end
theorem nx{ops:Array Oper}{o:Oper}{a:Act}{w:World}{K:Act→World→Prop}{Q:Exit→Act→World→Prop}{E:Prop}(t:TypeId)(nQ:o.guard=none)(d x:Operand)
  (ho:o.op = .call { callee:=.builtin .append,args:=#[d,x],argTypes:=#[t,t] }) (BN:o.type=t) (vd vx:Value) (hd:a.eval d=vd) (hx:a.eval x=vx) (v:Value) (w':World)
  (bo:(Builtin.append_ #[t,t] t #[vd,vx]).run prog w = .ok v w') (h:K (a.put o.dst v) w'):if Region.wanted o (yielded ops a.tmps)=true then Oper.wp prog o a w K Q else E:=by
 have hw:Region.wanted o (yielded ops a.tmps)=true:=by simp [Region.wanted,nQ]
 rw [if_pos hw];unfold Oper.wp;simp [execOp,ho,resolve,invoke,builtin,hd,hx,BN,bo,Result.andThen]
 exact h
theorem W.bQ.mono{w:World}{b b2:Nat}{v:Value}{l:List W.Lk}(h:W.bQ w b v l)(hb:b2≤b):W.bQ w b2 v l:=by
 refine ⟨h.1,?_⟩;rcases h.2 with h' | ⟨g,cap,cur,h',h1,hr⟩
 ·exact .inl h'
 ·exact .inr ⟨g,cap,cur,h',aq hb h1,hr⟩
section
variable {base:Nat} {A:Nat→Addr} {db:Nat} {F:Nat→Prop} {d:S.V.bD}
end
end T
end Go.Proofs.YtihmgigfkmofnaaGreatDoor
