import Derived.Test.YtihmgigfkmofnaaGreatDoorG14
import Derived.Test.YtihmgigfkmofnaaGreatDoorG18
set_option maxHeartbeats 2000000
set_option maxRecDepth 20000
open Go.Proofs.Tryz
namespace Go.Proofs.YtihmgigfkmofnaaGreatDoor
namespace T
open Go.RowKit
abbrev One(db:Nat)(w w':World):Prop:=S.V.Step (fun k=>k=db) (fun k=>k=db) w w'
theorem jF{w:World}{db:Nat}{F:Nat→Prop}{d:S.V.bq}(h:S.V.cJ w db F d){j:Nat}{v:Value}(hc:w.cell? ⟨db,j,none⟩=some v):(∀ s,v≠.string s)∧∀ t x,v≠.iface t x:=by
 obtain ⟨mb,nb,pv,av,Dn,hb⟩:=h;rw [hb.cell j] at hc;obtain ⟨pa,pn,pc,hp⟩ : ∃ a n c,pv = .slice a n c:=by
  rcases hb.aV.2 with ⟨h',_⟩ | ⟨g,cap,cur,h',_⟩
  ·exact ⟨_,_,_,h'⟩
  ·exact ⟨_,_,_,h'⟩
 obtain ⟨aa,an,ac,ha⟩ : ∃ a n c,av = .slice a n c:=by
  rcases hb.eO with ⟨_,h'⟩ | ⟨g,off,cap,cur,fv,h',_⟩
  ·exact ⟨_,_,_,h'⟩
  ·exact ⟨_,_,_,h'⟩
 subst hp ha;have hj:j<9:=by
  have:=(Array.getElem?_eq_some_iff.1 hc).1;simpa [S.V.jj] using this
 match j,hj,hc with
 | 0,_,hc | 1,_,hc | 2,_,hc | 3,_,hc | 4,_,hc | 5,_,hc | 6,_,hc | 7,_,hc | 8,_,hc =>
  simp only [S.V.jj] at hc;cases hc;exact ⟨(fun s e=>by cases e),(fun t x e=>by cases e)⟩
theorem One.cell{db:Nat}{w w':World}(h:One db w w'){a:Addr}{v:Value}(hc:w.cell? a=some v)(hn:a.block≠db):w'.cell? a=some v:=S.V.Step.cell h hc hn
theorem One.ifc{db:Nat}{w w':World}{F:Nat→Prop}{d:S.V.bq}(h:One db w w')(hd:S.V.cJ w db F d){g o:Nat}{t:TypeId}{x:Value}(hc:w.cell? ⟨g,o,none⟩=some (.iface t x)):g≠db:=fun e=>by
 subst e;exact (jF hd hc).2 t x rfl
theorem Ep{n:Nat}{A:Nat→Addr}{db:Nat}{w w':World}{F F':Nat→Prop}{d d':S.V.bq}(h:One db w w')(hd:S.V.cJ w db F d)(hd':S.V.cJ w' db F' d')(hE:dA n eR A w):dA n eR A w':=by
 refine ⟨fun i hi=>?_,hE.2⟩
 obtain ⟨h1,c,t,h2⟩:=hE.1 i hi;refine ⟨h.cell h1 (h.ifc hd h1),?_⟩;by_cases he:(A i).block=db
 ·obtain ⟨mb,nb,pv,av,Dn,hb⟩:=hd';exact ⟨_,_,by rw [he];exact hb.dr⟩
 ·exact ⟨c,t,(h.block _ (Array.getElem?_eq_some_iff.1 h2).1 he).trans h2⟩
theorem Et(p:Option Addr)(w:World):(binOp .eql 32 .nilIface (.iface 360 (.pointer p))).run prog w = .ok (.bool false) w:=by
 have h2:∀ d:Nat,(Op.equalIn (d+1) 32 .nilIface (.iface 360 (.pointer p))).run prog w = .ok false w:=fun d=>by
  simp [Op.equalIn,run_underlying underlying32]
 simp only [binOp];simp [Op.equal,Op.maxDepth,h2 9999]
def fy(d:S.V.bq)(id:Int)(s:S.Sh):Prop:=S.sm s∧s.sE<18446744073709551616∧s.id=id∧(s.id+1)*8≤d.size∧S.V.iM d (s.id*8) 8=S.gW s
def gB(s:S.Sh)(p:PD):Prop :=
 (s.kind=76∧mD s.count.toNat s.body.data.toList∧p = .leaf (BG s.count.toNat s.body.data.toList)) ∨
 (s.kind=66∧B.uZ s.count.toNat s.body.data.toList∧p = .br (B.Fp (bX s.body.data.toList s.count.toNat)) (B.BL (bX s.body.data.toList s.count.toNat)))
open Classical in
noncomputable def cM (d:S.V.bq) (id:Int):Option PD:=if h:∃ p s,fy d id s∧gB s p then some (Classical.choose h) else none
theorem zS{d:S.V.bq}{id:Int}{p:PD}(h:cM d id=some p):∃ s,fy d id s∧gB s p:=by
 unfold cM at h;split at h
 ·rename_i hh
  cases h;exact Classical.choose_spec hh
 ·cases h
theorem IB(f:Int)(lk:List B.Lk)(i:Nat)(p:C.Ch)(h:(Ba f lk)[i]?=some p):∃ x,(B.kids f lk)[i]?=some x∧p = .pg x:=by
 cases i with
 | zero=>cases h;exact ⟨f,rfl,rfl⟩
 | succ i =>
  have h:(lk.map (fun q=>C.Ch.pg q.2))[i]?=some p:=h
  rw [aM] at h;cases hq:lk[i]? with
  | none=>rw [hq] at h;cases h
  | some q =>
   rw [hq] at h;cases h;exact ⟨q.2,by show (lk.map (·.2))[i]?=some q.2;rw [aM,hq];rfl,rfl⟩
theorem Qx(v:Value)(w:World):(Instr.typeAssert (.iface 146 v) 97 146 true).run prog w = .ok (.tuple #[v,.bool true]) w:=by kernel_rfl
theorem Jp(v:Value)(w:World):(Instr.typeAssert (.iface 152 v) 97 146 true).run prog w = .ok (.tuple #[.int .i64 0,.bool false]) w:=by kernel_rfl
theorem Qy(v:Value)(w:World):(Instr.typeAssert (.iface 152 v) 97 152 true).run prog w = .ok (.tuple #[v,.bool true]) w:=by kernel_rfl
theorem A2(A:Nat→Addr)(tb b bb:Nat)(n nb:SN)(pv lv cv pb lb cb:Value)(i:Nat)(w:World)(h:dH w b n pv lv cv)(hb:dH w bb nb pb lb cb)(hi:i<n.us.length)(hlen:n.us.length=n.lk.length+1)(dW:n.lk.length≤3999)(gM:nb.yP)(hns:¬ nb.sz<nb.min)(hE:jL A w):Calls prog 82 #[.pointer (some ⟨tb,0,none⟩),.agg #[.pointer (some ⟨b,0,none⟩),.int .i64 (i:Int)],.pointer (some ⟨bb,0,none⟩)] w fun e w'=>∃ b',e = .returned (.tuple #[.pointer (some ⟨b',0,none⟩),.nilIface])∧mu w n i bb nb (.returned (.pointer (some ⟨b',0,none⟩))) w':=by
 have q0:=ai w (.cells #[.pointer (some ⟨b,0,none⟩),.int .i64 (i:Int)] 159);have x0:=B.au.new w #[.pointer (some ⟨b,0,none⟩),.int .i64 (i:Int)] 159;generalize Cc:w.alloc (.cells #[.pointer (some ⟨b,0,none⟩),.int .i64 (i:Int)] 159)=W0 at *;have QK:=ab (mL bb nb pb lb cb W0 (hb.below q0));rw [show decide (nb.sz<nb.min)=false by simp [hns]] at QK
 have EY:Hid (∀ W,Below w.heap.size w W→Calls prog 124 #[.pointer (some ⟨b,0,none⟩),.int .i64 (i:Int),.pointer (some ⟨bb,0,none⟩)] W fun e w'=>∃ b',e = .returned (.pointer (some ⟨b',0,none⟩))∧mu w n i bb nb e w'):=fun W hW=>by
  refine (sC A b bb n nb pv lv cv pb lb cb i W (h.below hW) (hb.below hW) hi hlen dW gM (hE.below hW)).mono fun e w' hh=>?_
  rcases hh with ⟨g1,b',p',l',c',rfl,g2,g3⟩ | ⟨g1,a,k,c,ba,bc,pa,la,ca,pc,lc,cc,g2,g3,g4,b',p',l',c',rfl,g5,g6⟩
  ·exact ⟨b',rfl,.inl ⟨g1,b',p',l',c',rfl,g2,Below.next hW g3⟩⟩
  ·exact ⟨b',rfl,.inr ⟨g1,a,k,c,ba,bc,pa,la,ca,pc,lc,cc,g2,g3,g4,b',p',l',c',rfl,g5,Below.next hW g6⟩⟩
 have HQ:=ab q0;have HX:=ab x0;clear h hb hi hlen dW gM hns hE q0 x0;go_enter func82,ntmps82;go_wp2_with fail;refine QK.out.mono ?_
 rintro e w1 ⟨rfl,aL⟩;have bP:=ab (Below.next HQ.out aL);have k0:=(HX.out.below aL).c0;have k1:=(HX.out.below aL).c1;clear aL QK;go_wp2_with fail;refine (EY.out _ bP.out).mono ?_
 rintro e w2 ⟨b',rfl,yR⟩;have HR:=ab yR;clear yR k0 k1;go_wp2;go_ret2;exact ⟨b',rfl,HR.out⟩
end T
end Go.Proofs.YtihmgigfkmofnaaGreatDoor
