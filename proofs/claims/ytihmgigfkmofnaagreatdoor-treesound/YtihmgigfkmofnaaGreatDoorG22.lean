import Derived.Test.YtihmgigfkmofnaaGreatDoorG21
set_option maxHeartbeats 4000000
set_option maxRecDepth 100000
open Go.Proofs.Tryz
namespace Go.Proofs.YtihmgigfkmofnaaGreatDoor
namespace T
open Go.RowKit
theorem Way.Ov{d:S.V.bE}{X:Type}{S:Sys d X}{Pk:SN→Nat→Prop}{w:World}:∀ {t:List (gF X)} {x z:X} {s:gF X},Way S Pk w x (t++[s]) z→Way S Pk w x t s.x∧SP S w s∧¬ s.n.us.length=0∧Pk s.n s.at'∧s.at'<s.n.us.length∧S.sub s.x s.at' z
 | [],_,_,_,⟨h1,h2,h3,h4,h5,z,h6,h7⟩=>by
  have h7:z=_:=h7;subst h7;exact ⟨h1.symm,h2,h3,h4,h5,h1▸h6⟩
 | _::_,_,_,_,⟨h1,h2,h3,h4,h5,z,h6,h7⟩=>by
  obtain ⟨g1,g2⟩:=Way.Ov h7;exact ⟨⟨h1,h2,h3,h4,h5,z,h6,g1⟩,g2⟩
def UpS{d:S.V.bE}{X:Type}(S:Sys d X)(A:Nat→Addr)(Fl:World→SN→X→Prop)(x:X)(e:Ending)(w':World):Prop :=
 (S.E∧e=ri A)∨∃ b' n' pv lv cv,e = .returned (.tuple #[.pointer (some ⟨b',0,none⟩),.nilIface])∧dP w' b' n' pv lv cv∧Fl w' n' x
theorem yO{base:Nat}{A:Nat→Addr}{db:Nat}{F:Nat→Prop}{d:S.V.bE}{X:Type}(S:Sys d X)(Pk:SN→Nat→Prop)(Fl:World→SN→X→Prop)(hfk:∀ W n x,Fl W n x→n.zP)(tb:Nat)(rv:Value)(a:Option Addr)(c:Nat)(l:List W.Lk)(ss:List (gF X))(x y:X)(pv:Value)(ps:List Pr)(w0 w:World)(hL:l=[]∧ss=[]∨∃ q,l=ss.map gF.lk++[q])(dG:ss.length≤64)(ho:uF w w0.heap.size (.slice a l.length c) l)(jr:Way S Pk w x ss y)(hp:gM w pv ps)(Y4:(∀ p ∈ ps,cQ p=true)∧ps.length≤4000)(il:∀ W,Fl W ⟨ps,0,[],[]⟩ y)(ht:B.au w tb #[.pointer (some ⟨db,0,none⟩),rv] 100)(hv:Dv base A db F d w)(iK:Dv base A db F d w0)(hm:Mv db F w0 w)(zU:∀ (W:World) (s:gF X) (z:X) (bb:Nat) (nb:SN) (pb lb cb:Value),Dv base A db F d W→B.au W tb #[.pointer (some ⟨db,0,none⟩),rv] 100→SP S W s→¬ s.n.us.length=0→Pk s.n s.at'→s.at'<s.n.us.length→S.sub s.x s.at' z→dP W bb nb pb lb cb→Fl W nb z→Calls prog 82 #[.pointer (some ⟨tb,0,none⟩),.agg #[.pointer (some ⟨s.b,0,none⟩),.int .i64 (s.at':Int)],.pointer (some ⟨bb,0,none⟩)] W fun e w'=>UpS S A Fl s.x e w'∧Dv base A db F d w'∧Mv db F W w'):Calls prog 47 #[.pointer (some ⟨tb,0,none⟩),.slice a l.length c,pv] w fun e w'=>(S.E∧e = .returned (.iface 360 (.pointer (some (A 8))))∧Dv base A db F d w'∧Mv db F w0 w'∧B.au w' tb #[.pointer (some ⟨db,0,none⟩),rv] 100)∨∃ (W W2:World) (b:Nat) (n:SN) (pn ln cn u:Value),e = .returned .nilIface∧dP W b n pn ln cn∧Fl W n x∧o9 W b n (.returned u) W2∧Dv base A db F d W2∧Mv db F w0 W2∧B.au W2 tb #[.pointer (some ⟨db,0,none⟩),rv] 100∧w'=W2.setCell ⟨tb,1,none⟩ u:=by
 obtain ⟨xa,xc,wG⟩:=hp.form;subst wG;obtain ⟨P,hP⟩ : ∃ P,P=ps.length:=⟨_,rfl⟩;obtain ⟨L,Ka⟩ : ∃ L,L=l.length:=⟨_,rfl⟩;rw [← hP] at hp ⊢;rw [← Ka] at ho ⊢;have q0:=ai w (.cells #[.slice xa P xc,.int .i64 0,.slice none 0 0,.slice none 0 0] 155);have xr:=B.au.new w #[.slice xa P xc,.int .i64 0,.slice none 0 0,.slice none 0 0] 155;have HR:Hid (dP (w.alloc (.cells #[.slice xa P xc,.int .i64 0,.slice none 0 0,.slice none 0 0] 155)) w.heap.size ⟨ps,0,[],[]⟩ (.slice xa P xc) (.slice none 0 0) (.slice none 0 0)):=⟨xr,hp.below q0,B.dm.nil _,(C.b9.nil _ 0).at,Y4.1,Y4.2,(fun p hp=>by simp at hp),by simp,by simp⟩
 have hlen:((L:Int) - 2=(ss.length:Int) - 1∧L=ss.length+1)∨(L=0∧ss=[]):=by
  rcases hL with ⟨h1,h2⟩ | ⟨q,h1⟩
  ·right;rw [Ka,h1];exact ⟨rfl,h2⟩
  ·left;rw [Ka,h1,ae,az];exact ⟨by simp;omega,by simp⟩
 have iq:=ab hlen;have mT:=ab dG;have HL:=ab hL;have HO:=ab (ho.below q0);have HW:=ab (jr.cN (df.of q0));have HT:=ab (ht.below q0);have HV:=ab (hv.below q0);have Sb:=ab iK;have HM:=ab (hm.trans (Mv.of q0));have IZ:=ab il;have iB:=ab zU;have YL:=ab hfk;have zi:=ab Ka;have hLs:(L:Int)≤65:=by
  rcases hlen with ⟨_,h⟩ | ⟨h,_⟩ <;> omega
 have hL0:(0:Int)≤(L:Int):=by omega
 clear hL dG ho jr hp Y4 il ht hv iK hm zU hfk Ka hP q0 xr hlen;go_enter func47,ntmps47;go_wp2;go_loopw [7,8] (fun nv iv wr=>∃ (s1 s2:List (gF X)) (z:X) (bb:Nat) (nb:SN) (pb lb cb:Value) (i:Int),nv = .pointer (some ⟨bb,0,none⟩)∧iv = .int .i64 i∧ss=s1++s2∧(i=(s1.length:Int) - 1∨i = -2∧ss=[])∧Way S Pk wr x s1 z∧dP wr bb nb pb lb cb∧Fl wr nb z∧uF wr w0.heap.size (.slice a L c) l∧Dv base A db F d wr∧Mv db F w0 wr∧B.au wr tb #[.pointer (some ⟨db,0,none⟩),rv] 100) (fun _ iv _=>(intOf iv+1).toNat)
 case atStart =>
  refine ⟨ss,[],y,_,_,_,_,_,(L:Int) - 2,rfl,rfl,by simp,?_,HW.out,HR.out,IZ.out _,HO.out,HV.out,HM.out,HT.out⟩
  rcases iq.out with ⟨h,_⟩ | ⟨h1,h2⟩
  ·exact .inl h
  ·right;subst h1;exact ⟨by omega,h2⟩
 case round =>
  obtain ⟨s1,s2,z,bb,nb,pb,lb,cb,i,rfl,rfl,Gb,hi,jr,hs,il,ho,hv,hm,ht⟩:=hrel;clear HW HR HO HV HM HT;rcases List.eq_nil_or_concat s1 with rfl | ⟨t,s,rfl⟩
  ·have ud:¬ (0:Int)≤i:=by
    rcases hi with h | ⟨h,_⟩
    ·simp at h;omega
    ·omega
   have hz:x=z:=jr;subst hz;have Zv:=ab (GO A bb nb pb lb cb wr hs (YL.out _ _ _ il) hv.uq);have HS:=ab hs;have HF:=ab il;have uK:=ab hv;have Oa:=ab hm;have IU:=ab ht;clear Gb hi jr hs il ho hv hm ht;go_wp2_with fail;refine Zv.out.mono ?_
   rintro e w2 Y2;have aV:=Y2.1;obtain ⟨u,hu,Ua⟩ : ∃ u,e = .returned u∧(u = .nilIface∨∃ t x,u = .iface t x):=by
    rcases Y2.2 with ⟨_,_,_,_,_,_,_,_,_,_,_,_,_,_,_,_,_,_,_,h,_⟩ | ⟨_,_,_,p,_,h⟩ | ⟨_,_,_,h⟩ | ⟨_,_,h⟩
    ·exact ⟨_,h,.inr (bU _)⟩
    ·exact ⟨_,h,.inr (bU _)⟩
    ·exact ⟨_,h,.inl rfl⟩
    ·exact ⟨_,h,.inr (bU _)⟩
   subst hu;have tX:=IU.out.below aV;have k1:=tX.c1;have k2:=tX.free 1;have cz:Hid (dP wr bb nb pb lb cb∧Fl wr nb x∧o9 wr bb nb (.returned u) w2∧Dv base A db F d w2∧Mv db F w0 w2∧B.au w2 tb #[.pointer (some ⟨db,0,none⟩),rv] 100):=⟨HS.out,HF.out,Y2,uK.out.below aV,Oa.out.trans (Mv.of aV),tX⟩;clear Y2 aV tX Zv;rcases Ua with rfl | ⟨ut,ux,rfl⟩
   ·go_wp2;go_ret;exact .inr ⟨wr,w2,bb,nb,pb,lb,cb,_,rfl,cz.out.1,cz.out.2.1,cz.out.2.2.1,cz.out.2.2.2.1,cz.out.2.2.2.2.1,cz.out.2.2.2.2.2,rfl⟩
   ·go_wp2;go_ret;exact .inr ⟨wr,w2,bb,nb,pb,lb,cb,_,rfl,cz.out.1,cz.out.2.1,cz.out.2.2.1,cz.out.2.2.2.1,cz.out.2.2.2.2.1,cz.out.2.2.2.2.2,rfl⟩
  ·have hii:i=(t.length:Int):=by
    rcases hi with h | ⟨_,h⟩
    ·rw [List.concat_eq_append,ae] at h;simp at h;omega
    ·rw [h] at Gb;have:=congrArg List.length Gb;simp at this
   subst hii;rw [List.concat_eq_append] at jr Gb;obtain ⟨sS,cM,yu,zW,bO,oN⟩:=jr.Ov;have hq:l[t.length]?=some s.lk∧t.length<L:=by
    rcases HL.out with ⟨_,h2⟩ | ⟨q,h1⟩
    ·rw [h2] at Gb;have:=congrArg List.length Gb;simp at this
    ·refine ⟨?_,?_⟩
     ·rw [h1,Gb];simp
     ·rw [zi.out,h1,Gb];simp
   have hr:=ho.1.at;have zS:t.length<l.length:=by rw [← zi.out];exact hq.2
   have lP:l[t.length]=s.lk:=by
    have:=af zS;rw [hq.1] at this;exact (Option.some.inj this).symm
   obtain ⟨g,o,rfl,c1,c2⟩:=W.dm.spot hr t.length zS;rw [lP] at c1 c2;have Wc:wr.cell? ⟨g,o+t.length*2,none⟩=some (.pointer (some ⟨s.b,0,none⟩)):=c1;have Yd:wr.cell? ⟨g,o+t.length*2+1,none⟩=some (.int .i64 (s.at':Int)):=c2;have Sq:=ab (iB.out wr s z bb nb pb lb cb hv ht cM yu zW bO oN hs il);have ud:(0:Int)≤(t.length:Int):=by omega
   have CT:(t.length:Int)<(L:Int):=by omega
   have rA:=ab ho;have uK:=ab hv;have Oa:=ab hm;have IU:=ab ht;have CH:=ab sS;have Zs:=ab Gb;clear Gb hi jr hs il ho hv hm ht cM yu zW bO oN hq hr zS lP c1 c2 sS;go_wp2_with fail;refine Sq.out.mono ?_
   rintro e w1 ⟨VI,fD,fo⟩;have aw:=fo.cN uK.out;have BD:=ab (dX aw IU.out);have vX:=ab (Oa.out.trans fo);have uJ:=ab fD;rcases VI with ⟨hE,rfl⟩ | ⟨b',n',Li,TM,cv',rfl,VK,hf'⟩
   ·have cz:Hid (S.E∧Dv base A db F d w1∧Mv db F w0 w1∧B.au w1 tb #[.pointer (some ⟨db,0,none⟩),rv] 100):=⟨hE,uJ.out,vX.out,BD.out⟩;unfold ri;clear hE fD fo aw Sq Wc Yd;go_wp2;go_ret;exact .inl ⟨cz.out.1,rfl,cz.out.2⟩
   ·have Vg:Hid (∃ (s1 s2:List (gF X)) (z:X) (bb:Nat) (nb:SN) (pb lb cb:Value) (i:Int),(.pointer (some ⟨b',0,none⟩):Value) = .pointer (some ⟨bb,0,none⟩)∧(.int .i64 ((t.length:Int) - 1):Value) = .int .i64 i∧ss=s1++s2∧(i=(s1.length:Int) - 1∨i = -2∧ss=[])∧Way S Pk w1 x s1 z∧dP w1 bb nb pb lb cb∧Fl w1 nb z∧uF w1 w0.heap.size (.slice (some ⟨g,o,none⟩) L c) l∧Dv base A db F d w1∧Mv db F w0 w1∧B.au w1 tb #[.pointer (some ⟨db,0,none⟩),rv] 100):=⟨t,s::s2,s.x,b',n',Li,TM,cv',_,rfl,rfl,by rw [Zs.out];simp,.inl rfl,CH.out.cN aw,VK,hf',rA.out.mv fo Sb.out.Ct,uJ.out,vX.out,BD.out⟩
    clear fD fo aw Sq Wc Yd VK hf';go_wp2;go_roundw
    case rel=>exact Vg.out
    case measure=>simp [intOf]
def NH(w:World):Nat→C.Ch→Prop
 | _,.pg _=>True
 | 0,.nd _=>False
 | k+1,.nd b=>∃ n pv lv cv,dP w b n pv lv cv∧Fit n∧∀ p ∈ n.us,NH w k p
theorem NH.cN{w w':World}(ha:df w w'):∀ {k:Nat} {p:C.Ch},NH w k p→NH w' k p
 | 0,.pg _,_=>trivial
 | _+1,.pg _,_=>trivial
 | _+1,.nd _,⟨n,pv,lv,cv,h1,h2,h3⟩=>⟨n,pv,lv,cv,h1.cN ha,h2,fun p hp=>NH.cN ha (h3 p hp)⟩
def Any(w:World)(p:C.Ch):Prop:=∃ k,NH w k p
theorem Any.cN{w w':World}{p:C.Ch}(h:Any w p)(ha:df w w'):Any w' p:=by
 obtain ⟨k,h⟩:=h;exact ⟨k,h.cN ha⟩
theorem Any.pg(w:World)(id:Int):Any w (.pg id):=⟨0,trivial⟩
theorem SN.VA{n:SN}(h:¬ n.us.length=0):n.sz=B.jy n.lk:=by unfold SN.sz;rw [if_neg h]
theorem mG.below{w:World}{n:SN}{i bb:Nat}{nb:SN}{e:Ending}{w':World}(h:mG w n i bb nb e w'):Below w.heap.size w w':=by
 rcases h with ⟨_,_,_,_,_,_,_,h⟩ | ⟨_,_,_,_,_,_,_,_,_,_,_,_,_,_,_,_,_,_,_,_,_,h⟩
 ·exact h
 ·exact h
end T
end Go.Proofs.YtihmgigfkmofnaaGreatDoor
