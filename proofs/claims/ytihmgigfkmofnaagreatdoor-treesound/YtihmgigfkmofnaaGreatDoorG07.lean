import Derived.Test.YtihmgigfkmofnaaGreatDoorG06
set_option maxHeartbeats 4000000
set_option maxRecDepth 20000
open Go.Proofs.Tryz
namespace Go.Proofs.YtihmgigfkmofnaaGreatDoor
open Go.RowKit
def CO(l:List Pr):List Int:=l.map fun p=>(zG p:Int)
theorem we(l:List Pr):(CO l).length=l.length:=by simp [CO]
theorem zF(l:List Pr)(k:Nat)(h:k<l.length):CO (l.take (k+1))=CO (l.take k)++[(zG l[k] : Int)]:=by
 unfold CO;rw [ax h,bz];rfl
def xn(l:List Pr)(k:Nat):List Value:=ints (CO (l.take k))++List.replicate (l.length - k) (.int .i64 0)
theorem OJ(l:List Pr)(k:Nat)(h:k<l.length):(xn l k).set k (.int .i64 (zG l[k] : Int))=xn l (k+1):=by
 have hl:(ints (CO (l.take k))).length=k:=by rw [kj,we,ag];omega
 unfold xn;rw [b6 _ _ (by omega),hl,de,zF l k h,oM,show l.length - k=l.length - (k+1)+1 by omega,List.replicate_succ,List.set_cons_zero,ay]
 rfl
theorem OK(l:List Pr)(k:Nat)(h:k≤l.length):(xn l k).length=l.length:=by
 unfold xn;rw [ae,kj,we,ag,bB];omega
theorem KV(l:List Pr):xn l 0=List.replicate l.length (.int .i64 0):=by simp [xn,ints,CO]
theorem OL(l:List Pr):xn l l.length=ints (CO l):=by simp [xn]
theorem iS{w w':World}{base e n:Nat}{v:Value}{xs:List Value}(h:w.ownsRow base e 1 v n xs)(hb:Below w.heap.size w w'):w'.ownsRow base e 1 v n xs:=by
 refine ⟨h.1,?_⟩;rcases h.2 with h' | ⟨g,cap,cur,h',h1,h2,hr⟩
 ·exact .inl h'
 ·refine .inr ⟨g,cap,cur,h',h1,?_,hr⟩;have hg:g<w.heap.size:=by
   rcases a6 g w.heap.size with h' | h'
   ·exact h'
   ·rw [aZ h'] at h2;cases h2
  rw [hb.block g hg];exact h2
theorem Dy(v:Value)(l:List Pr)(w:World)(cM:SQ l)(hm:l.length≤4398046511104)(hr:gM w v l):Calls prog 211 #[v] w fun e w'=>∃ u,e = .returned u∧FT w' u (CO l)∧Below w.heap.size w w':=by
 obtain ⟨i0,hi,hz,b8,kQ⟩:=info_parts info3;obtain ⟨a,cap,rfl,dj,_,hc⟩:=hr;have HC:=ab hc;have od:=ab cM;obtain ⟨wm,nZ,fR,qm⟩:=run_make_full (P:=prog) w w.heap.size 69 3 i0 _ 1 underlying69 hi hz b8 .i64 .i64 l.length (by rw [kQ];omega) (by unfold maxLen;omega) (aj _)
 have nY:(madeCells (Value.int .i64 0).cells (l.length*1)).toList=xn l 0:=by
  rw [KV,Nat.mul_one];exact toList_madeCells_one _ _
 rw [nY] at fR;have CU:Below w.heap.size w wm:=(Below.refl _ _).grown qm (aj _) (fun j hj=>by cases hj)
 obtain ⟨n,hn⟩ : ∃ n,n=l.length:=⟨_,rfl⟩;obtain ⟨b,hb⟩ : ∃ b,b=w.heap.size:=⟨_,rfl⟩;rw [← hn] at hm nZ fR ⊢;rw [← hb] at nZ fR;have HN:=ab hn;have HB:=ab hb;have HO:=ab fR;have Kv:=ab CU;clear hc hn dj cM hb fR CU qm hi hz b8 kQ nY;go_enter func211,ntmps211;go_wp2;clear nZ;go_loopw [11] (fun i wr=>∃ k:Nat,k≤n∧i = .int .i64 k∧wr.ownsRow b 3 1 (.slice (some ⟨b,0,none⟩) n n) n (xn l k)∧Below w.heap.size w wr) (fun i _=>n - (intOf i).toNat)
 case atStart=>exact ⟨0,aB _,rfl,HO.out,Kv.out⟩
 case round =>
  obtain ⟨k,hk,rfl,aE,bQ⟩:=hrel;clear HO Kv;by_cases bO:k<n
  ·have cZ:k<l.length:=by have:=HN.out;omega
   obtain ⟨g,o,rfl,f1,f2⟩:=HC.out k cZ;have c1:wr.cell? ⟨g,o+k*2,none⟩=some (.string l[k].1):=(bQ.cell (p:=⟨g,o+k*2,none⟩) (World.block_lt_of_cell? w _ f1)).trans f1;have c2:wr.cell? ⟨g,o+k*2+1,none⟩=some (.string l[k].2):=(bQ.cell (p:=⟨g,o+k*2+1,none⟩) (World.block_lt_of_cell? w _ f2)).trans f2;have A6:=od.out l[k] (aJ _);have iB:=ab (OJ l k cZ);have fc:=ai wr (.cells #[.string l[k].1,.string l[k].2] 52);have rA:=ab (iS aE fc);have bT:=ab (Below.next bQ fc);have HZ:=ab (fun W=>uX l[k] W A6.1 A6.2)
   obtain ⟨p,hp⟩ : ∃ p,p=l[k]:=⟨_,rfl⟩;rw [← hp] at c1 c2 iB rA bT HZ;have iq:=ab (OK l k (by omega))
   have dE:(k:Int)<(n:Int):=by omega
   have j0:(0:Int)≤(k:Int):=by omega
   clear hp HC f1 f2 bQ aE A6 fc;go_wp2_with fail;refine (HZ.out _).mono ?_
   rintro e w1 ⟨rfl,aO⟩;have kP:=iS rA.out aO;have q1:∃ u,w1.cell? ⟨b,k,none⟩=some u:=by
    rw [World.ownsRow.cellAt kP k (by omega)]
    exact ⟨_,af (by rw [iq.out];exact cZ)⟩
   obtain ⟨u,q1⟩:=q1;have z1:w1.frozen? ⟨b,k,none⟩=false:=World.ownsRow.frozenAt kP k;obtain ⟨z,hz⟩ : ∃ z,z=zG p:=⟨_,rfl⟩;rw [← hz] at iB ⊢;have eZ:=(World.ownsRow.stored kP k (.int .i64 (z:Int))).1;rw [iB.out] at eZ;have jx:=ab eZ;have bL:Hid (Below w.heap.size w (w1.setCell ⟨b,k,none⟩ (.int .i64 (z:Int)))):=(Below.next bT.out aO).setCell (by rw [HB.out];exact aj _) _
   clear aO bT HZ c1 c2 kP eZ hz iB rA;go_wp2;go_roundw
   case rel=>exact ⟨k+1,by omega,by go_num,jx.out,bL.out⟩
   case measure=>simp [intOf];omega
  ·have nG:k=l.length:=by have:=HN.out;omega
   rw [nG,OL] at aE;have HI:=ab (fV aE).ints;have kB:=ab bQ;have dE:¬ (k:Int)<(n:Int):=by have:=HN.out;omega
   have Ww:=ab nG;clear HC bQ aE nG;go_wp2;go_ret;exact ⟨_,rfl,HI.out,kB.out⟩
theorem yL(ad:Addr)(n cap:Nat)(l:List Pr)(w:World)(hm:l.length≤4398046511104)(hn:l.length=n)(hr:gM w (.slice (some ad) n cap) l):Calls prog 212 #[.slice (some ad) n cap] w fun e w'=>∃ u,e = .returned u∧fJ w' w.heap.size u l∧Below w.heap.size w w':=by
 have qP:∀ w,(binOp .eql 63 (.slice (some ad) n cap) (.slice none 0 0)).run prog w = .ok (.bool false) w:=fun w=>by
  have h2:∀ d:Nat,(Op.equalIn (d+1) 63 (.slice (some ad) n cap) (.slice none 0 0)).run prog w = .ok false w:=fun d=>by
   simp [Op.equalIn,run_underlying underlying63]
  simp only [binOp];simp [Op.equal,Op.maxDepth,h2 9999]
 have fc:=ai w (.cells #[] 52);have ho:fJ (w.alloc (.cells #[] 52)) w.heap.size (.slice (some ⟨w.heap.size,0,none⟩) 0 0) []:=World.ownsRow_lit w #[] 0 (aj _) (aB _) rfl;obtain ⟨a1,c1,w1,bw,aE,hg⟩:=gh w.heap.size _ _ [] l _ ho (hr.below fc) (by simp;omega) (by simp)
 rw [List.length_nil,Nat.zero_add,hn] at bw aE;rw [List.nil_append] at aE;have aO:Below w.heap.size w w1:=fc.grown hg (by simp) (fun k hk=>by simp [Value.ownBlock] at hk;omega)
 have HO:=ab aE;have HB:=ab aO;clear hr fc ho aE hg aO;go_enter func212,ntmps212;go_wp2_with (first | (at_builtin;refine wpList_append_run 63 rfl (.tmp 5) (.tmp 6) rfl rfl _ _ rfl rfl _ _ bw ?_))
 clear bw;go_ret;exact ⟨_,rfl,HO.out,HB.out⟩
def acm(A:Nat→Addr)(base:Nat)(l:List Pr)(e:Ending)(w:World):Prop :=
 ∃ (i c:Nat) (u1 u2 ev:Value),e = .returned (.tuple #[u1,u2,ev])∧I7 2 (ju (CO l)) (CO l) i c∧zd A ev c ∧
  ((c=0∧fJ w base u1 (l.take i)∧fJ w base u2 (l.drop i)∧∀ k,u1.ownBlock=some k→u2.ownBlock≠some k)∨(c≠0∧u1 = .slice none 0 0∧u2 = .slice none 0 0))
theorem I7.bound{l:List Int}{i:Nat}(h:I7 2 (ju l) l i 0):1≤i∧i+1≤l.length:=by
 rcases h with ⟨_,_,h⟩ | ⟨_,_,_,h⟩ | ⟨h1,_,h2,_⟩
 ·omega
 ·omega
 ·have:=h2.1;omega
theorem Jc{a b:World}(h:Below a.drew.heap.size a.drew b):Below a.heap.size a b:=⟨h.os,h.tape,h.output,h.size,h.block⟩
theorem mr{A:Nat→Addr}{ev:Value}(h:zd A ev 0):ev = .nilIface:=by
 rcases h with ⟨h,_⟩ | ⟨_,h⟩ | ⟨_,h⟩ | ⟨_,h⟩ | ⟨_,h⟩
 ·exact h
 all_goals omega
theorem tM{A:Nat→Addr}{ev:Value}{c:Nat}(h:zd A ev c)(hc:c≠0):∃ k,ev = .iface 360 (.pointer (some (A k))):=by
 rcases h with ⟨_,h⟩ | ⟨h,_⟩ | ⟨h,_⟩ | ⟨h,_⟩ | ⟨h,_⟩
 ·omega
 all_goals exact ⟨_,h⟩
theorem P1(A:Nat→Addr)(v:Value)(l:List Pr)(w:World)(cM:SQ l)(hm:l.length≤4398046511104)(hr:gM w v l)(hE:jC A w):Calls prog 169 #[v] w fun e w'=>acm A w.heap.size l e w'∧Below w.heap.size w w':=by
 have HS:=ab (Dy v l w cM hm hr);have HE:=ab hE;have HR:=ab hr;obtain ⟨a,cap,hv⟩:=hr.form;subst hv;have dj:l.length≤cap:=by obtain ⟨_,_,he,h,_⟩:=hr;cases he;exact h
 have HM:=ab hm;clear hr hE hm cM;go_enter func169,ntmps169;go_wp2_with fail;refine HS.out.mono ?_
 rintro e w1 ⟨u,rfl,hint,aO⟩;have HC:=ab (UQ A u (CO l) w1 (by rw [we];have:=HM.out;omega) hint (HE.out.below aO).1)
 have bT:=ab aO;clear hint aO HS;go_wp2_with fail;refine HC.out.mono ?_
 rintro e w2 ⟨hv,aV⟩;obtain ⟨i,c,ev,rfl,ue,fl⟩:=hv.num;have bL:=ab (Below.next bT.out aV);have HCN:=ab ue;have kK:=ab fl;clear hv aV HC bT;by_cases hc:c=0
 ·subst hc;have Cm:=mr fl;subst Cm;obtain ⟨CT,vU⟩:=ue.bound;rw [we] at vU;have iM:=HR.out.below bL.out;have EV:∃ ad,a=some ad:=by
   obtain ⟨a',c',he,_,_,uf⟩:=iM;cases he;obtain ⟨g,o,ha,_⟩:=uf 0 (by omega)
   exact ⟨_,ha⟩
  obtain ⟨ad,rfl⟩:=EV;have vQ:=fun W=>K6 W (some ad) l.length cap i (by omega)
  obtain ⟨a2,Ug,qO⟩:=iM.drop (m:=i) (by omega)
  have NN:=iM.take (m:=i) (by omega)
  have jb:∃ ad2,a2=some ad2:=by
   obtain ⟨a',c',he,_,_,uf⟩:=Ug;simp only [Value.slice.injEq] at he;obtain ⟨rfl,_⟩:=he;obtain ⟨g,o,ha,_⟩:=uf 0 (by rw [al];omega)
   exact ⟨_,ha⟩
  obtain ⟨ad2,rfl⟩:=jb;have S0:Hid (∀ W,Below w2.heap.size w2 W→Calls prog 212 #[.slice (some ad) i cap] W fun e w'=>∃ u,e = .returned u∧fJ w' W.heap.size u (l.take i)∧Below W.heap.size W w'):=fun W h=>yL ad i cap (l.take i) W (by rw [ag];have:=HM.out;omega) (by rw [ag];omega) (NN.below h)
  have Oe:Hid (∀ W,Below w2.heap.size w2 W→Calls prog 212 #[.slice (some ad2) (l.length - i) (cap - i)] W fun e w'=>∃ u,e = .returned u∧fJ w' W.heap.size u (l.drop i)∧Below W.heap.size W w'):=fun W h=>yL ad2 (l.length - i) (cap - i) (l.drop i) W (by rw [al];have:=HM.out;omega) (by rw [al]) (Ug.below h)
  clear iM Ug NN ue fl;go_wp2_with fail;go_region_held3 (fun w'=>True) (go_keep)
   (first
    | (go_at_call 212;refine (S0.out _ ?_).mono ?_;(first | exact YQ.out | exact (Below.refl _ _).drew);rintro e W1 ⟨u1,rfl,kP,aO⟩;have rA:=ab kP;have al1:=ab aO;have Ak:Hid (Below w2.heap.size w2 W1):=(by first | exact Below.next YQ.out aO | exact Jc aO);clear kP aO)
    | (go_at_call 212;refine (Oe.out _ ?_).mono ?_;(first | exact Ak.out | exact (Below.refl _ _).drew);rintro e W2 ⟨u2,rfl,jf,aV⟩;have jx:=ab jf;have agQ:=ab aV;have YQ:Hid (Below w2.heap.size w2 W2):=(by first | exact Below.next Ak.out aV | exact Jc aV);clear jf aV))
  all_goals
   clear S0 Oe vQ qO;go_wp2;go_ret3
  ·refine ⟨⟨i,0,u1,u2,.nilIface,rfl,HCN.out,.inl ⟨rfl,rfl⟩,.inl ⟨rfl,(rA.out.below agQ.out).mono bL.out.size,jx.out.mono Ak.out.size |>.mono bL.out.size,fun k h1 h2=>?_⟩⟩,Below.next bL.out YQ.out⟩
   have a1:=rA.out.dx k h1;have a2:=jx.out.dx k h2;omega
 ·obtain ⟨k,rfl⟩:=tM fl hc;have EV:=fun W=>eY (some (A k)) W
  have HCZ:=ab hc;clear ue fl hc;go_wp2;go_ret3;exact ⟨⟨i,c,_,_,_,rfl,HCN.out,kK.out,.inr ⟨HCZ.out,rfl,rfl⟩⟩,bL.out⟩
namespace T
def ze(w:World)(a:SN)(key:ByteArray)(b:SN)(e:Ending)(w':World):Prop:=∃ ba bb pa la ca pb lb cb,e = .returned (.tuple #[.pointer (some ⟨ba,0,none⟩),.string key,.pointer (some ⟨bb,0,none⟩)])∧dP w' ba a pa la ca∧dP w' bb b pb lb cb∧Below w.heap.size w w'
theorem ze.drew{w:World}{a b:SN}{key:ByteArray}{e:Ending}{w':World}(h:ze w a key b e w'):ze w a key b e w'.drew:=by
 obtain ⟨ba,bb,pa,la,ca,pb,lb,cb,h1,h2,h3,h4⟩:=h;exact ⟨ba,bb,pa,la,ca,pb,lb,cb,h1,⟨h2.row,h2.iH,h2.bn,h2.kids,h2.fine⟩,⟨h3.row,h3.iH,h3.bn,h3.kids,h3.fine⟩,B.aP h4⟩
theorem LC(A:Nat→Addr)(b:Nat)(n:SN)(pv lv cv:Value)(w:World)(h:dP w b n pv lv cv)(h0:n.us.length=0)(h2:2≤n.ps.length)(hE:jC A w):Calls prog 129 #[.pointer (some ⟨b,0,none⟩)] w fun e w'=>∃ (i:Nat) (k v:ByteArray),dt (ju (nO n.ps)) ((nO n.ps).length - 1) i∧n.ps[i]?=some (k,v)∧ze w ⟨n.ps.take i,0,[],[]⟩ k ⟨n.ps.drop i,0,[],[]⟩ e w':=by
 have HL:=ab (cG b n pv lv cv w h);rw [show decide (n.us.length=0)=true by simp [h0]] at HL
 have zl:Hid (Calls prog 169 #[pv] w fun e w'=>∃ (i:Nat) (mP sQ:Option Addr) (mO mh:Nat),e = .returned (.tuple #[.slice mP (n.ps.take i).length mO,.slice sQ (n.ps.drop i).length mh,.nilIface])∧dt (ju (nO n.ps)) ((nO n.ps).length - 1) i∧gM w' (.slice mP (n.ps.take i).length mO) (n.ps.take i)∧gM w' (.slice sQ (n.ps.drop i).length mh) (n.ps.drop i)∧Below w.heap.size w w'):=by
  refine (P1 A pv n.ps w h.okL (by have:=h.fine.2.1;omega) h.iH hE).mono fun e w' hh=>?_
  obtain ⟨⟨i,cc,u1,u2,ev,h1,ue,fl,h3⟩,hb⟩:=hh;have QJ:ik (CO n.ps):=fun j hj=>by
   have lY:j<n.ps.length:=by simpa [CO] using hj
   have:=dY (h.fine.1 n.ps[j] (aJ lY));simp only [CO,ch];unfold zG;omega
  have hlen:(CO n.ps).length=n.ps.length:=by simp [CO]
  rcases ue with ⟨g1,_,_⟩ | ⟨_,g1,_⟩ | ⟨_,_,oS,qQ⟩
  ·rw [hlen] at g1;omega
  ·exact absurd QJ g1
  ·subst qQ;rcases h3 with ⟨_,o1,o2,_⟩ | ⟨cY,_⟩
   ·have Cm:=mr fl;subst Cm;obtain ⟨a1,c1,e1⟩:=o1.form;obtain ⟨a2,c2,e2⟩:=o2.form;subst e1 e2;exact ⟨i,a1,a2,c1,c2,h1,oS,o1.at,o2.at,hb⟩
   ·exact absurd rfl cY
 have p0:=h.c0;have HF:=ab h.fine;clear h h0 hE;go_enter func129,ntmps129;go_wp2_with fail;refine HL.out.mono ?_
 rintro e w1 ⟨rfl,rfl⟩;clear HL;go_wp2_with fail;refine zl.out.mono ?_
 rintro e w2 ⟨i,mP,sQ,mO,mh,rfl,oS,fX,iM,aV⟩;have Mh:=oS.1;have nP:(nO n.ps).length=n.ps.length:=by simp [nO]
 rw [nP] at Mh;have jE:0<(n.ps.drop i).length:=by rw [al];omega
 have Vh:=iM;obtain ⟨a2',Yd,he2,_,_,bq⟩:=iM;obtain ⟨g,o,hg,c1,_⟩:=bq 0 jE;cases he2;subst hg;obtain ⟨k,v,hkv⟩ : ∃ k v,n.ps[i]?=some (k,v):=⟨_,_,af (show i<n.ps.length by omega)⟩
 have Mg:((n.ps.drop i)[0]'jE).1=k:=by
  have e1:(n.ps.drop i)[0]?=some (k,v):=by rw [bZ,Nat.add_zero];exact hkv
  rw [af jE] at e1;rw [Option.some.inj e1]
 rw [Mg,Nat.zero_mul,Nat.add_zero] at c1;obtain ⟨N1,J9⟩ : ∃ N,N=(n.ps.take i).length:=⟨_,rfl⟩;obtain ⟨N2,J8⟩ : ∃ N,N=(n.ps.drop i).length:=⟨_,rfl⟩;have iM:gM w2 (.slice (some ⟨g,o,none⟩) (n.ps.drop i).length mh) (n.ps.drop i):=Vh;rw [← J9] at fX ⊢;rw [← J8] at iM jE ⊢;have nT:=ab fX;have pe:=ab iM;have bL:=ab aV;have BI:=ab oS;have HKV:=ab hkv;have Qy:(0:Int)<(N2:Int):=by omega
 have sO:Hid (((∀ p ∈ n.ps.take i,cQ p=true)∧(n.ps.take i).length≤4000∧(∀ p ∈ n.ps.drop i,cQ p=true)∧(n.ps.drop i).length≤4000)):=⟨fun p hp=>HF.out.1 p (bJ hp),by rw [ag];have:=HF.out.2.1;omega,fun p hp=>HF.out.1 p (bK hp),by rw [al];have:=HF.out.2.1;omega⟩
 have QG:=World.block_lt_of_cell? w2 _ c1;have t1:=((ai w2 (.cells #[.slice mP N1 mO,.int .i64 0,.slice none 0 0,.slice none 0 0] 155)).cell (p:=⟨g,o,none⟩) QG).trans c1;have t2:=((ai w2 (.cells #[.slice (some ⟨g,o,none⟩) N2 mh,.int .i64 0,.slice none 0 0,.slice none 0 0] 155)).cell (p:=⟨g,o,none⟩) QG).trans c1;have t3:=((ai (w2.alloc (.cells #[.slice mP N1 mO,.int .i64 0,.slice none 0 0,.slice none 0 0] 155)) (.cells #[.slice (some ⟨g,o,none⟩) N2 mh,.int .i64 0,.slice none 0 0,.slice none 0 0] 155)).cell (p:=⟨g,o,none⟩) (World.block_lt_of_cell? _ _ t1)).trans t1;have t4:=((ai (w2.alloc (.cells #[.slice (some ⟨g,o,none⟩) N2 mh,.int .i64 0,.slice none 0 0,.slice none 0 0] 155)) (.cells #[.slice mP N1 mO,.int .i64 0,.slice none 0 0,.slice none 0 0] 155)).cell (p:=⟨g,o,none⟩) (World.block_lt_of_cell? _ _ t2)).trans t2;clear zl fX iM aV oS hkv Mh nP bq Mg J9 J8 p0;go_wp2_with fail;go_region
 all_goals first
  | (have qa:=ai w2 (.cells #[.slice mP N1 mO,.int .i64 0,.slice none 0 0,.slice none 0 0] 155)
     have qb:=ai (w2.alloc (.cells #[.slice mP N1 mO,.int .i64 0,.slice none 0 0,.slice none 0 0] 155)) (.cells #[.slice (some ⟨g,o,none⟩) N2 mh,.int .i64 0,.slice none 0 0,.slice none 0 0] 155);have xa:=(B.au.new w2 #[.slice mP N1 mO,.int .i64 0,.slice none 0 0,.slice none 0 0] 155).below qb;have xb:=B.au.new (w2.alloc (.cells #[.slice mP N1 mO,.int .i64 0,.slice none 0 0,.slice none 0 0] 155)) #[.slice (some ⟨g,o,none⟩) N2 mh,.int .i64 0,.slice none 0 0,.slice none 0 0] 155;have sa:(w2.alloc (.cells #[.slice mP N1 mO,.int .i64 0,.slice none 0 0,.slice none 0 0] 155)).heap.size=w2.heap.size+1:=by simp
     rw [sa] at xb;have FZ:Hid (ze w ⟨n.ps.take i,0,[],[]⟩ k ⟨n.ps.drop i,0,[],[]⟩ (.returned (.tuple #[.pointer (some ⟨w2.heap.size,0,none⟩),.string k,.pointer (some ⟨w2.heap.size+1,0,none⟩)])) ((w2.alloc (.cells #[.slice mP N1 mO,.int .i64 0,.slice none 0 0,.slice none 0 0] 155)).alloc (.cells #[.slice (some ⟨g,o,none⟩) N2 mh,.int .i64 0,.slice none 0 0,.slice none 0 0] 155))):=⟨_,_,_,_,_,_,_,_,rfl,⟨xa,(nT.out.below qa).below qb,B.dm.nil _,(C.b9.nil _ 0).at,sO.out.1,sO.out.2.1,(fun p hp=>by simp at hp),by simp,by simp⟩,⟨xb,(pe.out.below qa).below qb,B.dm.nil _,(C.b9.nil _ 0).at,sO.out.2.2.1,sO.out.2.2.2,(fun p hp=>by simp at hp),by simp,by simp⟩,Below.next (Below.next bL.out qa) qb⟩
     clear qa qb xa xb sa;go_wp2;go_ret3;exact ⟨i,k,v,BI.out,HKV.out,FZ.out.drew⟩)
  | (have qa:=ai w2 (.cells #[.slice (some ⟨g,o,none⟩) N2 mh,.int .i64 0,.slice none 0 0,.slice none 0 0] 155)
     have qb:=ai (w2.alloc (.cells #[.slice (some ⟨g,o,none⟩) N2 mh,.int .i64 0,.slice none 0 0,.slice none 0 0] 155)) (.cells #[.slice mP N1 mO,.int .i64 0,.slice none 0 0,.slice none 0 0] 155);have xa:=(B.au.new w2 #[.slice (some ⟨g,o,none⟩) N2 mh,.int .i64 0,.slice none 0 0,.slice none 0 0] 155).below qb;have xb:=B.au.new (w2.alloc (.cells #[.slice (some ⟨g,o,none⟩) N2 mh,.int .i64 0,.slice none 0 0,.slice none 0 0] 155)) #[.slice mP N1 mO,.int .i64 0,.slice none 0 0,.slice none 0 0] 155;have sa:(w2.alloc (.cells #[.slice (some ⟨g,o,none⟩) N2 mh,.int .i64 0,.slice none 0 0,.slice none 0 0] 155)).heap.size=w2.heap.size+1:=by simp
     rw [sa] at xb;have FZ:Hid (ze w ⟨n.ps.take i,0,[],[]⟩ k ⟨n.ps.drop i,0,[],[]⟩ (.returned (.tuple #[.pointer (some ⟨w2.heap.size+1,0,none⟩),.string k,.pointer (some ⟨w2.heap.size,0,none⟩)])) ((w2.alloc (.cells #[.slice (some ⟨g,o,none⟩) N2 mh,.int .i64 0,.slice none 0 0,.slice none 0 0] 155)).alloc (.cells #[.slice mP N1 mO,.int .i64 0,.slice none 0 0,.slice none 0 0] 155))):=⟨_,_,_,_,_,_,_,_,rfl,⟨xb,(nT.out.below qa).below qb,B.dm.nil _,(C.b9.nil _ 0).at,sO.out.1,sO.out.2.1,(fun p hp=>by simp at hp),by simp,by simp⟩,⟨xa,(pe.out.below qa).below qb,B.dm.nil _,(C.b9.nil _ 0).at,sO.out.2.2.1,sO.out.2.2.2,(fun p hp=>by simp at hp),by simp,by simp⟩,Below.next (Below.next bL.out qa) qb⟩
     clear qa qb xa xb sa;go_wp2;go_ret3;exact ⟨i,k,v,BI.out,HKV.out,FZ.out.drew⟩)
end T
namespace C
theorem dm.take{w:World}{a:Option Addr}{n m cap:Nat}{l:List Lk}(h:dm w (.slice a n cap) l)(hm:m≤n):dm w (.slice a m cap) (l.take m):=by
 unfold dm at *;rw [B8];exact lF.take h hm
theorem ZW(w:World)(a:Option Addr)(n cap m:Nat)(hm:m≤cap):(Instr.sliceAt 153 (.slice a n cap) none (some (.int .i64 (m:Int))) none).run prog w = .ok (.slice a m cap) w:=by
 rw [run_sliceAt_slice (h:=underlying153),run_slice_h (ht:=underlying153) (h0:=by omega) (h2:=by omega)]
 have hz:(sizeOf (prog.elem 153)).run prog w = .ok 1 w:=by kernel_rfl
 rw [hz];simp [Result.andThen,sliced,Addr.add]
theorem dm.drop{w:World}{a:Option Addr}{n m cap:Nat}{l:List Lk}(h:dm w (.slice a n cap) l)(hm:m≤n):∃ a',dm w (.slice a' (n - m) (cap - m)) (l.drop m)∧∀ w',(Instr.sliceAt 153 (.slice a n cap) (some (.int .i64 (m:Int))) none none).run prog w' = .ok (.slice a' (n - m) (cap - m)) w':=by
 obtain ⟨a',eO,he,hle,hn,hc⟩:=h;cases he;have Ba:(bn l).length=l.length:=eo l;refine ⟨if cap=m then a else a.map (·.add m),⟨_,_,by rw [show (bn (l.drop m)).length=l.length - m by rw [eo,al],Ba],by rw [eo,al];omega,fun ha=>?_,fun j u hj=>?_⟩,fun w'=>?_⟩
 ·split at ha
  ·omega
  ·cases a with
   | none=>have:=hn rfl;omega
   | some x=>cases ha
 ·rw [PT,bZ] at hj;have bO:=(List.getElem?_eq_some_iff.1 hj).1;obtain ⟨g,o,ha,h1⟩:=hc (m+j) u hj;subst ha;refine ⟨g,o+m,?_,?_⟩
  ·rw [if_neg (show ¬ cap=m by omega)];simp [bh]
  ·rw [show o+m+j=o+(m+j) by omega];exact h1
 ·rw [run_sliceAt_slice (h:=underlying153),run_slice_l (ht:=underlying153) (h0:=by omega) (h1:=by omega)]
  have hz:(sizeOf (prog.elem 153)).run prog w' = .ok 1 w':=by kernel_rfl
  rw [hz];simp [Result.andThen,sliced]
end C
namespace B
theorem GW(B g o n cap p:Nat)(a b x:Int)(w:World)(hB:w.cell? ⟨B,0,none⟩=some (.slice (some ⟨g,o,none⟩) n cap))(hp:p<n)(hx:w.cell? ⟨g,o+p,none⟩=some (.int .i64 x))(ha:0≤a∧a≤1152921504606846976)(hb:0≤b - x∧b - x≤1152921504606846976):Calls prog 238 #[.int .i64 (p:Int),.int .i64 a,.int .i64 b,.pointer (some ⟨B,0,none⟩)] w fun e w'=>e = .returned (.int .i64 ((a - (b - x)).natAbs:Int))∧w=w':=by
 have HD:=ab (Fm a (b - x) w ha hb);have hw:IntKind.i64.wrap (b - x)=b - x:=pq _ (by omega) (by omega)
 have Y5:(p:Int)<(n:Int):=by omega
 clear ha hb;go_enter func238,ntmps238;go_wp2_with (go_at_call 237;refine HD.out.mono ?_;rintro e w' ⟨rfl,rfl⟩)
 go_ret;exact ⟨rfl,rfl⟩
theorem MH(A:Nat→Addr)(B g o cap m n:Nat)(l:List Int)(w:World)(hmn:n≤17592186044416)(fo:1≤m)(hn:n=m+2)(e1:l.length=n)(dj:n≤cap)(hE:dI 4 fe A w)(h1:∀ j (h:j<l.length),w.cell? ⟨g,o+j,none⟩=some (.int .i64 l[j]))(hB:w.cell? ⟨B,0,none⟩=some (.slice (some ⟨g,o,none⟩) n cap)):Calls prog 235 #[.slice (some ⟨g,o,none⟩) n cap,.int .i64 3,.func (.func 238) #[] #[.pointer (some ⟨B,0,none⟩)]] w fun e w'=>((ik l∧∃ i:Nat,e = .returned (.tuple #[.int .i64 (i:Int),.nilIface])∧dt (jt l) m i)∨(¬ ik l∧e = .returned (.tuple #[.int .i64 0,.iface 360 (.pointer (some (A 0)))])))∧Below w.heap.size w w':=by
 have c0:w.cell? ⟨0,0,none⟩=some (.iface 360 (.pointer (some (A 0)))):=(hE.1 0 (by decide)).1
 have HS:=ab (Ji (some ⟨g,o,none⟩) cap n l w (by omega) e1 (fun j h=>⟨g,o,rfl,h1 j h⟩))
 have hm:m≤17592186044416:=by omega
 have HE:Hid (l.length=n):=e1;have HN:Hid (n=m+2):=hn;have H1:=ab h1;have Sg:=ab (gP l);have HB:=ab hB;have hnI:(n:Int)=(m:Int)+2:=by omega
 have vQ:IntKind.i64.wrap ((n:Int) - 3)=(m:Int) - 1:=by rw [IntKind.wrap_i64];omega
 have qO:IntKind.i64.wrap ((m:Int) - 1+1)=(m:Int):=by rw [IntKind.wrap_i64];omega
 have bO:¬ (n:Int)<3:=by omega
 have hmc:(m:Int)≤(cap:Int):=by omega
 have hm0:(0:Int)≤(m:Int):=by omega
 clear e1 hn h1 hE hnI hmn hB;by_cases hF:ik l
 ·have HT:=ab (gV hF n (by have:=HE.out;omega))
  have HF:=ab hF;have mT:Hid (Calls prog 254 #[.slice (some ⟨g,o,none⟩) n cap] w fun e w'=>e = .returned (.tuple #[.int .i64 (pre l n),.bool true])∧w=w'):=by
   refine HS.out.mono ?_
   rintro e w' ⟨h | h,rfl⟩
   ·exact ⟨h.2,rfl⟩
   ·exact absurd hF h.1
  obtain ⟨T,hT⟩ : ∃ T,T=pre l n:=⟨_,rfl⟩;rw [← hT] at mT HT;have Wl:=ab hT;clear hT HS c0 hF;go_enter func235,ntmps235;go_wp2_with (go_at_call 254;refine mT.out.mono ?_;rintro e w' ⟨rfl,rfl⟩)
  go_loop [8,10,11,12,38] (fun re be le ah i=>∃ (k l6:Nat) (least:Int),k≤m∧i = .int .i64 k∧re = .int .i64 (T - pre l k)∧be = .int .i64 (l6:Int)∧le = .int .i64 least∧ah = .int .i64 (pre l k)∧((k=0∧l6=0∧least=T)∨(1≤k∧dt (jt l) k l6∧least=jt l l6))) (fun _ _ _ _ i=>m - (intOf i).toNat)
  case atStart=>exact ⟨0,0,T,aB _,rfl,by rw [Sg.out,Int.sub_zero],rfl,rfl,by rw [Sg.out],.inl ⟨rfl,rfl,rfl⟩⟩
  case round =>
   obtain ⟨k,l6,least,hk,rfl,rfl,rfl,rfl,rfl,eZ⟩:=hrel;have gy:=ab eZ;clear eZ;by_cases hltk:k<m
   ·have iV:k<l.length:=by have:=HE.out;have:=HN.out;omega
    have f1:=H1.out k iV;have tg:=ab (jj l k iV);have Yr:=ab (gV HF.out k (by omega))
    have CJ:=ab (gV HF.out (k+1) (by omega))
    have Yx:=ab (gq HF.out (k+1) n (by have:=HE.out;have:=HN.out;omega) (by have:=HE.out;omega))
    obtain ⟨x,hx⟩ : ∃ x,x=l[k]:=⟨_,rfl⟩;rw [← hx] at f1 tg;obtain ⟨p,hp⟩ : ∃ p,p=pre l k:=⟨_,rfl⟩;rw [← hp] at Yr tg ⊢;obtain ⟨q,hq⟩ : ∃ q,q=pre l (k+1):=⟨_,rfl⟩;rw [← hq] at CJ tg Yx;rw [← Wl.out] at Yx;have HQ:=ab hq;have ZC:Hid ((k:Int)≤17592186044416∧4072*((k:Int)+1)≤72057594037927936):=⟨by omega,by omega⟩
    have Ym:Hid (0≤q∧q≤1152921504606846976):=⟨CJ.out.1,by have:=CJ.out.2;have:=ZC.out;omega⟩
    have uL:Hid (0≤T - q∧T - q≤1152921504606846976):=⟨by have:=Yx.out;omega,by have:=HT.out.2;have:=CJ.out.1;have:=HN.out;omega⟩
    have sS:IntKind.i64.wrap (p+x)=q:=by rw [← tg.out];exact pq _ Ym.out.1 (by have:=Ym.out;omega)
    have Sw:IntKind.i64.wrap (T - p - x)=T - q:=by rw [show T - p - x=T - q by have:=tg.out;omega];exact pq _ uL.out.1 (by have:=uL.out;omega)
    have NL:IntKind.i64.wrap ((k:Int)+1)=((k+1:Nat):Int):=by rw [IntKind.wrap_i64];omega
    have qk:k+1<l.length:=by have:=HE.out;have:=HN.out;omega
    have acI:=ab (gq HF.out (k+1+1) n (by have:=HE.out;have:=HN.out;omega) (by have:=HE.out;omega))
    have Yp:=ab (jj l (k+1) qk);have HY:=ab (HF.out (k+1) qk);rw [← Wl.out] at acI;rw [← HQ.out] at Yp;have YO:Hid (Calls prog 238 #[.int .i64 ((k+1:Nat):Int),.int .i64 q,.int .i64 (T - q),.pointer (some ⟨B,0,none⟩)] w fun e w'=>e = .returned (.int .i64 ((jt l (k+1):Nat):Int))∧w=w'):=by
     have h:=GW B g o n cap (k+1) q (T - q) l[k+1] w HB.out (by have:=HE.out;omega) (H1.out (k+1) qk) Ym.out ⟨by have:=acI.out;have:=Yp.out;omega,by have:=uL.out;have:=HY.out;omega⟩
     have e:jt l (k+1)=(q - (T - q - l[k+1])).natAbs:=by unfold jt;rw [HE.out,← Wl.out,Yp.out,← HQ.out];congr 1;omega
     rw [e];exact h
    have YJ:=ab (UB HF.out (k+1) (by omega) (by have:=HE.out;have:=HN.out;omega))
    rw [HE.out,← Wl.out] at YJ;obtain ⟨gp,XO⟩ : ∃ gp:Nat,gp=jt l (k+1):=⟨_,rfl⟩;rw [← XO] at YO YJ;have YI:=ab XO;have dE:(k:Int)<(m:Int):=by omega
    clear hx hp hq XO H1 Sg mT;by_cases hless:(gp:Int)<least
    ·have Yv:Hid (dt (jt l) (k+1) (k+1)):=by
      rcases gy.out with ⟨rfl,_,_⟩ | ⟨_,hb,he⟩
      ·exact dt.one _
      ·exact hb.Jm (by rw [← YI.out];omega)
     clear gy;go_wp2_with (go_at_call 238;refine (YO.out).mono ?_;rintro e w' ⟨rfl,rfl⟩)
     go_round
     case rel=>exact ⟨k+1,k+1,gp,by omega,rfl,by rw [← HQ.out],rfl,rfl,by rw [← HQ.out],.inr ⟨by omega,Yv.out,by rw [YI.out]⟩⟩
     case measure=>simp [intOf];omega
    ·have CK:Hid (1≤k+1∧dt (jt l) (k+1) l6∧least=jt l l6):=by
      rcases gy.out with ⟨_,_,rfl⟩ | ⟨_,hb,he⟩
      ·exact absurd YJ.out hless
      ·exact ⟨by omega,hb.Jl (by rw [← YI.out];omega),he⟩
     clear gy;go_wp2_with (go_at_call 238;refine (YO.out).mono ?_;rintro e w' ⟨rfl,rfl⟩)
     go_round
     case rel=>exact ⟨k+1,l6,least,by omega,rfl,by rw [← HQ.out],rfl,rfl,by rw [← HQ.out],.inr CK.out⟩
     case measure=>simp [intOf];omega
   ·have Md:k=m:=by omega
    have mM:Hid (dt (jt l) m l6):=by
     rcases gy.out with ⟨h0,_,_⟩ | ⟨_,hb,_⟩
     ·omega
     ·rw [← Md];exact hb
    subst Md;obtain ⟨p,hp⟩ : ∃ p,p=pre l k:=⟨_,rfl⟩;rw [← hp];clear hp gy H1 mT Sg;go_wp2;go_ret2;exact ⟨.inl ⟨HF.out,l6,rfl,mM.out⟩,Below.refl _ _⟩
 ·have mT:Hid (Calls prog 254 #[.slice (some ⟨g,o,none⟩) n cap] w fun e w'=>e = .returned (.tuple #[.int .i64 0,.bool false])∧w=w'):=by
   refine HS.out.mono ?_
   rintro e w' ⟨h | h,rfl⟩
   ·exact absurd h.1 hF
   ·exact ⟨h.2,rfl⟩
  have HF:=ab hF;clear HS hF H1 Sg;go_enter func235,ntmps235;go_wp2_with (go_at_call 254;refine mT.out.mono ?_;rintro e w' ⟨rfl,rfl⟩)
  go_quiet (fail)
  go_wp2;go_ret2;exact ⟨.inr ⟨HF.out,rfl⟩,aA (Below.refl _ _) _⟩
theorem Iw{n:Nat}{G:Nat→Nat}{A:Nat→Addr}{w w':World}(h:dI n G A w)(hb:Below w.heap.size w w'):dI n G A w':=dI.keep h hb
theorem Lo(A:Nat→Addr)(v:Value)(l:List Int)(w:World)(hm:l.length≤17592186044416)(hr:FT w v l)(hE:dI 4 fe A w):Calls prog 213 #[v] w fun e w'=>NF A 3 (jt l) l e∧Below w.heap.size w w':=by
 have Mb:∀ (fn:Fn) (first cap:Array Value) (w:World),(Instr.makeFunc fn first cap).run prog w = .ok (.func fn first cap) w:=fun _ _ _ _=>rfl
 have fc:=ai w (.cells #[v] 69);have iM:=hr.below fc;obtain ⟨a,cap,rfl,dj,_⟩:=hr;obtain ⟨a',eO,T7,_,hc⟩:=iM;cases T7;have hE2:=Iw hE fc;have hB:(w.alloc (.cells #[.slice a l.length cap] 69)).cell? ⟨w.heap.size,0,none⟩=some (.slice a l.length cap):=(bM w #[.slice a l.length cap] 69).2 0 (by simp)
 have CM:=ab fc;have H:Hid (Calls prog 235 #[.slice a l.length cap,.int .i64 3,.func (.func 238) #[] #[.pointer (some ⟨w.heap.size,0,none⟩)]] (w.alloc (.cells #[.slice a l.length cap] 69)) fun e w'=>∃ x y,e = .returned (.tuple #[x,y])∧NF A 3 (jt l) l (.returned (.tuple #[x,y]))∧Below (w.alloc (.cells #[.slice a l.length cap] 69)).heap.size (w.alloc (.cells #[.slice a l.length cap] 69)) w'):=by
  by_cases hs:l.length<3
  ·refine (Bl A a l.length cap 3 _ _ (by omega) hm hE2).mono ?_
   rintro e w' ⟨rfl,hb⟩;exact ⟨_,_,rfl,.inl ⟨hs,rfl⟩,hb⟩
  ·obtain ⟨g,o,rfl,_⟩:=hc 0 (by omega)
   refine (MH A w.heap.size g o cap (l.length - 2) l.length l _ hm (by omega) (by omega) rfl dj hE2 (fun j h=>by obtain ⟨g',o',he,bq⟩:=hc j h;cases he;exact bq) hB).mono ?_
   rintro e w' ⟨⟨hf,i,rfl,hi⟩ | ⟨hf,rfl⟩,hb⟩
   ·exact ⟨_,_,rfl,.inr (.inr ⟨by omega,hf,i,rfl,hi⟩),hb⟩
   ·exact ⟨_,_,rfl,.inr (.inl ⟨by omega,hf,rfl⟩),hb⟩
 clear hc hE dj hE2 fc;go_enter func213,ntmps213;go_wp2_with (go_at_call 235;refine H.out.mono ?_;rintro e w' ⟨x,y,rfl,hv,hb⟩;have HV:=ab hv;have mU:=ab (Below.next CM.out hb);clear hv hb)
 go_ret2;exact ⟨HV.out,mU.out⟩
end B
end Go.Proofs.YtihmgigfkmofnaaGreatDoor
