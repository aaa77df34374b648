import Derived.Test.YtihmgigfkmofnaaGreatDoorG15
set_option maxHeartbeats 1600000
set_option maxRecDepth 100000
open Go.Proofs.Tryz
namespace Go.Proofs.YtihmgigfkmofnaaGreatDoor
namespace S.V
open Go.RowKit Go.Maps
theorem wrap_i64(n:Int)(h1 : -9223372036854775808≤n)(h2:n≤9223372036854775807):IntKind.i64.wrap n=n:=by
 simp [IntKind.wrap,IntKind.bits,IntKind.signed]
 omega
theorem cU.alloc{w:World}{b:Nat}{F:Nat→Prop}{d:bw}{mb nb:Nat}{pv av:Value}{Dn:DataW Unit}(h:cU w b F d mb nb pv av Dn){w':World}(hb:Below w.heap.size w w'):cU w' b F d mb nb pv av Dn:=by
 have hk:∀ k,F k→w'.heap[k]?=w.heap[k]?:=fun k hk=>hb.block k (h.lt k hk)
 exact ⟨(hk b h.fb).trans h.dF,h.fb,h.fm,h.fn,h.ne,dL h.mapD (hk mb h.fm),dL h.rD (hk nb h.fn),h.new,fl h.aX (fun g hg=>hk g (h.pf g hg)),h.pf,
  h.eX.block (fun k _ _ hf=>hk k hf),h.ok,fun i hi=>aq (h.lt i hi) hb.size⟩
theorem De{d:bw}(h:d.Ok){j:Nat}(hj:j<d.aX.length):sj d.size d.aX[j]:=h.aX _ (aI hj)
theorem Gc{α:Type}(l:List α)(k:Nat)(h:k<l.length):l.take (k+1)=l.take k++[l[k]]:=by rw [ax h]
def sr(w:World)(b:Nat)(F:Nat→Prop)(d:bw)(w':World):Prop:=∃ F',cL w' b F' d∧Step F F' w w'
def Cm(A:Nat→Addr)(w:World)(b:Nat)(F:Nat→Prop)(d:bw):Prop:=Calls prog 101 #[.pointer (some ⟨b,0,none⟩)] w fun e w'=>e = .returned (gC A d.done.2)∧sr w b F d.done.1 w'
def ME(base:Nat)(A:Nat→Addr)(b:Nat)(eX:List FB):Prop:=∀ w F d,d.eX=eX→cL w b F d→mQ base A w→(∀ k,F k→base≤k)→d.aX.length≤140737488355328→d.dead=false→Cm A w b F d
theorem xC(base:Nat)(A:Nat→Addr)(b:Nat):ME base A b []:=by
 intro w F d ha h _ _ _ _;obtain ⟨mb,nb,pv,av,Dn,h⟩:=h;have c4:w.cell? ⟨b,4,none⟩=some av:=h.cell 4;have HH:Hid (cU w b F d mb nb pv av Dn):=h;have Qe:=h.eX;have HD:Hid (d.done=(d,0)):=by show d.done=_;unfold bw.done;rw [ha]
 obtain ⟨a,c,rfl⟩ : ∃ a c,av = .slice a 0 c:=by
  rw [ha] at Qe;rcases Qe with ⟨_,rfl⟩ | ⟨g,off,cap,cur,fv,rfl,_⟩
  ·exact ⟨_,_,rfl⟩
  ·exact ⟨_,_,rfl⟩
 unfold Cm;clear h Qe ha;go_enter func101,ntmps101;go_wp2_with fail;go_ret;rw [HD.out];exact ⟨rfl,F,⟨_,_,_,_,_,HH.out⟩,Step.refl _ _⟩
structure vY(w wr:World)(b:Nat)(F:Nat→Prop)(d:bw)(mb nb:Nat)(pv av:Value)(Dn:DataW Unit)(k:Nat):Prop where
 body:cU wr b F { d with eN:=gR d.eN (d.aX.take k) } mb nb pv av Dn
 step:Step F F w wr
theorem qk(eN l:List gN)(x:gN):gR eN (l++[x])=ri (gR eN l) x.ix x.lx:=by simp [gR,List.foldl_append]
theorem NQ(base:Nat)(A:Nat→Addr)(b:Nat)(F:Nat→Prop)(d:bw)(w:World)(h:cL w b F d)(hE:mQ base A w)(hF:∀ k,F k→base≤k)(hp:d.aX.length≤140737488355328)(PJ:ME base A b d.eX):Calls prog 63 #[.pointer (some ⟨b,0,none⟩)] w fun e w'=>e = .returned (gC A d.sync.2)∧sr w b F d.sync.1 w':=by
 obtain ⟨mb,nb,pv,av,Dn,h⟩:=h;have c5:w.cell? ⟨b,5,none⟩=some (.bool d.dead):=h.cell 5;have e7:=hE.dead;have HE:Hid (mQ base A w):=hE;have HF:Hid (∀ k,F k→base≤k):=hF;have HO:Hid (ME base A b d.eX):=PJ;have HH:Hid (cU w b F d mb nb pv av Dn):=h;cases hd:d.dead
 ·have c2:w.cell? ⟨b,2,none⟩=some pv:=h.cell 2;obtain ⟨pa,pc,rfl,PH⟩:=ib h.aX;obtain ⟨n,hn⟩ : ∃ n,n=d.aX.length:=⟨_,rfl⟩;have HN:Hid (n=d.aX.length):=hn;rw [← hn] at c2 hp PH HH;have HI:Hid (vY w w b F d mb nb (.slice pa n pc) av Dn 0):=⟨by simpa [gR] using HH.out,Step.refl _ _⟩
  rw [hd] at c5;have HS:Hid (d.sync=bw.done { d with eN:=gR d.eN d.aX,aX:=[],ns:=wrap64 (d.ns+1) }):=by show d.sync=_;unfold bw.sync;rw [hd];rfl
  clear h hE hF PJ hn e7;go_enter func63,ntmps63;go_wp2_with fail;go_loopw [15] (fun i wr=>∃ k,k≤n∧i = .int .i64 (k:Int)∧vY w wr b F d mb nb (.slice pa n pc) av Dn k) (fun i _=>n - (intOf i).toNat)
  case atStart=>exact ⟨0,aB _,rfl,HI.out⟩
  case round =>
   obtain ⟨k,hk,rfl,inv⟩:=hrel;have uX:Hid (vY w wr b F d mb nb (.slice pa n pc) av Dn k):=inv;clear inv HI;by_cases bK:k<n
   ·obtain ⟨gp,rfl⟩:=PH (by omega)
    have TG:k<d.aX.length:=by rw [← HN.out];exact bK
    obtain ⟨p0,p1⟩:=nh d.aX k TG;have p7:=uX.out.body.aX;simp only [← HN.out] at p7;have p0:=sW p7 rfl _ _ p0;have p1:=sW p7 rfl _ _ p1;have cO:=De HH.out.ok TG;obtain ⟨x,hx⟩ : ∃ x,x=d.aX[k]:=⟨_,rfl⟩;rw [← hx] at p0 p1 cO;have HX:Hid (x=d.aX[k]):=hx;clear hx p7;obtain ⟨xi,xd⟩:=x;have aS:=ai wr (.cells #[.int .i64 xi,.string xd] 93);have M:=GM (uX.out.body.alloc aS) xi xd (by rw [show xd.size=512 from cO.len];omega) cO.lo cO.hi
    rw [Ow xd cO.len] at M;have HM:Hid (Calls prog 42 #[.pointer (some ⟨b,0,none⟩),.int .i64 xi,.string xd] (wr.alloc (.cells #[.int .i64 xi,.string xd] 93)) fun e w'=>e = .returned (.tuple #[])∧cU w' b F { d with eN:=ri (gR d.eN (d.aX.take k)) xi xd } mb nb (.slice (some ⟨gp,0,none⟩) n pc) av Dn∧(wr.alloc (.cells #[.int .i64 xi,.string xd] 93)).grownBy w' (some mb)):=M
    have bG:Hid _:=aS;clear M cO aS;go_wp2_with fail;refine HM.out.mono ?_
    rintro e w4 ⟨rfl,h4,s4⟩;have V:vY w w4 b F d mb nb (.slice (some ⟨gp,0,none⟩) n pc) av Dn (k+1):=by
     refine ⟨?_,(uX.out.step.trans (Step.bo bG.out)).trans ((uX.out.body.alloc bG.out).step s4)⟩;rw [Gc _ k TG,qk,← HX.out];exact h4
    clear HM bG uX h4 s4 p0 p1;go_wp2_with fail;go_roundw
    case rel=>exact ⟨k+1,by omega,by go_num,V⟩
    case measure=>simp [intOf];omega
   ·have Lo:k=d.aX.length:=by rw [← HN.out];omega
    have V:=uX.out.body;rw [Lo,al (aj _)] at V;have D:=Qz b F _ wr ⟨_,_,_,_,_,V⟩;have HD:Hid (Calls prog 100 #[.pointer (some ⟨b,0,none⟩)] wr fun e w'=>e = .returned (.tuple #[])∧cL w' b (fun k=>F k∨k=wr.heap.size) { d with eN:=gR d.eN d.aX,aX:=[] }∧Step F (fun k=>F k∨k=wr.heap.size) wr w'):=D
    clear D V Lo;go_wp2_with fail;refine HD.out.mono ?_
    rintro e w4 ⟨rfl,h4,s4⟩;have cO:=h4.ok;obtain ⟨mb4,nb4,pv4,av4,Dn4,h4⟩:=h4;have k8:w4.cell? ⟨b,8,none⟩=some (.int .i64 d.ns):=h4.cell 8;have f8:=h4.frozen 8;obtain ⟨h5,s5⟩:=h4.set (d':={ d with eN:=gR d.eN d.aX,aX:=[],ns:=wrap64 (d.ns+1) }) 8 (.int .i64 (wrap64 (d.ns+1))) rfl rfl rfl rfl ⟨cO.s0,cO.s1,cO.eN,cO.rise,cO.aX,cO.eX⟩;have S5:Step F (fun k=>F k∨k=wr.heap.size) w (w4.setCell ⟨b,8,none⟩ (.int .i64 (wrap64 (d.ns+1)))):=(uX.out.step.trans s4).trans s5
    have O:=HO.out _ _ { d with eN:=gR d.eN d.aX,aX:=[],ns:=wrap64 (d.ns+1) } rfl ⟨_,_,_,_,_,h5⟩ (HE.out.step S5 HF.out) (S5.ge HF.out HE.out.size) (aB _) hd;have jE:Hid (Cm A (w4.setCell ⟨b,8,none⟩ (.int .i64 (wrap64 (d.ns+1)))) b (fun k=>F k∨k=wr.heap.size) { d with eN:=gR d.eN d.aX,aX:=[],ns:=wrap64 (d.ns+1) }):=O
    have sG:Hid (Step F (fun k=>F k∨k=wr.heap.size) w (w4.setCell ⟨b,8,none⟩ (.int .i64 (wrap64 (d.ns+1))))):=S5
    clear HD h4 h5 s4 s5 S5 O cO uX;go_wp2_with fail;refine jE.out.mono ?_
    rintro e w6 ⟨rfl,F6,h6,s6⟩;have HR:Hid (sr w b F d.sync.1 w6):=by rw [HS.out];exact ⟨F6,h6,sG.out.trans s6⟩
    have HV:Hid (bw.done { d with eN:=gR d.eN d.aX,aX:=[],ns:=wrap64 (d.ns+1) }=d.sync):=HS.out.symm;rw [HV.out];clear jE sG HS h6 s6;go_wp2_with fail;go_ret;exact ⟨rfl,HR.out⟩
 ·rw [hd] at c5;have HS:Hid (d.sync=(d,8)):=by show d.sync=_;unfold bw.sync;rw [hd];rfl
  clear h hE hF PJ;go_enter func63,ntmps63;go_wp2_with fail;go_ret;rw [HS.out];exact ⟨rfl,F,⟨_,_,_,_,_,HH.out⟩,Step.refl _ _⟩
theorem Tryz.info93:(prog.info? 93).map (fun i=>(i.zero,i.size,i.bytes))=some (some (.agg #[.int .i64 0,.string ⟨#[]⟩]),2,24):=by kernel_rfl
theorem OL{D:DataW Unit}{l:List gN}(h:Up D l)(hD:Maps.IsMap D)(x:gN):Up (D.put (.int .i64 x.ix) (.lit (.int .i64 (l.length:Int)))) (l++[x]):=by
 intro i;have hk:WideAt.IsKeyLit (.int .i64 x.ix):=trivial;rw [lN];by_cases e:x.ix=i
 ·subst e;refine ⟨by rw [Maps.has_put_same hD hk,if_pos rfl];rfl,fun k RP=>?_⟩
  rw [if_pos rfl] at RP;rw [Maps.atKey_put_same hD hk,← Option.some.inj RP]
 ·have ne:(Lit.int .i64 i)≠.int .i64 x.ix:=fun h=>e (by simpa using h.symm)
  rw [if_neg e];refine ⟨by rw [Maps.has_put_other ne];exact (h i).1,fun k RP=>?_⟩
  rw [Maps.atKey_put_other ne];exact (h i).2 k RP
theorem cU.V2{w w1 w2 w3:World}{b:Nat}{F:Nat→Prop}{d:bw}{mb nb:Nat}{pv av:Value}{Dn:DataW Unit}(h:cU w b F d mb nb pv av Dn)(x:gN)(hx:sj d.size x)(hm:w1.ownsMap prog 3 (plainElem prog 3) nb (d.aX.length+1) (Dn.put (.int .i64 x.ix) (.lit (.int .i64 (d.aX.length:Int)))))(fO:w.grownBy w1 (some nb))(g cap:Nat)(hr:w2.ownsRow 0 93 2 (.slice (some ⟨g,0,none⟩) (d.aX.length+1) cap) (d.aX.length+1) (fF (d.aX++[x])))(vo:w1.grownBy w2 pv.ownBlock)(rR:pv.ownBlock=some g∨w.heap.size≤g)(MV:w3=w2.setCell ⟨b,2,none⟩ (.slice (some ⟨g,0,none⟩) (d.aX.length+1) cap)):cU w3 b (fun k=>F k∨k=g) { d with aX:=d.aX++[x] } mb nb (.slice (some ⟨g,0,none⟩) (d.aX.length+1) cap) av (Dn.put (.int .i64 x.ix) (.lit (.int .i64 (d.aX.length:Int))))∧Step F (fun k=>F k∨k=g) w w3:=by
 have FH:∀ k,pv.ownBlock=some k→k<w.heap.size∧∃ cur,w.heap[k]?=some (.cells cur 93 (0,0)):=fun k hk=>(eD h.aX k hk).2
 have b8:w2.heap.size=w3.heap.size:=by rw [MV];simp [World.setCell]
 have jv:w.heap.size≤w2.heap.size:=ar fO.size vo.size;have dH:∀ k,k<w.heap.size→k≠b→k≠nb→some k≠pv.ownBlock→w3.heap[k]?=w.heap[k]?:=fun k h1 h2 h3 h4=>by
  rw [MV,Below.heap_setCell w2 ⟨b,2,none⟩ _ k h2,vo.block k (aq h1 fO.size) h4,fO.block k h1 (fun e=>h3 (Option.some.inj e))]
 have M3:some b≠pv.ownBlock:=fun e=>by
  obtain ⟨_,cur,hc⟩:=FH b e.symm;rw [h.dF] at hc;simp at hc
 have WB:∀ m n R D,w.ownsMap prog 3 R m n D→some m≠pv.ownBlock:=fun m n R D hm e=>by
  obtain ⟨_,cur,hc⟩:=FH m e.symm;exact ep hm hc rfl
 have fi:b≠nb:=ep h.rD h.dF;have Cu:b≠mb:=ep h.mapD h.dF;have zr:∀ k (cur:Array Value) (e:TypeId),w.heap[k]?=some (Obj.cells cur e (0,0))→e≠142→e≠93→w3.heap[k]?=w.heap[k]?:=fun k cur e hk h1 h2=>by
  refine dH k (Array.getElem?_eq_some_iff.1 hk).1 (fun hb=>?_) (ep h.rD hk) (fun he=>?_)
  ·rw [hb,h.dF] at hk;simp at hk;exact h1 hk.2.symm
  ·obtain ⟨_,c,hc⟩:=FH k he.symm;rw [hk] at hc;simp at hc;exact h2 hc.2
 have aS:w2.heap[b]?=w.heap[b]?:=by
  rw [vo.block b (aq (Array.getElem?_eq_some_iff.1 h.dF).1 fO.size) M3,fO.block b (Array.getElem?_eq_some_iff.1 h.dF).1 (fun e=>fi (Option.some.inj e))]
 have il:g≠b:=fun e=>by
  rcases rR with h' | h'
  ·exact M3 (by rw [h',e])
  ·have:=(Array.getElem?_eq_some_iff.1 h.dF).1;omega
 refine ⟨⟨?_,.inl h.fb,.inl h.fm,.inl h.fn,h.ne,dL h.mapD (dH mb h.mapD.lt Cu.symm h.ne (WB _ _ _ _ h.mapD)),?_,OL h.new h.rD.isMap x,?_,?_,?_,?_,?_⟩,?_⟩
 ·rw [MV];unfold World.setCell;simp only [dM,if_true];rw [aS,h.dF];rfl
 ·have:=dL hm (w':=w3) (by
   rw [MV,Below.heap_setCell w2 ⟨b,2,none⟩ _ nb fi.symm,vo.block nb hm.lt (WB _ _ _ _ h.rD)])
  simpa using this
 ·have:=fl hr (w':=w3) fun k hk=>by
   simp only [Value.ownBlock,Option.some.injEq] at hk;rw [MV,Below.heap_setCell w2 ⟨b,2,none⟩ _ k (by rw [← hk];exact il)]
  simpa using this
 ·intro k hk;simp only [Value.ownBlock,Option.some.injEq] at hk;exact .inr hk.symm
 ·exact (h.eX.block fun k cur hk _=>by
   rcases hk with hk | hk
   ·exact zr k cur _ hk (by decide) (by decide)
   ·exact zr k cur _ hk (by decide) (by decide)).imp fun k hk=>.inl hk
 ·refine ⟨h.ok.s0,h.ok.s1,h.ok.eN,h.ok.rise,fun y hy=>?_,h.ok.eX⟩
  rcases List.mem_append.1 hy with e | e
  ·exact h.ok.aX y e
  ·rw [List.mem_singleton.1 e];exact hx
 ·intro i hi;rw [← b8];rcases hi with hi | hi
  ·exact aq (h.lt i hi) jv
  ·rw [hi];exact (eD hr g rfl).2.1
 ·refine ⟨?_,?_,?_,by omega,fun k hk hn=>dH k hk (fun e=>hn (by rw [e];exact h.fb)) (fun e=>hn (by rw [e];exact h.fn)) (fun e=>hn (h.pf k e.symm)),fun k hk=>hk.elim .inl fun e=>?_⟩
  ·rw [MV];exact vo.os.trans fO.os
  ·rw [MV];exact vo.tape.trans fO.tape
  ·rw [MV];exact vo.output.trans fO.output
  ·rcases rR with h' | h'
   ·exact .inl (by rw [e];exact h.pf g h')
   ·exact .inr (by omega)
def UE(w:World)(F:Nat→Prop)(v:Value)(l:List UInt8):Prop:=∃ a cap g,v = .slice a l.length cap∧l.length≤cap∧l.length≤140737488355328∧(0<l.length→a=some ⟨g,0,none⟩∧¬ F g)∧∀ j (h:j<l.length),w.cell? ⟨g,j,none⟩=some (.int .u8 (l[j].toNat:Int))
theorem JY{x:Int}(h1 : -9223372036854775808≤x)(h2:x≤9223372036854775807):wrap64 x=x:=by unfold wrap64;omega
theorem EZ{w:World}{g:Nat}{l:List UInt8}(hc:∀ j (h:j<l.length),w.cell? ⟨g,j,none⟩=some (.int .u8 (l[j].toNat:Int)))(k:Nat)(hk:(k+1)*512≤l.length)(cap:Nat):(convert 145 9 (.slice (some ⟨g,k*512,none⟩) 512 cap)).run prog w = .ok (.string (GJ ((l.drop (k*512)).take 512))) w:=by
 have hl:((l.drop (k*512)).take 512).length=512:=by rw [ag,ao];omega
 have h:=run_convert_bytes_back (P:=prog) w 145 9 5 ⟨g,k*512,none⟩ cap ((l.drop (k*512)).take 512) underlying145 underlying5 underlying9 (fun j hj=>by
  rw [Addr.add_mid];have:=hc (k*512+j) (by omega)
  simpa using this)
 rw [hl] at h;exact h
structure JI(w wr:World)(b:Nat)(F F':Nat→Prop)(d:bw)(s:Int)(l:List UInt8)(k:Nat):Prop where
 dev:cL wr b F' { d with aX:=d.aX++chunks s l k }
 step:Step F F' w wr
theorem JX(base:Nat)(A:Nat→Addr)(b:Nat)(F:Nat→Prop)(d:bw)(w:World)(h:cL w b F d)(hE:mQ base A w)(hF:∀ k,F k→base≤k)(s:Int)(v:Value)(l:List UInt8)(hv:UE w F v l)(hp:d.aX.length+l.length / 512≤5864062014805)(PJ:ME base A b d.eX):Calls prog 98 #[.pointer (some ⟨b,0,none⟩),.int .i64 s,v] w fun e w'=>e = .returned (gC A (d.write s l).2)∧sr w b F (d.write s l).1 w':=by
 have HK:Hid (cL w b F d):=h;obtain ⟨a,cap,g,rfl,cT,hlen,hag,bm⟩:=hv;obtain ⟨L,hL⟩ : ∃ L,L=l.length:=⟨_,rfl⟩;have HL:Hid (L=l.length):=hL;have q1:((L:Int) / 512)=((L / 512:Nat):Int):=by omega
 have q2:((L:Int) % 512)=((L % 512:Nat):Int):=by omega
 have H0:=AR b F d s ((L / 512:Nat):Int) w h (by omega)
 obtain ⟨mb,nb,pv,av,Dn,h⟩:=h;have c5:w.cell? ⟨b,5,none⟩=some (.bool d.dead):=h.cell 5;have e7:=hE.dead;have e0:=hE.arg;have HE:Hid (mQ base A w):=hE;have HF:Hid (∀ k,F k→base≤k):=hF;have HO:Hid (ME base A b d.eX):=PJ;have HP:Hid (d.aX.length+L / 512≤5864062014805):=by rw [hL];exact hp
 have HC:Hid (∀ j (h:j<l.length),w.cell? ⟨g,j,none⟩=some (.int .u8 (l[j].toNat:Int))):=bm;have HW:Hid (d.write s l=if d.dead then (d,8) else if L=0∨L % 512≠0∨d.fits s (L / 512:Nat)=false then (d,1) else bw.done { d with aX:=d.aX++chunks s l (L / 512),nw:=wrap64 (d.nw+(L / 512:Nat)) }):=by rw [hL];rfl
 rw [← hL] at cT hlen hag;rw [← hL];generalize hfits:d.fits s (L / 512:Nat)=fb at *;have yY:Hid (d.fits s (L / 512:Nat)=fb):=hfits;have ML:Hid (Calls prog 41 #[.pointer (some ⟨b,0,none⟩),.int .i64 s,.int .i64 ((L / 512:Nat):Int)] w fun e w'=>e = .returned (.bool fb)∧w=w'):=H0
 obtain ⟨n,hn⟩ : ∃ n,n=L / 512:=⟨_,rfl⟩;obtain ⟨m,hm⟩ : ∃ m,m=L % 512:=⟨_,rfl⟩;rw [← hn] at q1 ML yY HP HW;rw [← hm] at q2 HW;have JQ:Hid (L=n*512+m∧m<512):=⟨by omega,by omega⟩
 clear h hE hF PJ hL bm H0 hfits hp hn hm;cases hd:d.dead
 ·rw [hd] at c5;by_cases b1:n=0
  ·have HR:Hid (d.write s l=(d,1)):=by
    show d.write s l=_
    rw [HW.out,hd,if_neg (by simp),if_pos]
    have:=JQ.out;by_cases e:L=0
    ·exact .inl e
    ·exact .inr (.inl (by omega))
   have t1:((n:Int) == 0)=true:=by simp [b1]
   clear HW b1 JQ;go_enter func98,ntmps98;go_wp2_with fail;go_ret;rw [HR.out];exact ⟨rfl,F,HK.out,Step.refl _ _⟩
  ·have t1:((n:Int) == 0)=false:=by simp;omega
   by_cases b2:m=0
   ·subst b2;cases fb
    ·have HR:Hid (d.write s l=(d,1)):=by
      show d.write s l=_
      rw [HW.out,hd,if_neg (by simp),if_pos (.inr (.inr rfl))]
     clear HW b1 JQ;go_enter func98,ntmps98;go_wp2_with (go_at_call 41;refine ML.out.mono ?_;rintro e w' ⟨rfl,rfl⟩)
     go_ret;rw [HR.out];exact ⟨rfl,F,HK.out,Step.refl _ _⟩
    ·have HR:Hid (d.write s l=bw.done { d with aX:=d.aX++chunks s l n,nw:=wrap64 (d.nw+(n:Int)) }):=by
      show d.write s l=_
      rw [HW.out,hd,if_neg (by simp),if_neg]
      have:=JQ.out;rintro (h | h | h)
      ·omega
      ·exact h rfl
      ·cases h
     have Jv:L=n*512:=by have:=JQ.out;omega
     clear HW JQ;go_enter func98,ntmps98;go_wp2_with (go_at_call 41;refine ML.out.mono ?_;rintro e w' ⟨rfl,rfl⟩)
     have HLn:Hid (L=n*512):=Jv;have HI:Hid (JI w w b F F d s l 0):=⟨by simpa [chunks] using HK.out,Step.refl _ _⟩
     obtain ⟨adU,aaC⟩:=hag (by omega)
     subst adU;have eM:=yY.out;simp only [bw.fits,decide_eq_true_eq] at eM;have ke:=HK.out.ok.s1;have adI:0≤s:=eM.1;have Ha:s≤d.size - (n:Int):=eM.2.2;have aeT:Hid (l.length=n*512):=by show l.length=_;rw [← HL.out];exact Jv
     obtain ⟨i0,hi,mV,mU,py⟩:=info_parts Tryz.info93;clear Jv hag c5 e7 e0 ML yY q1 q2 t1;go_loopw [35] (fun i wr=>∃ k F',k≤n∧i = .int .i64 (k:Int)∧JI w wr b F F' d s l k) (fun i _=>n - (intOf i).toNat)
     case atStart=>exact ⟨0,F,aB _,rfl,HI.out⟩
     case round =>
      obtain ⟨k,F',hk,rfl,inv⟩:=hrel;have uX:Hid (JI w wr b F F' d s l k):=inv;obtain ⟨mb',UP,Kz,av',Dn',h'⟩:=inv.dev;clear inv HI;have Ek:({ d with aX:=d.aX++chunks s l k }:bw).aX.length=d.aX.length+k:=by simp [yz]
      by_cases bK:k<n
      ·have RG:=HP.out;obtain ⟨P,hP⟩ : ∃ P,P=d.aX.length+k:=⟨_,rfl⟩;have HPP:Hid (P=d.aX.length+k):=hP;rw [← hP] at Ek;have hPb:P+1≤5864062014805:=by omega
       have x2:wr.cell? ⟨b,2,none⟩=some Kz:=h'.cell 2;have x3:wr.cell? ⟨b,3,none⟩=some (.map (some UP)):=h'.cell 3;have yg:=h'.rD;have p7:=h'.aX;rw [Ek] at yg p7;obtain ⟨pa,pc,rfl,-⟩:=ib p7;have UU:wrap64 (s+(k:Int))=s+(k:Int):=JY (by omega) (by omega)
       have ac0:IntKind.i64.wrap (s+(k:Int))=s+(k:Int):=wrap_i64 _ (by omega) (by omega)
       obtain ⟨w1,Zy,ij,tj⟩:=yg.drew.store Ea underlying139 (by unfold maxLen;omega) (Ta (i:=s+(k:Int)) (by omega) (by omega)) (plainElem_int underlying3 (kwf (i:=(P:Int)) (by omega) (by omega)))
       have fO:wr.grownBy w1 (some UP):=⟨tj.grown.os,tj.grown.tape,tj.grown.output,tj.grown.size,tj.grown.block⟩;have fi:b≠UP:=ep h'.rD h'.dF;have y2:=qG fO x2 fi;have y3:=qG fO x3 fi;have fz:w1.frozen? ⟨b,2,none⟩=false:=by
        unfold World.frozen?;rw [show w1.heap[(⟨b,2,none⟩ : Addr).block]?=_ from (fO.block b (Array.getElem?_eq_some_iff.1 h'.dF).1 (by simpa using fi)).trans h'.dF]
        simp
       have PX:∀ j (h:j<l.length),g<w.heap.size:=fun j h=>World.block_lt_of_cell? w _ (HC.out j h)
       have yl:=EZ (w:=w1) (g:=g) (l:=l) (fun j h=>by
        have c:=HC.out j h;have hF':¬ F' g:=fun hf=>(uX.out.step.sub g hf).elim aaC (fun hs=>by have:=PX j h;omega)
        have c1:=uX.out.step.cell (a:=⟨g,j,none⟩) c aaC;exact qG fO c1 (fun e=>hF' (by rw [show g=UP from e];exact h'.fn))) k (by rw [← HL.out,HLn.out];omega) (cap - k*512)
       obtain ⟨D,hD⟩ : ∃ D,D=GJ ((l.drop (k*512)).take 512):=⟨_,rfl⟩;rw [← hD] at yl;have HD:Hid (D=GJ ((l.drop (k*512)).take 512)):=hD;have HH:Hid (cU wr b F' { d with aX:=d.aX++chunks s l k } mb' UP (.slice pa P pc) av' Dn'):=h';have HM:Hid (w1.ownsMap prog 3 (plainElem prog 3) UP (P+1) (Dn'.put (.int .i64 (s+(k:Int))) (.lit (.int .i64 (P:Int))))):=ij;have Ik:Hid (wr.grownBy w1 (some UP)):=fO;have oF:w1.ownsRow 0 93 2 (.slice pa P pc) P (fF (d.aX++chunks s l k)):=fl p7 fun j hj=>by
        obtain ⟨_,bK,cur,oI⟩:=eD p7 j hj;exact fO.block j bK (by simpa using ep h'.rD oI)
       have i1:IntKind.i64.wrap ((k:Int)*512)=(k:Int)*512:=wrap_i64 _ (by omega) (by omega)
       have i2:IntKind.i64.wrap (((k:Int)+1)*512)=((k:Int)+1)*512:=wrap_i64 _ (by omega) (by omega)
       have ajc:((k:Int)+1)*512≤(cap:Int):=by have:=HLn.out;omega
       have ajn:(k+1)*512 - k*512=512:=by omega
       have ajb:(k:Int)*512≤((k:Int)+1)*512:=by omega
       have aja:(0:Int)≤(k:Int)*512:=by omega
       clear hD h' ij tj fO yg p7 hP PX eM;go_wp2_with fail;go_region_held3 (fun w'=>w'.cell? ⟨b,2,none⟩=some (.slice pa P pc)∧w'.cell? ⟨b,3,none⟩=some (.map (some UP))) (first | exact ⟨x2,x3⟩ | exact ⟨y2,y3⟩ | go_keep) (fail)
       have ny:=bM w1 #[.int .i64 (s+(k:Int)),.string D] 93;go_wp2_with (first
        | (at_builtin;refine wpList_append_lies _ rfl _ _ 22 rfl 0 93 i0 (.agg #[.int .i64 0,.string ⟨#[]⟩]) 2 24 underlying22 hi mV mU py rfl (by decide) _ _ _ rfl (oF.alloc _) ⟨w1.heap.size,0,none⟩ 1 1 [.int .i64 (s+(k:Int)),.string D] rfl rfl ?c1 ?c2 ?c3 ?c4 ?c5 ?c6 (w1.heap.size+1) ?c7 ?_))
       case c2=>exact ⟨rfl,rfl⟩
       case c4=>unfold maxLen;omega
       case c5=>omega
       intro g2 Ua w2 lQ yi aaB ads;have Wt:({ d with aX:=d.aX++chunks s l k }:bw).aX.length=P:=Ek;have aS:w2.heap[b]?=w1.heap[b]?:=by
        have bO:b<w1.heap.size:=World.block_lt_of_cell? w1 _ y2;rw [yi.block b (by simp;omega) (fun e=>?_)]
        ·exact (ai w1 _).block b bO
        ·obtain ⟨_,_,cur,oI⟩:=eD oF b e.symm;have hx:=(Ik.out.block b (Array.getElem?_eq_some_iff.1 HH.out.dF).1 (by simpa using fi)).trans HH.out.dF
         rw [oI] at hx;simp at hx
       have z2:w2.cell? ⟨b,2,none⟩=some (.slice pa P pc):=(World.cell?_of_block (a:=⟨b,2,none⟩) aS).trans y2;have fz2:w2.frozen? ⟨b,2,none⟩=false:=by
        have hx:=(Ik.out.block b (Array.getElem?_eq_some_iff.1 HH.out.dF).1 (by simpa using fi)).trans HH.out.dF
        unfold World.frozen?;rw [show w2.heap[(⟨b,2,none⟩ : Addr).block]?=_ from aS.trans hx]
        simp
       have Jl:w2.ownsRow 0 93 2 (.slice (some ⟨g2,0,none⟩) (P+1) Ua) (P+1) (fF ((d.aX++chunks s l k)++[chunk s l k])):=by
        rw [Bw];have:fF [chunk s l k]=[.int .i64 (s+(k:Int)),.string D]:=by rw [HD.out];rfl
        rw [this];exact lQ
       have Eh:=Ik.out.size;have aag:w1.grownBy w2 (Value.slice pa P pc).ownBlock:=(World.grownBy_alloc w1 _ _).trans yi;have PB:=HH.out.V2 (w1:=w1) (w2:=w2) (w3:=w2.setCell ⟨b,2,none⟩ (.slice (some ⟨g2,0,none⟩) (P+1) Ua)) (chunk s l k) (QJ adI Ha aeT.out bK) (by rw [Wt];exact HM.out) Ik.out g2 Ua (by rw [Wt];exact Jl) aag (aaB.imp id (fun e=>by omega)) (by rw [Wt])
       have V:JI w (w2.setCell ⟨b,2,none⟩ (.slice (some ⟨g2,0,none⟩) (P+1) Ua)) b F (fun k=>F' k∨k=g2) d s l (k+1):=by
        refine ⟨?_,uX.out.step.trans PB.2⟩;rw [uN,← ay];exact ⟨_,_,_,_,_,PB.1⟩
       clear PB Jl aag lQ yi aaB ads aS HM Ik HH uX x2 x3 y2 y3 oF ny yl Zy;go_wp2_with fail;go_roundw
       case rel=>exact ⟨k+1,_,by omega,by go_num,V⟩
       case measure=>simp [intOf];omega
      ·have Lo:k=n:=by omega
       subst Lo;have x7:wr.cell? ⟨b,7,none⟩=some (.int .i64 d.nw):=h'.cell 7;have f7:=h'.frozen 7;have cO:=h'.ok;obtain ⟨h5,s5⟩:=h'.set (d':={ d with aX:=d.aX++chunks s l k,nw:=wrap64 (d.nw+(k:Int)) }) 7 (.int .i64 (wrap64 (d.nw+(k:Int)))) rfl rfl rfl rfl ⟨cO.s0,cO.s1,cO.eN,cO.rise,cO.aX,cO.eX⟩;have S5:=uX.out.step.trans s5;have O:=HO.out _ _ { d with aX:=d.aX++chunks s l k,nw:=wrap64 (d.nw+(k:Int)) } rfl ⟨_,_,_,_,_,h5⟩ (HE.out.step S5 HF.out) (S5.ge HF.out HE.out.size) (by rw [Ek];have:=HP.out;omega) hd
       have jE:Hid (Cm A (wr.setCell ⟨b,7,none⟩ (.int .i64 (wrap64 (d.nw+(k:Int))))) b F' { d with aX:=d.aX++chunks s l k,nw:=wrap64 (d.nw+(k:Int)) }):=O;have sG:Hid (Step F F' w (wr.setCell ⟨b,7,none⟩ (.int .i64 (wrap64 (d.nw+(k:Int)))))):=S5;clear h' h5 s5 S5 O cO Ek uX eM;go_wp2_with fail;refine jE.out.mono ?_
       rintro e w6 ⟨rfl,F6,h6,s6⟩;have oT:Hid (sr w b F (d.write s l).1 w6):=by rw [HR.out];exact ⟨F6,h6,sG.out.trans s6⟩
       have HV:Hid (bw.done { d with aX:=d.aX++chunks s l k,nw:=wrap64 (d.nw+(k:Int)) }=d.write s l):=HR.out.symm;rw [HV.out];clear jE sG HR h6 s6;go_wp2_with fail;go_ret;exact ⟨rfl,oT.out⟩
   ·have HR:Hid (d.write s l=(d,1)):=by
     show d.write s l=_
     rw [HW.out,hd,if_neg (by simp),if_pos (.inr (.inl b2))]
    have t2:((m:Int) != 0)=true:=by simp;omega
    clear HW b1 b2 JQ;go_enter func98,ntmps98;go_wp2_with fail;go_ret;rw [HR.out];exact ⟨rfl,F,HK.out,Step.refl _ _⟩
 ·rw [hd] at c5;have HR:Hid (d.write s l=(d,8)):=by show d.write s l=_;rw [HW.out,hd];rfl
  clear HW JQ;go_enter func98,ntmps98;go_wp2_with fail;go_ret;rw [HR.out];exact ⟨rfl,F,HK.out,Step.refl _ _⟩
theorem No(w:World):(zeroValue 3).run prog w = .ok (.int .i64 0) w:=by kernel_rfl
theorem YC:(prog.info? 144).map (fun i=>(i.zero,i.size))=some (some (.agg zeroCells144),512):=by kernel_rfl
theorem UJ(w:World):(zeroValue 144).run prog w = .ok (arr qe) w:=by
 have h:=(zero_of_info YC).1 w;rw [zc] at h;rw [h,arr,qe,tK]
theorem fe{P:Program}{ops:Array Oper}{rest:List Oper}{op:Oper}{a:Act}{w w':World}{Q:Exit→Act→World→Prop}(nK:op.guard=none)(ty:TypeId)(x y:Operand)(ho:op.op = .store ty x y)(p v:Value)(hx:a.eval x=p)(hy:a.eval y=v)(bq:(Instr.storeAt ty p v).run P w = .ok () w')(h:wpList P ops Q rest (a.put op.dst undef) w'):wpList P ops Q (op::rest) a w :=
 wpList_plain nK fun _ hK=>by
  unfold Oper.wp execOp;simp only [ho,hx,hy,Sem.run_bind,bq,Result.andThen_ok,Sem.run_pure];exact hK _ _ h
theorem VN(w:World)(t:ByteArray)(ht:t.size=512):(Instr.storeAt 144 (.pointer (some ⟨w.heap.size,0,none⟩)) (arr t)).run prog (w.alloc (.cells zeroCells144 144)) = .ok () (w.alloc (.cells (eb (bl t)).toArray 144)) :=
 run_storeAt_new w 144 zeroCells144 (eb (bl t)).toArray (by rw [Bn,List.size_toArray,aZ,jP,ht]) (by rw [zc,List.size_toArray,List.size_toArray,aZ,aZ,jG,jP,ht]) (all_oneCell_toArray (qX _))
theorem zW(pre GK post new:List UInt8)(h:GK.length=new.length):((eb (pre++GK++post)).toArray.toList.take pre.length++eb new++(eb (pre++GK++post)).toArray.toList.drop (pre.length+new.length)).toArray=(eb (pre++new++post)).toArray:=by
 congr 1
 rw [ay pre GK post,jH,jH,jH,jH,← h];have e1:List.take pre.length (eb pre++(eb GK++eb post))=eb pre:=by
  rw [aG (by rw [aZ];omega),al (by rw [aZ];omega)]
 have e2:List.drop (pre.length+GK.length) (eb pre++(eb GK++eb post))=eb post:=by
  rw [← ay,List.drop_append,List.drop_of_length_le (by rw [ae,aZ,aZ];omega),ae,aZ,aZ]
  simp
 rw [e1,e2]
theorem Qr{l:List gN}{i:Int}:(l.any fun x=>decide (x.ix=i))=(l.find? fun x=>decide (x.ix=i)).isSome:=by
 induction l with
 | nil=>rfl
 | cons x r ih =>
  by_cases h:x.ix=i
  ·simp [h]
  ·simp [h,ih]
def cF(w:World)(g:Nat)(l:List UInt8):Prop:=w.heap[g]?=some (.cells (eb l).toArray 5 (0,0))
theorem QG(w:World)(g:Nat)(pre GK post:List UInt8)(t:ByteArray)(L C:Nat)(hr:cF w g (pre++GK++post))(hm:GK.length=512)(ht:t.size=512)(hL:512≤L):∃ w2,(Builtin.copy_ #[145,9] 3 #[.slice (some ⟨g,pre.length,none⟩) L C,.string t]).run prog w = .ok (goInt t.size) w2∧cF w2 g (pre++bl t++post)∧w.grownBy w2 (some g):=by
 have bq:=Lib.run_copy_row_string (P:=prog) w 145 9 3 5 g pre.length L C t _ 5 underlying145 uf hr (by omega) (by rw [List.size_toArray,aZ,ae,ae];omega)
 have e:=zW pre GK post (bl t) (by rw [jP];omega)
 rw [jP] at e;rw [zJ,show t.data.toList=bl t from rfl,e] at bq
 refine ⟨_,bq,setRow_heap _ g _ _ 5 _ hr,?_⟩;exact ⟨rfl,rfl,rfl,by simp [World.setRow],fun k _ hn=>by
  have:g≠k:=fun e=>hn (by rw [e])
  simp [World.setRow,Array.getElem?_modify,this]⟩
theorem QH(w:World)(g ga:Nat)(pre GK post:List UInt8)(t:ByteArray)(L C:Nat)(hr:cF w g (pre++GK++post))(ha:w.heap[ga]?=some (.cells (eb (bl t)).toArray 144 (0,0)))(hm:GK.length=512)(ht:t.size=512)(hL:512≤L):∃ w2,(Builtin.copy_ #[145,145] 3 #[.slice (some ⟨g,pre.length,none⟩) L C,.slice (some ⟨ga,0,none⟩) 512 512]).run prog w = .ok (goInt 512) w2∧cF w2 g (pre++bl t++post)∧w.grownBy w2 (some g):=by
 have hl:(eb (bl t)).length=512:=by rw [aZ,jP,ht]
 have bq:=run_copy_row (P:=prog) w 145 145 3 5 g pre.length L C ⟨ga,0,none⟩ 512 512 _ 5 (eb (bl t)) underlying145 uf hr (by rw [hl];exact (a6 hL).symm)
  (fun j v hv=>by
   rw [Addr.add_mid,cell_of_row _ _ _ _ _ _ ha,Nat.zero_add];simpa using hv)
  (by rw [hl,List.size_toArray,aZ,ae,ae];omega) (qX _)
 have e:=zW pre GK post (bl t) (by rw [jP];omega)
 rw [jP,ht] at e;rw [hl,e] at bq;refine ⟨_,bq,setRow_heap _ g _ _ 5 _ hr,?_⟩;exact ⟨rfl,rfl,rfl,by simp [World.setRow],fun k _ hn=>by
  have:g≠k:=fun e=>hn (by rw [e])
  simp [World.setRow,Array.getElem?_modify,this]⟩
theorem L9(b:Nat)(F:Nat→Prop)(d:bw)(w:World)(h:cL w b F d)(g:Nat)(pre post:List UInt8)(s:Int)(L C:Nat)(hr:cF w g (pre++fD 512++post))(hL:512≤L)(h0:0≤s)(h1:s<9223372036854775808):Calls prog 186 #[.pointer (some ⟨b,0,none⟩),.slice (some ⟨g,pre.length,none⟩) L C,.int .i64 s] w fun e w'=>e = .returned (.tuple #[])∧cF w' g (pre++bl (gm d s)++post)∧w.grownBy w' (some g):=by
 obtain ⟨mb,nb,pv,av,Dn,h⟩:=h;have c3:w.cell? ⟨b,3,none⟩=some (.map (some nb)):=h.cell 3;have yg:=h.rD;have PT:=Ta h0 h1;obtain ⟨n1,n2⟩:=h.new s;obtain ⟨off,Wu⟩ : ∃ off,off=pre.length:=⟨_,rfl⟩;have HOF:Hid (off=pre.length):=Wu;rw [← Wu];clear Wu;cases U8:eC d.aX s with
 | some k =>
  have TI:Maps.has Dn (.int .i64 s)=true:=by rw [n1,U8];rfl
  have adS:=n2 k U8;have de:=kS U8;have c2:w.cell? ⟨b,2,none⟩=some pv:=h.cell 2;have gP:Hid (gm d s=d.aX[k].lx):=by show gm d s=_;unfold gm;rw [U8];simp [de]
  obtain ⟨pa,pc,rfl,PH⟩:=ib h.aX;obtain ⟨gp,rfl⟩:=PH (by omega)
  have p1:=sW h.aX rfl _ _ (nh d.aX k de).2;have b8:=(De h.ok de).len;obtain ⟨D,hD⟩ : ∃ D,D=d.aX[k].lx:=⟨_,rfl⟩;rw [← hD] at gP p1 b8;obtain ⟨P,hP⟩ : ∃ P,P=d.aX.length:=⟨_,rfl⟩;rw [← hP] at c2 de;obtain ⟨w2,tn,bE,AT⟩:=QG w g pre (fD 512) post D L C hr (jG 512) b8 hL;rw [← HOF.out] at tn;have Yl:Hid (cF w2 g (pre++bl D++post)∧w.grownBy w2 (some g)):=⟨bE,AT⟩;rw [gP.out];clear h n1 n2 U8 hD hP bE AT gP hr;go_enter func186,ntmps186;go_wp2_with (first
   | (at_lookup;refine wpList_lookup_own_ok_int _ rfl _ _ 139 rfl 3 3 .i64 Ea underlying139 underlying3 (No _) nb _ Dn rfl yg _ _ rfl PT ?_;intro c rR hwc;(obtain rfl:c=(k:Int):=by rw [adS] at rR;simpa using rR.symm);rw [TI]))
  refine bodyPost_ret (results_none rfl _ _ _) rfl ?_
  exact ⟨rfl,Yl.out⟩
 | none =>
  have TI:Maps.has Dn (.int .i64 s)=false:=by rw [n1,U8];rfl
  have c1:w.cell? ⟨b,1,none⟩=some (.map (some mb)):=h.cell 1;have U6:=h.mapD;obtain ⟨T,hT⟩ : ∃ T,T=fB d.eN s:=⟨_,rfl⟩;have Yc:T.size=512:=by rw [hT];exact rM h.ok.eN s
  have hTz:Maps.has (mF d.eN) (.int .i64 s)=false→T=qe:=fun hz=>by
   rw [Qw,Qr] at hz;rw [hT];unfold fB;cases hf:d.eN.find? (fun x=>decide (x.ix=s)) with
   | none=>rfl
   | some x=>rw [hf] at hz;cases hz
  have hV:∀ v ps,sU v=some ((mF d.eN).atKey (.int .i64 s) (.lit (.string (bl qe))),ps)→v=arr T:=fun v ps hv=>by
   obtain ⟨t,ht,rfl,he⟩:=N6 hv;rw [TX] at he;rw [hT];unfold fB;cases hf:d.eN.find? (fun x=>decide (x.ix=s)) with
   | none=>rw [hf] at he;simp only [Prod.mk.injEq,DataW.lit.injEq,Lit.string.injEq] at he;rw [B8 he.1.symm]
   | some x=>rw [hf] at he;simp only [Prod.mk.injEq,DataW.lit.injEq,Lit.string.injEq] at he;rw [B8 he.1.symm]
  have gP:Hid (gm d s=T):=by show gm d s=_;unfold gm;rw [U8,hT]
  rw [gP.out];have bK:=(Array.getElem?_eq_some_iff.1 hr).1;have aS:=ai w (.cells (eb (bl T)).toArray 144);have iF:cF (w.alloc (.cells (eb (bl T)).toArray 144)) g (pre++fD 512++post):=(aS.block g bK).trans hr;have eK:=VN w T Yc;have mx:=heap_alloc_new w (.cells (eb (bl T)).toArray 144);obtain ⟨w2,tn,bE,AT⟩:=QH (w.alloc (.cells (eb (bl T)).toArray 144)) g w.heap.size pre (fD 512) post T L C iF mx (jG 512) Yc hL;rw [← HOF.out] at tn;have Yl:Hid (cF w2 g (pre++bl T++post)∧w.grownBy w2 (some g)):=⟨bE,(oK aS).trans AT⟩;have Ih:Hid (Maps.has (mF d.eN) (.int .i64 s)=false→cF (w.alloc (.cells (eb (bl T)).toArray 144)) g (pre++bl T++post)∧w.grownBy (w.alloc (.cells (eb (bl T)).toArray 144)) (some g)):=fun hz=>⟨by rw [show pre++bl T++post=pre++fD 512++post by rw [hTz hz,qe,tK]];exact iF,oK aS⟩
  obtain ⟨cs,fI⟩ : ∃ cs,cs=(eb (bl T)).toArray:=⟨_,rfl⟩;rw [← fI] at eK tn Ih;obtain ⟨V,hVd⟩ : ∃ V,V=arr T:=⟨_,rfl⟩;rw [← hVd] at eK;have hV2:Hid (∀ v ps,sU v=some ((mF d.eN).atKey (.int .i64 s) (.lit (.string (bl qe))),ps)→v=V):=by rw [hVd];exact hV
  have Sg:True:=trivial;generalize hhD:Maps.has (mF d.eN) (.int .i64 s)=hb at Ih;clear hTz hVd h n1 n2 U8 hT hr hV bE AT gP aS iF mx Yc fI bK;go_enter func186,ntmps186;cases hb
  ·go_wp2_with (first
    | (at_lookup;have _t:=Sg;refine wpList_lookup_own_ok_int _ rfl _ _ 139 rfl 3 3 .i64 Ea underlying139 underlying3 (No _) nb _ Dn rfl yg _ _ rfl PT ?_;intro c rR hwc;clear Sg rR hwc;rw [TI])
    | (at_lookup;refine wpList_lookup_own_ok _ rfl _ _ 138 rfl 3 144 Ea underlying138 sU (UJ _) (.lit (.string (bl qe))) [] (wR sL) mb _ (mF d.eN) rfl U6 _ _ rfl PT ?_;intro v ps hv;(obtain rfl:v=V:=hV2.out v ps hv);clear hv;rw [hhD])
    | (refine fe rfl 144 _ _ rfl _ _ rfl rfl eK ?_))
   go_end0
   refine ⟨rfl,?_⟩;have r:=Ih.out (by first | trivial | rfl)
   rw [ay] at r;exact r
  ·go_wp2_with (first
    | (at_lookup;have _t:=Sg;refine wpList_lookup_own_ok_int _ rfl _ _ 139 rfl 3 3 .i64 Ea underlying139 underlying3 (No _) nb _ Dn rfl yg _ _ rfl PT ?_;intro c rR hwc;clear Sg rR hwc;rw [TI])
    | (at_lookup;refine wpList_lookup_own_ok _ rfl _ _ 138 rfl 3 144 Ea underlying138 sU (UJ _) (.lit (.string (bl qe))) [] (wR sL) mb _ (mF d.eN) rfl U6 _ _ rfl PT ?_;intro v ps hv;(obtain rfl:v=V:=hV2.out v ps hv);clear hv;rw [hhD])
    | (refine fe rfl 144 _ _ rfl _ _ rfl rfl eK ?_))
   go_end0
   exact ⟨rfl,Yl.out⟩
theorem BF(n:Nat):(madeCells #[Value.int .u8 0] n).toList=eb (fD n):=by
 rw [eb,fD,oR];simp [madeCells,Nat.mod_one,List.map_const']
theorem By{w:World}{base g n:Nat}{l:List UInt8}(h:w.ownsRow base 5 1 (.slice (some ⟨g,0,none⟩) n n) n (eb l)):cF w g l:=by
 rcases h.2 with ⟨h',_⟩ | ⟨g',eY,cur,h',hb,hg,hn,hc,hs,ht⟩
 ·cases h'
 ·cases h'
  unfold cF;rw [hg,← ht,al (by simpa using Nat.le_of_eq hs)]
theorem BD{w:World}{base g n:Nat}{l:List UInt8}(h:cF w g l)(hl:l.length=n)(hb:base≤g)(hn:n≤maxLen):w.ownsRow base 5 1 (.slice (some ⟨g,0,none⟩) n n) n (eb l) :=
 ⟨by rw [aZ];omega,.inr ⟨g,n,_,rfl,hb,h,aj _,hn,by simp [aZ];omega,by
  rw [al (by simp [aZ];omega)]⟩⟩
structure yK(A:Nat→Addr)(w:World)(b:Nat)(F:Nat→Prop)(r:bw × List UInt8 × Nat)(e:Ending)(w':World)(v:Value):Prop where
 ret:e = .returned (.tuple #[v,gC A r.2.2])
 row:w'.ownsRow w.heap.size 5 1 v r.2.1.length (eb r.2.1)
 dev:cL w' b F r.1
 step:Step F F w w'
 one:Step (fun k=>k=b) (fun k=>k=b) w w'
structure JK(w wr:World)(d:bw)(s:Int)(m k:Nat):Prop where
 row:cF wr w.heap.size (iQ d s k++fD ((m - k)*512))
 eZ:Below w.heap.size w wr
theorem mm(base:Nat)(A:Nat→Addr)(b:Nat)(F:Nat→Prop)(d:bw)(w:World)(h:cL w b F d)(hE:mQ base A w)(s n:Int)(hn:n<9223372036854775808):Calls prog 151 #[.pointer (some ⟨b,0,none⟩),.int .i64 s,.int .i64 n] w fun e w'=>∃ v,yK A w b F (d.read s n) e w' v:=by
 have HK:Hid (cL w b F d):=h;have H0:=AR b F d s n w h hn;generalize hf:d.fits s n=fb at H0;have yY:Hid (d.fits s n=fb):=hf;have ML:Hid (Calls prog 41 #[.pointer (some ⟨b,0,none⟩),.int .i64 s,.int .i64 n] w fun e w'=>e = .returned (.bool fb)∧w=w'):=H0
 obtain ⟨mb,nb,pv,av,Dn,h⟩:=h;have c5:w.cell? ⟨b,5,none⟩=some (.bool d.dead):=h.cell 5;have e7:=hE.dead;have e0:=hE.arg;have e2:=hE.many;clear h hE H0 hf;have HER:Hid (∀ m c,d.read s n=(d,[],c)→∃ v,yK A w b F (d.read s n) (.returned (.tuple #[.slice none 0 0,gC A c])) (w.drewN m) v):=fun m c hc=>by
  rw [hc];exact ⟨_,rfl,World.ownsRow_nil _ _ _ _,HK.out.below (below_drewN (Below.refl _ _) m),Step.bo (below_drewN (Below.refl _ _) m),Step.bo (below_drewN (Below.refl _ _) m)⟩
 cases hd:d.dead
 ·rw [hd] at c5;cases fb
  ·have HR:Hid (d.read s n=(d,[],1)):=by show d.read s n=_;unfold bw.read;rw [hd,yY.out];rfl
   go_enter func151,ntmps151;go_wp2_with (go_at_call 41;refine ML.out.mono ?_;rintro e w' ⟨rfl,rfl⟩)
   go_quiet (fail)
   go_wp2_with fail;go_ret2;exact HER.out _ 1 HR.out
  ·have eM:=yY.out;simp only [bw.fits,decide_eq_true_eq] at eM;have ke:=HK.out.ok.s1;by_cases hm:1024<n
   ·have HR:Hid (d.read s n=(d,[],3)):=by show d.read s n=_;unfold bw.read;rw [hd,yY.out];simp [hm]
    go_enter func151,ntmps151;go_wp2_with (go_at_call 41;refine ML.out.mono ?_;rintro e w' ⟨rfl,rfl⟩)
    go_quiet (fail)
    go_wp2_with fail;go_ret2;exact HER.out _ 3 HR.out
   ·obtain ⟨m,rfl⟩ : ∃ m:Nat,n=(m:Int):=⟨n.toNat,by omega⟩
    have HR:Hid (d.read s (m:Int)=({ d with nr:=wrap64 (d.nr+(m:Int)) },iQ d s m,0)):=by show d.read s _=_;unfold bw.read;rw [hd,yY.out];simp [hm]
    obtain ⟨i0,hi,mV,mU,py⟩:=info_parts Tryz.info5;have i1:IntKind.i64.wrap ((m:Int)*512)=(m:Int)*512:=wrap_i64 _ (by omega) (by omega)
    have AV:decide ((1024:Int)<(m:Int))=false:=decide_eq_false (by omega)
    clear e7 e0 e2 HER;go_enter func151,ntmps151;go_wp2_with (first
     | (go_at_call 41;refine ML.out.mono ?_;rintro e w' ⟨rfl,rfl⟩)
     | (at_make;refine wpList_make_full _ rfl _ _ 145 rfl 0 5 i0 (.int .u8 0) 1 underlying145 hi mV mU .i64 .i64 _ _ (m*512) rfl rfl ?c0 ?c0 ?c1 ?c2 (aB _) ?_))
    case c0=>omega
    case c1=>rw [py];omega
    case c2=>unfold maxLen;omega
    intro w1 oF fO;rw [BF] at oF;have HI:Hid (JK w w1 d s m 0):=⟨by simpa [iQ] using By oF,⟨fO.os,fO.tape,fO.output,fO.size,fun k hk=>fO.block k hk (by simp)⟩⟩
    clear oF fO;go_wp2_with fail;go_loopw [28] (fun i wr=>∃ k,k≤m∧i = .int .i64 (k:Int)∧JK w wr d s m k) (fun i _=>m - (intOf i).toNat)
    case atStart=>exact ⟨0,aB _,rfl,HI.out⟩
    case round =>
     obtain ⟨k,hk,rfl,inv⟩:=hrel;have uX:Hid (JK w wr d s m k):=inv;clear inv HI;by_cases bK:k<m
     ·have hz:fD ((m - k)*512)=fD 512++fD ((m - (k+1))*512):=by
       unfold fD;rw [List.replicate_append_replicate];congr 1;omega
      have bE:=uX.out.row;rw [hz,← ay] at bE;have C:=L9 b F d wr (HK.out.below uX.out.eZ) w.heap.size (iQ d s k) (fD ((m - (k+1))*512)) (s+(k:Int)) (m*512 - k*512) (m*512 - k*512) bE (by omega) (by omega) (by omega)
      rw [o8 HK.out.ok,← xf] at C;have HC:Hid (Calls prog 186 #[.pointer (some ⟨b,0,none⟩),.slice (some ⟨w.heap.size,k*512,none⟩) (m*512 - k*512) (m*512 - k*512),.int .i64 (s+(k:Int))] wr fun e w'=>e = .returned (.tuple #[])∧cF w' w.heap.size (iQ d s (k+1)++fD ((m - (k+1))*512))∧wr.grownBy w' (some w.heap.size)):=C
      have j1:IntKind.i64.wrap ((k:Int)*512)=(k:Int)*512:=wrap_i64 _ (by omega) (by omega)
      have j2:IntKind.i64.wrap (s+(k:Int))=s+(k:Int):=wrap_i64 _ (by omega) (by omega)
      have j3:(k:Int)*512≤(m:Int)*512:=by omega
      have j4:(0:Int)≤(k:Int)*512:=by omega
      have j5:m*512≠k*512:=by omega
      clear C hz bE;go_wp2_with fail;refine HC.out.mono ?_
      rintro e w4 ⟨rfl,r4,g4⟩;have V:JK w w4 d s m (k+1):=⟨r4,uX.out.eZ.trans ⟨g4.os,g4.tape,g4.output,g4.size,fun i hi=>g4.block i (aq hi uX.out.eZ.size) (fun e=>by have:=Option.some.inj e;omega)⟩⟩
      clear HC r4 g4 uX;go_wp2_with fail;go_roundw
      case rel=>exact ⟨k+1,by omega,by go_num,V⟩
      case measure=>simp [intOf];omega
     ·have Lo:k=m:=by omega
      subst Lo;have bE:=uX.out.row;rw [dR,Nat.zero_mul,show fD 0=[] from rfl,List.append_nil] at bE
      have P4:=HK.out.below uX.out.eZ;have cO:=P4.ok;obtain ⟨mb4,nb4,pv4,av4,Dn4,h4⟩:=P4;have x6:wr.cell? ⟨b,6,none⟩=some (.int .i64 d.nr):=h4.cell 6;have f6:=h4.frozen 6;obtain ⟨h5,s5⟩:=h4.set (d':={ d with nr:=wrap64 (d.nr+(k:Int)) }) 6 (.int .i64 (wrap64 (d.nr+(k:Int)))) rfl rfl rfl rfl ⟨cO.s0,cO.s1,cO.eN,cO.rise,cO.aX,cO.eX⟩;have il:w.heap.size≠b:=by have:=HK.out.lt b HK.out.fb;omega
      have HP:Hid (yK A w b F (d.read s (k:Int)) (.returned (.tuple #[.slice (some ⟨w.heap.size,0,none⟩) (k*512) (k*512),.nilIface])) (wr.setCell ⟨b,6,none⟩ (.int .i64 (wrap64 (d.nr+(k:Int))))) (.slice (some ⟨w.heap.size,0,none⟩) (k*512) (k*512))):=by
       rw [HR.out];refine ⟨rfl,?_,⟨_,_,_,_,_,h5⟩,(Step.bo uX.out.eZ).trans s5,(Step.bo uX.out.eZ).trans ⟨rfl,rfl,rfl,by simp,fun q _ hn=>Below.heap_setCell wr ⟨b,6,none⟩ _ _ hn,fun _ h=>.inl h⟩⟩
       simp only [o8 HK.out.ok];exact BD ((Below.heap_setCell wr ⟨b,6,none⟩ _ _ il).trans bE) (o8 HK.out.ok s k) (aj _) (by unfold maxLen;omega)
      clear h4 h5 s5 bE cO uX;go_wp2_with fail;go_ret2;exact ⟨_,HP.out⟩
 ·rw [hd] at c5;have HR:Hid (d.read s n=(d,[],8)):=by show d.read s n=_;unfold bw.read;rw [hd];rfl
  go_enter func151,ntmps151;go_wp2_with fail;go_quiet (fail)
  go_wp2_with fail;go_ret2;exact HER.out _ 8 HR.out
end S.V
end Go.Proofs.YtihmgigfkmofnaaGreatDoor
