import Derived.Test.YtihmgigfkmofnaaGreatDoorG15
set_option maxHeartbeats 1600000
set_option maxRecDepth 100000
open Go.Proofs.Tryz
namespace Go.Proofs.YtihmgigfkmofnaaGreatDoor
namespace S.V
open Go.RowKit Go.Maps
theorem wrap_i64(n:Int)(h1 : -9223372036854775808≤n)(h2:n≤9223372036854775807):IntKind.i64.wrap n=n:=by
 simp [IntKind.wrap,IntKind.bits,IntKind.signed]
 omega
theorem cV.alloc{w:World}{b:Nat}{F:Nat→Prop}{d:bD}{mb nb:Nat}{pv av:Value}{Dn:DataW Unit}(h:cV w b F d mb nb pv av Dn){w':World}(hb:Below w.heap.size w w'):cV w' b F d mb nb pv av Dn:=by
 have hk:∀ k,F k→w'.heap[k]?=w.heap[k]?:=fun k hk=>hb.block k (h.lt k hk)
 exact ⟨(hk b h.fb).trans h.dy,h.fb,h.fm,h.fn,h.ne,dE h.mapD (hk mb h.fm),dE h.rS (hk nb h.fn),h.new,eK h.aS (fun g hg=>hk g (h.pf g hg)),h.pf,
  h.eQ.block (fun k _ _ hf=>hk k hf),h.ok,fun i hi=>al (h.lt i hi) hb.size⟩
theorem Db{d:bD}(h:d.Ok){j:Nat}(hj:j<d.aS.length):sG d.size d.aS[j]:=h.aS _ (aH hj)
theorem FY{α:Type}(l:List α)(k:Nat)(h:k<l.length):l.take (k+1)=l.take k++[l[k]]:=by rw [ay h]
def sK(w:World)(b:Nat)(F:Nat→Prop)(d:bD)(w':World):Prop:=∃ F',cM w' b F' d∧Step F F' w w'
def Cp(A:Nat→Addr)(w:World)(b:Nat)(F:Nat→Prop)(d:bD):Prop:=Calls prog 101 #[.pointer (some ⟨b,0,none⟩)] w fun e w'=>e = .returned (im A d.done.2)∧sK w b F d.done.1 w'
def L6(base:Nat)(A:Nat→Addr)(b:Nat)(eQ:List Fp):Prop:=∀ w F d,d.eQ=eQ→cM w b F d→mw base A w→(∀ k,F k→base≤k)→d.aS.length≤140737488355328→d.dead=false→Cp A w b F d
theorem xq(base:Nat)(A:Nat→Addr)(b:Nat):L6 base A b []:=by
 intro w F d ha h _ _ _ _;obtain ⟨mb,nb,pv,av,Dn,h⟩:=h;have c4:w.cell? ⟨b,4,none⟩=some av:=h.cell 4;have HH:Hid (cV w b F d mb nb pv av Dn):=h;have Pv:=h.eQ;have HD:Hid (d.done=(d,0)):=by show d.done=_;unfold bD.done;rw [ha]
 obtain ⟨a,c,rfl⟩ : ∃ a c,av = .slice a 0 c:=by
  rw [ha] at Pv;rcases Pv with ⟨_,rfl⟩ | ⟨g,off,cap,cur,fv,rfl,_⟩
  ·exact ⟨_,_,rfl⟩
  ·exact ⟨_,_,rfl⟩
 unfold Cp;clear h Pv ha;go_enter func101,ntmps101;go_wp2_with fail;go_ret;rw [HD.out];exact ⟨rfl,F,⟨_,_,_,_,_,HH.out⟩,Step.refl _ _⟩
structure wh(w wr:World)(b:Nat)(F:Nat→Prop)(d:bD)(mb nb:Nat)(pv av:Value)(Dn:DataW Unit)(k:Nat):Prop where
 body:cV wr b F { d with eF:=gO d.eF (d.aS.take k) } mb nb pv av Dn
 step:Step F F w wr
theorem ql(eF l:List gJ)(x:gJ):gO eF (l++[x])=ry (gO eF l) x.ix x.kS:=by simp [gO,List.foldl_append]
theorem Ni(base:Nat)(A:Nat→Addr)(b:Nat)(F:Nat→Prop)(d:bD)(w:World)(h:cM w b F d)(hE:mw base A w)(hF:∀ k,F k→base≤k)(hp:d.aS.length≤140737488355328)(OY:L6 base A b d.eQ):Calls prog 63 #[.pointer (some ⟨b,0,none⟩)] w fun e w'=>e = .returned (im A d.sync.2)∧sK w b F d.sync.1 w':=by
 obtain ⟨mb,nb,pv,av,Dn,h⟩:=h;have c5:w.cell? ⟨b,5,none⟩=some (.bool d.dead):=h.cell 5;have e7:=hE.dead;have HE:Hid (mw base A w):=hE;have HF:Hid (∀ k,F k→base≤k):=hF;have HO:Hid (L6 base A b d.eQ):=OY;have HH:Hid (cV w b F d mb nb pv av Dn):=h;cases hd:d.dead
 ·have c2:w.cell? ⟨b,2,none⟩=some pv:=h.cell 2;obtain ⟨pa,pc,rfl,T9⟩:=ia h.aS;obtain ⟨n,hn⟩ : ∃ n,n=d.aS.length:=⟨_,rfl⟩;have HN:Hid (n=d.aS.length):=hn;rw [← hn] at c2 hp T9 HH;have HI:Hid (wh w w b F d mb nb (.slice pa n pc) av Dn 0):=⟨by simpa [gO] using HH.out,Step.refl _ _⟩
  rw [hd] at c5;have HS:Hid (d.sync=bD.done { d with eF:=gO d.eF d.aS,aS:=[],ns:=wrap64 (d.ns+1) }):=by show d.sync=_;unfold bD.sync;rw [hd];rfl
  clear h hE hF OY hn e7;go_enter func63,ntmps63;go_wp2_with fail;go_loopw [15] (fun i wr=>∃ k,k≤n∧i = .int .i64 (k:Int)∧wh w wr b F d mb nb (.slice pa n pc) av Dn k) (fun i _=>n - (intOf i).toNat)
  case atStart=>exact ⟨0,aC _,rfl,HI.out⟩
  case round =>
   obtain ⟨k,hk,rfl,inv⟩:=hrel;have ve:Hid (wh w wr b F d mb nb (.slice pa n pc) av Dn k):=inv;clear inv HI;by_cases bX:k<n
   ·obtain ⟨gp,rfl⟩:=T9 (by omega)
    have Mt:k<d.aS.length:=by rw [← HN.out];exact bX
    obtain ⟨p0,p1⟩:=mM d.aS k Mt;have pY:=ve.out.body.aS;simp only [← HN.out] at pY;have p0:=tk pY rfl _ _ p0;have p1:=tk pY rfl _ _ p1;have cC:=Db HH.out.ok Mt;obtain ⟨x,hx⟩ : ∃ x,x=d.aS[k]:=⟨_,rfl⟩;rw [← hx] at p0 p1 cC;have HX:Hid (x=d.aS[k]):=hx;clear hx pY;obtain ⟨xi,xd⟩:=x;have aY:=ai wr (.cells #[.int .i64 xi,.string xd] 93);have M:=GC (ve.out.body.alloc aY) xi xd (by rw [show xd.size=512 from cC.len];omega) cC.lo cC.hi
    rw [NQ xd cC.len] at M;have HM:Hid (Calls prog 42 #[.pointer (some ⟨b,0,none⟩),.int .i64 xi,.string xd] (wr.alloc (.cells #[.int .i64 xi,.string xd] 93)) fun e w'=>e = .returned (.tuple #[])∧cV w' b F { d with eF:=ry (gO d.eF (d.aS.take k)) xi xd } mb nb (.slice (some ⟨gp,0,none⟩) n pc) av Dn∧(wr.alloc (.cells #[.int .i64 xi,.string xd] 93)).grownBy w' (some mb)):=M
    have bH:Hid _:=aY;clear M cC aY;go_wp2_with fail;refine HM.out.mono ?_
    rintro e w4 ⟨rfl,h4,s4⟩;have V:wh w w4 b F d mb nb (.slice (some ⟨gp,0,none⟩) n pc) av Dn (k+1):=by
     refine ⟨?_,(ve.out.step.trans (Step.bx bH.out)).trans ((ve.out.body.alloc bH.out).step s4)⟩;rw [FY _ k Mt,ql,← HX.out];exact h4
    clear HM bH ve h4 s4 p0 p1;go_wp2_with fail;go_roundw
    case rel=>exact ⟨k+1,by omega,by go_num,V⟩
    case measure=>simp [intOf];omega
   ·have Pc:k=d.aS.length:=by rw [← HN.out];omega
    have V:=ve.out.body;rw [Pc,ar (aj _)] at V;have D:=PV b F _ wr ⟨_,_,_,_,_,V⟩;have HD:Hid (Calls prog 100 #[.pointer (some ⟨b,0,none⟩)] wr fun e w'=>e = .returned (.tuple #[])∧cM w' b (fun k=>F k∨k=wr.heap.size) { d with eF:=gO d.eF d.aS,aS:=[] }∧Step F (fun k=>F k∨k=wr.heap.size) wr w'):=D
    clear D V Pc;go_wp2_with fail;refine HD.out.mono ?_
    rintro e w4 ⟨rfl,h4,s4⟩;have cC:=h4.ok;obtain ⟨mb4,nb4,pv4,av4,Dn4,h4⟩:=h4;have k8:w4.cell? ⟨b,8,none⟩=some (.int .i64 d.ns):=h4.cell 8;have f8:=h4.frozen 8;obtain ⟨h5,s5⟩:=h4.set (d':={ d with eF:=gO d.eF d.aS,aS:=[],ns:=wrap64 (d.ns+1) }) 8 (.int .i64 (wrap64 (d.ns+1))) rfl rfl rfl rfl ⟨cC.s0,cC.s1,cC.eF,cC.rise,cC.aS,cC.eQ⟩;have S5:Step F (fun k=>F k∨k=wr.heap.size) w (w4.setCell ⟨b,8,none⟩ (.int .i64 (wrap64 (d.ns+1)))):=(ve.out.step.trans s4).trans s5
    have O:=HO.out _ _ { d with eF:=gO d.eF d.aS,aS:=[],ns:=wrap64 (d.ns+1) } rfl ⟨_,_,_,_,_,h5⟩ (HE.out.step S5 HF.out) (S5.ge HF.out HE.out.size) (aC _) hd;have gX:Hid (Cp A (w4.setCell ⟨b,8,none⟩ (.int .i64 (wrap64 (d.ns+1)))) b (fun k=>F k∨k=wr.heap.size) { d with eF:=gO d.eF d.aS,aS:=[],ns:=wrap64 (d.ns+1) }):=O
    have sU:Hid (Step F (fun k=>F k∨k=wr.heap.size) w (w4.setCell ⟨b,8,none⟩ (.int .i64 (wrap64 (d.ns+1))))):=S5
    clear HD h4 h5 s4 s5 S5 O cC ve;go_wp2_with fail;refine gX.out.mono ?_
    rintro e w6 ⟨rfl,F6,h6,s6⟩;have HR:Hid (sK w b F d.sync.1 w6):=by rw [HS.out];exact ⟨F6,h6,sU.out.trans s6⟩
    have HV:Hid (bD.done { d with eF:=gO d.eF d.aS,aS:=[],ns:=wrap64 (d.ns+1) }=d.sync):=HS.out.symm;rw [HV.out];clear gX sU HS h6 s6;go_wp2_with fail;go_ret;exact ⟨rfl,HR.out⟩
 ·rw [hd] at c5;have HS:Hid (d.sync=(d,8)):=by show d.sync=_;unfold bD.sync;rw [hd];rfl
  clear h hE hF OY;go_enter func63,ntmps63;go_wp2_with fail;go_ret;rw [HS.out];exact ⟨rfl,F,⟨_,_,_,_,_,HH.out⟩,Step.refl _ _⟩
theorem Tryz.info93:(prog.info? 93).map (fun i=>(i.zero,i.size,i.bytes))=some (some (.agg #[.int .i64 0,.string ⟨#[]⟩]),2,24):=by kernel_rfl
theorem N5{D:DataW Unit}{l:List gJ}(h:Tq D l)(hD:Maps.IsMap D)(x:gJ):Tq (D.put (.int .i64 x.ix) (.lit (.int .i64 (l.length:Int)))) (l++[x]):=by
 intro i;have hk:WideAt.IsKeyLit (.int .i64 x.ix):=trivial;rw [ld];by_cases e:x.ix=i
 ·subst e;refine ⟨by rw [Maps.has_put_same hD hk,if_pos rfl];rfl,fun k Q2=>?_⟩
  rw [if_pos rfl] at Q2;rw [Maps.atKey_put_same hD hk,← Option.some.inj Q2]
 ·have ne:(Lit.int .i64 i)≠.int .i64 x.ix:=fun h=>e (by simpa using h.symm)
  rw [if_neg e];refine ⟨by rw [Maps.has_put_other ne];exact (h i).1,fun k Q2=>?_⟩
  rw [Maps.atKey_put_other ne];exact (h i).2 k Q2
theorem cV.UZ{w w1 w2 w3:World}{b:Nat}{F:Nat→Prop}{d:bD}{mb nb:Nat}{pv av:Value}{Dn:DataW Unit}(h:cV w b F d mb nb pv av Dn)(x:gJ)(hx:sG d.size x)(hm:w1.ownsMap prog 3 (plainElem prog 3) nb (d.aS.length+1) (Dn.put (.int .i64 x.ix) (.lit (.int .i64 (d.aS.length:Int)))))(fJ:w.grownBy w1 (some nb))(g cap:Nat)(hr:w2.ownsRow 0 93 2 (.slice (some ⟨g,0,none⟩) (d.aS.length+1) cap) (d.aS.length+1) (fE (d.aS++[x])))(zJ:w1.grownBy w2 pv.ownBlock)(Cx:pv.ownBlock=some g∨w.heap.size≤g)(Mr:w3=w2.setCell ⟨b,2,none⟩ (.slice (some ⟨g,0,none⟩) (d.aS.length+1) cap)):cV w3 b (fun k=>F k∨k=g) { d with aS:=d.aS++[x] } mb nb (.slice (some ⟨g,0,none⟩) (d.aS.length+1) cap) av (Dn.put (.int .i64 x.ix) (.lit (.int .i64 (d.aS.length:Int))))∧Step F (fun k=>F k∨k=g) w w3:=by
 have FC:∀ k,pv.ownBlock=some k→k<w.heap.size∧∃ cur,w.heap[k]?=some (.cells cur 93 (0,0)):=fun k hk=>(eA h.aS k hk).2
 have cp:w2.heap.size=w3.heap.size:=by rw [Mr];simp [World.setCell]
 have j8:w.heap.size≤w2.heap.size:=aq fJ.size zJ.size;have ey:∀ k,k<w.heap.size→k≠b→k≠nb→some k≠pv.ownBlock→w3.heap[k]?=w.heap[k]?:=fun k h1 h2 h3 h4=>by
  rw [Mr,Below.heap_setCell w2 ⟨b,2,none⟩ _ k h2,zJ.block k (al h1 fJ.size) h4,fJ.block k h1 (fun e=>h3 (Option.some.inj e))]
 have Za:some b≠pv.ownBlock:=fun e=>by
  obtain ⟨_,cur,hc⟩:=FC b e.symm;rw [h.dy] at hc;simp at hc
 have hmp:∀ m n R D,w.ownsMap prog 3 R m n D→some m≠pv.ownBlock:=fun m n R D hm e=>by
  obtain ⟨_,cur,hc⟩:=FC m e.symm;exact dZ hm hc rfl
 have fh:b≠nb:=dZ h.rS h.dy;have Cw:b≠mb:=dZ h.mapD h.dy;have BN:∀ k (cur:Array Value) (e:TypeId),w.heap[k]?=some (Obj.cells cur e (0,0))→e≠142→e≠93→w3.heap[k]?=w.heap[k]?:=fun k cur e hk h1 h2=>by
  refine ey k (Array.getElem?_eq_some_iff.1 hk).1 (fun hb=>?_) (dZ h.rS hk) (fun he=>?_)
  ·rw [hb,h.dy] at hk;simp at hk;exact h1 hk.2.symm
  ·obtain ⟨_,c,hc⟩:=FC k he.symm;rw [hk] at hc;simp at hc;exact h2 hc.2
 have aY:w2.heap[b]?=w.heap[b]?:=by
  rw [zJ.block b (al (Array.getElem?_eq_some_iff.1 h.dy).1 fJ.size) Za,fJ.block b (Array.getElem?_eq_some_iff.1 h.dy).1 (fun e=>fh (Option.some.inj e))]
 have iq:g≠b:=fun e=>by
  rcases Cx with h' | h'
  ·exact Za (by rw [h',e])
  ·have:=(Array.getElem?_eq_some_iff.1 h.dy).1;omega
 refine ⟨⟨?_,.inl h.fb,.inl h.fm,.inl h.fn,h.ne,dE h.mapD (ey mb h.mapD.lt Cw.symm h.ne (hmp _ _ _ _ h.mapD)),?_,N5 h.new h.rS.isMap x,?_,?_,?_,?_,?_⟩,?_⟩
 ·rw [Mr];unfold World.setCell;simp only [dF,if_true];rw [aY,h.dy];rfl
 ·have:=dE hm (w':=w3) (by
   rw [Mr,Below.heap_setCell w2 ⟨b,2,none⟩ _ nb fh.symm,zJ.block nb hm.lt (hmp _ _ _ _ h.rS)])
  simpa using this
 ·have:=eK hr (w':=w3) fun k hk=>by
   simp only [Value.ownBlock,Option.some.injEq] at hk;rw [Mr,Below.heap_setCell w2 ⟨b,2,none⟩ _ k (by rw [← hk];exact iq)]
  simpa using this
 ·intro k hk;simp only [Value.ownBlock,Option.some.injEq] at hk;exact .inr hk.symm
 ·exact (h.eQ.block fun k cur hk _=>by
   rcases hk with hk | hk
   ·exact BN k cur _ hk (by decide) (by decide)
   ·exact BN k cur _ hk (by decide) (by decide)).imp fun k hk=>.inl hk
 ·refine ⟨h.ok.s0,h.ok.s1,h.ok.eF,h.ok.rise,fun y hy=>?_,h.ok.eQ⟩
  rcases List.mem_append.1 hy with e | e
  ·exact h.ok.aS y e
  ·rw [List.mem_singleton.1 e];exact hx
 ·intro i hi;rw [← cp];rcases hi with hi | hi
  ·exact al (h.lt i hi) j8
  ·rw [hi];exact (eA hr g rfl).2.1
 ·refine ⟨?_,?_,?_,by omega,fun k hk hn=>ey k hk (fun e=>hn (by rw [e];exact h.fb)) (fun e=>hn (by rw [e];exact h.fn)) (fun e=>hn (h.pf k e.symm)),fun k hk=>hk.elim .inl fun e=>?_⟩
  ·rw [Mr];exact zJ.os.trans fJ.os
  ·rw [Mr];exact zJ.tape.trans fJ.tape
  ·rw [Mr];exact zJ.output.trans fJ.output
  ·rcases Cx with h' | h'
   ·exact .inl (by rw [e];exact h.pf g h')
   ·exact .inr (by omega)
def TG(w:World)(F:Nat→Prop)(v:Value)(l:List UInt8):Prop:=∃ a cap g,v = .slice a l.length cap∧l.length≤cap∧l.length≤140737488355328∧(0<l.length→a=some ⟨g,0,none⟩∧¬ F g)∧∀ j (h:j<l.length),w.cell? ⟨g,j,none⟩=some (.int .u8 (l[j].toNat:Int))
theorem JM{x:Int}(h1 : -9223372036854775808≤x)(h2:x≤9223372036854775807):wrap64 x=x:=by unfold wrap64;omega
theorem ER{w:World}{g:Nat}{l:List UInt8}(hc:∀ j (h:j<l.length),w.cell? ⟨g,j,none⟩=some (.int .u8 (l[j].toNat:Int)))(k:Nat)(hk:(k+1)*512≤l.length)(cap:Nat):(convert 145 9 (.slice (some ⟨g,k*512,none⟩) 512 cap)).run prog w = .ok (.string (Gz ((l.drop (k*512)).take 512))) w:=by
 have hl:((l.drop (k*512)).take 512).length=512:=by rw [ag,ao];omega
 have h:=run_convert_bytes_back (P:=prog) w 145 9 5 ⟨g,k*512,none⟩ cap ((l.drop (k*512)).take 512) underlying145 underlying5 underlying9 (fun j hj=>by
  rw [Addr.add_mid];have:=hc (k*512+j) (by omega)
  simpa using this)
 rw [hl] at h;exact h
structure Jz(w wr:World)(b:Nat)(F F':Nat→Prop)(d:bD)(s:Int)(l:List UInt8)(k:Nat):Prop where
 dev:cM wr b F' { d with aS:=d.aS++chunks s l k }
 step:Step F F' w wr
theorem JL(base:Nat)(A:Nat→Addr)(b:Nat)(F:Nat→Prop)(d:bD)(w:World)(h:cM w b F d)(hE:mw base A w)(hF:∀ k,F k→base≤k)(s:Int)(v:Value)(l:List UInt8)(hv:TG w F v l)(hp:d.aS.length+l.length / 512≤5864062014805)(OY:L6 base A b d.eQ):Calls prog 98 #[.pointer (some ⟨b,0,none⟩),.int .i64 s,v] w fun e w'=>e = .returned (im A (d.write s l).2)∧sK w b F (d.write s l).1 w':=by
 have HK:Hid (cM w b F d):=h;obtain ⟨a,cap,g,rfl,du,hlen,Zk,bE⟩:=hv;obtain ⟨L,hL⟩ : ∃ L,L=l.length:=⟨_,rfl⟩;have HL:Hid (L=l.length):=hL;have q1:((L:Int) / 512)=((L / 512:Nat):Int):=by omega
 have q2:((L:Int) % 512)=((L % 512:Nat):Int):=by omega
 have H0:=AJ b F d s ((L / 512:Nat):Int) w h (by omega)
 obtain ⟨mb,nb,pv,av,Dn,h⟩:=h;have c5:w.cell? ⟨b,5,none⟩=some (.bool d.dead):=h.cell 5;have e7:=hE.dead;have e0:=hE.arg;have HE:Hid (mw base A w):=hE;have HF:Hid (∀ k,F k→base≤k):=hF;have HO:Hid (L6 base A b d.eQ):=OY;have HP:Hid (d.aS.length+L / 512≤5864062014805):=by rw [hL];exact hp
 have HC:Hid (∀ j (h:j<l.length),w.cell? ⟨g,j,none⟩=some (.int .u8 (l[j].toNat:Int))):=bE;have HW:Hid (d.write s l=if d.dead then (d,8) else if L=0∨L % 512≠0∨d.fits s (L / 512:Nat)=false then (d,1) else bD.done { d with aS:=d.aS++chunks s l (L / 512),nw:=wrap64 (d.nw+(L / 512:Nat)) }):=by rw [hL];rfl
 rw [← hL] at du hlen Zk;rw [← hL];generalize hfits:d.fits s (L / 512:Nat)=fb at *;have zk:Hid (d.fits s (L / 512:Nat)=fb):=hfits;have Mf:Hid (Calls prog 41 #[.pointer (some ⟨b,0,none⟩),.int .i64 s,.int .i64 ((L / 512:Nat):Int)] w fun e w'=>e = .returned (.bool fb)∧w=w'):=H0
 obtain ⟨n,hn⟩ : ∃ n,n=L / 512:=⟨_,rfl⟩;obtain ⟨m,hm⟩ : ∃ m,m=L % 512:=⟨_,rfl⟩;rw [← hn] at q1 Mf zk HP HW;rw [← hm] at q2 HW;have JD:Hid (L=n*512+m∧m<512):=⟨by omega,by omega⟩
 clear h hE hF OY hL bE H0 hfits hp hn hm;cases hd:d.dead
 ·rw [hd] at c5;by_cases b1:n=0
  ·have HR:Hid (d.write s l=(d,1)):=by
    show d.write s l=_
    rw [HW.out,hd,if_neg (by simp),if_pos]
    have:=JD.out;by_cases e:L=0
    ·exact .inl e
    ·exact .inr (.inl (by omega))
   have t1:((n:Int) == 0)=true:=by simp [b1]
   clear HW b1 JD;go_enter func98,ntmps98;go_wp2_with fail;go_ret;rw [HR.out];exact ⟨rfl,F,HK.out,Step.refl _ _⟩
  ·have t1:((n:Int) == 0)=false:=by simp;omega
   by_cases b2:m=0
   ·subst b2;cases fb
    ·have HR:Hid (d.write s l=(d,1)):=by
      show d.write s l=_
      rw [HW.out,hd,if_neg (by simp),if_pos (.inr (.inr rfl))]
     clear HW b1 JD;go_enter func98,ntmps98;go_wp2_with (go_at_call 41;refine Mf.out.mono ?_;rintro e w' ⟨rfl,rfl⟩)
     go_ret;rw [HR.out];exact ⟨rfl,F,HK.out,Step.refl _ _⟩
    ·have HR:Hid (d.write s l=bD.done { d with aS:=d.aS++chunks s l n,nw:=wrap64 (d.nw+(n:Int)) }):=by
      show d.write s l=_
      rw [HW.out,hd,if_neg (by simp),if_neg]
      have:=JD.out;rintro (h | h | h)
      ·omega
      ·exact h rfl
      ·cases h
     have Jl:L=n*512:=by have:=JD.out;omega
     clear HW JD;go_enter func98,ntmps98;go_wp2_with (go_at_call 41;refine Mf.out.mono ?_;rintro e w' ⟨rfl,rfl⟩)
     have HLn:Hid (L=n*512):=Jl;have HI:Hid (Jz w w b F F d s l 0):=⟨by simpa [chunks] using HK.out,Step.refl _ _⟩
     obtain ⟨acz,Zj⟩:=Zk (by omega)
     subst acz;have eE:=zk.out;simp only [bD.fits,decide_eq_true_eq] at eE;have jT:=HK.out.ok.s1;have acn:0≤s:=eE.1;have mU:s≤d.size - (n:Int):=eE.2.2;have adu:Hid (l.length=n*512):=by show l.length=_;rw [← HL.out];exact Jl
     obtain ⟨i0,hi,nP,mB,pB⟩:=info_parts Tryz.info93;clear Jl Zk c5 e7 e0 Mf zk q1 q2 t1;go_loopw [35] (fun i wr=>∃ k F',k≤n∧i = .int .i64 (k:Int)∧Jz w wr b F F' d s l k) (fun i _=>n - (intOf i).toNat)
     case atStart=>exact ⟨0,F,aC _,rfl,HI.out⟩
     case round =>
      obtain ⟨k,F',hk,rfl,inv⟩:=hrel;have ve:Hid (Jz w wr b F F' d s l k):=inv;obtain ⟨mb',TP,QS,av',Dn',h'⟩:=inv.dev;clear inv HI;have Ec:({ d with aS:=d.aS++chunks s l k }:bD).aS.length=d.aS.length+k:=by simp [yw]
      by_cases bX:k<n
      ·have QW:=HP.out;obtain ⟨P,hP⟩ : ∃ P,P=d.aS.length+k:=⟨_,rfl⟩;have ZY:Hid (P=d.aS.length+k):=hP;rw [← hP] at Ec;have hPb:P+1≤5864062014805:=by omega
       have x2:wr.cell? ⟨b,2,none⟩=some QS:=h'.cell 2;have x3:wr.cell? ⟨b,3,none⟩=some (.map (some TP)):=h'.cell 3;have xY:=h'.rS;have pY:=h'.aS;rw [Ec] at xY pY;obtain ⟨pa,pc,rfl,-⟩:=ia pY;have TW:wrap64 (s+(k:Int))=s+(k:Int):=JM (by omega) (by omega)
       have abB:IntKind.i64.wrap (s+(k:Int))=s+(k:Int):=wrap_i64 _ (by omega) (by omega)
       obtain ⟨w1,Yl,dq,tD⟩:=xY.drew.store D3 underlying139 (by unfold maxLen;omega) (Sc (i:=s+(k:Int)) (by omega) (by omega)) (plainElem_int underlying3 (kwf (i:=(P:Int)) (by omega) (by omega)))
       have fJ:wr.grownBy w1 (some TP):=⟨tD.grown.os,tD.grown.tape,tD.grown.output,tD.grown.size,tD.grown.block⟩;have fh:b≠TP:=dZ h'.rS h'.dy;have y2:=qN fJ x2 fh;have y3:=qN fJ x3 fh;have fz:w1.frozen? ⟨b,2,none⟩=false:=by
        unfold World.frozen?;rw [show w1.heap[(⟨b,2,none⟩ : Addr).block]?=_ from (fJ.block b (Array.getElem?_eq_some_iff.1 h'.dy).1 (by simpa using fh)).trans h'.dy]
        simp
       have Pe:∀ j (h:j<l.length),g<w.heap.size:=fun j h=>World.block_lt_of_cell? w _ (HC.out j h)
       have yh:=ER (w:=w1) (g:=g) (l:=l) (fun j h=>by
        have c:=HC.out j h;have hF':¬ F' g:=fun hf=>(ve.out.step.sub g hf).elim Zj (fun hs=>by have:=Pe j h;omega)
        have c1:=ve.out.step.cell (a:=⟨g,j,none⟩) c Zj;exact qN fJ c1 (fun e=>hF' (by rw [show g=TP from e];exact h'.fn))) k (by rw [← HL.out,HLn.out];omega) (cap - k*512)
       obtain ⟨D,hD⟩ : ∃ D,D=Gz ((l.drop (k*512)).take 512):=⟨_,rfl⟩;rw [← hD] at yh;have HD:Hid (D=Gz ((l.drop (k*512)).take 512)):=hD;have HH:Hid (cV wr b F' { d with aS:=d.aS++chunks s l k } mb' TP (.slice pa P pc) av' Dn'):=h';have HM:Hid (w1.ownsMap prog 3 (plainElem prog 3) TP (P+1) (Dn'.put (.int .i64 (s+(k:Int))) (.lit (.int .i64 (P:Int))))):=dq;have H8:Hid (wr.grownBy w1 (some TP)):=fJ;have oy:w1.ownsRow 0 93 2 (.slice pa P pc) P (fE (d.aS++chunks s l k)):=eK pY fun j hj=>by
        obtain ⟨_,bX,cur,G4⟩:=eA pY j hj;exact fJ.block j bX (by simpa using dZ h'.rS G4)
       have i1:IntKind.i64.wrap ((k:Int)*512)=(k:Int)*512:=wrap_i64 _ (by omega) (by omega)
       have i2:IntKind.i64.wrap (((k:Int)+1)*512)=((k:Int)+1)*512:=wrap_i64 _ (by omega) (by omega)
       have ahl:((k:Int)+1)*512≤(cap:Int):=by have:=HLn.out;omega
       have ahx:(k+1)*512 - k*512=512:=by omega
       have ahk:(k:Int)*512≤((k:Int)+1)*512:=by omega
       have ahj:(0:Int)≤(k:Int)*512:=by omega
       clear hD h' dq tD fJ xY pY hP Pe eE;go_wp2_with fail;go_region_held3 (fun w'=>w'.cell? ⟨b,2,none⟩=some (.slice pa P pc)∧w'.cell? ⟨b,3,none⟩=some (.map (some TP))) (first | exact ⟨x2,x3⟩ | exact ⟨y2,y3⟩ | go_keep) (fail)
       have pO:=bM w1 #[.int .i64 (s+(k:Int)),.string D] 93;go_wp2_with (first
        | (at_builtin;refine wpList_append_lies _ rfl _ _ 22 rfl 0 93 i0 (.agg #[.int .i64 0,.string ⟨#[]⟩]) 2 24 underlying22 hi nP mB pB rfl (by decide) _ _ _ rfl (oy.alloc _) ⟨w1.heap.size,0,none⟩ 1 1 [.int .i64 (s+(k:Int)),.string D] rfl rfl ?c1 ?c2 ?c3 ?c4 ?c5 ?c6 (w1.heap.size+1) ?c7 ?_))
       case c2=>exact ⟨rfl,rfl⟩
       case c4=>unfold maxLen;omega
       case c5=>omega
       intro g2 Tf w2 eV yd Zi ab3;have Vj:({ d with aS:=d.aS++chunks s l k }:bD).aS.length=P:=Ec;have aY:w2.heap[b]?=w1.heap[b]?:=by
        have bL:b<w1.heap.size:=World.block_lt_of_cell? w1 _ y2;rw [yd.block b (by simp;omega) (fun e=>?_)]
        ·exact (ai w1 _).block b bL
        ·obtain ⟨_,_,cur,G4⟩:=eA oy b e.symm;have hx:=(H8.out.block b (Array.getElem?_eq_some_iff.1 HH.out.dy).1 (by simpa using fh)).trans HH.out.dy
         rw [G4] at hx;simp at hx
       have z2:w2.cell? ⟨b,2,none⟩=some (.slice pa P pc):=(World.cell?_of_block (a:=⟨b,2,none⟩) aY).trans y2;have fz2:w2.frozen? ⟨b,2,none⟩=false:=by
        have hx:=(H8.out.block b (Array.getElem?_eq_some_iff.1 HH.out.dy).1 (by simpa using fh)).trans HH.out.dy
        unfold World.frozen?;rw [show w2.heap[(⟨b,2,none⟩ : Addr).block]?=_ from aY.trans hx]
        simp
       have Jc:w2.ownsRow 0 93 2 (.slice (some ⟨g2,0,none⟩) (P+1) Tf) (P+1) (fE ((d.aS++chunks s l k)++[chunk s l k])):=by
        rw [Bt];have:fE [chunk s l k]=[.int .i64 (s+(k:Int)),.string D]:=by rw [HD.out];rfl
        rw [this];exact eV
       have OQ:=H8.out.size;have YW:w1.grownBy w2 (Value.slice pa P pc).ownBlock:=(World.grownBy_alloc w1 _ _).trans yd;have PB:=HH.out.UZ (w1:=w1) (w2:=w2) (w3:=w2.setCell ⟨b,2,none⟩ (.slice (some ⟨g2,0,none⟩) (P+1) Tf)) (chunk s l k) (P5 acn mU adu.out bX) (by rw [Vj];exact HM.out) H8.out g2 Tf (by rw [Vj];exact Jc) YW (Zi.imp id (fun e=>by omega)) (by rw [Vj])
       have V:Jz w (w2.setCell ⟨b,2,none⟩ (.slice (some ⟨g2,0,none⟩) (P+1) Tf)) b F (fun k=>F' k∨k=g2) d s l (k+1):=by
        refine ⟨?_,ve.out.step.trans PB.2⟩;rw [uS,← ax];exact ⟨_,_,_,_,_,PB.1⟩
       clear PB Jc YW eV yd Zi ab3 aY HM H8 HH ve x2 x3 y2 y3 oy pO yh Yl;go_wp2_with fail;go_roundw
       case rel=>exact ⟨k+1,_,by omega,by go_num,V⟩
       case measure=>simp [intOf];omega
      ·have Pc:k=n:=by omega
       subst Pc;have x7:wr.cell? ⟨b,7,none⟩=some (.int .i64 d.nw):=h'.cell 7;have f7:=h'.frozen 7;have cC:=h'.ok;obtain ⟨h5,s5⟩:=h'.set (d':={ d with aS:=d.aS++chunks s l k,nw:=wrap64 (d.nw+(k:Int)) }) 7 (.int .i64 (wrap64 (d.nw+(k:Int)))) rfl rfl rfl rfl ⟨cC.s0,cC.s1,cC.eF,cC.rise,cC.aS,cC.eQ⟩;have S5:=ve.out.step.trans s5;have O:=HO.out _ _ { d with aS:=d.aS++chunks s l k,nw:=wrap64 (d.nw+(k:Int)) } rfl ⟨_,_,_,_,_,h5⟩ (HE.out.step S5 HF.out) (S5.ge HF.out HE.out.size) (by rw [Ec];have:=HP.out;omega) hd
       have gX:Hid (Cp A (wr.setCell ⟨b,7,none⟩ (.int .i64 (wrap64 (d.nw+(k:Int))))) b F' { d with aS:=d.aS++chunks s l k,nw:=wrap64 (d.nw+(k:Int)) }):=O;have sU:Hid (Step F F' w (wr.setCell ⟨b,7,none⟩ (.int .i64 (wrap64 (d.nw+(k:Int)))))):=S5;clear h' h5 s5 S5 O cC Ec ve eE;go_wp2_with fail;refine gX.out.mono ?_
       rintro e w6 ⟨rfl,F6,h6,s6⟩;have oR:Hid (sK w b F (d.write s l).1 w6):=by rw [HR.out];exact ⟨F6,h6,sU.out.trans s6⟩
       have HV:Hid (bD.done { d with aS:=d.aS++chunks s l k,nw:=wrap64 (d.nw+(k:Int)) }=d.write s l):=HR.out.symm;rw [HV.out];clear gX sU HR h6 s6;go_wp2_with fail;go_ret;exact ⟨rfl,oR.out⟩
   ·have HR:Hid (d.write s l=(d,1)):=by
     show d.write s l=_
     rw [HW.out,hd,if_neg (by simp),if_pos (.inr (.inl b2))]
    have t2:((m:Int) != 0)=true:=by simp;omega
    clear HW b1 b2 JD;go_enter func98,ntmps98;go_wp2_with fail;go_ret;rw [HR.out];exact ⟨rfl,F,HK.out,Step.refl _ _⟩
 ·rw [hd] at c5;have HR:Hid (d.write s l=(d,8)):=by show d.write s l=_;rw [HW.out,hd];rfl
  clear HW JD;go_enter func98,ntmps98;go_wp2_with fail;go_ret;rw [HR.out];exact ⟨rfl,F,HK.out,Step.refl _ _⟩
theorem MK(w:World):(zeroValue 3).run prog w = .ok (.int .i64 0) w:=by kernel_rfl
theorem XA:(prog.info? 144).map (fun i=>(i.zero,i.size))=some (some (.agg zeroCells144),512):=by kernel_rfl
theorem TK(w:World):(zeroValue 144).run prog w = .ok (arr qg) w:=by
 have h:=(zero_of_info XA).1 w;rw [zc] at h;rw [h,arr,qg,tU]
theorem eW{P:Program}{ops:Array Oper}{rest:List Oper}{op:Oper}{a:Act}{w w':World}{Q:Exit→Act→World→Prop}(nQ:op.guard=none)(ty:TypeId)(x y:Operand)(ho:op.op = .store ty x y)(p v:Value)(hx:a.eval x=p)(hy:a.eval y=v)(bo:(Instr.storeAt ty p v).run P w = .ok () w')(h:wpList P ops Q rest (a.put op.dst undef) w'):wpList P ops Q (op::rest) a w :=
 wpList_plain nQ fun _ hK=>by
  unfold Oper.wp execOp;simp only [ho,hx,hy,Sem.run_bind,bo,Result.andThen_ok,Sem.run_pure];exact hK _ _ h
theorem UM(w:World)(t:ByteArray)(ht:t.size=512):(Instr.storeAt 144 (.pointer (some ⟨w.heap.size,0,none⟩)) (arr t)).run prog (w.alloc (.cells zeroCells144 144)) = .ok () (w.alloc (.cells (dR (bl t)).toArray 144)) :=
 run_storeAt_new w 144 zeroCells144 (dR (bl t)).toArray (by rw [Bl,List.size_toArray,a6,jE,ht]) (by rw [zc,List.size_toArray,List.size_toArray,a6,a6,ju,jE,ht]) (all_oneCell_toArray (rp _))
theorem zW(pre GA post new:List UInt8)(h:GA.length=new.length):((dR (pre++GA++post)).toArray.toList.take pre.length++dR new++(dR (pre++GA++post)).toArray.toList.drop (pre.length+new.length)).toArray=(dR (pre++new++post)).toArray:=by
 congr 1
 rw [ax pre GA post,jv,jv,jv,jv,← h];have e1:List.take pre.length (dR pre++(dR GA++dR post))=dR pre:=by
  rw [aF (by rw [a6];omega),ar (by rw [a6];omega)]
 have e2:List.drop (pre.length+GA.length) (dR pre++(dR GA++dR post))=dR post:=by
  rw [← ax,List.drop_append,List.drop_of_length_le (by rw [ae,a6,a6];omega),ae,a6,a6]
  simp
 rw [e1,e2]
theorem PL{l:List gJ}{i:Int}:(l.any fun x=>decide (x.ix=i))=(l.find? fun x=>decide (x.ix=i)).isSome:=by
 induction l with
 | nil=>rfl
 | cons x r ih =>
  by_cases h:x.ix=i
  ·simp [h]
  ·simp [h,ih]
def cG(w:World)(g:Nat)(l:List UInt8):Prop:=w.heap[g]?=some (.cells (dR l).toArray 5 (0,0))
theorem P3(w:World)(g:Nat)(pre GA post:List UInt8)(t:ByteArray)(L C:Nat)(hr:cG w g (pre++GA++post))(hm:GA.length=512)(ht:t.size=512)(hL:512≤L):∃ w2,(Builtin.copy_ #[145,9] 3 #[.slice (some ⟨g,pre.length,none⟩) L C,.string t]).run prog w = .ok (goInt t.size) w2∧cG w2 g (pre++bl t++post)∧w.grownBy w2 (some g):=by
 have bo:=Lib.run_copy_row_string (P:=prog) w 145 9 3 5 g pre.length L C t _ 5 underlying145 uk hr (by omega) (by rw [List.size_toArray,a6,ae,ae];omega)
 have e:=zW pre GA post (bl t) (by rw [jE];omega)
 rw [jE] at e;rw [zP,show t.data.toList=bl t from rfl,e] at bo
 refine ⟨_,bo,setRow_heap _ g _ _ 5 _ hr,?_⟩;exact ⟨rfl,rfl,rfl,by simp [World.setRow],fun k _ hn=>by
  have:g≠k:=fun e=>hn (by rw [e])
  simp [World.setRow,Array.getElem?_modify,this]⟩
theorem P4(w:World)(g ga:Nat)(pre GA post:List UInt8)(t:ByteArray)(L C:Nat)(hr:cG w g (pre++GA++post))(ha:w.heap[ga]?=some (.cells (dR (bl t)).toArray 144 (0,0)))(hm:GA.length=512)(ht:t.size=512)(hL:512≤L):∃ w2,(Builtin.copy_ #[145,145] 3 #[.slice (some ⟨g,pre.length,none⟩) L C,.slice (some ⟨ga,0,none⟩) 512 512]).run prog w = .ok (goInt 512) w2∧cG w2 g (pre++bl t++post)∧w.grownBy w2 (some g):=by
 have hl:(dR (bl t)).length=512:=by rw [a6,jE,ht]
 have bo:=run_copy_row (P:=prog) w 145 145 3 5 g pre.length L C ⟨ga,0,none⟩ 512 512 _ 5 (dR (bl t)) underlying145 uk hr (by rw [hl];exact (a8 hL).symm)
  (fun j v hv=>by
   rw [Addr.add_mid,cell_of_row _ _ _ _ _ _ ha,Nat.zero_add];simpa using hv)
  (by rw [hl,List.size_toArray,a6,ae,ae];omega) (rp _)
 have e:=zW pre GA post (bl t) (by rw [jE];omega)
 rw [jE,ht] at e;rw [hl,e] at bo;refine ⟨_,bo,setRow_heap _ g _ _ 5 _ hr,?_⟩;exact ⟨rfl,rfl,rfl,by simp [World.setRow],fun k _ hn=>by
  have:g≠k:=fun e=>hn (by rw [e])
  simp [World.setRow,Array.getElem?_modify,this]⟩
theorem LD(b:Nat)(F:Nat→Prop)(d:bD)(w:World)(h:cM w b F d)(g:Nat)(pre post:List UInt8)(s:Int)(L C:Nat)(hr:cG w g (pre++fC 512++post))(hL:512≤L)(h0:0≤s)(h1:s<9223372036854775808):Calls prog 186 #[.pointer (some ⟨b,0,none⟩),.slice (some ⟨g,pre.length,none⟩) L C,.int .i64 s] w fun e w'=>e = .returned (.tuple #[])∧cG w' g (pre++bl (gh d s)++post)∧w.grownBy w' (some g):=by
 obtain ⟨mb,nb,pv,av,Dn,h⟩:=h;have c3:w.cell? ⟨b,3,none⟩=some (.map (some nb)):=h.cell 3;have xY:=h.rS;have Pb:=Sc h0 h1;obtain ⟨n1,n2⟩:=h.new s;obtain ⟨off,Vl⟩ : ∃ off,off=pre.length:=⟨_,rfl⟩;have HOF:Hid (off=pre.length):=Vl;rw [← Vl];clear Vl;cases Ue:ew d.aS s with
 | some k =>
  have SF:Maps.has Dn (.int .i64 s)=true:=by rw [n1,Ue];rfl
  have acx:=n2 k Ue;have ep:=kC Ue;have c2:w.cell? ⟨b,2,none⟩=some pv:=h.cell 2;have gN:Hid (gh d s=d.aS[k].kS):=by show gh d s=_;unfold gh;rw [Ue];simp [ep]
  obtain ⟨pa,pc,rfl,T9⟩:=ia h.aS;obtain ⟨gp,rfl⟩:=T9 (by omega)
  have p1:=tk h.aS rfl _ _ (mM d.aS k ep).2;have cp:=(Db h.ok ep).len;obtain ⟨D,hD⟩ : ∃ D,D=d.aS[k].kS:=⟨_,rfl⟩;rw [← hD] at gN p1 cp;obtain ⟨P,hP⟩ : ∃ P,P=d.aS.length:=⟨_,rfl⟩;rw [← hP] at c2 ep;obtain ⟨w2,zf,bV,AN⟩:=P3 w g pre (fC 512) post D L C hr (ju 512) cp hL;rw [← HOF.out] at zf;have HRR:Hid (cG w2 g (pre++bl D++post)∧w.grownBy w2 (some g)):=⟨bV,AN⟩;rw [gN.out];clear h n1 n2 Ue hD hP bV AN gN hr;go_enter func186,ntmps186;go_wp2_with (first
   | (at_lookup;refine wpList_lookup_own_ok_int _ rfl _ _ 139 rfl 3 3 .i64 D3 underlying139 underlying3 (MK _) nb _ Dn rfl xY _ _ rfl Pb ?_;intro c Cx hwc;(obtain rfl:c=(k:Int):=by rw [acx] at Cx;simpa using Cx.symm);rw [SF]))
  refine bodyPost_ret (results_none rfl _ _ _) rfl ?_
  exact ⟨rfl,HRR.out⟩
 | none =>
  have SF:Maps.has Dn (.int .i64 s)=false:=by rw [n1,Ue];rfl
  have c1:w.cell? ⟨b,1,none⟩=some (.map (some mb)):=h.cell 1;have Uc:=h.mapD;obtain ⟨T,hT⟩ : ∃ T,T=fx d.eF s:=⟨_,rfl⟩;have Xh:T.size=512:=by rw [hT];exact se h.ok.eF s
  have hTz:Maps.has (me d.eF) (.int .i64 s)=false→T=qg:=fun hz=>by
   rw [PS,PL] at hz;rw [hT];unfold fx;cases hf:d.eF.find? (fun x=>decide (x.ix=s)) with
   | none=>rfl
   | some x=>rw [hf] at hz;cases hz
  have hV:∀ v ps,tg v=some ((me d.eF).atKey (.int .i64 s) (.lit (.string (bl qg))),ps)→v=arr T:=fun v ps hv=>by
   obtain ⟨t,ht,rfl,he⟩:=Nv hv;rw [S2] at he;rw [hT];unfold fx;cases hf:d.eF.find? (fun x=>decide (x.ix=s)) with
   | none=>rw [hf] at he;simp only [Prod.mk.injEq,DataW.lit.injEq,Lit.string.injEq] at he;rw [Ca he.1.symm]
   | some x=>rw [hf] at he;simp only [Prod.mk.injEq,DataW.lit.injEq,Lit.string.injEq] at he;rw [Ca he.1.symm]
  have gN:Hid (gh d s=T):=by show gh d s=_;unfold gh;rw [Ue,hT]
  rw [gN.out];have bX:=(Array.getElem?_eq_some_iff.1 hr).1;have aY:=ai w (.cells (dR (bl T)).toArray 144);have iK:cG (w.alloc (.cells (dR (bl T)).toArray 144)) g (pre++fC 512++post):=(aY.block g bX).trans hr;have eS:=UM w T Xh;have oB:=heap_alloc_new w (.cells (dR (bl T)).toArray 144);obtain ⟨w2,zf,bV,AN⟩:=P4 (w.alloc (.cells (dR (bl T)).toArray 144)) g w.heap.size pre (fC 512) post T L C iK oB (ju 512) Xh hL;rw [← HOF.out] at zf;have HRR:Hid (cG w2 g (pre++bl T++post)∧w.grownBy w2 (some g)):=⟨bV,(oH aY).trans AN⟩;have Hy:Hid (Maps.has (me d.eF) (.int .i64 s)=false→cG (w.alloc (.cells (dR (bl T)).toArray 144)) g (pre++bl T++post)∧w.grownBy (w.alloc (.cells (dR (bl T)).toArray 144)) (some g)):=fun hz=>⟨by rw [show pre++bl T++post=pre++fC 512++post by rw [hTz hz,qg,tU]];exact iK,oH aY⟩
  obtain ⟨cs,fG⟩ : ∃ cs,cs=(dR (bl T)).toArray:=⟨_,rfl⟩;rw [← fG] at eS zf Hy;obtain ⟨V,hVd⟩ : ∃ V,V=arr T:=⟨_,rfl⟩;rw [← hVd] at eS;have hV2:Hid (∀ v ps,tg v=some ((me d.eF).atKey (.int .i64 s) (.lit (.string (bl qg))),ps)→v=V):=by rw [hVd];exact hV
  have Rr:True:=trivial;generalize hhD:Maps.has (me d.eF) (.int .i64 s)=hb at Hy;clear hTz hVd h n1 n2 Ue hT hr hV bV AN gN aY iK oB Xh fG bX;go_enter func186,ntmps186;cases hb
  ·go_wp2_with (first
    | (at_lookup;have _t:=Rr;refine wpList_lookup_own_ok_int _ rfl _ _ 139 rfl 3 3 .i64 D3 underlying139 underlying3 (MK _) nb _ Dn rfl xY _ _ rfl Pb ?_;intro c Cx hwc;clear Rr Cx hwc;rw [SF])
    | (at_lookup;refine wpList_lookup_own_ok _ rfl _ _ 138 rfl 3 144 D3 underlying138 tg (TK _) (.lit (.string (bl qg))) [] (wP sW) mb _ (me d.eF) rfl Uc _ _ rfl Pb ?_;intro v ps hv;(obtain rfl:v=V:=hV2.out v ps hv);clear hv;rw [hhD])
    | (refine eW rfl 144 _ _ rfl _ _ rfl rfl eS ?_))
   go_end0
   refine ⟨rfl,?_⟩;have r:=Hy.out (by first | trivial | rfl)
   rw [ax] at r;exact r
  ·go_wp2_with (first
    | (at_lookup;have _t:=Rr;refine wpList_lookup_own_ok_int _ rfl _ _ 139 rfl 3 3 .i64 D3 underlying139 underlying3 (MK _) nb _ Dn rfl xY _ _ rfl Pb ?_;intro c Cx hwc;clear Rr Cx hwc;rw [SF])
    | (at_lookup;refine wpList_lookup_own_ok _ rfl _ _ 138 rfl 3 144 D3 underlying138 tg (TK _) (.lit (.string (bl qg))) [] (wP sW) mb _ (me d.eF) rfl Uc _ _ rfl Pb ?_;intro v ps hv;(obtain rfl:v=V:=hV2.out v ps hv);clear hv;rw [hhD])
    | (refine eW rfl 144 _ _ rfl _ _ rfl rfl eS ?_))
   go_end0
   exact ⟨rfl,HRR.out⟩
theorem BF(n:Nat):(madeCells #[Value.int .u8 0] n).toList=dR (fC n):=by
 rw [dR,fC,oQ];simp [madeCells,Nat.mod_one,List.map_const']
theorem Bu{w:World}{base g n:Nat}{l:List UInt8}(h:w.ownsRow base 5 1 (.slice (some ⟨g,0,none⟩) n n) n (dR l)):cG w g l:=by
 rcases h.2 with ⟨h',_⟩ | ⟨g',eO,cur,h',hb,hg,hn,hc,hs,ht⟩
 ·cases h'
 ·cases h'
  unfold cG;rw [hg,← ht,ar (by simpa using Nat.le_of_eq hs)]
theorem BC{w:World}{base g n:Nat}{l:List UInt8}(h:cG w g l)(hl:l.length=n)(hb:base≤g)(hn:n≤maxLen):w.ownsRow base 5 1 (.slice (some ⟨g,0,none⟩) n n) n (dR l) :=
 ⟨by rw [a6];omega,.inr ⟨g,n,_,rfl,hb,h,aj _,hn,by simp [a6];omega,by
  rw [ar (by simp [a6];omega)]⟩⟩
structure yI(A:Nat→Addr)(w:World)(b:Nat)(F:Nat→Prop)(r:bD × List UInt8 × Nat)(e:Ending)(w':World)(v:Value):Prop where
 ret:e = .returned (.tuple #[v,im A r.2.2])
 row:w'.ownsRow w.heap.size 5 1 v r.2.1.length (dR r.2.1)
 dev:cM w' b F r.1
 step:Step F F w w'
 one:Step (fun k=>k=b) (fun k=>k=b) w w'
structure JA(w wr:World)(d:bD)(s:Int)(m k:Nat):Prop where
 row:cG wr w.heap.size (iO d s k++fC ((m - k)*512))
 ff:Below w.heap.size w wr
theorem lM(base:Nat)(A:Nat→Addr)(b:Nat)(F:Nat→Prop)(d:bD)(w:World)(h:cM w b F d)(hE:mw base A w)(s n:Int)(hn:n<9223372036854775808):Calls prog 151 #[.pointer (some ⟨b,0,none⟩),.int .i64 s,.int .i64 n] w fun e w'=>∃ v,yI A w b F (d.read s n) e w' v:=by
 have HK:Hid (cM w b F d):=h;have H0:=AJ b F d s n w h hn;generalize hf:d.fits s n=fb at H0;have zk:Hid (d.fits s n=fb):=hf;have Mf:Hid (Calls prog 41 #[.pointer (some ⟨b,0,none⟩),.int .i64 s,.int .i64 n] w fun e w'=>e = .returned (.bool fb)∧w=w'):=H0
 obtain ⟨mb,nb,pv,av,Dn,h⟩:=h;have c5:w.cell? ⟨b,5,none⟩=some (.bool d.dead):=h.cell 5;have e7:=hE.dead;have e0:=hE.arg;have e2:=hE.many;clear h hE H0 hf;have HER:Hid (∀ m c,d.read s n=(d,[],c)→∃ v,yI A w b F (d.read s n) (.returned (.tuple #[.slice none 0 0,im A c])) (w.drewN m) v):=fun m c hc=>by
  rw [hc];exact ⟨_,rfl,World.ownsRow_nil _ _ _ _,HK.out.below (below_drewN (Below.refl _ _) m),Step.bx (below_drewN (Below.refl _ _) m),Step.bx (below_drewN (Below.refl _ _) m)⟩
 cases hd:d.dead
 ·rw [hd] at c5;cases fb
  ·have HR:Hid (d.read s n=(d,[],1)):=by show d.read s n=_;unfold bD.read;rw [hd,zk.out];rfl
   go_enter func151,ntmps151;go_wp2_with (go_at_call 41;refine Mf.out.mono ?_;rintro e w' ⟨rfl,rfl⟩)
   go_quiet (fail)
   go_wp2_with fail;go_ret2;exact HER.out _ 1 HR.out
  ·have eE:=zk.out;simp only [bD.fits,decide_eq_true_eq] at eE;have jT:=HK.out.ok.s1;by_cases hm:1024<n
   ·have HR:Hid (d.read s n=(d,[],3)):=by show d.read s n=_;unfold bD.read;rw [hd,zk.out];simp [hm]
    go_enter func151,ntmps151;go_wp2_with (go_at_call 41;refine Mf.out.mono ?_;rintro e w' ⟨rfl,rfl⟩)
    go_quiet (fail)
    go_wp2_with fail;go_ret2;exact HER.out _ 3 HR.out
   ·obtain ⟨m,rfl⟩ : ∃ m:Nat,n=(m:Int):=⟨n.toNat,by omega⟩
    have HR:Hid (d.read s (m:Int)=({ d with nr:=wrap64 (d.nr+(m:Int)) },iO d s m,0)):=by show d.read s _=_;unfold bD.read;rw [hd,zk.out];simp [hm]
    obtain ⟨i0,hi,nP,mB,pB⟩:=info_parts Tryz.info5;have i1:IntKind.i64.wrap ((m:Int)*512)=(m:Int)*512:=wrap_i64 _ (by omega) (by omega)
    have sN:decide ((1024:Int)<(m:Int))=false:=decide_eq_false (by omega)
    clear e7 e0 e2 HER;go_enter func151,ntmps151;go_wp2_with (first
     | (go_at_call 41;refine Mf.out.mono ?_;rintro e w' ⟨rfl,rfl⟩)
     | (at_make;refine wpList_make_full _ rfl _ _ 145 rfl 0 5 i0 (.int .u8 0) 1 underlying145 hi nP mB .i64 .i64 _ _ (m*512) rfl rfl ?c0 ?c0 ?c1 ?c2 (aC _) ?_))
    case c0=>omega
    case c1=>rw [pB];omega
    case c2=>unfold maxLen;omega
    intro w1 oy fJ;rw [BF] at oy;have HI:Hid (JA w w1 d s m 0):=⟨by simpa [iO] using Bu oy,⟨fJ.os,fJ.tape,fJ.output,fJ.size,fun k hk=>fJ.block k hk (by simp)⟩⟩
    clear oy fJ;go_wp2_with fail;go_loopw [28] (fun i wr=>∃ k,k≤m∧i = .int .i64 (k:Int)∧JA w wr d s m k) (fun i _=>m - (intOf i).toNat)
    case atStart=>exact ⟨0,aC _,rfl,HI.out⟩
    case round =>
     obtain ⟨k,hk,rfl,inv⟩:=hrel;have ve:Hid (JA w wr d s m k):=inv;clear inv HI;by_cases bX:k<m
     ·have hz:fC ((m - k)*512)=fC 512++fC ((m - (k+1))*512):=by
       unfold fC;rw [List.replicate_append_replicate];congr 1;omega
      have bV:=ve.out.row;rw [hz,← ax] at bV;have C:=LD b F d wr (HK.out.below ve.out.ff) w.heap.size (iO d s k) (fC ((m - (k+1))*512)) (s+(k:Int)) (m*512 - k*512) (m*512 - k*512) bV (by omega) (by omega) (by omega)
      rw [pd HK.out.ok,← wY] at C;have HC:Hid (Calls prog 186 #[.pointer (some ⟨b,0,none⟩),.slice (some ⟨w.heap.size,k*512,none⟩) (m*512 - k*512) (m*512 - k*512),.int .i64 (s+(k:Int))] wr fun e w'=>e = .returned (.tuple #[])∧cG w' w.heap.size (iO d s (k+1)++fC ((m - (k+1))*512))∧wr.grownBy w' (some w.heap.size)):=C
      have j1:IntKind.i64.wrap ((k:Int)*512)=(k:Int)*512:=wrap_i64 _ (by omega) (by omega)
      have j2:IntKind.i64.wrap (s+(k:Int))=s+(k:Int):=wrap_i64 _ (by omega) (by omega)
      have j3:(k:Int)*512≤(m:Int)*512:=by omega
      have j4:(0:Int)≤(k:Int)*512:=by omega
      have j5:m*512≠k*512:=by omega
      clear C hz bV;go_wp2_with fail;refine HC.out.mono ?_
      rintro e w4 ⟨rfl,r4,g4⟩;have V:JA w w4 d s m (k+1):=⟨r4,ve.out.ff.trans ⟨g4.os,g4.tape,g4.output,g4.size,fun i hi=>g4.block i (al hi ve.out.ff.size) (fun e=>by have:=Option.some.inj e;omega)⟩⟩
      clear HC r4 g4 ve;go_wp2_with fail;go_roundw
      case rel=>exact ⟨k+1,by omega,by go_num,V⟩
      case measure=>simp [intOf];omega
     ·have Pc:k=m:=by omega
      subst Pc;have bV:=ve.out.row;rw [dI,Nat.zero_mul,show fC 0=[] from rfl,List.append_nil] at bV
      have Pm:=HK.out.below ve.out.ff;have cC:=Pm.ok;obtain ⟨mb4,nb4,pv4,av4,Dn4,h4⟩:=Pm;have x6:wr.cell? ⟨b,6,none⟩=some (.int .i64 d.nr):=h4.cell 6;have f6:=h4.frozen 6;obtain ⟨h5,s5⟩:=h4.set (d':={ d with nr:=wrap64 (d.nr+(k:Int)) }) 6 (.int .i64 (wrap64 (d.nr+(k:Int)))) rfl rfl rfl rfl ⟨cC.s0,cC.s1,cC.eF,cC.rise,cC.aS,cC.eQ⟩;have iq:w.heap.size≠b:=by have:=HK.out.lt b HK.out.fb;omega
      have HP:Hid (yI A w b F (d.read s (k:Int)) (.returned (.tuple #[.slice (some ⟨w.heap.size,0,none⟩) (k*512) (k*512),.nilIface])) (wr.setCell ⟨b,6,none⟩ (.int .i64 (wrap64 (d.nr+(k:Int))))) (.slice (some ⟨w.heap.size,0,none⟩) (k*512) (k*512))):=by
       rw [HR.out];refine ⟨rfl,?_,⟨_,_,_,_,_,h5⟩,(Step.bx ve.out.ff).trans s5,(Step.bx ve.out.ff).trans ⟨rfl,rfl,rfl,by simp,fun q _ hn=>Below.heap_setCell wr ⟨b,6,none⟩ _ _ hn,fun _ h=>.inl h⟩⟩
       simp only [pd HK.out.ok];exact BC ((Below.heap_setCell wr ⟨b,6,none⟩ _ _ iq).trans bV) (pd HK.out.ok s k) (aj _) (by unfold maxLen;omega)
      clear h4 h5 s5 bV cC ve;go_wp2_with fail;go_ret2;exact ⟨_,HP.out⟩
 ·rw [hd] at c5;have HR:Hid (d.read s n=(d,[],8)):=by show d.read s n=_;unfold bD.read;rw [hd];rfl
  go_enter func151,ntmps151;go_wp2_with fail;go_quiet (fail)
  go_wp2_with fail;go_ret2;exact HER.out _ 8 HR.out
end S.V
end Go.Proofs.YtihmgigfkmofnaaGreatDoor
