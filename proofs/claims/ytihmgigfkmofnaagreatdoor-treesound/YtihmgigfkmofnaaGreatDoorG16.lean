import Derived.Test.YtihmgigfkmofnaaGreatDoorG15
import Derived.Test.YtihmgigfkmofnaaGreatDoorG12
set_option maxHeartbeats 1600000
set_option maxRecDepth 100000
open Go.Proofs.Tryz
namespace Go.Proofs.YtihmgigfkmofnaaGreatDoor
namespace S.V
open Go.RowKit Go.Maps
def sP(w:World)(b:Nat)(F:Nat→Prop)(d:bE)(w':World):Prop:=∃ F',cP w' b F' d∧Step F F' w w'
def CN(A:Nat→Addr)(w:World)(b:Nat)(F:Nat→Prop)(d:bE):Prop:=Calls prog 101 #[.pointer (some ⟨b,0,none⟩)] w fun e w'=>e = .returned (im A d.done.2)∧sP w b F d.done.1 w'
def Nu(base:Nat)(A:Nat→Addr)(b:Nat)(eQ:List Kx):Prop:=∀ w F d,d.eQ=eQ→cP w b F d→mN base A w→(∀ k,F k→base≤k)→d.aX.length≤140737488355328→d.dead=false→CN A w b F d
theorem xS(base:Nat)(A:Nat→Addr)(b:Nat):Nu base A b []:=by
 intro w F d ha h _ _ _ _;obtain ⟨mb,nb,pv,av,Dn,h⟩:=h;have c4:w.cell? ⟨b,4,none⟩=some av:=h.cell 4;have HH:Hid (cX w b F d mb nb pv av Dn):=h;have QV:=h.eQ;have HD:Hid (d.done=(d,0)):=by show d.done=_;unfold bE.done;rw [ha]
 obtain ⟨a,c,rfl⟩ : ∃ a c,av = .slice a 0 c:=by
  rw [ha] at QV;rcases QV with ⟨_,rfl⟩ | ⟨g,off,cap,cur,fv,rfl,_⟩
  ·exact ⟨_,_,rfl⟩
  ·exact ⟨_,_,rfl⟩
 unfold CN;clear h QV ha;go_enter func101,ntmps101;go_wp2_with fail;go_ret;rw [HD.out];exact ⟨rfl,F,⟨_,_,_,_,_,HH.out⟩,Step.refl _ _⟩
structure wN(w wr:World)(b:Nat)(F:Nat→Prop)(d:bE)(mb nb:Nat)(pv av:Value)(Dn:DataW Unit)(k:Nat):Prop where
 body:cX wr b F { d with eG:=gO d.eG (d.aX.take k) } mb nb pv av Dn
 step:Step F F w wr
theorem qB(eG l:List gL)(x:gL):gO eG (l++[x])=rI (gO eG l) x.ix x.lx:=by simp [gO,List.foldl_append]
theorem OM(base:Nat)(A:Nat→Addr)(b:Nat)(F:Nat→Prop)(d:bE)(w:World)(h:cP w b F d)(hE:mN base A w)(hF:∀ k,F k→base≤k)(hp:d.aX.length≤140737488355328)(Qt:Nu base A b d.eQ):Calls prog 63 #[.pointer (some ⟨b,0,none⟩)] w fun e w'=>e = .returned (im A d.sync.2)∧sP w b F d.sync.1 w':=by
 obtain ⟨mb,nb,pv,av,Dn,h⟩:=h;have c5:w.cell? ⟨b,5,none⟩=some (.bool d.dead):=h.cell 5;have e7:=hE.dead;have HE:Hid (mN base A w):=hE;have HF:Hid (∀ k,F k→base≤k):=hF;have HO:Hid (Nu base A b d.eQ):=Qt;have HH:Hid (cX w b F d mb nb pv av Dn):=h;cases hd:d.dead
 ·have c2:w.cell? ⟨b,2,none⟩=some pv:=h.cell 2;obtain ⟨pa,pc,rfl,Qr⟩:=gY h.aX;obtain ⟨n,hn⟩ : ∃ n,n=d.aX.length:=⟨_,rfl⟩;have HN:Hid (n=d.aX.length):=hn;rw [← hn] at c2 hp Qr HH;have HI:Hid (wN w w b F d mb nb (.slice pa n pc) av Dn 0):=⟨by simpa [gO] using HH.out,Step.refl _ _⟩
  rw [hd] at c5;have HS:Hid (d.sync=bE.done { d with eG:=gO d.eG d.aX,aX:=[],ns:=wrap64 (d.ns+1) }):=by show d.sync=_;unfold bE.sync;rw [hd];rfl
  clear h hE hF Qt hn e7;go_enter func63,ntmps63;go_wp2_with fail;go_loopw [15] (fun i wr=>∃ k,k≤n∧i = .int .i64 (k:Int)∧wN w wr b F d mb nb (.slice pa n pc) av Dn k) (fun i _=>n - (intOf i).toNat)
  case atStart=>exact ⟨0,aB _,rfl,HI.out⟩
  case round =>
   obtain ⟨k,hk,rfl,inv⟩:=hrel;have vL:Hid (wN w wr b F d mb nb (.slice pa n pc) av Dn k):=inv;clear inv HI;by_cases bO:k<n
   ·obtain ⟨gp,rfl⟩:=Qr (by omega)
    have SE:k<d.aX.length:=by rw [← HN.out];exact bO
    obtain ⟨p0,p1⟩:=mZ d.aX k SE;have qj:=vL.out.body.aX;simp only [← HN.out] at qj;have p0:=tJ qj rfl _ _ p0;have p1:=tJ qj rfl _ _ p1;have cM:=DC HH.out.ok SE;obtain ⟨x,hx⟩ : ∃ x,x=d.aX[k]:=⟨_,rfl⟩;rw [← hx] at p0 p1 cM;have HX:Hid (x=d.aX[k]):=hx;clear hx qj;obtain ⟨xi,xd⟩:=x;have aV:=ai wr (.cells #[.int .i64 xi,.string xd] 93);have M:=Hj (vL.out.body.alloc aV) xi xd (by rw [show xd.size=512 from cM.len];omega) cM.lo cM.hi
    rw [Pm xd cM.len] at M;have HM:Hid (Calls prog 42 #[.pointer (some ⟨b,0,none⟩),.int .i64 xi,.string xd] (wr.alloc (.cells #[.int .i64 xi,.string xd] 93)) fun e w'=>e = .returned (.tuple #[])∧cX w' b F { d with eG:=rI (gO d.eG (d.aX.take k)) xi xd } mb nb (.slice (some ⟨gp,0,none⟩) n pc) av Dn∧(wr.alloc (.cells #[.int .i64 xi,.string xd] 93)).grownBy w' (some mb)):=M
    have bL:Hid _:=aV;clear M cM aV;go_wp2_with fail;refine HM.out.mono ?_
    rintro e w4 ⟨rfl,h4,s4⟩;have V:wN w w4 b F d mb nb (.slice (some ⟨gp,0,none⟩) n pc) av Dn (k+1):=by
     refine ⟨?_,(vL.out.step.trans (Step.bD bL.out)).trans ((vL.out.body.alloc bL.out).step s4)⟩;rw [GD _ k SE,qB,← HX.out];exact h4
    clear HM bL vL h4 s4 p0 p1;go_wp2_with fail;go_roundw
    case rel=>exact ⟨k+1,by omega,by go_num,V⟩
    case measure=>simp [intOf];omega
   ·have Me:k=d.aX.length:=by rw [← HN.out];omega
    have V:=vL.out.body;rw [Me,ao (aj _)] at V;have D:=Ri b F _ wr ⟨_,_,_,_,_,V⟩;have HD:Hid (Calls prog 100 #[.pointer (some ⟨b,0,none⟩)] wr fun e w'=>e = .returned (.tuple #[])∧cP w' b (fun k=>F k∨k=wr.heap.size) { d with eG:=gO d.eG d.aX,aX:=[] }∧Step F (fun k=>F k∨k=wr.heap.size) wr w'):=D
    clear D V Me;go_wp2_with fail;refine HD.out.mono ?_
    rintro e w4 ⟨rfl,h4,s4⟩;have cM:=h4.ok;obtain ⟨mb4,nb4,pv4,av4,Dn4,h4⟩:=h4;have k8:w4.cell? ⟨b,8,none⟩=some (.int .i64 d.ns):=h4.cell 8;have f8:=h4.frozen 8;obtain ⟨h5,s5⟩:=h4.set (d':={ d with eG:=gO d.eG d.aX,aX:=[],ns:=wrap64 (d.ns+1) }) 8 (.int .i64 (wrap64 (d.ns+1))) rfl rfl rfl rfl ⟨cM.s0,cM.s1,cM.eG,cM.rise,cM.aX,cM.eQ⟩;have S5:Step F (fun k=>F k∨k=wr.heap.size) w (w4.setCell ⟨b,8,none⟩ (.int .i64 (wrap64 (d.ns+1)))):=(vL.out.step.trans s4).trans s5
    have O:=HO.out _ _ { d with eG:=gO d.eG d.aX,aX:=[],ns:=wrap64 (d.ns+1) } rfl ⟨_,_,_,_,_,h5⟩ (HE.out.step S5 HF.out) (S5.ge HF.out HE.out.size) (aB _) hd;have jx:Hid (CN A (w4.setCell ⟨b,8,none⟩ (.int .i64 (wrap64 (d.ns+1)))) b (fun k=>F k∨k=wr.heap.size) { d with eG:=gO d.eG d.aX,aX:=[],ns:=wrap64 (d.ns+1) }):=O
    have te:Hid (Step F (fun k=>F k∨k=wr.heap.size) w (w4.setCell ⟨b,8,none⟩ (.int .i64 (wrap64 (d.ns+1))))):=S5
    clear HD h4 h5 s4 s5 S5 O cM vL;go_wp2_with fail;refine jx.out.mono ?_
    rintro e w6 ⟨rfl,F6,h6,s6⟩;have HR:Hid (sP w b F d.sync.1 w6):=by rw [HS.out];exact ⟨F6,h6,te.out.trans s6⟩
    have HV:Hid (bE.done { d with eG:=gO d.eG d.aX,aX:=[],ns:=wrap64 (d.ns+1) }=d.sync):=HS.out.symm;rw [HV.out];clear jx te HS h6 s6;go_wp2_with fail;go_ret;exact ⟨rfl,HR.out⟩
 ·rw [hd] at c5;have HS:Hid (d.sync=(d,8)):=by show d.sync=_;unfold bE.sync;rw [hd];rfl
  clear h hE hF Qt;go_enter func63,ntmps63;go_wp2_with fail;go_ret;rw [HS.out];exact ⟨rfl,F,⟨_,_,_,_,_,HH.out⟩,Step.refl _ _⟩
theorem Tryz.info93:(prog.info? 93).map (fun i=>(i.zero,i.size,i.bytes))=some (some (.agg #[.int .i64 0,.string ⟨#[]⟩]),2,24):=by kernel_rfl
theorem Pz{D:DataW Unit}{l:List gL}(h:Vb D l)(hD:Maps.IsMap D)(x:gL):Vb (D.put (.int .i64 x.ix) (.lit (.int .i64 (l.length:Int)))) (l++[x]):=by
 intro i;have hk:WideAt.IsKeyLit (.int .i64 x.ix):=trivial;rw [lK];by_cases e:x.ix=i
 ·subst e;refine ⟨by rw [Maps.has_put_same hD hk,if_pos rfl];rfl,fun k NT=>?_⟩
  rw [if_pos rfl] at NT;rw [Maps.atKey_put_same hD hk,← Option.some.inj NT]
 ·have ne:(Lit.int .i64 i)≠.int .i64 x.ix:=fun h=>e (by simpa using h.symm)
  rw [if_neg e];refine ⟨by rw [Maps.has_put_other ne];exact (h i).1,fun k NT=>?_⟩
  rw [Maps.atKey_put_other ne];exact (h i).2 k NT
theorem cX.W6{w w1 w2 w3:World}{b:Nat}{F:Nat→Prop}{d:bE}{mb nb:Nat}{pv av:Value}{Dn:DataW Unit}(h:cX w b F d mb nb pv av Dn)(x:gL)(hx:sM d.size x)(hm:w1.ownsMap prog 3 (plainElem prog 3) nb (d.aX.length+1) (Dn.put (.int .i64 x.ix) (.lit (.int .i64 (d.aX.length:Int)))))(fM:w.grownBy w1 (some nb))(g cap:Nat)(hr:w2.ownsRow 0 93 2 (.slice (some ⟨g,0,none⟩) (d.aX.length+1) cap) (d.aX.length+1) (fG (d.aX++[x])))(zZ:w1.grownBy w2 pv.ownBlock)(sB:pv.ownBlock=some g∨w.heap.size≤g)(NL:w3=w2.setCell ⟨b,2,none⟩ (.slice (some ⟨g,0,none⟩) (d.aX.length+1) cap)):cX w3 b (fun k=>F k∨k=g) { d with aX:=d.aX++[x] } mb nb (.slice (some ⟨g,0,none⟩) (d.aX.length+1) cap) av (Dn.put (.int .i64 x.ix) (.lit (.int .i64 (d.aX.length:Int))))∧Step F (fun k=>F k∨k=g) w w3:=by
 have Gd:∀ k,pv.ownBlock=some k→k<w.heap.size∧∃ cur,w.heap[k]?=some (.cells cur 93 (0,0)):=fun k hk=>(eL h.aX k hk).2
 have b8:w2.heap.size=w3.heap.size:=by rw [NL];simp [World.setCell]
 have iL:w.heap.size≤w2.heap.size:=ar fM.size zZ.size;have cY:∀ k,k<w.heap.size→k≠b→k≠nb→some k≠pv.ownBlock→w3.heap[k]?=w.heap[k]?:=fun k h1 h2 h3 h4=>by
  rw [NL,Below.heap_setCell w2 ⟨b,2,none⟩ _ k h2,zZ.block k (aq h1 fM.size) h4,fM.block k h1 (fun e=>h3 (Option.some.inj e))]
 have NX:some b≠pv.ownBlock:=fun e=>by
  obtain ⟨_,cur,hc⟩:=Gd b e.symm;rw [h.dx] at hc;simp at hc
 have hmp:∀ m n R D,w.ownsMap prog 3 R m n D→some m≠pv.ownBlock:=fun m n R D hm e=>by
  obtain ⟨_,cur,hc⟩:=Gd m e.symm;exact ej hm hc rfl
 have fc:b≠nb:=ej h.sd h.dx;have CU:b≠mb:=ej h.mapD h.dx;have zR:∀ k (cur:Array Value) (e:TypeId),w.heap[k]?=some (Obj.cells cur e (0,0))→e≠142→e≠93→w3.heap[k]?=w.heap[k]?:=fun k cur e hk h1 h2=>by
  refine cY k (Array.getElem?_eq_some_iff.1 hk).1 (fun hb=>?_) (ej h.sd hk) (fun he=>?_)
  ·rw [hb,h.dx] at hk;simp at hk;exact h1 hk.2.symm
  ·obtain ⟨_,c,hc⟩:=Gd k he.symm;rw [hk] at hc;simp at hc;exact h2 hc.2
 have aV:w2.heap[b]?=w.heap[b]?:=by
  rw [zZ.block b (aq (Array.getElem?_eq_some_iff.1 h.dx).1 fM.size) NX,fM.block b (Array.getElem?_eq_some_iff.1 h.dx).1 (fun e=>fc (Option.some.inj e))]
 have gJ:g≠b:=fun e=>by
  rcases sB with h' | h'
  ·exact NX (by rw [h',e])
  ·have:=(Array.getElem?_eq_some_iff.1 h.dx).1;omega
 refine ⟨⟨?_,.inl h.fb,.inl h.fm,.inl h.fn,h.ne,dK h.mapD (cY mb h.mapD.lt CU.symm h.ne (hmp _ _ _ _ h.mapD)),?_,Pz h.new h.sd.isMap x,?_,?_,?_,?_,?_⟩,?_⟩
 ·rw [NL];unfold World.setCell;simp only [dL,if_true];rw [aV,h.dx];rfl
 ·have:=dK hm (w':=w3) (by
   rw [NL,Below.heap_setCell w2 ⟨b,2,none⟩ _ nb fc.symm,zZ.block nb hm.lt (hmp _ _ _ _ h.sd)])
  simpa using this
 ·have:=fj hr (w':=w3) fun k hk=>by
   simp only [Value.ownBlock,Option.some.injEq] at hk;rw [NL,Below.heap_setCell w2 ⟨b,2,none⟩ _ k (by rw [← hk];exact gJ)]
  simpa using this
 ·intro k hk;simp only [Value.ownBlock,Option.some.injEq] at hk;exact .inr hk.symm
 ·exact (h.eQ.block fun k cur hk _=>by
   rcases hk with hk | hk
   ·exact zR k cur _ hk (by decide) (by decide)
   ·exact zR k cur _ hk (by decide) (by decide)).imp fun k hk=>.inl hk
 ·refine ⟨h.ok.s0,h.ok.s1,h.ok.eG,h.ok.rise,fun y hy=>?_,h.ok.eQ⟩
  rcases List.mem_append.1 hy with e | e
  ·exact h.ok.aX y e
  ·rw [List.mem_singleton.1 e];exact hx
 ·intro i hi;rw [← b8];rcases hi with hi | hi
  ·exact aq (h.lt i hi) iL
  ·rw [hi];exact (eL hr g rfl).2.1
 ·refine ⟨?_,?_,?_,by omega,fun k hk hn=>cY k hk (fun e=>hn (by rw [e];exact h.fb)) (fun e=>hn (by rw [e];exact h.fn)) (fun e=>hn (h.pf k e.symm)),fun k hk=>hk.elim .inl fun e=>?_⟩
  ·rw [NL];exact zZ.os.trans fM.os
  ·rw [NL];exact zZ.tape.trans fM.tape
  ·rw [NL];exact zZ.output.trans fM.output
  ·rcases sB with h' | h'
   ·exact .inl (by rw [e];exact h.pf g h')
   ·exact .inr (by omega)
def Vr(w:World)(F:Nat→Prop)(v:Value)(l:List UInt8):Prop:=∃ a cap g,v = .slice a l.length cap∧l.length≤cap∧l.length≤140737488355328∧(0<l.length→a=some ⟨g,0,none⟩∧¬ F g)∧∀ j (h:j<l.length),w.cell? ⟨g,j,none⟩=some (.int .u8 (l[j].toNat:Int))
theorem KB{x:Int}(h1 : -9223372036854775808≤x)(h2:x≤9223372036854775807):wrap64 x=x:=by unfold wrap64;omega
theorem Fv{w:World}{g:Nat}{l:List UInt8}(hc:∀ j (h:j<l.length),w.cell? ⟨g,j,none⟩=some (.int .u8 (l[j].toNat:Int)))(k:Nat)(hk:(k+1)*512≤l.length)(cap:Nat):(convert 145 9 (.slice (some ⟨g,k*512,none⟩) 512 cap)).run prog w = .ok (.string (Hg ((l.drop (k*512)).take 512))) w:=by
 have hl:((l.drop (k*512)).take 512).length=512:=by rw [ag,al];omega
 have h:=run_convert_bytes_back (P:=prog) w 145 9 5 ⟨g,k*512,none⟩ cap ((l.drop (k*512)).take 512) underlying145 underlying5 underlying9 (fun j hj=>by
  rw [Addr.add_mid];have:=hc (k*512+j) (by omega)
  simpa using this)
 rw [hl] at h;exact h
structure Kn(w wr:World)(b:Nat)(F F':Nat→Prop)(d:bE)(s:Int)(l:List UInt8)(k:Nat):Prop where
 dev:cP wr b F' { d with aX:=d.aX++chunks s l k }
 step:Step F F' w wr
theorem KA(base:Nat)(A:Nat→Addr)(b:Nat)(F:Nat→Prop)(d:bE)(w:World)(h:cP w b F d)(hE:mN base A w)(hF:∀ k,F k→base≤k)(s:Int)(v:Value)(l:List UInt8)(hv:Vr w F v l)(hp:d.aX.length+l.length / 512≤5864062014805)(Qt:Nu base A b d.eQ):Calls prog 98 #[.pointer (some ⟨b,0,none⟩),.int .i64 s,v] w fun e w'=>e = .returned (im A (d.write s l).2)∧sP w b F (d.write s l).1 w':=by
 have HK:Hid (cP w b F d):=h;obtain ⟨a,cap,g,rfl,dj,hlen,hag,bq⟩:=hv;obtain ⟨L,hL⟩ : ∃ L,L=l.length:=⟨_,rfl⟩;have HL:Hid (L=l.length):=hL;have q1:((L:Int) / 512)=((L / 512:Nat):Int):=by omega
 have q2:((L:Int) % 512)=((L % 512:Nat):Int):=by omega
 have H0:=A7 b F d s ((L / 512:Nat):Int) w h (by omega)
 obtain ⟨mb,nb,pv,av,Dn,h⟩:=h;have c5:w.cell? ⟨b,5,none⟩=some (.bool d.dead):=h.cell 5;have e7:=hE.dead;have e0:=hE.arg;have HE:Hid (mN base A w):=hE;have HF:Hid (∀ k,F k→base≤k):=hF;have HO:Hid (Nu base A b d.eQ):=Qt;have HP:Hid (d.aX.length+L / 512≤5864062014805):=by rw [hL];exact hp
 have HC:Hid (∀ j (h:j<l.length),w.cell? ⟨g,j,none⟩=some (.int .u8 (l[j].toNat:Int))):=bq;have HW:Hid (d.write s l=if d.dead then (d,8) else if L=0∨L % 512≠0∨d.fits s (L / 512:Nat)=false then (d,1) else bE.done { d with aX:=d.aX++chunks s l (L / 512),nw:=wrap64 (d.nw+(L / 512:Nat)) }):=by rw [hL];rfl
 rw [← hL] at dj hlen hag;rw [← hL];generalize hfits:d.fits s (L / 512:Nat)=fb at *;have zy:Hid (d.fits s (L / 512:Nat)=fb):=hfits;have NA:Hid (Calls prog 41 #[.pointer (some ⟨b,0,none⟩),.int .i64 s,.int .i64 ((L / 512:Nat):Int)] w fun e w'=>e = .returned (.bool fb)∧w=w'):=H0
 obtain ⟨n,hn⟩ : ∃ n,n=L / 512:=⟨_,rfl⟩;obtain ⟨m,hm⟩ : ∃ m,m=L % 512:=⟨_,rfl⟩;rw [← hn] at q1 NA zy HP HW;rw [← hm] at q2 HW;have Kt:Hid (L=n*512+m∧m<512):=⟨by omega,by omega⟩
 clear h hE hF Qt hL bq H0 hfits hp hn hm;cases hd:d.dead
 ·rw [hd] at c5;by_cases b1:n=0
  ·have HR:Hid (d.write s l=(d,1)):=by
    show d.write s l=_
    rw [HW.out,hd,if_neg (by simp),if_pos]
    have:=Kt.out;by_cases e:L=0
    ·exact .inl e
    ·exact .inr (.inl (by omega))
   have t1:((n:Int) == 0)=true:=by simp [b1]
   clear HW b1 Kt;go_enter func98,ntmps98;go_wp2_with fail;go_ret;rw [HR.out];exact ⟨rfl,F,HK.out,Step.refl _ _⟩
  ·have t1:((n:Int) == 0)=false:=by simp;omega
   by_cases b2:m=0
   ·subst b2;cases fb
    ·have HR:Hid (d.write s l=(d,1)):=by
      show d.write s l=_
      rw [HW.out,hd,if_neg (by simp),if_pos (.inr (.inr rfl))]
     clear HW b1 Kt;go_enter func98,ntmps98;go_wp2_with (go_at_call 41;refine NA.out.mono ?_;rintro e w' ⟨rfl,rfl⟩)
     go_ret;rw [HR.out];exact ⟨rfl,F,HK.out,Step.refl _ _⟩
    ·have HR:Hid (d.write s l=bE.done { d with aX:=d.aX++chunks s l n,nw:=wrap64 (d.nw+(n:Int)) }):=by
      show d.write s l=_
      rw [HW.out,hd,if_neg (by simp),if_neg]
      have:=Kt.out;rintro (h | h | h)
      ·omega
      ·exact h rfl
      ·cases h
     have Ka:L=n*512:=by have:=Kt.out;omega
     clear HW Kt;go_enter func98,ntmps98;go_wp2_with (go_at_call 41;refine NA.out.mono ?_;rintro e w' ⟨rfl,rfl⟩)
     have HLn:Hid (L=n*512):=Ka;have HI:Hid (Kn w w b F F d s l 0):=⟨by simpa [chunks] using HK.out,Step.refl _ _⟩
     obtain ⟨afl,abT⟩:=hag (by omega)
     subst afl;have eF:=zy.out;simp only [bE.fits,decide_eq_true_eq] at eF;have ja:=HK.out.ok.s1;have ae7:0≤s:=eF.1;have Ij:s≤d.size - (n:Int):=eF.2.2;have agq:Hid (l.length=n*512):=by show l.length=_;rw [← HL.out];exact Ka
     obtain ⟨i0,hi,nY,mR,pL⟩:=info_parts Tryz.info93;clear Ka hag c5 e7 e0 NA zy q1 q2 t1;go_loopw [35] (fun i wr=>∃ k F',k≤n∧i = .int .i64 (k:Int)∧Kn w wr b F F' d s l k) (fun i _=>n - (intOf i).toNat)
     case atStart=>exact ⟨0,F,aB _,rfl,HI.out⟩
     case round =>
      obtain ⟨k,F',hk,rfl,inv⟩:=hrel;have vL:Hid (Kn w wr b F F' d s l k):=inv;obtain ⟨mb',VD,Li,av',Dn',h'⟩:=inv.dev;clear inv HI;have EL:({ d with aX:=d.aX++chunks s l k }:bE).aX.length=d.aX.length+k:=by simp [yM]
      by_cases bO:k<n
      ·have L8:=HP.out;obtain ⟨P,hP⟩ : ∃ P,P=d.aX.length+k:=⟨_,rfl⟩;have HPP:Hid (P=d.aX.length+k):=hP;rw [← hP] at EL;have hPb:P+1≤5864062014805:=by omega
       have x2:wr.cell? ⟨b,2,none⟩=some Li:=h'.cell 2;have x3:wr.cell? ⟨b,3,none⟩=some (.map (some VD)):=h'.cell 3;have yv:=h'.sd;have qj:=h'.aX;rw [EL] at yv qj;obtain ⟨pa,pc,rfl,-⟩:=gY qj;have T4:wrap64 (s+(k:Int))=s+(k:Int):=KB (by omega) (by omega)
       have aao:IntKind.i64.wrap (s+(k:Int))=s+(k:Int):=wrap_i64 _ (by omega) (by omega)
       obtain ⟨w1,aaL,ic,tW⟩:=yv.drew.store EB underlying139 (by unfold maxLen;omega) (TW (i:=s+(k:Int)) (by omega) (by omega)) (plainElem_int underlying3 (kwf (i:=(P:Int)) (by omega) (by omega)))
       have fM:wr.grownBy w1 (some VD):=⟨tW.grown.os,tW.grown.tape,tW.grown.output,tW.grown.size,tW.grown.block⟩;have fc:b≠VD:=ej h'.sd h'.dx;have y2:=qS fM x2 fc;have y3:=qS fM x3 fc;have fz:w1.frozen? ⟨b,2,none⟩=false:=by
        unfold World.frozen?;rw [show w1.heap[(⟨b,2,none⟩ : Addr).block]?=_ from (fM.block b (Array.getElem?_eq_some_iff.1 h'.dx).1 (by simpa using fc)).trans h'.dx]
        simp
       have QG:∀ j (h:j<l.length),g<w.heap.size:=fun j h=>World.block_lt_of_cell? w _ (HC.out j h)
       have yA:=Fv (w:=w1) (g:=g) (l:=l) (fun j h=>by
        have c:=HC.out j h;have hF':¬ F' g:=fun hf=>(vL.out.step.sub g hf).elim abT (fun hs=>by have:=QG j h;omega)
        have c1:=vL.out.step.cell (a:=⟨g,j,none⟩) c abT;exact qS fM c1 (fun e=>hF' (by rw [show g=VD from e];exact h'.fn))) k (by rw [← HL.out,HLn.out];omega) (cap - k*512)
       obtain ⟨D,hD⟩ : ∃ D,D=Hg ((l.drop (k*512)).take 512):=⟨_,rfl⟩;rw [← hD] at yA;have HD:Hid (D=Hg ((l.drop (k*512)).take 512)):=hD;have HH:Hid (cX wr b F' { d with aX:=d.aX++chunks s l k } mb' VD (.slice pa P pc) av' Dn'):=h';have HM:Hid (w1.ownsMap prog 3 (plainElem prog 3) VD (P+1) (Dn'.put (.int .i64 (s+(k:Int))) (.lit (.int .i64 (P:Int))))):=ic;have IY:Hid (wr.grownBy w1 (some VD)):=fM;have oP:w1.ownsRow 0 93 2 (.slice pa P pc) P (fG (d.aX++chunks s l k)):=fj qj fun j hj=>by
        obtain ⟨_,bO,cur,nR⟩:=eL qj j hj;exact fM.block j bO (by simpa using ej h'.sd nR)
       have i1:IntKind.i64.wrap ((k:Int)*512)=(k:Int)*512:=wrap_i64 _ (by omega) (by omega)
       have i2:IntKind.i64.wrap (((k:Int)+1)*512)=((k:Int)+1)*512:=wrap_i64 _ (by omega) (by omega)
       have ak0:((k:Int)+1)*512≤(cap:Int):=by have:=HLn.out;omega
       have alc:(k+1)*512 - k*512=512:=by omega
       have akZ:(k:Int)*512≤((k:Int)+1)*512:=by omega
       have akY:(0:Int)≤(k:Int)*512:=by omega
       clear hD h' ic tW fM yv qj hP QG eF;go_wp2_with fail;go_region_held3 (fun w'=>w'.cell? ⟨b,2,none⟩=some (.slice pa P pc)∧w'.cell? ⟨b,3,none⟩=some (.map (some VD))) (first | exact ⟨x2,x3⟩ | exact ⟨y2,y3⟩ | go_keep) (fail)
       have me:=bM w1 #[.int .i64 (s+(k:Int)),.string D] 93;go_wp2_with (first
        | (at_builtin;refine wpList_append_lies _ rfl _ _ 22 rfl 0 93 i0 (.agg #[.int .i64 0,.string ⟨#[]⟩]) 2 24 underlying22 hi nY mR pL rfl (by decide) _ _ _ rfl (oP.alloc _) ⟨w1.heap.size,0,none⟩ 1 1 [.int .i64 (s+(k:Int)),.string D] rfl rfl ?c1 ?c2 ?c3 ?c4 ?c5 ?c6 (w1.heap.size+1) ?c7 ?_))
       case c2=>exact ⟨rfl,rfl⟩
       case c4=>unfold maxLen;omega
       case c5=>omega
       intro g2 UZ w2 lO yx abS aeS;have XA:({ d with aX:=d.aX++chunks s l k }:bE).aX.length=P:=EL;have aV:w2.heap[b]?=w1.heap[b]?:=by
        have bQ:b<w1.heap.size:=World.block_lt_of_cell? w1 _ y2;rw [yx.block b (by simp;omega) (fun e=>?_)]
        ·exact (ai w1 _).block b bQ
        ·obtain ⟨_,_,cur,nR⟩:=eL oP b e.symm;have hx:=(IY.out.block b (Array.getElem?_eq_some_iff.1 HH.out.dx).1 (by simpa using fc)).trans HH.out.dx
         rw [nR] at hx;simp at hx
       have z2:w2.cell? ⟨b,2,none⟩=some (.slice pa P pc):=(World.cell?_of_block (a:=⟨b,2,none⟩) aV).trans y2;have fz2:w2.frozen? ⟨b,2,none⟩=false:=by
        have hx:=(IY.out.block b (Array.getElem?_eq_some_iff.1 HH.out.dx).1 (by simpa using fc)).trans HH.out.dx
        unfold World.frozen?;rw [show w2.heap[(⟨b,2,none⟩ : Addr).block]?=_ from aV.trans hx]
        simp
       have J1:w2.ownsRow 0 93 2 (.slice (some ⟨g2,0,none⟩) (P+1) UZ) (P+1) (fG ((d.aX++chunks s l k)++[chunk s l k])):=by
        rw [BY];have:fG [chunk s l k]=[.int .i64 (s+(k:Int)),.string D]:=by rw [HD.out];rfl
        rw [this];exact lO
       have Qk:=IY.out.size;have abv:w1.grownBy w2 (Value.slice pa P pc).ownBlock:=(World.grownBy_alloc w1 _ _).trans yx;have PB:=HH.out.W6 (w1:=w1) (w2:=w2) (w3:=w2.setCell ⟨b,2,none⟩ (.slice (some ⟨g2,0,none⟩) (P+1) UZ)) (chunk s l k) (Ru ae7 Ij agq.out bO) (by rw [XA];exact HM.out) IY.out g2 UZ (by rw [XA];exact J1) abv (abS.imp id (fun e=>by omega)) (by rw [XA])
       have V:Kn w (w2.setCell ⟨b,2,none⟩ (.slice (some ⟨g2,0,none⟩) (P+1) UZ)) b F (fun k=>F' k∨k=g2) d s l (k+1):=by
        refine ⟨?_,vL.out.step.trans PB.2⟩;rw [vB,← ay];exact ⟨_,_,_,_,_,PB.1⟩
       clear PB J1 abv lO yx abS aeS aV HM IY HH vL x2 x3 y2 y3 oP me yA aaL;go_wp2_with fail;go_roundw
       case rel=>exact ⟨k+1,_,by omega,by go_num,V⟩
       case measure=>simp [intOf];omega
      ·have Me:k=n:=by omega
       subst Me;have x7:wr.cell? ⟨b,7,none⟩=some (.int .i64 d.nw):=h'.cell 7;have f7:=h'.frozen 7;have cM:=h'.ok;obtain ⟨h5,s5⟩:=h'.set (d':={ d with aX:=d.aX++chunks s l k,nw:=wrap64 (d.nw+(k:Int)) }) 7 (.int .i64 (wrap64 (d.nw+(k:Int)))) rfl rfl rfl rfl ⟨cM.s0,cM.s1,cM.eG,cM.rise,cM.aX,cM.eQ⟩;have S5:=vL.out.step.trans s5;have O:=HO.out _ _ { d with aX:=d.aX++chunks s l k,nw:=wrap64 (d.nw+(k:Int)) } rfl ⟨_,_,_,_,_,h5⟩ (HE.out.step S5 HF.out) (S5.ge HF.out HE.out.size) (by rw [EL];have:=HP.out;omega) hd
       have jx:Hid (CN A (wr.setCell ⟨b,7,none⟩ (.int .i64 (wrap64 (d.nw+(k:Int))))) b F' { d with aX:=d.aX++chunks s l k,nw:=wrap64 (d.nw+(k:Int)) }):=O;have te:Hid (Step F F' w (wr.setCell ⟨b,7,none⟩ (.int .i64 (wrap64 (d.nw+(k:Int)))))):=S5;clear h' h5 s5 S5 O cM EL vL eF;go_wp2_with fail;refine jx.out.mono ?_
       rintro e w6 ⟨rfl,F6,h6,s6⟩;have pe:Hid (sP w b F (d.write s l).1 w6):=by rw [HR.out];exact ⟨F6,h6,te.out.trans s6⟩
       have HV:Hid (bE.done { d with aX:=d.aX++chunks s l k,nw:=wrap64 (d.nw+(k:Int)) }=d.write s l):=HR.out.symm;rw [HV.out];clear jx te HR h6 s6;go_wp2_with fail;go_ret;exact ⟨rfl,pe.out⟩
   ·have HR:Hid (d.write s l=(d,1)):=by
     show d.write s l=_
     rw [HW.out,hd,if_neg (by simp),if_pos (.inr (.inl b2))]
    have t2:((m:Int) != 0)=true:=by simp;omega
    clear HW b1 b2 Kt;go_enter func98,ntmps98;go_wp2_with fail;go_ret;rw [HR.out];exact ⟨rfl,F,HK.out,Step.refl _ _⟩
 ·rw [hd] at c5;have HR:Hid (d.write s l=(d,8)):=by show d.write s l=_;rw [HW.out,hd];rfl
  clear HW Kt;go_enter func98,ntmps98;go_wp2_with fail;go_ret;rw [HR.out];exact ⟨rfl,F,HK.out,Step.refl _ _⟩
theorem Of(w:World):(zeroValue 3).run prog w = .ok (.int .i64 0) w:=by kernel_rfl
theorem ZN:(prog.info? 144).map (fun i=>(i.zero,i.size))=some (some (.agg zeroCells144),512):=by kernel_rfl
theorem Vx(w:World):(zeroValue 144).run prog w = .ok (arr qp) w:=by
 have h:=(zero_of_info ZN).1 w;rw [zc] at h;rw [h,arr,qp,uB]
theorem eV{P:Program}{ops:Array Oper}{rest:List Oper}{op:Oper}{a:Act}{w w':World}{Q:Exit→Act→World→Prop}(nH:op.guard=none)(ty:TypeId)(x y:Operand)(ho:op.op = .store ty x y)(p v:Value)(hx:a.eval x=p)(hy:a.eval y=v)(bw:(Instr.storeAt ty p v).run P w = .ok () w')(h:wpList P ops Q rest (a.put op.dst undef) w'):wpList P ops Q (op::rest) a w :=
 wpList_plain nH fun _ hK=>by
  unfold Oper.wp execOp;simp only [ho,hx,hy,Sem.run_bind,bw,Result.andThen_ok,Sem.run_pure];exact hK _ _ h
theorem WH(w:World)(t:ByteArray)(ht:t.size=512):(Instr.storeAt 144 (.pointer (some ⟨w.heap.size,0,none⟩)) (arr t)).run prog (w.alloc (.cells zeroCells144 144)) = .ok () (w.alloc (.cells (dW (bl t)).toArray 144)) :=
 run_storeAt_new w 144 zeroCells144 (dW (bl t)).toArray (by rw [BR,List.size_toArray,a7,jU,ht]) (by rw [zc,List.size_toArray,List.size_toArray,a7,a7,jI,jU,ht]) (all_oneCell_toArray (rC _))
theorem Ao(pre Hh post new:List UInt8)(h:Hh.length=new.length):((dW (pre++Hh++post)).toArray.toList.take pre.length++dW new++(dW (pre++Hh++post)).toArray.toList.drop (pre.length+new.length)).toArray=(dW (pre++new++post)).toArray:=by
 congr 1
 rw [ay pre Hh post,jJ,jJ,jJ,jJ,← h];have e1:List.take pre.length (dW pre++(dW Hh++dW post))=dW pre:=by
  rw [aH (by rw [a7];omega),ao (by rw [a7];omega)]
 have e2:List.drop (pre.length+Hh.length) (dW pre++(dW Hh++dW post))=dW post:=by
  rw [← ay,List.drop_append,List.drop_of_length_le (by rw [ae,a7,a7];omega),ae,a7,a7]
  simp
 rw [e1,e2]
theorem Q7{l:List gL}{i:Int}:(l.any fun x=>decide (x.ix=i))=(l.find? fun x=>decide (x.ix=i)).isSome:=by
 induction l with
 | nil=>rfl
 | cons x r ih =>
  by_cases h:x.ix=i
  ·simp [h]
  ·simp [h,ih]
def cJ(w:World)(g:Nat)(l:List UInt8):Prop:=w.heap[g]?=some (.cells (dW l).toArray 5 (0,0))
theorem Rs(w:World)(g:Nat)(pre Hh post:List UInt8)(t:ByteArray)(L C:Nat)(hr:cJ w g (pre++Hh++post))(hm:Hh.length=512)(ht:t.size=512)(hL:512≤L):∃ w2,(Builtin.copy_ #[145,9] 3 #[.slice (some ⟨g,pre.length,none⟩) L C,.string t]).run prog w = .ok (goInt t.size) w2∧cJ w2 g (pre++bl t++post)∧w.grownBy w2 (some g):=by
 have bw:=Lib.run_copy_row_string (P:=prog) w 145 9 3 5 g pre.length L C t _ 5 underlying145 uT hr (by omega) (by rw [List.size_toArray,a7,ae,ae];omega)
 have e:=Ao pre Hh post (bl t) (by rw [jU];omega)
 rw [jU] at e;rw [Ac,show t.data.toList=bl t from rfl,e] at bw
 refine ⟨_,bw,setRow_heap _ g _ _ 5 _ hr,?_⟩;exact ⟨rfl,rfl,rfl,by simp [World.setRow],fun k _ hn=>by
  have:g≠k:=fun e=>hn (by rw [e])
  simp [World.setRow,Array.getElem?_modify,this]⟩
theorem Rt(w:World)(g ga:Nat)(pre Hh post:List UInt8)(t:ByteArray)(L C:Nat)(hr:cJ w g (pre++Hh++post))(ha:w.heap[ga]?=some (.cells (dW (bl t)).toArray 144 (0,0)))(hm:Hh.length=512)(ht:t.size=512)(hL:512≤L):∃ w2,(Builtin.copy_ #[145,145] 3 #[.slice (some ⟨g,pre.length,none⟩) L C,.slice (some ⟨ga,0,none⟩) 512 512]).run prog w = .ok (goInt 512) w2∧cJ w2 g (pre++bl t++post)∧w.grownBy w2 (some g):=by
 have hl:(dW (bl t)).length=512:=by rw [a7,jU,ht]
 have bw:=run_copy_row (P:=prog) w 145 145 3 5 g pre.length L C ⟨ga,0,none⟩ 512 512 _ 5 (dW (bl t)) underlying145 uT hr (by rw [hl];exact (aT hL).symm)
  (fun j v hv=>by
   rw [Addr.add_mid,cell_of_row _ _ _ _ _ _ ha,Nat.zero_add];simpa using hv)
  (by rw [hl,List.size_toArray,a7,ae,ae];omega) (rC _)
 have e:=Ao pre Hh post (bl t) (by rw [jU];omega)
 rw [jU,ht] at e;rw [hl,e] at bw;refine ⟨_,bw,setRow_heap _ g _ _ 5 _ hr,?_⟩;exact ⟨rfl,rfl,rfl,by simp [World.setRow],fun k _ hn=>by
  have:g≠k:=fun e=>hn (by rw [e])
  simp [World.setRow,Array.getElem?_modify,this]⟩
theorem MX(b:Nat)(F:Nat→Prop)(d:bE)(w:World)(h:cP w b F d)(g:Nat)(pre post:List UInt8)(s:Int)(L C:Nat)(hr:cJ w g (pre++fF 512++post))(hL:512≤L)(h0:0≤s)(h1:s<9223372036854775808):Calls prog 186 #[.pointer (some ⟨b,0,none⟩),.slice (some ⟨g,pre.length,none⟩) L C,.int .i64 s] w fun e w'=>e = .returned (.tuple #[])∧cJ w' g (pre++bl (gl d s)++post)∧w.grownBy w' (some g):=by
 obtain ⟨mb,nb,pv,av,Dn,h⟩:=h;have c3:w.cell? ⟨b,3,none⟩=some (.map (some nb)):=h.cell 3;have yv:=h.sd;have QC:=TW h0 h1;obtain ⟨n1,n2⟩:=h.new s;obtain ⟨off,XC⟩ : ∃ off,off=pre.length:=⟨_,rfl⟩;have HOF:Hid (off=pre.length):=XC;rw [← XC];clear XC;cases VU:ez d.aX s with
 | some k =>
  have Uq:Maps.has Dn (.int .i64 s)=true:=by rw [n1,VU];rfl
  have afj:=n2 k VU;have cZ:=kU VU;have c2:w.cell? ⟨b,2,none⟩=some pv:=h.cell 2;have gy:Hid (gl d s=d.aX[k].lx):=by show gl d s=_;unfold gl;rw [VU];simp [cZ]
  obtain ⟨pa,pc,rfl,Qr⟩:=gY h.aX;obtain ⟨gp,rfl⟩:=Qr (by omega)
  have p1:=tJ h.aX rfl _ _ (mZ d.aX k cZ).2;have b8:=(DC h.ok cZ).len;obtain ⟨D,hD⟩ : ∃ D,D=d.aX[k].lx:=⟨_,rfl⟩;rw [← hD] at gy p1 b8;obtain ⟨P,hP⟩ : ∃ P,P=d.aX.length:=⟨_,rfl⟩;rw [← hP] at c2 cZ;obtain ⟨w2,zr,bH,Bd⟩:=Rs w g pre (fF 512) post D L C hr (jI 512) b8 hL;rw [← HOF.out] at zr;have Zu:Hid (cJ w2 g (pre++bl D++post)∧w.grownBy w2 (some g)):=⟨bH,Bd⟩;rw [gy.out];clear h n1 n2 VU hD hP bH Bd gy hr;go_enter func186,ntmps186;go_wp2_with (first
   | (at_lookup;refine wpList_lookup_own_ok_int _ rfl _ _ 139 rfl 3 3 .i64 EB underlying139 underlying3 (Of _) nb _ Dn rfl yv _ _ rfl QC ?_;intro c sB hwc;(obtain rfl:c=(k:Int):=by rw [afj] at sB;simpa using sB.symm);rw [Uq]))
  refine bodyPost_ret (results_none rfl _ _ _) rfl ?_
  exact ⟨rfl,Zu.out⟩
 | none =>
  have Uq:Maps.has Dn (.int .i64 s)=false:=by rw [n1,VU];rfl
  have c1:w.cell? ⟨b,1,none⟩=some (.map (some mb)):=h.cell 1;have VR:=h.mapD;obtain ⟨T,hT⟩ : ∃ T,T=fC d.eG s:=⟨_,rfl⟩;have Zj:T.size=512:=by rw [hT];exact sm h.ok.eG s
  have hTz:Maps.has (mC d.eG) (.int .i64 s)=false→T=qp:=fun hz=>by
   rw [Rf,Q7] at hz;rw [hT];unfold fC;cases hf:d.eG.find? (fun x=>decide (x.ix=s)) with
   | none=>rfl
   | some x=>rw [hf] at hz;cases hz
  have hV:∀ v ps,tE v=some ((mC d.eG).atKey (.int .i64 s) (.lit (.string (bl qp))),ps)→v=arr T:=fun v ps hv=>by
   obtain ⟨t,ht,rfl,he⟩:=OX hv;rw [UM] at he;rw [hT];unfold fC;cases hf:d.eG.find? (fun x=>decide (x.ix=s)) with
   | none=>rw [hf] at he;simp only [Prod.mk.injEq,DataW.lit.injEq,Lit.string.injEq] at he;rw [Cz he.1.symm]
   | some x=>rw [hf] at he;simp only [Prod.mk.injEq,DataW.lit.injEq,Lit.string.injEq] at he;rw [Cz he.1.symm]
  have gy:Hid (gl d s=T):=by show gl d s=_;unfold gl;rw [VU,hT]
  rw [gy.out];have bO:=(Array.getElem?_eq_some_iff.1 hr).1;have aV:=ai w (.cells (dW (bl T)).toArray 144);have iM:cJ (w.alloc (.cells (dW (bl T)).toArray 144)) g (pre++fF 512++post):=(aV.block g bO).trans hr;have eZ:=WH w T Zj;have mw:=heap_alloc_new w (.cells (dW (bl T)).toArray 144);obtain ⟨w2,zr,bH,Bd⟩:=Rt (w.alloc (.cells (dW (bl T)).toArray 144)) g w.heap.size pre (fF 512) post T L C iM mw (jI 512) Zj hL;rw [← HOF.out] at zr;have Zu:Hid (cJ w2 g (pre++bl T++post)∧w.grownBy w2 (some g)):=⟨bH,(oT aV).trans Bd⟩;have IV:Hid (Maps.has (mC d.eG) (.int .i64 s)=false→cJ (w.alloc (.cells (dW (bl T)).toArray 144)) g (pre++bl T++post)∧w.grownBy (w.alloc (.cells (dW (bl T)).toArray 144)) (some g)):=fun hz=>⟨by rw [show pre++bl T++post=pre++fF 512++post by rw [hTz hz,qp,uB]];exact iM,oT aV⟩
  obtain ⟨cs,fI⟩ : ∃ cs,cs=(dW (bl T)).toArray:=⟨_,rfl⟩;rw [← fI] at eZ zr IV;obtain ⟨V,hVd⟩ : ∃ V,V=arr T:=⟨_,rfl⟩;rw [← hVd] at eZ;have hV2:Hid (∀ v ps,tE v=some ((mC d.eG).atKey (.int .i64 s) (.lit (.string (bl qp))),ps)→v=V):=by rw [hVd];exact hV
  have S9:True:=trivial;generalize hhD:Maps.has (mC d.eG) (.int .i64 s)=hb at IV;clear hTz hVd h n1 n2 VU hT hr hV bH Bd gy aV iM mw Zj fI bO;go_enter func186,ntmps186;cases hb
  ·go_wp2_with (first
    | (at_lookup;have _t:=S9;refine wpList_lookup_own_ok_int _ rfl _ _ 139 rfl 3 3 .i64 EB underlying139 underlying3 (Of _) nb _ Dn rfl yv _ _ rfl QC ?_;intro c sB hwc;clear S9 sB hwc;rw [Uq])
    | (at_lookup;refine wpList_lookup_own_ok _ rfl _ _ 138 rfl 3 144 EB underlying138 tE (Vx _) (.lit (.string (bl qp))) [] (xw tl) mb _ (mC d.eG) rfl VR _ _ rfl QC ?_;intro v ps hv;(obtain rfl:v=V:=hV2.out v ps hv);clear hv;rw [hhD])
    | (refine eV rfl 144 _ _ rfl _ _ rfl rfl eZ ?_))
   go_end0
   refine ⟨rfl,?_⟩;have r:=IV.out (by first | trivial | rfl)
   rw [ay] at r;exact r
  ·go_wp2_with (first
    | (at_lookup;have _t:=S9;refine wpList_lookup_own_ok_int _ rfl _ _ 139 rfl 3 3 .i64 EB underlying139 underlying3 (Of _) nb _ Dn rfl yv _ _ rfl QC ?_;intro c sB hwc;clear S9 sB hwc;rw [Uq])
    | (at_lookup;refine wpList_lookup_own_ok _ rfl _ _ 138 rfl 3 144 EB underlying138 tE (Vx _) (.lit (.string (bl qp))) [] (xw tl) mb _ (mC d.eG) rfl VR _ _ rfl QC ?_;intro v ps hv;(obtain rfl:v=V:=hV2.out v ps hv);clear hv;rw [hhD])
    | (refine eV rfl 144 _ _ rfl _ _ rfl rfl eZ ?_))
   go_end0
   exact ⟨rfl,Zu.out⟩
theorem B7(n:Nat):(madeCells #[Value.int .u8 0] n).toList=dW (fF n):=by
 rw [dW,fF,pd];simp [madeCells,Nat.mod_one,List.map_const']
theorem BZ{w:World}{base g n:Nat}{l:List UInt8}(h:w.ownsRow base 5 1 (.slice (some ⟨g,0,none⟩) n n) n (dW l)):cJ w g l:=by
 rcases h.2 with ⟨h',_⟩ | ⟨g',eO,cur,h',hb,hg,hn,hc,hs,ht⟩
 ·cases h'
 ·cases h'
  unfold cJ;rw [hg,← ht,ao (by simpa using Nat.le_of_eq hs)]
theorem B4{w:World}{base g n:Nat}{l:List UInt8}(h:cJ w g l)(hl:l.length=n)(hb:base≤g)(hn:n≤maxLen):w.ownsRow base 5 1 (.slice (some ⟨g,0,none⟩) n n) n (dW l) :=
 ⟨by rw [a7];omega,.inr ⟨g,n,_,rfl,hb,h,aj _,hn,by simp [a7];omega,by
  rw [ao (by simp [a7];omega)]⟩⟩
structure yZ(A:Nat→Addr)(w:World)(b:Nat)(F:Nat→Prop)(r:bE × List UInt8 × Nat)(e:Ending)(w':World)(v:Value):Prop where
 ret:e = .returned (.tuple #[v,im A r.2.2])
 row:w'.ownsRow w.heap.size 5 1 v r.2.1.length (dW r.2.1)
 dev:cP w' b F r.1
 step:Step F F w w'
 one:Step (fun k=>k=b) (fun k=>k=b) w w'
structure Kp(w wr:World)(d:bE)(s:Int)(m k:Nat):Prop where
 row:cJ wr w.heap.size (iR d s k++fF ((m - k)*512))
 eT:Below w.heap.size w wr
theorem mm(base:Nat)(A:Nat→Addr)(b:Nat)(F:Nat→Prop)(d:bE)(w:World)(h:cP w b F d)(hE:mN base A w)(s n:Int)(hn:n<9223372036854775808):Calls prog 151 #[.pointer (some ⟨b,0,none⟩),.int .i64 s,.int .i64 n] w fun e w'=>∃ v,yZ A w b F (d.read s n) e w' v:=by
 have HK:Hid (cP w b F d):=h;have H0:=A7 b F d s n w h hn;generalize hf:d.fits s n=fb at H0;have zy:Hid (d.fits s n=fb):=hf;have NA:Hid (Calls prog 41 #[.pointer (some ⟨b,0,none⟩),.int .i64 s,.int .i64 n] w fun e w'=>e = .returned (.bool fb)∧w=w'):=H0
 obtain ⟨mb,nb,pv,av,Dn,h⟩:=h;have c5:w.cell? ⟨b,5,none⟩=some (.bool d.dead):=h.cell 5;have e7:=hE.dead;have e0:=hE.arg;have e2:=hE.many;clear h hE H0 hf;have HER:Hid (∀ m c,d.read s n=(d,[],c)→∃ v,yZ A w b F (d.read s n) (.returned (.tuple #[.slice none 0 0,im A c])) (w.drewN m) v):=fun m c hc=>by
  rw [hc];exact ⟨_,rfl,World.ownsRow_nil _ _ _ _,HK.out.below (below_drewN (Below.refl _ _) m),Step.bD (below_drewN (Below.refl _ _) m),Step.bD (below_drewN (Below.refl _ _) m)⟩
 cases hd:d.dead
 ·rw [hd] at c5;cases fb
  ·have HR:Hid (d.read s n=(d,[],1)):=by show d.read s n=_;unfold bE.read;rw [hd,zy.out];rfl
   go_enter func151,ntmps151;go_wp2_with (go_at_call 41;refine NA.out.mono ?_;rintro e w' ⟨rfl,rfl⟩)
   go_quiet (fail)
   go_wp2_with fail;go_ret2;exact HER.out _ 1 HR.out
  ·have eF:=zy.out;simp only [bE.fits,decide_eq_true_eq] at eF;have ja:=HK.out.ok.s1;by_cases hm:1024<n
   ·have HR:Hid (d.read s n=(d,[],3)):=by show d.read s n=_;unfold bE.read;rw [hd,zy.out];simp [hm]
    go_enter func151,ntmps151;go_wp2_with (go_at_call 41;refine NA.out.mono ?_;rintro e w' ⟨rfl,rfl⟩)
    go_quiet (fail)
    go_wp2_with fail;go_ret2;exact HER.out _ 3 HR.out
   ·obtain ⟨m,rfl⟩ : ∃ m:Nat,n=(m:Int):=⟨n.toNat,by omega⟩
    have HR:Hid (d.read s (m:Int)=({ d with nr:=wrap64 (d.nr+(m:Int)) },iR d s m,0)):=by show d.read s _=_;unfold bE.read;rw [hd,zy.out];simp [hm]
    obtain ⟨i0,hi,nY,mR,pL⟩:=info_parts Tryz.info5;have i1:IntKind.i64.wrap ((m:Int)*512)=(m:Int)*512:=wrap_i64 _ (by omega) (by omega)
    have zq:decide ((1024:Int)<(m:Int))=false:=decide_eq_false (by omega)
    clear e7 e0 e2 HER;go_enter func151,ntmps151;go_wp2_with (first
     | (go_at_call 41;refine NA.out.mono ?_;rintro e w' ⟨rfl,rfl⟩)
     | (at_make;refine wpList_make_full _ rfl _ _ 145 rfl 0 5 i0 (.int .u8 0) 1 underlying145 hi nY mR .i64 .i64 _ _ (m*512) rfl rfl ?c0 ?c0 ?c1 ?c2 (aB _) ?_))
    case c0=>omega
    case c1=>rw [pL];omega
    case c2=>unfold maxLen;omega
    intro w1 oP fM;rw [B7] at oP;have HI:Hid (Kp w w1 d s m 0):=⟨by simpa [iR] using BZ oP,⟨fM.os,fM.tape,fM.output,fM.size,fun k hk=>fM.block k hk (by simp)⟩⟩
    clear oP fM;go_wp2_with fail;go_loopw [28] (fun i wr=>∃ k,k≤m∧i = .int .i64 (k:Int)∧Kp w wr d s m k) (fun i _=>m - (intOf i).toNat)
    case atStart=>exact ⟨0,aB _,rfl,HI.out⟩
    case round =>
     obtain ⟨k,hk,rfl,inv⟩:=hrel;have vL:Hid (Kp w wr d s m k):=inv;clear inv HI;by_cases bO:k<m
     ·have hz:fF ((m - k)*512)=fF 512++fF ((m - (k+1))*512):=by
       unfold fF;rw [List.replicate_append_replicate];congr 1;omega
      have bH:=vL.out.row;rw [hz,← ay] at bH;have C:=MX b F d wr (HK.out.below vL.out.eT) w.heap.size (iR d s k) (fF ((m - (k+1))*512)) (s+(k:Int)) (m*512 - k*512) (m*512 - k*512) bH (by omega) (by omega) (by omega)
      rw [pE HK.out.ok,← xG] at C;have HC:Hid (Calls prog 186 #[.pointer (some ⟨b,0,none⟩),.slice (some ⟨w.heap.size,k*512,none⟩) (m*512 - k*512) (m*512 - k*512),.int .i64 (s+(k:Int))] wr fun e w'=>e = .returned (.tuple #[])∧cJ w' w.heap.size (iR d s (k+1)++fF ((m - (k+1))*512))∧wr.grownBy w' (some w.heap.size)):=C
      have j1:IntKind.i64.wrap ((k:Int)*512)=(k:Int)*512:=wrap_i64 _ (by omega) (by omega)
      have j2:IntKind.i64.wrap (s+(k:Int))=s+(k:Int):=wrap_i64 _ (by omega) (by omega)
      have j3:(k:Int)*512≤(m:Int)*512:=by omega
      have j4:(0:Int)≤(k:Int)*512:=by omega
      have j5:m*512≠k*512:=by omega
      clear C hz bH;go_wp2_with fail;refine HC.out.mono ?_
      rintro e w4 ⟨rfl,r4,g4⟩;have V:Kp w w4 d s m (k+1):=⟨r4,vL.out.eT.trans ⟨g4.os,g4.tape,g4.output,g4.size,fun i hi=>g4.block i (aq hi vL.out.eT.size) (fun e=>by have:=Option.some.inj e;omega)⟩⟩
      clear HC r4 g4 vL;go_wp2_with fail;go_roundw
      case rel=>exact ⟨k+1,by omega,by go_num,V⟩
      case measure=>simp [intOf];omega
     ·have Me:k=m:=by omega
      subst Me;have bH:=vL.out.row;rw [de,Nat.zero_mul,show fF 0=[] from rfl,List.append_nil] at bH
      have QL:=HK.out.below vL.out.eT;have cM:=QL.ok;obtain ⟨mb4,nb4,pv4,av4,Dn4,h4⟩:=QL;have x6:wr.cell? ⟨b,6,none⟩=some (.int .i64 d.nr):=h4.cell 6;have f6:=h4.frozen 6;obtain ⟨h5,s5⟩:=h4.set (d':={ d with nr:=wrap64 (d.nr+(k:Int)) }) 6 (.int .i64 (wrap64 (d.nr+(k:Int)))) rfl rfl rfl rfl ⟨cM.s0,cM.s1,cM.eG,cM.rise,cM.aX,cM.eQ⟩;have gJ:w.heap.size≠b:=by have:=HK.out.lt b HK.out.fb;omega
      have HP:Hid (yZ A w b F (d.read s (k:Int)) (.returned (.tuple #[.slice (some ⟨w.heap.size,0,none⟩) (k*512) (k*512),.nilIface])) (wr.setCell ⟨b,6,none⟩ (.int .i64 (wrap64 (d.nr+(k:Int))))) (.slice (some ⟨w.heap.size,0,none⟩) (k*512) (k*512))):=by
       rw [HR.out];refine ⟨rfl,?_,⟨_,_,_,_,_,h5⟩,(Step.bD vL.out.eT).trans s5,(Step.bD vL.out.eT).trans ⟨rfl,rfl,rfl,by simp,fun q _ hn=>Below.heap_setCell wr ⟨b,6,none⟩ _ _ hn,fun _ h=>.inl h⟩⟩
       simp only [pE HK.out.ok];exact B4 ((Below.heap_setCell wr ⟨b,6,none⟩ _ _ gJ).trans bH) (pE HK.out.ok s k) (aj _) (by unfold maxLen;omega)
      clear h4 h5 s5 bH cM vL;go_wp2_with fail;go_ret2;exact ⟨_,HP.out⟩
 ·rw [hd] at c5;have HR:Hid (d.read s n=(d,[],8)):=by show d.read s n=_;unfold bE.read;rw [hd];rfl
  go_enter func151,ntmps151;go_wp2_with fail;go_quiet (fail)
  go_wp2_with fail;go_ret2;exact HER.out _ 8 HR.out
end S.V
namespace S
def KU:List Nat:=[0,274646895,549293790,820201905,1098587580,1361435347,1640403810,1905808397,2197175160,2460548119,2722870694,2987750089,3280807620,3553878443,3811616794,4084100981]
def tab(i:Nat):Nat:=KU.getD i 0
def xj(x:Nat):Nat:=(x / 16) ^^^ tab (x % 16)
def Ki(x b:Nat):Nat:=xj (xj (x ^^^ b))
def ly(x:Nat)(l:List UInt8):Nat:=l.foldl (fun r b=>Ki r b.toNat) x
def nt(x:Nat):Nat:=4294967295 - x
theorem Py(x:Nat):nt x<4294967296:=by unfold nt;omega
theorem Xc(x:Nat)(hx:x<4294967296):4294967295 ^^^ x=nt x:=by
 unfold nt;apply eR
 intro i;rw [Nat.testBit_xor];have h1:(4294967295:Nat)=2 ^ 32 - 1:=rfl;have h2:4294967295 - x=2 ^ 32 - (x+1):=by omega
 rw [h2,Nat.testBit_two_pow_sub_succ hx,h1,Nat.testBit_two_pow_sub_one];by_cases hi:i<32
 ·simp [hi]
 ·have:x.testBit i=false:=Nat.testBit_lt_two_pow (aq hx (mJ (n:=2) (i:=32) (by decide) (by omega)))
  simp [hi,this]
theorem OG(i:Nat):tab i<4294967296:=by
 unfold tab KU;rcases a6 i 16 with h | h
 ·have:∀ j:Fin 16,[0,274646895,549293790,820201905,1098587580,1361435347,1640403810,1905808397,2197175160,2460548119,2722870694,2987750089,3280807620,3553878443,3811616794,4084100981].getD j.1 0<4294967296:=by decide
  exact this ⟨i,h⟩
 ·rw [List.getD,bu (by simpa using h)];decide
theorem Dd(y:Nat)(hy:y<4294967296):xj y<4294967296:=by
 unfold xj;exact Nat.xor_lt_two_pow (n:=32) (by omega) (OG _)
theorem Fo(x:Nat)(l:List UInt8)(c:UInt8):ly x (l++[c])=Ki (ly x l) c.toNat:=by
 simp [ly,List.foldl_append]
end S
end Go.Proofs.YtihmgigfkmofnaaGreatDoor
