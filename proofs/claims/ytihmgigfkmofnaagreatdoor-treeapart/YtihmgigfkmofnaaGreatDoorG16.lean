import Derived.Test.YtihmgigfkmofnaaGreatDoorG15
set_option maxHeartbeats 1600000
set_option maxRecDepth 100000
open Go.Proofs.Tryz
namespace Go.Proofs.YtihmgigfkmofnaaGreatDoor
namespace S.V
open Go.RowKit Go.Maps
theorem wrap_i64(n:Int)(h1 : -9223372036854775808≤n)(h2:n≤9223372036854775807):IntKind.i64.wrap n=n:=by
 simp [IntKind.wrap,IntKind.bits,IntKind.signed]
 omega
theorem cU.alloc{w:World}{b:Nat}{F:Nat→Prop}{d:bq}{mb nb:Nat}{pv av:Value}{Dn:DataW Unit}(h:cU w b F d mb nb pv av Dn){w':World}(hb:Below w.heap.size w w'):cU w' b F d mb nb pv av Dn:=by
 have hk:∀ k,F k→w'.heap[k]?=w.heap[k]?:=fun k hk=>hb.block k (h.lt k hk)
 exact ⟨(hk b h.fb).trans h.dr,h.fb,h.fm,h.fn,h.ne,dG h.mapD (hk mb h.fm),dG h.rq (hk nb h.fn),h.new,ff h.aV (fun g hg=>hk g (h.pf g hg)),h.pf,
  h.eO.block (fun k _ _ hf=>hk k hf),h.ok,fun i hi=>aq (h.lt i hi) hb.size⟩
theorem CN{d:bq}(h:d.Ok){j:Nat}(hj:j<d.aV.length):rU d.size d.aV[j]:=h.aV _ (aG hj)
theorem FJ{α:Type}(l:List α)(k:Nat)(h:k<l.length):l.take (k+1)=l.take k++[l[k]]:=by rw [ay h]
def rY(w:World)(b:Nat)(F:Nat→Prop)(d:bq)(w':World):Prop:=∃ F',cJ w' b F' d∧Step F F' w w'
def B1(A:Nat→Addr)(w:World)(b:Nat)(F:Nat→Prop)(d:bq):Prop:=Calls prog 101 #[.pointer (some ⟨b,0,none⟩)] w fun e w'=>e = .returned (ig A d.done.2)∧rY w b F d.done.1 w'
def Mm(base:Nat)(A:Nat→Addr)(b:Nat)(eO:List E7):Prop:=∀ w F d,d.eO=eO→cJ w b F d→mC base A w→(∀ k,F k→base≤k)→d.aV.length≤140737488355328→d.dead=false→B1 A w b F d
theorem wT(base:Nat)(A:Nat→Addr)(b:Nat):Mm base A b []:=by
 intro w F d ha h _ _ _ _;obtain ⟨mb,nb,pv,av,Dn,h⟩:=h;have c4:w.cell? ⟨b,4,none⟩=some av:=h.cell 4;have HH:Hid (cU w b F d mb nb pv av Dn):=h;have PH:=h.eO;have HD:Hid (d.done=(d,0)):=by show d.done=_;unfold bq.done;rw [ha]
 obtain ⟨a,c,rfl⟩ : ∃ a c,av = .slice a 0 c:=by
  rw [ha] at PH;rcases PH with ⟨_,rfl⟩ | ⟨g,off,cap,cur,fv,rfl,_⟩
  ·exact ⟨_,_,rfl⟩
  ·exact ⟨_,_,rfl⟩
 unfold B1;clear h PH ha;go_enter func101,ntmps101;go_wp2_with fail;go_ret;rw [HD.out];exact ⟨rfl,F,⟨_,_,_,_,_,HH.out⟩,Step.refl _ _⟩
structure vE(w wr:World)(b:Nat)(F:Nat→Prop)(d:bq)(mb nb:Nat)(pv av:Value)(Dn:DataW Unit)(k:Nat):Prop where
 body:cU wr b F { d with eD:=gJ d.eD (d.aV.take k) } mb nb pv av Dn
 step:Step F F w wr
theorem p9(eD l:List gH)(x:gH):gJ eD (l++[x])=qW (gJ eD l) x.ix x.kG:=by simp [gJ,List.foldl_append]
theorem Nu(base:Nat)(A:Nat→Addr)(b:Nat)(F:Nat→Prop)(d:bq)(w:World)(h:cJ w b F d)(hE:mC base A w)(hF:∀ k,F k→base≤k)(hp:d.aV.length≤140737488355328)(O8:Mm base A b d.eO):Calls prog 63 #[.pointer (some ⟨b,0,none⟩)] w fun e w'=>e = .returned (ig A d.sync.2)∧rY w b F d.sync.1 w':=by
 obtain ⟨mb,nb,pv,av,Dn,h⟩:=h;have c5:w.cell? ⟨b,5,none⟩=some (.bool d.dead):=h.cell 5;have e7:=hE.dead;have HE:Hid (mC base A w):=hE;have HF:Hid (∀ k,F k→base≤k):=hF;have HO:Hid (Mm base A b d.eO):=O8;have HH:Hid (cU w b F d mb nb pv av Dn):=h;cases hd:d.dead
 ·have c2:w.cell? ⟨b,2,none⟩=some pv:=h.cell 2;obtain ⟨pa,pc,rfl,O6⟩:=gX h.aV;obtain ⟨n,hn⟩ : ∃ n,n=d.aV.length:=⟨_,rfl⟩;have HN:Hid (n=d.aV.length):=hn;rw [← hn] at c2 hp O6 HH;have HI:Hid (vE w w b F d mb nb (.slice pa n pc) av Dn 0):=⟨by simpa [gJ] using HH.out,Step.refl _ _⟩
  rw [hd] at c5;have HS:Hid (d.sync=bq.done { d with eD:=gJ d.eD d.aV,aV:=[],ns:=wrap64 (d.ns+1) }):=by show d.sync=_;unfold bq.sync;rw [hd];rfl
  clear h hE hF O8 hn e7;go_enter func63,ntmps63;go_wp2_with fail;go_loopw [15] (fun i wr=>∃ k,k≤n∧i = .int .i64 (k:Int)∧vE w wr b F d mb nb (.slice pa n pc) av Dn k) (fun i _=>n - (intOf i).toNat)
  case atStart=>exact ⟨0,aD _,rfl,HI.out⟩
  case round =>
   obtain ⟨k,hk,rfl,inv⟩:=hrel;have uK:Hid (vE w wr b F d mb nb (.slice pa n pc) av Dn k):=inv;clear inv HI;by_cases bN:k<n
   ·obtain ⟨gp,rfl⟩:=O6 (by omega)
    have SZ:k<d.aV.length:=by rw [← HN.out];exact bN
    obtain ⟨p0,p1⟩:=mO d.aV k SZ;have pP:=uK.out.body.aV;simp only [← HN.out] at pP;have p0:=sL pP rfl _ _ p0;have p1:=sL pP rfl _ _ p1;have cN:=CN HH.out.ok SZ;obtain ⟨x,hx⟩ : ∃ x,x=d.aV[k]:=⟨_,rfl⟩;rw [← hx] at p0 p1 cN;have HX:Hid (x=d.aV[k]):=hx;clear hx pP;obtain ⟨xi,xd⟩:=x;have aU:=ai wr (.cells #[.int .i64 xi,.string xd] 93);have M:=Gq (uK.out.body.alloc aU) xi xd (by rw [show xd.size=512 from cN.len];omega) cN.lo cN.hi
    rw [N0 xd cN.len] at M;have HM:Hid (Calls prog 42 #[.pointer (some ⟨b,0,none⟩),.int .i64 xi,.string xd] (wr.alloc (.cells #[.int .i64 xi,.string xd] 93)) fun e w'=>e = .returned (.tuple #[])∧cU w' b F { d with eD:=qW (gJ d.eD (d.aV.take k)) xi xd } mb nb (.slice (some ⟨gp,0,none⟩) n pc) av Dn∧(wr.alloc (.cells #[.int .i64 xi,.string xd] 93)).grownBy w' (some mb)):=M
    have bH:Hid _:=aU;clear M cN aU;go_wp2_with fail;refine HM.out.mono ?_
    rintro e w4 ⟨rfl,h4,s4⟩;have V:vE w w4 b F d mb nb (.slice (some ⟨gp,0,none⟩) n pc) av Dn (k+1):=by
     refine ⟨?_,(uK.out.step.trans (Step.bw bH.out)).trans ((uK.out.body.alloc bH.out).step s4)⟩;rw [FJ _ k SZ,p9,← HX.out];exact h4
    clear HM bH uK h4 s4 p0 p1;go_wp2_with fail;go_roundw
    case rel=>exact ⟨k+1,by omega,by go_num,V⟩
    case measure=>simp [intOf];omega
   ·have K6:k=d.aV.length:=by rw [← HN.out];omega
    have V:=uK.out.body;rw [K6,al (aj _)] at V;have D:=P3 b F _ wr ⟨_,_,_,_,_,V⟩;have HD:Hid (Calls prog 100 #[.pointer (some ⟨b,0,none⟩)] wr fun e w'=>e = .returned (.tuple #[])∧cJ w' b (fun k=>F k∨k=wr.heap.size) { d with eD:=gJ d.eD d.aV,aV:=[] }∧Step F (fun k=>F k∨k=wr.heap.size) wr w'):=D
    clear D V K6;go_wp2_with fail;refine HD.out.mono ?_
    rintro e w4 ⟨rfl,h4,s4⟩;have cN:=h4.ok;obtain ⟨mb4,nb4,pv4,av4,Dn4,h4⟩:=h4;have k8:w4.cell? ⟨b,8,none⟩=some (.int .i64 d.ns):=h4.cell 8;have f8:=h4.frozen 8;obtain ⟨h5,s5⟩:=h4.set (d':={ d with eD:=gJ d.eD d.aV,aV:=[],ns:=wrap64 (d.ns+1) }) 8 (.int .i64 (wrap64 (d.ns+1))) rfl rfl rfl rfl ⟨cN.s0,cN.s1,cN.eD,cN.rise,cN.aV,cN.eO⟩;have S5:Step F (fun k=>F k∨k=wr.heap.size) w (w4.setCell ⟨b,8,none⟩ (.int .i64 (wrap64 (d.ns+1)))):=(uK.out.step.trans s4).trans s5
    have O:=HO.out _ _ { d with eD:=gJ d.eD d.aV,aV:=[],ns:=wrap64 (d.ns+1) } rfl ⟨_,_,_,_,_,h5⟩ (HE.out.step S5 HF.out) (S5.ge HF.out HE.out.size) (aD _) hd;have jP:Hid (B1 A (w4.setCell ⟨b,8,none⟩ (.int .i64 (wrap64 (d.ns+1)))) b (fun k=>F k∨k=wr.heap.size) { d with eD:=gJ d.eD d.aV,aV:=[],ns:=wrap64 (d.ns+1) }):=O
    have sq:Hid (Step F (fun k=>F k∨k=wr.heap.size) w (w4.setCell ⟨b,8,none⟩ (.int .i64 (wrap64 (d.ns+1))))):=S5
    clear HD h4 h5 s4 s5 S5 O cN uK;go_wp2_with fail;refine jP.out.mono ?_
    rintro e w6 ⟨rfl,F6,h6,s6⟩;have HR:Hid (rY w b F d.sync.1 w6):=by rw [HS.out];exact ⟨F6,h6,sq.out.trans s6⟩
    have HV:Hid (bq.done { d with eD:=gJ d.eD d.aV,aV:=[],ns:=wrap64 (d.ns+1) }=d.sync):=HS.out.symm;rw [HV.out];clear jP sq HS h6 s6;go_wp2_with fail;go_ret;exact ⟨rfl,HR.out⟩
 ·rw [hd] at c5;have HS:Hid (d.sync=(d,8)):=by show d.sync=_;unfold bq.sync;rw [hd];rfl
  clear h hE hF O8;go_enter func63,ntmps63;go_wp2_with fail;go_ret;rw [HS.out];exact ⟨rfl,F,⟨_,_,_,_,_,HH.out⟩,Step.refl _ _⟩
theorem Tryz.info93:(prog.info? 93).map (fun i=>(i.zero,i.size,i.bytes))=some (some (.agg #[.int .i64 0,.string ⟨#[]⟩]),2,24):=by kernel_rfl
theorem Oe{D:DataW Unit}{l:List gH}(h:TM D l)(hD:Maps.IsMap D)(x:gH):TM (D.put (.int .i64 x.ix) (.lit (.int .i64 (l.length:Int)))) (l++[x]):=by
 intro i;have hk:WideAt.IsKeyLit (.int .i64 x.ix):=trivial;rw [lA];by_cases e:x.ix=i
 ·subst e;refine ⟨by rw [Maps.has_put_same hD hk,if_pos rfl];rfl,fun k Rm=>?_⟩
  rw [if_pos rfl] at Rm;rw [Maps.atKey_put_same hD hk,← Option.some.inj Rm]
 ·have ne:(Lit.int .i64 i)≠.int .i64 x.ix:=fun h=>e (by simpa using h.symm)
  rw [if_neg e];refine ⟨by rw [Maps.has_put_other ne];exact (h i).1,fun k Rm=>?_⟩
  rw [Maps.atKey_put_other ne];exact (h i).2 k Rm
theorem cU.Vw{w w1 w2 w3:World}{b:Nat}{F:Nat→Prop}{d:bq}{mb nb:Nat}{pv av:Value}{Dn:DataW Unit}(h:cU w b F d mb nb pv av Dn)(x:gH)(hx:rU d.size x)(hm:w1.ownsMap prog 3 (plainElem prog 3) nb (d.aV.length+1) (Dn.put (.int .i64 x.ix) (.lit (.int .i64 (d.aV.length:Int)))))(fG:w.grownBy w1 (some nb))(g cap:Nat)(hr:w2.ownsRow 0 93 2 (.slice (some ⟨g,0,none⟩) (d.aV.length+1) cap) (d.aV.length+1) (fC (d.aV++[x])))(yZ:w1.grownBy w2 pv.ownBlock)(rG:pv.ownBlock=some g∨w.heap.size≤g)(MC:w3=w2.setCell ⟨b,2,none⟩ (.slice (some ⟨g,0,none⟩) (d.aV.length+1) cap)):cU w3 b (fun k=>F k∨k=g) { d with aV:=d.aV++[x] } mb nb (.slice (some ⟨g,0,none⟩) (d.aV.length+1) cap) av (Dn.put (.int .i64 x.ix) (.lit (.int .i64 (d.aV.length:Int))))∧Step F (fun k=>F k∨k=g) w w3:=by
 have Fh:∀ k,pv.ownBlock=some k→k<w.heap.size∧∃ cur,w.heap[k]?=some (.cells cur 93 (0,0)):=fun k hk=>(eJ h.aV k hk).2
 have b7:w2.heap.size=w3.heap.size:=by rw [MC];simp [World.setCell]
 have jm:w.heap.size≤w2.heap.size:=ar fG.size yZ.size;have dE:∀ k,k<w.heap.size→k≠b→k≠nb→some k≠pv.ownBlock→w3.heap[k]?=w.heap[k]?:=fun k h1 h2 h3 h4=>by
  rw [MC,Below.heap_setCell w2 ⟨b,2,none⟩ _ k h2,yZ.block k (aq h1 fG.size) h4,fG.block k h1 (fun e=>h3 (Option.some.inj e))]
 have MH:some b≠pv.ownBlock:=fun e=>by
  obtain ⟨_,cur,hc⟩:=Fh b e.symm;rw [h.dr] at hc;simp at hc
 have hmp:∀ m n R D,w.ownsMap prog 3 R m n D→some m≠pv.ownBlock:=fun m n R D hm e=>by
  obtain ⟨_,cur,hc⟩:=Fh m e.symm;exact dZ hm hc rfl
 have eU:b≠nb:=dZ h.rq h.dr;have Ca:b≠mb:=dZ h.mapD h.dr;have yS:∀ k (cur:Array Value) (e:TypeId),w.heap[k]?=some (Obj.cells cur e (0,0))→e≠142→e≠93→w3.heap[k]?=w.heap[k]?:=fun k cur e hk h1 h2=>by
  refine dE k (Array.getElem?_eq_some_iff.1 hk).1 (fun hb=>?_) (dZ h.rq hk) (fun he=>?_)
  ·rw [hb,h.dr] at hk;simp at hk;exact h1 hk.2.symm
  ·obtain ⟨_,c,hc⟩:=Fh k he.symm;rw [hk] at hc;simp at hc;exact h2 hc.2
 have aU:w2.heap[b]?=w.heap[b]?:=by
  rw [yZ.block b (aq (Array.getElem?_eq_some_iff.1 h.dr).1 fG.size) MH,fG.block b (Array.getElem?_eq_some_iff.1 h.dr).1 (fun e=>eU (Option.some.inj e))]
 have ib:g≠b:=fun e=>by
  rcases rG with h' | h'
  ·exact MH (by rw [h',e])
  ·have:=(Array.getElem?_eq_some_iff.1 h.dr).1;omega
 refine ⟨⟨?_,.inl h.fb,.inl h.fm,.inl h.fn,h.ne,dG h.mapD (dE mb h.mapD.lt Ca.symm h.ne (hmp _ _ _ _ h.mapD)),?_,Oe h.new h.rq.isMap x,?_,?_,?_,?_,?_⟩,?_⟩
 ·rw [MC];unfold World.setCell;simp only [dI,if_true];rw [aU,h.dr];rfl
 ·have:=dG hm (w':=w3) (by
   rw [MC,Below.heap_setCell w2 ⟨b,2,none⟩ _ nb eU.symm,yZ.block nb hm.lt (hmp _ _ _ _ h.rq)])
  simpa using this
 ·have:=ff hr (w':=w3) fun k hk=>by
   simp only [Value.ownBlock,Option.some.injEq] at hk;rw [MC,Below.heap_setCell w2 ⟨b,2,none⟩ _ k (by rw [← hk];exact ib)]
  simpa using this
 ·intro k hk;simp only [Value.ownBlock,Option.some.injEq] at hk;exact .inr hk.symm
 ·exact (h.eO.block fun k cur hk _=>by
   rcases hk with hk | hk
   ·exact yS k cur _ hk (by decide) (by decide)
   ·exact yS k cur _ hk (by decide) (by decide)).imp fun k hk=>.inl hk
 ·refine ⟨h.ok.s0,h.ok.s1,h.ok.eD,h.ok.rise,fun y hy=>?_,h.ok.eO⟩
  rcases List.mem_append.1 hy with e | e
  ·exact h.ok.aV y e
  ·rw [List.mem_singleton.1 e];exact hx
 ·intro i hi;rw [← b7];rcases hi with hi | hi
  ·exact aq (h.lt i hi) jm
  ·rw [hi];exact (eJ hr g rfl).2.1
 ·refine ⟨?_,?_,?_,by omega,fun k hk hn=>dE k hk (fun e=>hn (by rw [e];exact h.fb)) (fun e=>hn (by rw [e];exact h.fn)) (fun e=>hn (h.pf k e.symm)),fun k hk=>hk.elim .inl fun e=>?_⟩
  ·rw [MC];exact yZ.os.trans fG.os
  ·rw [MC];exact yZ.tape.trans fG.tape
  ·rw [MC];exact yZ.output.trans fG.output
  ·rcases rG with h' | h'
   ·exact .inl (by rw [e];exact h.pf g h')
   ·exact .inr (by omega)
def T4(w:World)(F:Nat→Prop)(v:Value)(l:List UInt8):Prop:=∃ a cap g,v = .slice a l.length cap∧l.length≤cap∧l.length≤140737488355328∧(0<l.length→a=some ⟨g,0,none⟩∧¬ F g)∧∀ j (h:j<l.length),w.cell? ⟨g,j,none⟩=some (.int .u8 (l[j].toNat:Int))
theorem JF{x:Int}(h1 : -9223372036854775808≤x)(h2:x≤9223372036854775807):wrap64 x=x:=by unfold wrap64;omega
theorem ED{w:World}{g:Nat}{l:List UInt8}(hc:∀ j (h:j<l.length),w.cell? ⟨g,j,none⟩=some (.int .u8 (l[j].toNat:Int)))(k:Nat)(hk:(k+1)*512≤l.length)(cap:Nat):(convert 145 9 (.slice (some ⟨g,k*512,none⟩) 512 cap)).run prog w = .ok (.string (Gm ((l.drop (k*512)).take 512))) w:=by
 have hl:((l.drop (k*512)).take 512).length=512:=by rw [ag,ao];omega
 have h:=run_convert_bytes_back (P:=prog) w 145 9 5 ⟨g,k*512,none⟩ cap ((l.drop (k*512)).take 512) underlying145 underlying5 underlying9 (fun j hj=>by
  rw [Addr.add_mid];have:=hc (k*512+j) (by omega)
  simpa using this)
 rw [hl] at h;exact h
structure Jq(w wr:World)(b:Nat)(F F':Nat→Prop)(d:bq)(s:Int)(l:List UInt8)(k:Nat):Prop where
 dev:cJ wr b F' { d with aV:=d.aV++chunks s l k }
 step:Step F F' w wr
theorem JE(base:Nat)(A:Nat→Addr)(b:Nat)(F:Nat→Prop)(d:bq)(w:World)(h:cJ w b F d)(hE:mC base A w)(hF:∀ k,F k→base≤k)(s:Int)(v:Value)(l:List UInt8)(hv:T4 w F v l)(hp:d.aV.length+l.length / 512≤5864062014805)(O8:Mm base A b d.eO):Calls prog 98 #[.pointer (some ⟨b,0,none⟩),.int .i64 s,v] w fun e w'=>e = .returned (ig A (d.write s l).2)∧rY w b F (d.write s l).1 w':=by
 have HK:Hid (cJ w b F d):=h;obtain ⟨a,cap,g,rfl,dd,hlen,Z2,bh⟩:=hv;obtain ⟨L,hL⟩ : ∃ L,L=l.length:=⟨_,rfl⟩;have HL:Hid (L=l.length):=hL;have q1:((L:Int) / 512)=((L / 512:Nat):Int):=by omega
 have q2:((L:Int) % 512)=((L % 512:Nat):Int):=by omega
 have H0:=Ap b F d s ((L / 512:Nat):Int) w h (by omega)
 obtain ⟨mb,nb,pv,av,Dn,h⟩:=h;have c5:w.cell? ⟨b,5,none⟩=some (.bool d.dead):=h.cell 5;have e7:=hE.dead;have e0:=hE.arg;have HE:Hid (mC base A w):=hE;have HF:Hid (∀ k,F k→base≤k):=hF;have HO:Hid (Mm base A b d.eO):=O8;have HP:Hid (d.aV.length+L / 512≤5864062014805):=by rw [hL];exact hp
 have HC:Hid (∀ j (h:j<l.length),w.cell? ⟨g,j,none⟩=some (.int .u8 (l[j].toNat:Int))):=bh;have HW:Hid (d.write s l=if d.dead then (d,8) else if L=0∨L % 512≠0∨d.fits s (L / 512:Nat)=false then (d,1) else bq.done { d with aV:=d.aV++chunks s l (L / 512),nw:=wrap64 (d.nw+(L / 512:Nat)) }):=by rw [hL];rfl
 rw [← hL] at dd hlen Z2;rw [← hL];generalize hfits:d.fits s (L / 512:Nat)=fb at *;have yB:Hid (d.fits s (L / 512:Nat)=fb):=hfits;have Ms:Hid (Calls prog 41 #[.pointer (some ⟨b,0,none⟩),.int .i64 s,.int .i64 ((L / 512:Nat):Int)] w fun e w'=>e = .returned (.bool fb)∧w=w'):=H0
 obtain ⟨n,hn⟩ : ∃ n,n=L / 512:=⟨_,rfl⟩;obtain ⟨m,hm⟩ : ∃ m,m=L % 512:=⟨_,rfl⟩;rw [← hn] at q1 Ms yB HP HW;rw [← hm] at q2 HW;have Jy:Hid (L=n*512+m∧m<512):=⟨by omega,by omega⟩
 clear h hE hF O8 hL bh H0 hfits hp hn hm;cases hd:d.dead
 ·rw [hd] at c5;by_cases b1:n=0
  ·have HR:Hid (d.write s l=(d,1)):=by
    show d.write s l=_
    rw [HW.out,hd,if_neg (by simp),if_pos]
    have:=Jy.out;by_cases e:L=0
    ·exact .inl e
    ·exact .inr (.inl (by omega))
   have t1:((n:Int) == 0)=true:=by simp [b1]
   clear HW b1 Jy;go_enter func98,ntmps98;go_wp2_with fail;go_ret;rw [HR.out];exact ⟨rfl,F,HK.out,Step.refl _ _⟩
  ·have t1:((n:Int) == 0)=false:=by simp;omega
   by_cases b2:m=0
   ·subst b2;cases fb
    ·have HR:Hid (d.write s l=(d,1)):=by
      show d.write s l=_
      rw [HW.out,hd,if_neg (by simp),if_pos (.inr (.inr rfl))]
     clear HW b1 Jy;go_enter func98,ntmps98;go_wp2_with (go_at_call 41;refine Ms.out.mono ?_;rintro e w' ⟨rfl,rfl⟩)
     go_ret;rw [HR.out];exact ⟨rfl,F,HK.out,Step.refl _ _⟩
    ·have HR:Hid (d.write s l=bq.done { d with aV:=d.aV++chunks s l n,nw:=wrap64 (d.nw+(n:Int)) }):=by
      show d.write s l=_
      rw [HW.out,hd,if_neg (by simp),if_neg]
      have:=Jy.out;rintro (h | h | h)
      ·omega
      ·exact h rfl
      ·cases h
     have Je:L=n*512:=by have:=Jy.out;omega
     clear HW Jy;go_enter func98,ntmps98;go_wp2_with (go_at_call 41;refine Ms.out.mono ?_;rintro e w' ⟨rfl,rfl⟩)
     have HLn:Hid (L=n*512):=Je;have HI:Hid (Jq w w b F F d s l 0):=⟨by simpa [chunks] using HK.out,Step.refl _ _⟩
     obtain ⟨adr,Z0⟩:=Z2 (by omega)
     subst adr;have eC:=yB.out;simp only [bq.fits,decide_eq_true_eq] at eC;have kn:=HK.out.ok.s1;have adf:0≤s:=eC.1;have GS:s≤d.size - (n:Int):=eC.2.2;have aev:Hid (l.length=n*512):=by show l.length=_;rw [← HL.out];exact Je
     obtain ⟨i0,hi,nK,mG,o7⟩:=info_parts Tryz.info93;clear Je Z2 c5 e7 e0 Ms yB q1 q2 t1;go_loopw [35] (fun i wr=>∃ k F',k≤n∧i = .int .i64 (k:Int)∧Jq w wr b F F' d s l k) (fun i _=>n - (intOf i).toNat)
     case atStart=>exact ⟨0,F,aD _,rfl,HI.out⟩
     case round =>
      obtain ⟨k,F',hk,rfl,inv⟩:=hrel;have uK:Hid (Jq w wr b F F' d s l k):=inv;obtain ⟨mb',Uf,FX,av',Dn',h'⟩:=inv.dev;clear inv HI;have DY:({ d with aV:=d.aV++chunks s l k }:bq).aV.length=d.aV.length+k:=by simp [xW]
      by_cases bN:k<n
      ·have Q9:=HP.out;obtain ⟨P,hP⟩ : ∃ P,P=d.aV.length+k:=⟨_,rfl⟩;have HPP:Hid (P=d.aV.length+k):=hP;rw [← hP] at DY;have hPb:P+1≤5864062014805:=by omega
       have x2:wr.cell? ⟨b,2,none⟩=some FX:=h'.cell 2;have x3:wr.cell? ⟨b,3,none⟩=some (.map (some Uf)):=h'.cell 3;have xE:=h'.rq;have pP:=h'.aV;rw [DY] at xE pP;obtain ⟨pa,pc,rfl,-⟩:=gX pP;have Ul:wrap64 (s+(k:Int))=s+(k:Int):=JF (by omega) (by omega)
       have acx:IntKind.i64.wrap (s+(k:Int))=s+(k:Int):=wrap_i64 _ (by omega) (by omega)
       obtain ⟨w1,YS,hU,sW⟩:=xE.drew.store DP underlying139 (by unfold maxLen;omega) (Sx (i:=s+(k:Int)) (by omega) (by omega)) (plainElem_int underlying3 (kwf (i:=(P:Int)) (by omega) (by omega)))
       have fG:wr.grownBy w1 (some Uf):=⟨sW.grown.os,sW.grown.tape,sW.grown.output,sW.grown.size,sW.grown.block⟩;have eU:b≠Uf:=dZ h'.rq h'.dr;have y2:=qw fG x2 eU;have y3:=qw fG x3 eU;have fz:w1.frozen? ⟨b,2,none⟩=false:=by
        unfold World.frozen?;rw [show w1.heap[(⟨b,2,none⟩ : Addr).block]?=_ from (fG.block b (Array.getElem?_eq_some_iff.1 h'.dr).1 (by simpa using eU)).trans h'.dr]
        simp
       have Pm:∀ j (h:j<l.length),g<w.heap.size:=fun j h=>World.block_lt_of_cell? w _ (HC.out j h)
       have xJ:=ED (w:=w1) (g:=g) (l:=l) (fun j h=>by
        have c:=HC.out j h;have hF':¬ F' g:=fun hf=>(uK.out.step.sub g hf).elim Z0 (fun hs=>by have:=Pm j h;omega)
        have c1:=uK.out.step.cell (a:=⟨g,j,none⟩) c Z0;exact qw fG c1 (fun e=>hF' (by rw [show g=Uf from e];exact h'.fn))) k (by rw [← HL.out,HLn.out];omega) (cap - k*512)
       obtain ⟨D,hD⟩ : ∃ D,D=Gm ((l.drop (k*512)).take 512):=⟨_,rfl⟩;rw [← hD] at xJ;have HD:Hid (D=Gm ((l.drop (k*512)).take 512)):=hD;have HH:Hid (cU wr b F' { d with aV:=d.aV++chunks s l k } mb' Uf (.slice pa P pc) av' Dn'):=h';have HM:Hid (w1.ownsMap prog 3 (plainElem prog 3) Uf (P+1) (Dn'.put (.int .i64 (s+(k:Int))) (.lit (.int .i64 (P:Int))))):=hU;have Hy:Hid (wr.grownBy w1 (some Uf)):=fG;have oA:w1.ownsRow 0 93 2 (.slice pa P pc) P (fC (d.aV++chunks s l k)):=ff pP fun j hj=>by
        obtain ⟨_,bN,cur,uT⟩:=eJ pP j hj;exact fG.block j bN (by simpa using dZ h'.rq uT)
       have i1:IntKind.i64.wrap ((k:Int)*512)=(k:Int)*512:=wrap_i64 _ (by omega) (by omega)
       have i2:IntKind.i64.wrap (((k:Int)+1)*512)=((k:Int)+1)*512:=wrap_i64 _ (by omega) (by omega)
       have aiM:((k:Int)+1)*512≤(cap:Int):=by have:=HLn.out;omega
       have aiX:(k+1)*512 - k*512=512:=by omega
       have aiL:(k:Int)*512≤((k:Int)+1)*512:=by omega
       have aiK:(0:Int)≤(k:Int)*512:=by omega
       clear hD h' hU sW fG xE pP hP Pm eC;go_wp2_with fail;go_region_held3 (fun w'=>w'.cell? ⟨b,2,none⟩=some (.slice pa P pc)∧w'.cell? ⟨b,3,none⟩=some (.map (some Uf))) (first | exact ⟨x2,x3⟩ | exact ⟨y2,y3⟩ | go_keep) (fail)
       have mU:=bL w1 #[.int .i64 (s+(k:Int)),.string D] 93;go_wp2_with (first
        | (at_builtin;refine wpList_append_lies _ rfl _ _ 22 rfl 0 93 i0 (.agg #[.int .i64 0,.string ⟨#[]⟩]) 2 24 underlying22 hi nK mG o7 rfl (by decide) _ _ _ rfl (oA.alloc _) ⟨w1.heap.size,0,none⟩ 1 1 [.int .i64 (s+(k:Int)),.string D] rfl rfl ?c1 ?c2 ?c3 ?c4 ?c5 ?c6 (w1.heap.size+1) ?c7 ?_))
       case c2=>exact ⟨rfl,rfl⟩
       case c4=>unfold maxLen;omega
       case c5=>omega
       intro g2 Tx w2 lD xG ZZ acV;have VV:({ d with aV:=d.aV++chunks s l k }:bq).aV.length=P:=DY;have aU:w2.heap[b]?=w1.heap[b]?:=by
        have bO:b<w1.heap.size:=World.block_lt_of_cell? w1 _ y2;rw [xG.block b (by simp;omega) (fun e=>?_)]
        ·exact (ai w1 _).block b bO
        ·obtain ⟨_,_,cur,uT⟩:=eJ oA b e.symm;have hx:=(Hy.out.block b (Array.getElem?_eq_some_iff.1 HH.out.dr).1 (by simpa using eU)).trans HH.out.dr
         rw [uT] at hx;simp at hx
       have z2:w2.cell? ⟨b,2,none⟩=some (.slice pa P pc):=(World.cell?_of_block (a:=⟨b,2,none⟩) aU).trans y2;have fz2:w2.frozen? ⟨b,2,none⟩=false:=by
        have hx:=(Hy.out.block b (Array.getElem?_eq_some_iff.1 HH.out.dr).1 (by simpa using eU)).trans HH.out.dr
        unfold World.frozen?;rw [show w2.heap[(⟨b,2,none⟩ : Addr).block]?=_ from aU.trans hx]
        simp
       have I5:w2.ownsRow 0 93 2 (.slice (some ⟨g2,0,none⟩) (P+1) Tx) (P+1) (fC ((d.aV++chunks s l k)++[chunk s l k])):=by
        rw [A6];have:fC [chunk s l k]=[.int .i64 (s+(k:Int)),.string D]:=by rw [HD.out];rfl
        rw [this];exact lD
       have GI:=Hy.out.size;have ZE:w1.grownBy w2 (Value.slice pa P pc).ownBlock:=(World.grownBy_alloc w1 _ _).trans xG;have PB:=HH.out.Vw (w1:=w1) (w2:=w2) (w3:=w2.setCell ⟨b,2,none⟩ (.slice (some ⟨g2,0,none⟩) (P+1) Tx)) (chunk s l k) (Qd adf GS aev.out bN) (by rw [VV];exact HM.out) Hy.out g2 Tx (by rw [VV];exact I5) ZE (ZZ.imp id (fun e=>by omega)) (by rw [VV])
       have V:Jq w (w2.setCell ⟨b,2,none⟩ (.slice (some ⟨g2,0,none⟩) (P+1) Tx)) b F (fun k=>F' k∨k=g2) d s l (k+1):=by
        refine ⟨?_,uK.out.step.trans PB.2⟩;rw [uw,← ax];exact ⟨_,_,_,_,_,PB.1⟩
       clear PB I5 ZE lD xG ZZ acV aU HM Hy HH uK x2 x3 y2 y3 oA mU xJ YS;go_wp2_with fail;go_roundw
       case rel=>exact ⟨k+1,_,by omega,by go_num,V⟩
       case measure=>simp [intOf];omega
      ·have K6:k=n:=by omega
       subst K6;have x7:wr.cell? ⟨b,7,none⟩=some (.int .i64 d.nw):=h'.cell 7;have f7:=h'.frozen 7;have cN:=h'.ok;obtain ⟨h5,s5⟩:=h'.set (d':={ d with aV:=d.aV++chunks s l k,nw:=wrap64 (d.nw+(k:Int)) }) 7 (.int .i64 (wrap64 (d.nw+(k:Int)))) rfl rfl rfl rfl ⟨cN.s0,cN.s1,cN.eD,cN.rise,cN.aV,cN.eO⟩;have S5:=uK.out.step.trans s5;have O:=HO.out _ _ { d with aV:=d.aV++chunks s l k,nw:=wrap64 (d.nw+(k:Int)) } rfl ⟨_,_,_,_,_,h5⟩ (HE.out.step S5 HF.out) (S5.ge HF.out HE.out.size) (by rw [DY];have:=HP.out;omega) hd
       have jP:Hid (B1 A (wr.setCell ⟨b,7,none⟩ (.int .i64 (wrap64 (d.nw+(k:Int))))) b F' { d with aV:=d.aV++chunks s l k,nw:=wrap64 (d.nw+(k:Int)) }):=O;have sq:Hid (Step F F' w (wr.setCell ⟨b,7,none⟩ (.int .i64 (wrap64 (d.nw+(k:Int)))))):=S5;clear h' h5 s5 S5 O cN DY uK eC;go_wp2_with fail;refine jP.out.mono ?_
       rintro e w6 ⟨rfl,F6,h6,s6⟩;have oL:Hid (rY w b F (d.write s l).1 w6):=by rw [HR.out];exact ⟨F6,h6,sq.out.trans s6⟩
       have HV:Hid (bq.done { d with aV:=d.aV++chunks s l k,nw:=wrap64 (d.nw+(k:Int)) }=d.write s l):=HR.out.symm;rw [HV.out];clear jP sq HR h6 s6;go_wp2_with fail;go_ret;exact ⟨rfl,oL.out⟩
   ·have HR:Hid (d.write s l=(d,1)):=by
     show d.write s l=_
     rw [HW.out,hd,if_neg (by simp),if_pos (.inr (.inl b2))]
    have t2:((m:Int) != 0)=true:=by simp;omega
    clear HW b1 b2 Jy;go_enter func98,ntmps98;go_wp2_with fail;go_ret;rw [HR.out];exact ⟨rfl,F,HK.out,Step.refl _ _⟩
 ·rw [hd] at c5;have HR:Hid (d.write s l=(d,8)):=by show d.write s l=_;rw [HW.out,hd];rfl
  clear HW Jy;go_enter func98,ntmps98;go_wp2_with fail;go_ret;rw [HR.out];exact ⟨rfl,F,HK.out,Step.refl _ _⟩
theorem MV(w:World):(zeroValue 3).run prog w = .ok (.int .i64 0) w:=by kernel_rfl
theorem X1:(prog.info? 144).map (fun i=>(i.zero,i.size))=some (some (.agg zeroCells144),512):=by kernel_rfl
theorem T9(w:World):(zeroValue 144).run prog w = .ok (arr pW) w:=by
 have h:=(zero_of_info X1).1 w;rw [zc] at h;rw [h,arr,pW,tn]
theorem eV{P:Program}{ops:Array Oper}{rest:List Oper}{op:Oper}{a:Act}{w w':World}{Q:Exit→Act→World→Prop}(nx:op.guard=none)(ty:TypeId)(x y:Operand)(ho:op.op = .store ty x y)(p v:Value)(hx:a.eval x=p)(hy:a.eval y=v)(bn:(Instr.storeAt ty p v).run P w = .ok () w')(h:wpList P ops Q rest (a.put op.dst undef) w'):wpList P ops Q (op::rest) a w :=
 wpList_plain nx fun _ hK=>by
  unfold Oper.wp execOp;simp only [ho,hx,hy,Sem.run_bind,bn,Result.andThen_ok,Sem.run_pure];exact hK _ _ h
theorem Vh(w:World)(t:ByteArray)(ht:t.size=512):(Instr.storeAt 144 (.pointer (some ⟨w.heap.size,0,none⟩)) (arr t)).run prog (w.alloc (.cells zeroCells144 144)) = .ok () (w.alloc (.cells (dS (bl t)).toArray 144)) :=
 run_storeAt_new w 144 zeroCells144 (dS (bl t)).toArray (by rw [AZ,List.size_toArray,aY,jI,ht]) (by rw [zc,List.size_toArray,List.size_toArray,aY,aY,jz,jI,ht]) (all_oneCell_toArray (qR _))
theorem zy(pre Gn post new:List UInt8)(h:Gn.length=new.length):((dS (pre++Gn++post)).toArray.toList.take pre.length++dS new++(dS (pre++Gn++post)).toArray.toList.drop (pre.length+new.length)).toArray=(dS (pre++new++post)).toArray:=by
 congr 1
 rw [ax pre Gn post,jA,jA,jA,jA,← h];have e1:List.take pre.length (dS pre++(dS Gn++dS post))=dS pre:=by
  rw [aF (by rw [aY];omega),al (by rw [aY];omega)]
 have e2:List.drop (pre.length+Gn.length) (dS pre++(dS Gn++dS post))=dS post:=by
  rw [← ax,List.drop_append,List.drop_of_length_le (by rw [ae,aY,aY];omega),ae,aY,aY]
  simp
 rw [e1,e2]
theorem PU{l:List gH}{i:Int}:(l.any fun x=>decide (x.ix=i))=(l.find? fun x=>decide (x.ix=i)).isSome:=by
 induction l with
 | nil=>rfl
 | cons x r ih =>
  by_cases h:x.ix=i
  ·simp [h]
  ·simp [h,ih]
def cF(w:World)(g:Nat)(l:List UInt8):Prop:=w.heap[g]?=some (.cells (dS l).toArray 5 (0,0))
theorem Qa(w:World)(g:Nat)(pre Gn post:List UInt8)(t:ByteArray)(L C:Nat)(hr:cF w g (pre++Gn++post))(hm:Gn.length=512)(ht:t.size=512)(hL:512≤L):∃ w2,(Builtin.copy_ #[145,9] 3 #[.slice (some ⟨g,pre.length,none⟩) L C,.string t]).run prog w = .ok (goInt t.size) w2∧cF w2 g (pre++bl t++post)∧w.grownBy w2 (some g):=by
 have bn:=Lib.run_copy_row_string (P:=prog) w 145 9 3 5 g pre.length L C t _ 5 underlying145 tO hr (by omega) (by rw [List.size_toArray,aY,ae,ae];omega)
 have e:=zy pre Gn post (bl t) (by rw [jI];omega)
 rw [jI] at e;rw [zi,show t.data.toList=bl t from rfl,e] at bn
 refine ⟨_,bn,setRow_heap _ g _ _ 5 _ hr,?_⟩;exact ⟨rfl,rfl,rfl,by simp [World.setRow],fun k _ hn=>by
  have:g≠k:=fun e=>hn (by rw [e])
  simp [World.setRow,Array.getElem?_modify,this]⟩
theorem Qc(w:World)(g ga:Nat)(pre Gn post:List UInt8)(t:ByteArray)(L C:Nat)(hr:cF w g (pre++Gn++post))(ha:w.heap[ga]?=some (.cells (dS (bl t)).toArray 144 (0,0)))(hm:Gn.length=512)(ht:t.size=512)(hL:512≤L):∃ w2,(Builtin.copy_ #[145,145] 3 #[.slice (some ⟨g,pre.length,none⟩) L C,.slice (some ⟨ga,0,none⟩) 512 512]).run prog w = .ok (goInt 512) w2∧cF w2 g (pre++bl t++post)∧w.grownBy w2 (some g):=by
 have hl:(dS (bl t)).length=512:=by rw [aY,jI,ht]
 have bn:=run_copy_row (P:=prog) w 145 145 3 5 g pre.length L C ⟨ga,0,none⟩ 512 512 _ 5 (dS (bl t)) underlying145 tO hr (by rw [hl];exact (a7 hL).symm)
  (fun j v hv=>by
   rw [Addr.add_mid,cell_of_row _ _ _ _ _ _ ha,Nat.zero_add];simpa using hv)
  (by rw [hl,List.size_toArray,aY,ae,ae];omega) (qR _)
 have e:=zy pre Gn post (bl t) (by rw [jI];omega)
 rw [jI,ht] at e;rw [hl,e] at bn;refine ⟨_,bn,setRow_heap _ g _ _ 5 _ hr,?_⟩;exact ⟨rfl,rfl,rfl,by simp [World.setRow],fun k _ hn=>by
  have:g≠k:=fun e=>hn (by rw [e])
  simp [World.setRow,Array.getElem?_modify,this]⟩
theorem LQ(b:Nat)(F:Nat→Prop)(d:bq)(w:World)(h:cJ w b F d)(g:Nat)(pre post:List UInt8)(s:Int)(L C:Nat)(hr:cF w g (pre++fA 512++post))(hL:512≤L)(h0:0≤s)(h1:s<9223372036854775808):Calls prog 186 #[.pointer (some ⟨b,0,none⟩),.slice (some ⟨g,pre.length,none⟩) L C,.int .i64 s] w fun e w'=>e = .returned (.tuple #[])∧cF w' g (pre++bl (gd d s)++post)∧w.grownBy w' (some g):=by
 obtain ⟨mb,nb,pv,av,Dn,h⟩:=h;have c3:w.cell? ⟨b,3,none⟩=some (.map (some nb)):=h.cell 3;have xE:=h.rq;have Ph:=Sx h0 h1;obtain ⟨n1,n2⟩:=h.new s;obtain ⟨off,VW⟩ : ∃ off,off=pre.length:=⟨_,rfl⟩;have HOF:Hid (off=pre.length):=VW;rw [← VW];clear VW;cases UB:ep d.aV s with
 | some k =>
  have S1:Maps.has Dn (.int .i64 s)=true:=by rw [n1,UB];rfl
  have adp:=n2 k UB;have cL:=kK UB;have c2:w.cell? ⟨b,2,none⟩=some pv:=h.cell 2;have gS:Hid (gd d s=d.aV[k].kG):=by show gd d s=_;unfold gd;rw [UB];simp [cL]
  obtain ⟨pa,pc,rfl,O6⟩:=gX h.aV;obtain ⟨gp,rfl⟩:=O6 (by omega)
  have p1:=sL h.aV rfl _ _ (mO d.aV k cL).2;have b7:=(CN h.ok cL).len;obtain ⟨D,hD⟩ : ∃ D,D=d.aV[k].kG:=⟨_,rfl⟩;rw [← hD] at gS p1 b7;obtain ⟨P,hP⟩ : ∃ P,P=d.aV.length:=⟨_,rfl⟩;rw [← hP] at c2 cL;obtain ⟨w2,yz,bE,As⟩:=Qa w g pre (fA 512) post D L C hr (jz 512) b7 hL;rw [← HOF.out] at yz;have XK:Hid (cF w2 g (pre++bl D++post)∧w.grownBy w2 (some g)):=⟨bE,As⟩;rw [gS.out];clear h n1 n2 UB hD hP bE As gS hr;go_enter func186,ntmps186;go_wp2_with (first
   | (at_lookup;refine wpList_lookup_own_ok_int _ rfl _ _ 139 rfl 3 3 .i64 DP underlying139 underlying3 (MV _) nb _ Dn rfl xE _ _ rfl Ph ?_;intro c rG hwc;(obtain rfl:c=(k:Int):=by rw [adp] at rG;simpa using rG.symm);rw [S1]))
  refine bodyPost_ret (results_none rfl _ _ _) rfl ?_
  exact ⟨rfl,XK.out⟩
 | none =>
  have S1:Maps.has Dn (.int .i64 s)=false:=by rw [n1,UB];rfl
  have c1:w.cell? ⟨b,1,none⟩=some (.map (some mb)):=h.cell 1;have Uz:=h.mapD;obtain ⟨T,hT⟩ : ∃ T,T=fx d.eD s:=⟨_,rfl⟩;have XC:T.size=512:=by rw [hT];exact rC h.ok.eD s
  have hTz:Maps.has (mn d.eD) (.int .i64 s)=false→T=pW:=fun hz=>by
   rw [P0,PU] at hz;rw [hT];unfold fx;cases hf:d.eD.find? (fun x=>decide (x.ix=s)) with
   | none=>rfl
   | some x=>rw [hf] at hz;cases hz
  have hV:∀ v ps,sJ v=some ((mn d.eD).atKey (.int .i64 s) (.lit (.string (bl pW))),ps)→v=arr T:=fun v ps hv=>by
   obtain ⟨t,ht,rfl,he⟩:=NG hv;rw [Tk] at he;rw [hT];unfold fx;cases hf:d.eD.find? (fun x=>decide (x.ix=s)) with
   | none=>rw [hf] at he;simp only [Prod.mk.injEq,DataW.lit.injEq,Lit.string.injEq] at he;rw [BN he.1.symm]
   | some x=>rw [hf] at he;simp only [Prod.mk.injEq,DataW.lit.injEq,Lit.string.injEq] at he;rw [BN he.1.symm]
  have gS:Hid (gd d s=T):=by show gd d s=_;unfold gd;rw [UB,hT]
  rw [gS.out];have bN:=(Array.getElem?_eq_some_iff.1 hr).1;have aU:=ai w (.cells (dS (bl T)).toArray 144);have iG:cF (w.alloc (.cells (dS (bl T)).toArray 144)) g (pre++fA 512++post):=(aU.block g bN).trans hr;have fj:=Vh w T XC;have me:=heap_alloc_new w (.cells (dS (bl T)).toArray 144);obtain ⟨w2,yz,bE,As⟩:=Qc (w.alloc (.cells (dS (bl T)).toArray 144)) g w.heap.size pre (fA 512) post T L C iG me (jz 512) XC hL;rw [← HOF.out] at yz;have XK:Hid (cF w2 g (pre++bl T++post)∧w.grownBy w2 (some g)):=⟨bE,(oC aU).trans As⟩;have Ht:Hid (Maps.has (mn d.eD) (.int .i64 s)=false→cF (w.alloc (.cells (dS (bl T)).toArray 144)) g (pre++bl T++post)∧w.grownBy (w.alloc (.cells (dS (bl T)).toArray 144)) (some g)):=fun hz=>⟨by rw [show pre++bl T++post=pre++fA 512++post by rw [hTz hz,pW,tn]];exact iG,oC aU⟩
  obtain ⟨cs,fH⟩ : ∃ cs,cs=(dS (bl T)).toArray:=⟨_,rfl⟩;rw [← fH] at fj yz Ht;obtain ⟨V,hVd⟩ : ∃ V,V=arr T:=⟨_,rfl⟩;rw [← hVd] at fj;have hV2:Hid (∀ v ps,sJ v=some ((mn d.eD).atKey (.int .i64 s) (.lit (.string (bl pW))),ps)→v=V):=by rw [hVd];exact hV
  have RM:True:=trivial;generalize hhD:Maps.has (mn d.eD) (.int .i64 s)=hb at Ht;clear hTz hVd h n1 n2 UB hT hr hV bE As gS aU iG me XC fH bN;go_enter func186,ntmps186;cases hb
  ·go_wp2_with (first
    | (at_lookup;have _t:=RM;refine wpList_lookup_own_ok_int _ rfl _ _ 139 rfl 3 3 .i64 DP underlying139 underlying3 (MV _) nb _ Dn rfl xE _ _ rfl Ph ?_;intro c rG hwc;clear RM rG hwc;rw [S1])
    | (at_lookup;refine wpList_lookup_own_ok _ rfl _ _ 138 rfl 3 144 DP underlying138 sJ (T9 _) (.lit (.string (bl pW))) [] (wg sA) mb _ (mn d.eD) rfl Uz _ _ rfl Ph ?_;intro v ps hv;(obtain rfl:v=V:=hV2.out v ps hv);clear hv;rw [hhD])
    | (refine eV rfl 144 _ _ rfl _ _ rfl rfl fj ?_))
   go_end0
   refine ⟨rfl,?_⟩;have r:=Ht.out (by first | trivial | rfl)
   rw [ax] at r;exact r
  ·go_wp2_with (first
    | (at_lookup;have _t:=RM;refine wpList_lookup_own_ok_int _ rfl _ _ 139 rfl 3 3 .i64 DP underlying139 underlying3 (MV _) nb _ Dn rfl xE _ _ rfl Ph ?_;intro c rG hwc;clear RM rG hwc;rw [S1])
    | (at_lookup;refine wpList_lookup_own_ok _ rfl _ _ 138 rfl 3 144 DP underlying138 sJ (T9 _) (.lit (.string (bl pW))) [] (wg sA) mb _ (mn d.eD) rfl Uz _ _ rfl Ph ?_;intro v ps hv;(obtain rfl:v=V:=hV2.out v ps hv);clear hv;rw [hhD])
    | (refine eV rfl 144 _ _ rfl _ _ rfl rfl fj ?_))
   go_end0
   exact ⟨rfl,XK.out⟩
theorem Bf(n:Nat):(madeCells #[Value.int .u8 0] n).toList=dS (fA n):=by
 rw [dS,fA,oJ];simp [madeCells,Nat.mod_one,List.map_const']
theorem A7{w:World}{base g n:Nat}{l:List UInt8}(h:w.ownsRow base 5 1 (.slice (some ⟨g,0,none⟩) n n) n (dS l)):cF w g l:=by
 rcases h.2 with ⟨h',_⟩ | ⟨g',eS,cur,h',hb,hg,hn,hc,hs,ht⟩
 ·cases h'
 ·cases h'
  unfold cF;rw [hg,← ht,al (by simpa using Nat.le_of_eq hs)]
theorem Bc{w:World}{base g n:Nat}{l:List UInt8}(h:cF w g l)(hl:l.length=n)(hb:base≤g)(hn:n≤maxLen):w.ownsRow base 5 1 (.slice (some ⟨g,0,none⟩) n n) n (dS l) :=
 ⟨by rw [aY];omega,.inr ⟨g,n,_,rfl,hb,h,aj _,hn,by simp [aY];omega,by
  rw [al (by simp [aY];omega)]⟩⟩
structure yj(A:Nat→Addr)(w:World)(b:Nat)(F:Nat→Prop)(r:bq × List UInt8 × Nat)(e:Ending)(w':World)(v:Value):Prop where
 ret:e = .returned (.tuple #[v,ig A r.2.2])
 row:w'.ownsRow w.heap.size 5 1 v r.2.1.length (dS r.2.1)
 dev:cJ w' b F r.1
 step:Step F F w w'
 one:Step (fun k=>k=b) (fun k=>k=b) w w'
structure Js(w wr:World)(d:bq)(s:Int)(m k:Nat):Prop where
 row:cF wr w.heap.size (iM d s k++fA ((m - k)*512))
 ew:Below w.heap.size w wr
theorem lY(base:Nat)(A:Nat→Addr)(b:Nat)(F:Nat→Prop)(d:bq)(w:World)(h:cJ w b F d)(hE:mC base A w)(s n:Int)(hn:n<9223372036854775808):Calls prog 151 #[.pointer (some ⟨b,0,none⟩),.int .i64 s,.int .i64 n] w fun e w'=>∃ v,yj A w b F (d.read s n) e w' v:=by
 have HK:Hid (cJ w b F d):=h;have H0:=Ap b F d s n w h hn;generalize hf:d.fits s n=fb at H0;have yB:Hid (d.fits s n=fb):=hf;have Ms:Hid (Calls prog 41 #[.pointer (some ⟨b,0,none⟩),.int .i64 s,.int .i64 n] w fun e w'=>e = .returned (.bool fb)∧w=w'):=H0
 obtain ⟨mb,nb,pv,av,Dn,h⟩:=h;have c5:w.cell? ⟨b,5,none⟩=some (.bool d.dead):=h.cell 5;have e7:=hE.dead;have e0:=hE.arg;have e2:=hE.many;clear h hE H0 hf;have HER:Hid (∀ m c,d.read s n=(d,[],c)→∃ v,yj A w b F (d.read s n) (.returned (.tuple #[.slice none 0 0,ig A c])) (w.drewN m) v):=fun m c hc=>by
  rw [hc];exact ⟨_,rfl,World.ownsRow_nil _ _ _ _,HK.out.below (below_drewN (Below.refl _ _) m),Step.bw (below_drewN (Below.refl _ _) m),Step.bw (below_drewN (Below.refl _ _) m)⟩
 cases hd:d.dead
 ·rw [hd] at c5;cases fb
  ·have HR:Hid (d.read s n=(d,[],1)):=by show d.read s n=_;unfold bq.read;rw [hd,yB.out];rfl
   go_enter func151,ntmps151;go_wp2_with (go_at_call 41;refine Ms.out.mono ?_;rintro e w' ⟨rfl,rfl⟩)
   go_quiet (fail)
   go_wp2_with fail;go_ret2;exact HER.out _ 1 HR.out
  ·have eC:=yB.out;simp only [bq.fits,decide_eq_true_eq] at eC;have kn:=HK.out.ok.s1;by_cases hm:1024<n
   ·have HR:Hid (d.read s n=(d,[],3)):=by show d.read s n=_;unfold bq.read;rw [hd,yB.out];simp [hm]
    go_enter func151,ntmps151;go_wp2_with (go_at_call 41;refine Ms.out.mono ?_;rintro e w' ⟨rfl,rfl⟩)
    go_quiet (fail)
    go_wp2_with fail;go_ret2;exact HER.out _ 3 HR.out
   ·obtain ⟨m,rfl⟩ : ∃ m:Nat,n=(m:Int):=⟨n.toNat,by omega⟩
    have HR:Hid (d.read s (m:Int)=({ d with nr:=wrap64 (d.nr+(m:Int)) },iM d s m,0)):=by show d.read s _=_;unfold bq.read;rw [hd,yB.out];simp [hm]
    obtain ⟨i0,hi,nK,mG,o7⟩:=info_parts Tryz.info5;have i1:IntKind.i64.wrap ((m:Int)*512)=(m:Int)*512:=wrap_i64 _ (by omega) (by omega)
    have Bz:decide ((1024:Int)<(m:Int))=false:=decide_eq_false (by omega)
    clear e7 e0 e2 HER;go_enter func151,ntmps151;go_wp2_with (first
     | (go_at_call 41;refine Ms.out.mono ?_;rintro e w' ⟨rfl,rfl⟩)
     | (at_make;refine wpList_make_full _ rfl _ _ 145 rfl 0 5 i0 (.int .u8 0) 1 underlying145 hi nK mG .i64 .i64 _ _ (m*512) rfl rfl ?c0 ?c0 ?c1 ?c2 (aD _) ?_))
    case c0=>omega
    case c1=>rw [o7];omega
    case c2=>unfold maxLen;omega
    intro w1 oA fG;rw [Bf] at oA;have HI:Hid (Js w w1 d s m 0):=⟨by simpa [iM] using A7 oA,⟨fG.os,fG.tape,fG.output,fG.size,fun k hk=>fG.block k hk (by simp)⟩⟩
    clear oA fG;go_wp2_with fail;go_loopw [28] (fun i wr=>∃ k,k≤m∧i = .int .i64 (k:Int)∧Js w wr d s m k) (fun i _=>m - (intOf i).toNat)
    case atStart=>exact ⟨0,aD _,rfl,HI.out⟩
    case round =>
     obtain ⟨k,hk,rfl,inv⟩:=hrel;have uK:Hid (Js w wr d s m k):=inv;clear inv HI;by_cases bN:k<m
     ·have hz:fA ((m - k)*512)=fA 512++fA ((m - (k+1))*512):=by
       unfold fA;rw [List.replicate_append_replicate];congr 1;omega
      have bE:=uK.out.row;rw [hz,← ax] at bE;have C:=LQ b F d wr (HK.out.below uK.out.ew) w.heap.size (iM d s k) (fA ((m - (k+1))*512)) (s+(k:Int)) (m*512 - k*512) (m*512 - k*512) bE (by omega) (by omega) (by omega)
      rw [oT HK.out.ok,← wE] at C;have HC:Hid (Calls prog 186 #[.pointer (some ⟨b,0,none⟩),.slice (some ⟨w.heap.size,k*512,none⟩) (m*512 - k*512) (m*512 - k*512),.int .i64 (s+(k:Int))] wr fun e w'=>e = .returned (.tuple #[])∧cF w' w.heap.size (iM d s (k+1)++fA ((m - (k+1))*512))∧wr.grownBy w' (some w.heap.size)):=C
      have j1:IntKind.i64.wrap ((k:Int)*512)=(k:Int)*512:=wrap_i64 _ (by omega) (by omega)
      have j2:IntKind.i64.wrap (s+(k:Int))=s+(k:Int):=wrap_i64 _ (by omega) (by omega)
      have j3:(k:Int)*512≤(m:Int)*512:=by omega
      have j4:(0:Int)≤(k:Int)*512:=by omega
      have j5:m*512≠k*512:=by omega
      clear C hz bE;go_wp2_with fail;refine HC.out.mono ?_
      rintro e w4 ⟨rfl,r4,g4⟩;have V:Js w w4 d s m (k+1):=⟨r4,uK.out.ew.trans ⟨g4.os,g4.tape,g4.output,g4.size,fun i hi=>g4.block i (aq hi uK.out.ew.size) (fun e=>by have:=Option.some.inj e;omega)⟩⟩
      clear HC r4 g4 uK;go_wp2_with fail;go_roundw
      case rel=>exact ⟨k+1,by omega,by go_num,V⟩
      case measure=>simp [intOf];omega
     ·have K6:k=m:=by omega
      subst K6;have bE:=uK.out.row;rw [dL,Nat.zero_mul,show fA 0=[] from rfl,List.append_nil] at bE
      have Pv:=HK.out.below uK.out.ew;have cN:=Pv.ok;obtain ⟨mb4,nb4,pv4,av4,Dn4,h4⟩:=Pv;have x6:wr.cell? ⟨b,6,none⟩=some (.int .i64 d.nr):=h4.cell 6;have f6:=h4.frozen 6;obtain ⟨h5,s5⟩:=h4.set (d':={ d with nr:=wrap64 (d.nr+(k:Int)) }) 6 (.int .i64 (wrap64 (d.nr+(k:Int)))) rfl rfl rfl rfl ⟨cN.s0,cN.s1,cN.eD,cN.rise,cN.aV,cN.eO⟩;have ib:w.heap.size≠b:=by have:=HK.out.lt b HK.out.fb;omega
      have HP:Hid (yj A w b F (d.read s (k:Int)) (.returned (.tuple #[.slice (some ⟨w.heap.size,0,none⟩) (k*512) (k*512),.nilIface])) (wr.setCell ⟨b,6,none⟩ (.int .i64 (wrap64 (d.nr+(k:Int))))) (.slice (some ⟨w.heap.size,0,none⟩) (k*512) (k*512))):=by
       rw [HR.out];refine ⟨rfl,?_,⟨_,_,_,_,_,h5⟩,(Step.bw uK.out.ew).trans s5,(Step.bw uK.out.ew).trans ⟨rfl,rfl,rfl,by simp,fun q _ hn=>Below.heap_setCell wr ⟨b,6,none⟩ _ _ hn,fun _ h=>.inl h⟩⟩
       simp only [oT HK.out.ok];exact Bc ((Below.heap_setCell wr ⟨b,6,none⟩ _ _ ib).trans bE) (oT HK.out.ok s k) (aj _) (by unfold maxLen;omega)
      clear h4 h5 s5 bE cN uK;go_wp2_with fail;go_ret2;exact ⟨_,HP.out⟩
 ·rw [hd] at c5;have HR:Hid (d.read s n=(d,[],8)):=by show d.read s n=_;unfold bq.read;rw [hd];rfl
  go_enter func151,ntmps151;go_wp2_with fail;go_quiet (fail)
  go_wp2_with fail;go_ret2;exact HER.out _ 8 HR.out
end S.V
end Go.Proofs.YtihmgigfkmofnaaGreatDoor
