import Derived.Test.YtihmgigfkmofnaaGreatDoorG15
set_option maxHeartbeats 1600000
set_option maxRecDepth 100000
open Go.Proofs.Tryz
namespace Go.Proofs.YtihmgigfkmofnaaGreatDoor
namespace S.V
open Go.RowKit Go.Maps
theorem wrap_i64(n:Int)(h1 : -9223372036854775808≤n)(h2:n≤9223372036854775807):IntKind.i64.wrap n=n:=by
 simp [IntKind.wrap,IntKind.bits,IntKind.signed]
 omega
theorem cZ.alloc{w:World}{b:Nat}{F:Nat→Prop}{d:bq}{mb nb:Nat}{pv av:Value}{Dn:DataW Unit}(h:cZ w b F d mb nb pv av Dn){w':World}(hb:Below w.heap.size w w'):cZ w' b F d mb nb pv av Dn:=by
 have hk:∀ k,F k→w'.heap[k]?=w.heap[k]?:=fun k hk=>hb.block k (h.lt k hk)
 exact ⟨(hk b h.fb).trans h.dn,h.fb,h.fm,h.fn,h.ne,dJ h.mapD (hk mb h.fm),dJ h.rS (hk nb h.fn),h.new,eK h.aV (fun g hg=>hk g (h.pf g hg)),h.pf,
  h.eR.block (fun k _ _ hf=>hk k hf),h.ok,fun i hi=>ar (h.lt i hi) hb.size⟩
theorem Da{d:bq}(h:d.Ok){j:Nat}(hj:j<d.aV.length):sE d.size d.aV[j]:=h.aV _ (aH hj)
theorem Ga{α:Type}(l:List α)(k:Nat)(h:k<l.length):l.take (k+1)=l.take k++[l[k]]:=by rw [az h]
def sL(w:World)(b:Nat)(F:Nat→Prop)(d:bq)(w':World):Prop:=∃ F',cO w' b F' d∧Step F F' w w'
def Ck(A:Nat→Addr)(w:World)(b:Nat)(F:Nat→Prop)(d:bq):Prop:=Calls prog 101 #[.pointer (some ⟨b,0,none⟩)] w fun e w'=>e = .returned (iz A d.done.2)∧sL w b F d.done.1 w'
def Mt(base:Nat)(A:Nat→Addr)(b:Nat)(eR:List Fy):Prop:=∀ w F d,d.eR=eR→cO w b F d→mS base A w→(∀ k,F k→base≤k)→d.aV.length≤140737488355328→d.dead=false→Ck A w b F d
theorem xw(base:Nat)(A:Nat→Addr)(b:Nat):Mt base A b []:=by
 intro w F d ha h _ _ _ _;obtain ⟨mb,nb,pv,av,Dn,h⟩:=h;have c4:w.cell? ⟨b,4,none⟩=some av:=h.cell 4;have HH:Hid (cZ w b F d mb nb pv av Dn):=h;have PV:=h.eR;have HD:Hid (d.done=(d,0)):=by show d.done=_;unfold bq.done;rw [ha]
 obtain ⟨a,c,rfl⟩ : ∃ a c,av = .slice a 0 c:=by
  rw [ha] at PV;rcases PV with ⟨_,rfl⟩ | ⟨g,off,cap,cur,fv,rfl,_⟩
  ·exact ⟨_,_,rfl⟩
  ·exact ⟨_,_,rfl⟩
 unfold Ck;clear h PV ha;go_enter func101,ntmps101;go_wp2_with fail;go_ret;rw [HD.out];exact ⟨rfl,F,⟨_,_,_,_,_,HH.out⟩,Step.refl _ _⟩
structure vZ(w wr:World)(b:Nat)(F:Nat→Prop)(d:bq)(mb nb:Nat)(pv av:Value)(Dn:DataW Unit)(k:Nat):Prop where
 body:cZ wr b F { d with eF:=gN d.eF (d.aV.take k) } mb nb pv av Dn
 step:Step F F w wr
theorem qy(eF l:List gL)(x:gL):gN eF (l++[x])=rB (gN eF l) x.ix x.lE:=by simp [gN,List.foldl_append]
theorem ND(base:Nat)(A:Nat→Addr)(b:Nat)(F:Nat→Prop)(d:bq)(w:World)(h:cO w b F d)(hE:mS base A w)(hF:∀ k,F k→base≤k)(hp:d.aV.length≤140737488355328)(Pm:Mt base A b d.eR):Calls prog 63 #[.pointer (some ⟨b,0,none⟩)] w fun e w'=>e = .returned (iz A d.sync.2)∧sL w b F d.sync.1 w':=by
 obtain ⟨mb,nb,pv,av,Dn,h⟩:=h;have c5:w.cell? ⟨b,5,none⟩=some (.bool d.dead):=h.cell 5;have e7:=hE.dead;have HE:Hid (mS base A w):=hE;have HF:Hid (∀ k,F k→base≤k):=hF;have HO:Hid (Mt base A b d.eR):=Pm;have HH:Hid (cZ w b F d mb nb pv av Dn):=h;cases hd:d.dead
 ·have c2:w.cell? ⟨b,2,none⟩=some pv:=h.cell 2;obtain ⟨pa,pc,rfl,Pj⟩:=ib h.aV;obtain ⟨n,hn⟩ : ∃ n,n=d.aV.length:=⟨_,rfl⟩;have HN:Hid (n=d.aV.length):=hn;rw [← hn] at c2 hp Pj HH;have HI:Hid (vZ w w b F d mb nb (.slice pa n pc) av Dn 0):=⟨by simpa [gN] using HH.out,Step.refl _ _⟩
  rw [hd] at c5;have HS:Hid (d.sync=bq.done { d with eF:=gN d.eF d.aV,aV:=[],ns:=wrap64 (d.ns+1) }):=by show d.sync=_;unfold bq.sync;rw [hd];rfl
  clear h hE hF Pm hn e7;go_enter func63,ntmps63;go_wp2_with fail;go_loopw [15] (fun i wr=>∃ k,k≤n∧i = .int .i64 (k:Int)∧vZ w wr b F d mb nb (.slice pa n pc) av Dn k) (fun i _=>n - (intOf i).toNat)
  case atStart=>exact ⟨0,aD _,rfl,HI.out⟩
  case round =>
   obtain ⟨k,hk,rfl,inv⟩:=hrel;have vj:Hid (vZ w wr b F d mb nb (.slice pa n pc) av Dn k):=inv;clear inv HI;by_cases bP:k<n
   ·obtain ⟨gp,rfl⟩:=Pj (by omega)
    have G5:k<d.aV.length:=by rw [← HN.out];exact bP
    obtain ⟨p0,p1⟩:=nk d.aV k G5;have qf:=vj.out.body.aV;simp only [← HN.out] at qf;have p0:=tq qf rfl _ _ p0;have p1:=tq qf rfl _ _ p1;have cT:=Da HH.out.ok G5;obtain ⟨x,hx⟩ : ∃ x,x=d.aV[k]:=⟨_,rfl⟩;rw [← hx] at p0 p1 cT;have HX:Hid (x=d.aV[k]):=hx;clear hx qf;obtain ⟨xi,xd⟩:=x;have aO:=ai wr (.cells #[.int .i64 xi,.string xd] 93);have M:=GJ (vj.out.body.alloc aO) xi xd (by rw [show xd.size=512 from cT.len];omega) cT.lo cT.hi
    rw [Od xd cT.len] at M;have HM:Hid (Calls prog 42 #[.pointer (some ⟨b,0,none⟩),.int .i64 xi,.string xd] (wr.alloc (.cells #[.int .i64 xi,.string xd] 93)) fun e w'=>e = .returned (.tuple #[])∧cZ w' b F { d with eF:=rB (gN d.eF (d.aV.take k)) xi xd } mb nb (.slice (some ⟨gp,0,none⟩) n pc) av Dn∧(wr.alloc (.cells #[.int .i64 xi,.string xd] 93)).grownBy w' (some mb)):=M
    have bJ:Hid _:=aO;clear M cT aO;go_wp2_with fail;refine HM.out.mono ?_
    rintro e w4 ⟨rfl,h4,s4⟩;have V:vZ w w4 b F d mb nb (.slice (some ⟨gp,0,none⟩) n pc) av Dn (k+1):=by
     refine ⟨?_,(vj.out.step.trans (Step.bA bJ.out)).trans ((vj.out.body.alloc bJ.out).step s4)⟩;rw [Ga _ k G5,qy,← HX.out];exact h4
    clear HM bJ vj h4 s4 p0 p1;go_wp2_with fail;go_roundw
    case rel=>exact ⟨k+1,by omega,by go_num,V⟩
    case measure=>simp [intOf];omega
   ·have Lf:k=d.aV.length:=by rw [← HN.out];omega
    have V:=vj.out.body;rw [Lf,aq (aj _)] at V;have D:=Qj b F _ wr ⟨_,_,_,_,_,V⟩;have HD:Hid (Calls prog 100 #[.pointer (some ⟨b,0,none⟩)] wr fun e w'=>e = .returned (.tuple #[])∧cO w' b (fun k=>F k∨k=wr.heap.size) { d with eF:=gN d.eF d.aV,aV:=[] }∧Step F (fun k=>F k∨k=wr.heap.size) wr w'):=D
    clear D V Lf;go_wp2_with fail;refine HD.out.mono ?_
    rintro e w4 ⟨rfl,h4,s4⟩;have cT:=h4.ok;obtain ⟨mb4,nb4,pv4,av4,Dn4,h4⟩:=h4;have k8:w4.cell? ⟨b,8,none⟩=some (.int .i64 d.ns):=h4.cell 8;have f8:=h4.frozen 8;obtain ⟨h5,s5⟩:=h4.set (d':={ d with eF:=gN d.eF d.aV,aV:=[],ns:=wrap64 (d.ns+1) }) 8 (.int .i64 (wrap64 (d.ns+1))) rfl rfl rfl rfl ⟨cT.s0,cT.s1,cT.eF,cT.rise,cT.aV,cT.eR⟩;have S5:Step F (fun k=>F k∨k=wr.heap.size) w (w4.setCell ⟨b,8,none⟩ (.int .i64 (wrap64 (d.ns+1)))):=(vj.out.step.trans s4).trans s5
    have O:=HO.out _ _ { d with eF:=gN d.eF d.aV,aV:=[],ns:=wrap64 (d.ns+1) } rfl ⟨_,_,_,_,_,h5⟩ (HE.out.step S5 HF.out) (S5.ge HF.out HE.out.size) (aD _) hd;have im:Hid (Ck A (w4.setCell ⟨b,8,none⟩ (.int .i64 (wrap64 (d.ns+1)))) b (fun k=>F k∨k=wr.heap.size) { d with eF:=gN d.eF d.aV,aV:=[],ns:=wrap64 (d.ns+1) }):=O
    have sW:Hid (Step F (fun k=>F k∨k=wr.heap.size) w (w4.setCell ⟨b,8,none⟩ (.int .i64 (wrap64 (d.ns+1))))):=S5
    clear HD h4 h5 s4 s5 S5 O cT vj;go_wp2_with fail;refine im.out.mono ?_
    rintro e w6 ⟨rfl,F6,h6,s6⟩;have HR:Hid (sL w b F d.sync.1 w6):=by rw [HS.out];exact ⟨F6,h6,sW.out.trans s6⟩
    have HV:Hid (bq.done { d with eF:=gN d.eF d.aV,aV:=[],ns:=wrap64 (d.ns+1) }=d.sync):=HS.out.symm;rw [HV.out];clear im sW HS h6 s6;go_wp2_with fail;go_ret;exact ⟨rfl,HR.out⟩
 ·rw [hd] at c5;have HS:Hid (d.sync=(d,8)):=by show d.sync=_;unfold bq.sync;rw [hd];rfl
  clear h hE hF Pm;go_enter func63,ntmps63;go_wp2_with fail;go_ret;rw [HS.out];exact ⟨rfl,F,⟨_,_,_,_,_,HH.out⟩,Step.refl _ _⟩
theorem Tryz.info93:(prog.info? 93).map (fun i=>(i.zero,i.size,i.bytes))=some (some (.agg #[.int .i64 0,.string ⟨#[]⟩]),2,24):=by kernel_rfl
theorem Ou{D:DataW Unit}{l:List gL}(h:TW D l)(hD:Maps.IsMap D)(x:gL):TW (D.put (.int .i64 x.ix) (.lit (.int .i64 (l.length:Int)))) (l++[x]):=by
 intro i;have hk:WideAt.IsKeyLit (.int .i64 x.ix):=trivial;rw [lP];by_cases e:x.ix=i
 ·subst e;refine ⟨by rw [Maps.has_put_same hD hk,if_pos rfl];rfl,fun k Rt=>?_⟩
  rw [if_pos rfl] at Rt;rw [Maps.atKey_put_same hD hk,← Option.some.inj Rt]
 ·have ne:(Lit.int .i64 i)≠.int .i64 x.ix:=fun h=>e (by simpa using h.symm)
  rw [if_neg e];refine ⟨by rw [Maps.has_put_other ne];exact (h i).1,fun k Rt=>?_⟩
  rw [Maps.atKey_put_other ne];exact (h i).2 k Rt
theorem cZ.Vu{w w1 w2 w3:World}{b:Nat}{F:Nat→Prop}{d:bq}{mb nb:Nat}{pv av:Value}{Dn:DataW Unit}(h:cZ w b F d mb nb pv av Dn)(x:gL)(hx:sE d.size x)(hm:w1.ownsMap prog 3 (plainElem prog 3) nb (d.aV.length+1) (Dn.put (.int .i64 x.ix) (.lit (.int .i64 (d.aV.length:Int)))))(fK:w.grownBy w1 (some nb))(g cap:Nat)(hr:w2.ownsRow 0 93 2 (.slice (some ⟨g,0,none⟩) (d.aV.length+1) cap) (d.aV.length+1) (fE (d.aV++[x])))(zE:w1.grownBy w2 pv.ownBlock)(sk:pv.ownBlock=some g∨w.heap.size≤g)(MK:w3=w2.setCell ⟨b,2,none⟩ (.slice (some ⟨g,0,none⟩) (d.aV.length+1) cap)):cZ w3 b (fun k=>F k∨k=g) { d with aV:=d.aV++[x] } mb nb (.slice (some ⟨g,0,none⟩) (d.aV.length+1) cap) av (Dn.put (.int .i64 x.ix) (.lit (.int .i64 (d.aV.length:Int))))∧Step F (fun k=>F k∨k=g) w w3:=by
 have FG:∀ k,pv.ownBlock=some k→k<w.heap.size∧∃ cur,w.heap[k]?=some (.cells cur 93 (0,0)):=fun k hk=>(eA h.aV k hk).2
 have cx:w2.heap.size=w3.heap.size:=by rw [MK];simp [World.setCell]
 have jy:w.heap.size≤w2.heap.size:=al fK.size zE.size;have dK:∀ k,k<w.heap.size→k≠b→k≠nb→some k≠pv.ownBlock→w3.heap[k]?=w.heap[k]?:=fun k h1 h2 h3 h4=>by
  rw [MK,Below.heap_setCell w2 ⟨b,2,none⟩ _ k h2,zE.block k (ar h1 fK.size) h4,fK.block k h1 (fun e=>h3 (Option.some.inj e))]
 have MQ:some b≠pv.ownBlock:=fun e=>by
  obtain ⟨_,cur,hc⟩:=FG b e.symm;rw [h.dn] at hc;simp at hc
 have hmp:∀ m n R D,w.ownsMap prog 3 R m n D→some m≠pv.ownBlock:=fun m n R D hm e=>by
  obtain ⟨_,cur,hc⟩:=FG m e.symm;exact eh hm hc rfl
 have fh:b≠nb:=eh h.rS h.dn;have Cs:b≠mb:=eh h.mapD h.dn;have zq:∀ k (cur:Array Value) (e:TypeId),w.heap[k]?=some (Obj.cells cur e (0,0))→e≠142→e≠93→w3.heap[k]?=w.heap[k]?:=fun k cur e hk h1 h2=>by
  refine dK k (Array.getElem?_eq_some_iff.1 hk).1 (fun hb=>?_) (eh h.rS hk) (fun he=>?_)
  ·rw [hb,h.dn] at hk;simp at hk;exact h1 hk.2.symm
  ·obtain ⟨_,c,hc⟩:=FG k he.symm;rw [hk] at hc;simp at hc;exact h2 hc.2
 have aO:w2.heap[b]?=w.heap[b]?:=by
  rw [zE.block b (ar (Array.getElem?_eq_some_iff.1 h.dn).1 fK.size) MQ,fK.block b (Array.getElem?_eq_some_iff.1 h.dn).1 (fun e=>fh (Option.some.inj e))]
 have iA:g≠b:=fun e=>by
  rcases sk with h' | h'
  ·exact MQ (by rw [h',e])
  ·have:=(Array.getElem?_eq_some_iff.1 h.dn).1;omega
 refine ⟨⟨?_,.inl h.fb,.inl h.fm,.inl h.fn,h.ne,dJ h.mapD (dK mb h.mapD.lt Cs.symm h.ne (hmp _ _ _ _ h.mapD)),?_,Ou h.new h.rS.isMap x,?_,?_,?_,?_,?_⟩,?_⟩
 ·rw [MK];unfold World.setCell;simp only [dL,if_true];rw [aO,h.dn];rfl
 ·have:=dJ hm (w':=w3) (by
   rw [MK,Below.heap_setCell w2 ⟨b,2,none⟩ _ nb fh.symm,zE.block nb hm.lt (hmp _ _ _ _ h.rS)])
  simpa using this
 ·have:=eK hr (w':=w3) fun k hk=>by
   simp only [Value.ownBlock,Option.some.injEq] at hk;rw [MK,Below.heap_setCell w2 ⟨b,2,none⟩ _ k (by rw [← hk];exact iA)]
  simpa using this
 ·intro k hk;simp only [Value.ownBlock,Option.some.injEq] at hk;exact .inr hk.symm
 ·exact (h.eR.block fun k cur hk _=>by
   rcases hk with hk | hk
   ·exact zq k cur _ hk (by decide) (by decide)
   ·exact zq k cur _ hk (by decide) (by decide)).imp fun k hk=>.inl hk
 ·refine ⟨h.ok.s0,h.ok.s1,h.ok.eF,h.ok.rise,fun y hy=>?_,h.ok.eR⟩
  rcases List.mem_append.1 hy with e | e
  ·exact h.ok.aV y e
  ·rw [List.mem_singleton.1 e];exact hx
 ·intro i hi;rw [← cx];rcases hi with hi | hi
  ·exact ar (h.lt i hi) jy
  ·rw [hi];exact (eA hr g rfl).2.1
 ·refine ⟨?_,?_,?_,by omega,fun k hk hn=>dK k hk (fun e=>hn (by rw [e];exact h.fb)) (fun e=>hn (by rw [e];exact h.fn)) (fun e=>hn (h.pf k e.symm)),fun k hk=>hk.elim .inl fun e=>?_⟩
  ·rw [MK];exact zE.os.trans fK.os
  ·rw [MK];exact zE.tape.trans fK.tape
  ·rw [MK];exact zE.output.trans fK.output
  ·rcases sk with h' | h'
   ·exact .inl (by rw [e];exact h.pf g h')
   ·exact .inr (by omega)
def Ua(w:World)(F:Nat→Prop)(v:Value)(l:List UInt8):Prop:=∃ a cap g,v = .slice a l.length cap∧l.length≤cap∧l.length≤140737488355328∧(0<l.length→a=some ⟨g,0,none⟩∧¬ F g)∧∀ j (h:j<l.length),w.cell? ⟨g,j,none⟩=some (.int .u8 (l[j].toNat:Int))
theorem JQ{x:Int}(h1 : -9223372036854775808≤x)(h2:x≤9223372036854775807):wrap64 x=x:=by unfold wrap64;omega
theorem EX{w:World}{g:Nat}{l:List UInt8}(hc:∀ j (h:j<l.length),w.cell? ⟨g,j,none⟩=some (.int .u8 (l[j].toNat:Int)))(k:Nat)(hk:(k+1)*512≤l.length)(cap:Nat):(convert 145 9 (.slice (some ⟨g,k*512,none⟩) 512 cap)).run prog w = .ok (.string (GG ((l.drop (k*512)).take 512))) w:=by
 have hl:((l.drop (k*512)).take 512).length=512:=by rw [ag,ao];omega
 have h:=run_convert_bytes_back (P:=prog) w 145 9 5 ⟨g,k*512,none⟩ cap ((l.drop (k*512)).take 512) underlying145 underlying5 underlying9 (fun j hj=>by
  rw [Addr.add_mid];have:=hc (k*512+j) (by omega)
  simpa using this)
 rw [hl] at h;exact h
structure JA(w wr:World)(b:Nat)(F F':Nat→Prop)(d:bq)(s:Int)(l:List UInt8)(k:Nat):Prop where
 dev:cO wr b F' { d with aV:=d.aV++chunks s l k }
 step:Step F F' w wr
theorem JP(base:Nat)(A:Nat→Addr)(b:Nat)(F:Nat→Prop)(d:bq)(w:World)(h:cO w b F d)(hE:mS base A w)(hF:∀ k,F k→base≤k)(s:Int)(v:Value)(l:List UInt8)(hv:Ua w F v l)(hp:d.aV.length+l.length / 512≤5864062014805)(Pm:Mt base A b d.eR):Calls prog 98 #[.pointer (some ⟨b,0,none⟩),.int .i64 s,v] w fun e w'=>e = .returned (iz A (d.write s l).2)∧sL w b F (d.write s l).1 w':=by
 have HK:Hid (cO w b F d):=h;obtain ⟨a,cap,g,rfl,di,hlen,ZP,aX⟩:=hv;obtain ⟨L,hL⟩ : ∃ L,L=l.length:=⟨_,rfl⟩;have HL:Hid (L=l.length):=hL;have q1:((L:Int) / 512)=((L / 512:Nat):Int):=by omega
 have q2:((L:Int) % 512)=((L % 512:Nat):Int):=by omega
 have H0:=AN b F d s ((L / 512:Nat):Int) w h (by omega)
 obtain ⟨mb,nb,pv,av,Dn,h⟩:=h;have c5:w.cell? ⟨b,5,none⟩=some (.bool d.dead):=h.cell 5;have e7:=hE.dead;have e0:=hE.arg;have HE:Hid (mS base A w):=hE;have HF:Hid (∀ k,F k→base≤k):=hF;have HO:Hid (Mt base A b d.eR):=Pm;have HP:Hid (d.aV.length+L / 512≤5864062014805):=by rw [hL];exact hp
 have HC:Hid (∀ j (h:j<l.length),w.cell? ⟨g,j,none⟩=some (.int .u8 (l[j].toNat:Int))):=aX;have HW:Hid (d.write s l=if d.dead then (d,8) else if L=0∨L % 512≠0∨d.fits s (L / 512:Nat)=false then (d,1) else bq.done { d with aV:=d.aV++chunks s l (L / 512),nw:=wrap64 (d.nw+(L / 512:Nat)) }):=by rw [hL];rfl
 rw [← hL] at di hlen ZP;rw [← hL];generalize hfits:d.fits s (L / 512:Nat)=fb at *;have yW:Hid (d.fits s (L / 512:Nat)=fb):=hfits;have Mz:Hid (Calls prog 41 #[.pointer (some ⟨b,0,none⟩),.int .i64 s,.int .i64 ((L / 512:Nat):Int)] w fun e w'=>e = .returned (.bool fb)∧w=w'):=H0
 obtain ⟨n,hn⟩ : ∃ n,n=L / 512:=⟨_,rfl⟩;obtain ⟨m,hm⟩ : ∃ m,m=L % 512:=⟨_,rfl⟩;rw [← hn] at q1 Mz yW HP HW;rw [← hm] at q2 HW;have JG:Hid (L=n*512+m∧m<512):=⟨by omega,by omega⟩
 clear h hE hF Pm hL aX H0 hfits hp hn hm;cases hd:d.dead
 ·rw [hd] at c5;by_cases b1:n=0
  ·have HR:Hid (d.write s l=(d,1)):=by
    show d.write s l=_
    rw [HW.out,hd,if_neg (by simp),if_pos]
    have:=JG.out;by_cases e:L=0
    ·exact .inl e
    ·exact .inr (.inl (by omega))
   have t1:((n:Int) == 0)=true:=by simp [b1]
   clear HW b1 JG;go_enter func98,ntmps98;go_wp2_with fail;go_ret;rw [HR.out];exact ⟨rfl,F,HK.out,Step.refl _ _⟩
  ·have t1:((n:Int) == 0)=false:=by simp;omega
   by_cases b2:m=0
   ·subst b2;cases fb
    ·have HR:Hid (d.write s l=(d,1)):=by
      show d.write s l=_
      rw [HW.out,hd,if_neg (by simp),if_pos (.inr (.inr rfl))]
     clear HW b1 JG;go_enter func98,ntmps98;go_wp2_with (go_at_call 41;refine Mz.out.mono ?_;rintro e w' ⟨rfl,rfl⟩)
     go_ret;rw [HR.out];exact ⟨rfl,F,HK.out,Step.refl _ _⟩
    ·have HR:Hid (d.write s l=bq.done { d with aV:=d.aV++chunks s l n,nw:=wrap64 (d.nw+(n:Int)) }):=by
      show d.write s l=_
      rw [HW.out,hd,if_neg (by simp),if_neg]
      have:=JG.out;rintro (h | h | h)
      ·omega
      ·exact h rfl
      ·cases h
     have Jn:L=n*512:=by have:=JG.out;omega
     clear HW JG;go_enter func98,ntmps98;go_wp2_with (go_at_call 41;refine Mz.out.mono ?_;rintro e w' ⟨rfl,rfl⟩)
     have HLn:Hid (L=n*512):=Jn;have HI:Hid (JA w w b F F d s l 0):=⟨by simpa [chunks] using HK.out,Step.refl _ _⟩
     obtain ⟨ac2,ZO⟩:=ZP (by omega)
     subst ac2;have eE:=yW.out;simp only [bq.fits,decide_eq_true_eq] at eE;have jk:=HK.out.ok.s1;have acR:0≤s:=eE.1;have G8:s≤d.size - (n:Int):=eE.2.2;have ad5:Hid (l.length=n*512):=by show l.length=_;rw [← HL.out];exact Jn
     obtain ⟨i0,hi,n7,mW,pH⟩:=info_parts Tryz.info93;clear Jn ZP c5 e7 e0 Mz yW q1 q2 t1;go_loopw [35] (fun i wr=>∃ k F',k≤n∧i = .int .i64 (k:Int)∧JA w wr b F F' d s l k) (fun i _=>n - (intOf i).toNat)
     case atStart=>exact ⟨0,F,aD _,rfl,HI.out⟩
     case round =>
      obtain ⟨k,F',hk,rfl,inv⟩:=hrel;have vj:Hid (JA w wr b F F' d s l k):=inv;obtain ⟨mb',Uj,Ku,av',Dn',h'⟩:=inv.dev;clear inv HI;have Ek:({ d with aV:=d.aV++chunks s l k }:bq).aV.length=d.aV.length+k:=by simp [yr]
      by_cases bP:k<n
      ·have Rk:=HP.out;obtain ⟨P,hP⟩ : ∃ P,P=d.aV.length+k:=⟨_,rfl⟩;have HPP:Hid (P=d.aV.length+k):=hP;rw [← hP] at Ek;have hPb:P+1≤5864062014805:=by omega
       have x2:wr.cell? ⟨b,2,none⟩=some Ku:=h'.cell 2;have x3:wr.cell? ⟨b,3,none⟩=some (.map (some Uj)):=h'.cell 3;have xW:=h'.rS;have qf:=h'.aV;rw [Ek] at xW qf;obtain ⟨pa,pc,rfl,-⟩:=ib qf;have Up:wrap64 (s+(k:Int))=s+(k:Int):=JQ (by omega) (by omega)
       have ab8:IntKind.i64.wrap (s+(k:Int))=s+(k:Int):=wrap_i64 _ (by omega) (by omega)
       obtain ⟨w1,YJ,ij,tI⟩:=xW.drew.store Ea underlying139 (by unfold maxLen;omega) (SK (i:=s+(k:Int)) (by omega) (by omega)) (plainElem_int underlying3 (kwf (i:=(P:Int)) (by omega) (by omega)))
       have fK:wr.grownBy w1 (some Uj):=⟨tI.grown.os,tI.grown.tape,tI.grown.output,tI.grown.size,tI.grown.block⟩;have fh:b≠Uj:=eh h'.rS h'.dn;have y2:=qQ fK x2 fh;have y3:=qQ fK x3 fh;have fz:w1.frozen? ⟨b,2,none⟩=false:=by
        unfold World.frozen?;rw [show w1.heap[(⟨b,2,none⟩ : Addr).block]?=_ from (fK.block b (Array.getElem?_eq_some_iff.1 h'.dn).1 (by simpa using fh)).trans h'.dn]
        simp
       have PA:∀ j (h:j<l.length),g<w.heap.size:=fun j h=>World.block_lt_of_cell? w _ (HC.out j h)
       have yf:=EX (w:=w1) (g:=g) (l:=l) (fun j h=>by
        have c:=HC.out j h;have hF':¬ F' g:=fun hf=>(vj.out.step.sub g hf).elim ZO (fun hs=>by have:=PA j h;omega)
        have c1:=vj.out.step.cell (a:=⟨g,j,none⟩) c ZO;exact qQ fK c1 (fun e=>hF' (by rw [show g=Uj from e];exact h'.fn))) k (by rw [← HL.out,HLn.out];omega) (cap - k*512)
       obtain ⟨D,hD⟩ : ∃ D,D=GG ((l.drop (k*512)).take 512):=⟨_,rfl⟩;rw [← hD] at yf;have HD:Hid (D=GG ((l.drop (k*512)).take 512)):=hD;have HH:Hid (cZ wr b F' { d with aV:=d.aV++chunks s l k } mb' Uj (.slice pa P pc) av' Dn'):=h';have HM:Hid (w1.ownsMap prog 3 (plainElem prog 3) Uj (P+1) (Dn'.put (.int .i64 (s+(k:Int))) (.lit (.int .i64 (P:Int))))):=ij;have Ic:Hid (wr.grownBy w1 (some Uj)):=fK;have oM:w1.ownsRow 0 93 2 (.slice pa P pc) P (fE (d.aV++chunks s l k)):=eK qf fun j hj=>by
        obtain ⟨_,bP,cur,vA⟩:=eA qf j hj;exact fK.block j bP (by simpa using eh h'.rS vA)
       have i1:IntKind.i64.wrap ((k:Int)*512)=(k:Int)*512:=wrap_i64 _ (by omega) (by omega)
       have i2:IntKind.i64.wrap (((k:Int)+1)*512)=((k:Int)+1)*512:=wrap_i64 _ (by omega) (by omega)
       have aih:((k:Int)+1)*512≤(cap:Int):=by have:=HLn.out;omega
       have air:(k+1)*512 - k*512=512:=by omega
       have aif:(k:Int)*512≤((k:Int)+1)*512:=by omega
       have aie:(0:Int)≤(k:Int)*512:=by omega
       clear hD h' ij tI fK xW qf hP PA eE;go_wp2_with fail;go_region_held3 (fun w'=>w'.cell? ⟨b,2,none⟩=some (.slice pa P pc)∧w'.cell? ⟨b,3,none⟩=some (.map (some Uj))) (first | exact ⟨x2,x3⟩ | exact ⟨y2,y3⟩ | go_keep) (fail)
       have nz:=bN w1 #[.int .i64 (s+(k:Int)),.string D] 93;go_wp2_with (first
        | (at_builtin;refine wpList_append_lies _ rfl _ _ 22 rfl 0 93 i0 (.agg #[.int .i64 0,.string ⟨#[]⟩]) 2 24 underlying22 hi n7 mW pH rfl (by decide) _ _ _ rfl (oM.alloc _) ⟨w1.heap.size,0,none⟩ 1 1 [.int .i64 (s+(k:Int)),.string D] rfl rfl ?c1 ?c2 ?c3 ?c4 ?c5 ?c6 (w1.heap.size+1) ?c7 ?_))
       case c2=>exact ⟨rfl,rfl⟩
       case c4=>unfold maxLen;omega
       case c5=>omega
       intro g2 TL w2 lT xY ZN acA;have VR:({ d with aV:=d.aV++chunks s l k }:bq).aV.length=P:=Ek;have aO:w2.heap[b]?=w1.heap[b]?:=by
        have bO:b<w1.heap.size:=World.block_lt_of_cell? w1 _ y2;rw [xY.block b (by simp;omega) (fun e=>?_)]
        ·exact (ai w1 _).block b bO
        ·obtain ⟨_,_,cur,vA⟩:=eA oM b e.symm;have hx:=(Ic.out.block b (Array.getElem?_eq_some_iff.1 HH.out.dn).1 (by simpa using fh)).trans HH.out.dn
         rw [vA] at hx;simp at hx
       have z2:w2.cell? ⟨b,2,none⟩=some (.slice pa P pc):=(World.cell?_of_block (a:=⟨b,2,none⟩) aO).trans y2;have fz2:w2.frozen? ⟨b,2,none⟩=false:=by
        have hx:=(Ic.out.block b (Array.getElem?_eq_some_iff.1 HH.out.dn).1 (by simpa using fh)).trans HH.out.dn
        unfold World.frozen?;rw [show w2.heap[(⟨b,2,none⟩ : Addr).block]?=_ from aO.trans hx]
        simp
       have Je:w2.ownsRow 0 93 2 (.slice (some ⟨g2,0,none⟩) (P+1) TL) (P+1) (fE ((d.aV++chunks s l k)++[chunk s l k])):=by
        rw [Bp];have:fE [chunk s l k]=[.int .i64 (s+(k:Int)),.string D]:=by rw [HD.out];rfl
        rw [this];exact lT
       have Pd:=Ic.out.size;have Zs:w1.grownBy w2 (Value.slice pa P pc).ownBlock:=(World.grownBy_alloc w1 _ _).trans xY;have PB:=HH.out.Vu (w1:=w1) (w2:=w2) (w3:=w2.setCell ⟨b,2,none⟩ (.slice (some ⟨g2,0,none⟩) (P+1) TL)) (chunk s l k) (Qs acR G8 ad5.out bP) (by rw [VR];exact HM.out) Ic.out g2 TL (by rw [VR];exact Je) Zs (ZN.imp id (fun e=>by omega)) (by rw [VR])
       have V:JA w (w2.setCell ⟨b,2,none⟩ (.slice (some ⟨g2,0,none⟩) (P+1) TL)) b F (fun k=>F' k∨k=g2) d s l (k+1):=by
        refine ⟨?_,vj.out.step.trans PB.2⟩;rw [uX,← ay];exact ⟨_,_,_,_,_,PB.1⟩
       clear PB Je Zs lT xY ZN acA aO HM Ic HH vj x2 x3 y2 y3 oM nz yf YJ;go_wp2_with fail;go_roundw
       case rel=>exact ⟨k+1,_,by omega,by go_num,V⟩
       case measure=>simp [intOf];omega
      ·have Lf:k=n:=by omega
       subst Lf;have x7:wr.cell? ⟨b,7,none⟩=some (.int .i64 d.nw):=h'.cell 7;have f7:=h'.frozen 7;have cT:=h'.ok;obtain ⟨h5,s5⟩:=h'.set (d':={ d with aV:=d.aV++chunks s l k,nw:=wrap64 (d.nw+(k:Int)) }) 7 (.int .i64 (wrap64 (d.nw+(k:Int)))) rfl rfl rfl rfl ⟨cT.s0,cT.s1,cT.eF,cT.rise,cT.aV,cT.eR⟩;have S5:=vj.out.step.trans s5;have O:=HO.out _ _ { d with aV:=d.aV++chunks s l k,nw:=wrap64 (d.nw+(k:Int)) } rfl ⟨_,_,_,_,_,h5⟩ (HE.out.step S5 HF.out) (S5.ge HF.out HE.out.size) (by rw [Ek];have:=HP.out;omega) hd
       have im:Hid (Ck A (wr.setCell ⟨b,7,none⟩ (.int .i64 (wrap64 (d.nw+(k:Int))))) b F' { d with aV:=d.aV++chunks s l k,nw:=wrap64 (d.nw+(k:Int)) }):=O;have sW:Hid (Step F F' w (wr.setCell ⟨b,7,none⟩ (.int .i64 (wrap64 (d.nw+(k:Int)))))):=S5;clear h' h5 s5 S5 O cT Ek vj eE;go_wp2_with fail;refine im.out.mono ?_
       rintro e w6 ⟨rfl,F6,h6,s6⟩;have o7:Hid (sL w b F (d.write s l).1 w6):=by rw [HR.out];exact ⟨F6,h6,sW.out.trans s6⟩
       have HV:Hid (bq.done { d with aV:=d.aV++chunks s l k,nw:=wrap64 (d.nw+(k:Int)) }=d.write s l):=HR.out.symm;rw [HV.out];clear im sW HR h6 s6;go_wp2_with fail;go_ret;exact ⟨rfl,o7.out⟩
   ·have HR:Hid (d.write s l=(d,1)):=by
     show d.write s l=_
     rw [HW.out,hd,if_neg (by simp),if_pos (.inr (.inl b2))]
    have t2:((m:Int) != 0)=true:=by simp;omega
    clear HW b1 b2 JG;go_enter func98,ntmps98;go_wp2_with fail;go_ret;rw [HR.out];exact ⟨rfl,F,HK.out,Step.refl _ _⟩
 ·rw [hd] at c5;have HR:Hid (d.write s l=(d,8)):=by show d.write s l=_;rw [HW.out,hd];rfl
  clear HW JG;go_enter func98,ntmps98;go_wp2_with fail;go_ret;rw [HR.out];exact ⟨rfl,F,HK.out,Step.refl _ _⟩
theorem M3(w:World):(zeroValue 3).run prog w = .ok (.int .i64 0) w:=by kernel_rfl
theorem XZ:(prog.info? 144).map (fun i=>(i.zero,i.size))=some (some (.agg zeroCells144),512):=by kernel_rfl
theorem Ue(w:World):(zeroValue 144).run prog w = .ok (arr qo) w:=by
 have h:=(zero_of_info XZ).1 w;rw [zc] at h;rw [h,arr,qo,tZ]
theorem eY{P:Program}{ops:Array Oper}{rest:List Oper}{op:Oper}{a:Act}{w w':World}{Q:Exit→Act→World→Prop}(nM:op.guard=none)(ty:TypeId)(x y:Operand)(ho:op.op = .store ty x y)(p v:Value)(hx:a.eval x=p)(hy:a.eval y=v)(bg:(Instr.storeAt ty p v).run P w = .ok () w')(h:wpList P ops Q rest (a.put op.dst undef) w'):wpList P ops Q (op::rest) a w :=
 wpList_plain nM fun _ hK=>by
  unfold Oper.wp execOp;simp only [ho,hx,hy,Sem.run_bind,bg,Result.andThen_ok,Sem.run_pure];exact hK _ _ h
theorem Ve(w:World)(t:ByteArray)(ht:t.size=512):(Instr.storeAt 144 (.pointer (some ⟨w.heap.size,0,none⟩)) (arr t)).run prog (w.alloc (.cells zeroCells144 144)) = .ok () (w.alloc (.cells (dW (bl t)).toArray 144)) :=
 run_storeAt_new w 144 zeroCells144 (dW (bl t)).toArray (by rw [Bj,List.size_toArray,a6,jY,ht]) (by rw [zc,List.size_toArray,List.size_toArray,a6,a6,jJ,jY,ht]) (all_oneCell_toArray (rr _))
theorem zX(pre GH post new:List UInt8)(h:GH.length=new.length):((dW (pre++GH++post)).toArray.toList.take pre.length++dW new++(dW (pre++GH++post)).toArray.toList.drop (pre.length+new.length)).toArray=(dW (pre++new++post)).toArray:=by
 congr 1
 rw [ay pre GH post,jK,jK,jK,jK,← h];have e1:List.take pre.length (dW pre++(dW GH++dW post))=dW pre:=by
  rw [aF (by rw [a6];omega),aq (by rw [a6];omega)]
 have e2:List.drop (pre.length+GH.length) (dW pre++(dW GH++dW post))=dW post:=by
  rw [← ay,List.drop_append,List.drop_of_length_le (by rw [ae,a6,a6];omega),ae,a6,a6]
  simp
 rw [e1,e2]
theorem Qa{l:List gL}{i:Int}:(l.any fun x=>decide (x.ix=i))=(l.find? fun x=>decide (x.ix=i)).isSome:=by
 induction l with
 | nil=>rfl
 | cons x r ih =>
  by_cases h:x.ix=i
  ·simp [h]
  ·simp [h,ih]
def cL(w:World)(g:Nat)(l:List UInt8):Prop:=w.heap[g]?=some (.cells (dW l).toArray 5 (0,0))
theorem Qq(w:World)(g:Nat)(pre GH post:List UInt8)(t:ByteArray)(L C:Nat)(hr:cL w g (pre++GH++post))(hm:GH.length=512)(ht:t.size=512)(hL:512≤L):∃ w2,(Builtin.copy_ #[145,9] 3 #[.slice (some ⟨g,pre.length,none⟩) L C,.string t]).run prog w = .ok (goInt t.size) w2∧cL w2 g (pre++bl t++post)∧w.grownBy w2 (some g):=by
 have bg:=Lib.run_copy_row_string (P:=prog) w 145 9 3 5 g pre.length L C t _ 5 underlying145 uz hr (by omega) (by rw [List.size_toArray,a6,ae,ae];omega)
 have e:=zX pre GH post (bl t) (by rw [jY];omega)
 rw [jY] at e;rw [zM,show t.data.toList=bl t from rfl,e] at bg
 refine ⟨_,bg,setRow_heap _ g _ _ 5 _ hr,?_⟩;exact ⟨rfl,rfl,rfl,by simp [World.setRow],fun k _ hn=>by
  have:g≠k:=fun e=>hn (by rw [e])
  simp [World.setRow,Array.getElem?_modify,this]⟩
theorem Qr(w:World)(g ga:Nat)(pre GH post:List UInt8)(t:ByteArray)(L C:Nat)(hr:cL w g (pre++GH++post))(ha:w.heap[ga]?=some (.cells (dW (bl t)).toArray 144 (0,0)))(hm:GH.length=512)(ht:t.size=512)(hL:512≤L):∃ w2,(Builtin.copy_ #[145,145] 3 #[.slice (some ⟨g,pre.length,none⟩) L C,.slice (some ⟨ga,0,none⟩) 512 512]).run prog w = .ok (goInt 512) w2∧cL w2 g (pre++bl t++post)∧w.grownBy w2 (some g):=by
 have hl:(dW (bl t)).length=512:=by rw [a6,jY,ht]
 have bg:=run_copy_row (P:=prog) w 145 145 3 5 g pre.length L C ⟨ga,0,none⟩ 512 512 _ 5 (dW (bl t)) underlying145 uz hr (by rw [hl];exact (a8 hL).symm)
  (fun j v hv=>by
   rw [Addr.add_mid,cell_of_row _ _ _ _ _ _ ha,Nat.zero_add];simpa using hv)
  (by rw [hl,List.size_toArray,a6,ae,ae];omega) (rr _)
 have e:=zX pre GH post (bl t) (by rw [jY];omega)
 rw [jY,ht] at e;rw [hl,e] at bg;refine ⟨_,bg,setRow_heap _ g _ _ 5 _ hr,?_⟩;exact ⟨rfl,rfl,rfl,by simp [World.setRow],fun k _ hn=>by
  have:g≠k:=fun e=>hn (by rw [e])
  simp [World.setRow,Array.getElem?_modify,this]⟩
theorem LZ(b:Nat)(F:Nat→Prop)(d:bq)(w:World)(h:cO w b F d)(g:Nat)(pre post:List UInt8)(s:Int)(L C:Nat)(hr:cL w g (pre++fC 512++post))(hL:512≤L)(h0:0≤s)(h1:s<9223372036854775808):Calls prog 186 #[.pointer (some ⟨b,0,none⟩),.slice (some ⟨g,pre.length,none⟩) L C,.int .i64 s] w fun e w'=>e = .returned (.tuple #[])∧cL w' g (pre++bl (gd d s)++post)∧w.grownBy w' (some g):=by
 obtain ⟨mb,nb,pv,av,Dn,h⟩:=h;have c3:w.cell? ⟨b,3,none⟩=some (.map (some nb)):=h.cell 3;have xW:=h.rS;have Px:=SK h0 h1;obtain ⟨n1,n2⟩:=h.new s;obtain ⟨off,VS⟩ : ∃ off,off=pre.length:=⟨_,rfl⟩;have HOF:Hid (off=pre.length):=VS;rw [← VS];clear VS;cases UC:ez d.aV s with
 | some k =>
  have Te:Maps.has Dn (.int .i64 s)=true:=by rw [n1,UC];rfl
  have ac0:=n2 k UC;have dm:=kX UC;have c2:w.cell? ⟨b,2,none⟩=some pv:=h.cell 2;have gY:Hid (gd d s=d.aV[k].lE):=by show gd d s=_;unfold gd;rw [UC];simp [dm]
  obtain ⟨pa,pc,rfl,Pj⟩:=ib h.aV;obtain ⟨gp,rfl⟩:=Pj (by omega)
  have p1:=tq h.aV rfl _ _ (nk d.aV k dm).2;have cx:=(Da h.ok dm).len;obtain ⟨D,hD⟩ : ∃ D,D=d.aV[k].lE:=⟨_,rfl⟩;rw [← hD] at gY p1 cx;obtain ⟨P,hP⟩ : ∃ P,P=d.aV.length:=⟨_,rfl⟩;rw [← hP] at c2 dm;obtain ⟨w2,yV,bG,AQ⟩:=Qq w g pre (fC 512) post D L C hr (jJ 512) cx hL;rw [← HOF.out] at yV;have XK:Hid (cL w2 g (pre++bl D++post)∧w.grownBy w2 (some g)):=⟨bG,AQ⟩;rw [gY.out];clear h n1 n2 UC hD hP bG AQ gY hr;go_enter func186,ntmps186;go_wp2_with (first
   | (at_lookup;refine wpList_lookup_own_ok_int _ rfl _ _ 139 rfl 3 3 .i64 Ea underlying139 underlying3 (M3 _) nb _ Dn rfl xW _ _ rfl Px ?_;intro c sk hwc;(obtain rfl:c=(k:Int):=by rw [ac0] at sk;simpa using sk.symm);rw [Te]))
  refine bodyPost_ret (results_none rfl _ _ _) rfl ?_
  exact ⟨rfl,XK.out⟩
 | none =>
  have Te:Maps.has Dn (.int .i64 s)=false:=by rw [n1,UC];rfl
  have c1:w.cell? ⟨b,1,none⟩=some (.map (some mb)):=h.cell 1;have UA:=h.mapD;obtain ⟨T,hT⟩ : ∃ T,T=fA d.eF s:=⟨_,rfl⟩;have XC:T.size=512:=by rw [hT];exact sd h.ok.eF s
  have hTz:Maps.has (mH d.eF) (.int .i64 s)=false→T=qo:=fun hz=>by
   rw [Qg,Qa] at hz;rw [hT];unfold fA;cases hf:d.eF.find? (fun x=>decide (x.ix=s)) with
   | none=>rfl
   | some x=>rw [hf] at hz;cases hz
  have hV:∀ v ps,tl v=some ((mH d.eF).atKey (.int .i64 s) (.lit (.string (bl qo))),ps)→v=arr T:=fun v ps hv=>by
   obtain ⟨t,ht,rfl,he⟩:=NP hv;rw [Tw] at he;rw [hT];unfold fA;cases hf:d.eF.find? (fun x=>decide (x.ix=s)) with
   | none=>rw [hf] at he;simp only [Prod.mk.injEq,DataW.lit.injEq,Lit.string.injEq] at he;rw [B5 he.1.symm]
   | some x=>rw [hf] at he;simp only [Prod.mk.injEq,DataW.lit.injEq,Lit.string.injEq] at he;rw [B5 he.1.symm]
  have gY:Hid (gd d s=T):=by show gd d s=_;unfold gd;rw [UC,hT]
  rw [gY.out];have bP:=(Array.getElem?_eq_some_iff.1 hr).1;have aO:=ai w (.cells (dW (bl T)).toArray 144);have iT:cL (w.alloc (.cells (dW (bl T)).toArray 144)) g (pre++fC 512++post):=(aO.block g bP).trans hr;have fi:=Ve w T XC;have mx:=heap_alloc_new w (.cells (dW (bl T)).toArray 144);obtain ⟨w2,yV,bG,AQ⟩:=Qr (w.alloc (.cells (dW (bl T)).toArray 144)) g w.heap.size pre (fC 512) post T L C iT mx (jJ 512) XC hL;rw [← HOF.out] at yV;have XK:Hid (cL w2 g (pre++bl T++post)∧w.grownBy w2 (some g)):=⟨bG,(oP aO).trans AQ⟩;have H9:Hid (Maps.has (mH d.eF) (.int .i64 s)=false→cL (w.alloc (.cells (dW (bl T)).toArray 144)) g (pre++bl T++post)∧w.grownBy (w.alloc (.cells (dW (bl T)).toArray 144)) (some g)):=fun hz=>⟨by rw [show pre++bl T++post=pre++fC 512++post by rw [hTz hz,qo,tZ]];exact iT,oP aO⟩
  obtain ⟨cs,fs⟩ : ∃ cs,cs=(dW (bl T)).toArray:=⟨_,rfl⟩;rw [← fs] at fi yV H9;obtain ⟨V,hVd⟩ : ∃ V,V=arr T:=⟨_,rfl⟩;rw [← hVd] at fi;have hV2:Hid (∀ v ps,tl v=some ((mH d.eF).atKey (.int .i64 s) (.lit (.string (bl qo))),ps)→v=V):=by rw [hVd];exact hV
  have RV:True:=trivial;generalize hhD:Maps.has (mH d.eF) (.int .i64 s)=hb at H9;clear hTz hVd h n1 n2 UC hT hr hV bG AQ gY aO iT mx XC fs bP;go_enter func186,ntmps186;cases hb
  ·go_wp2_with (first
    | (at_lookup;have _t:=RV;refine wpList_lookup_own_ok_int _ rfl _ _ 139 rfl 3 3 .i64 Ea underlying139 underlying3 (M3 _) nb _ Dn rfl xW _ _ rfl Px ?_;intro c sk hwc;clear RV sk hwc;rw [Te])
    | (at_lookup;refine wpList_lookup_own_ok _ rfl _ _ 138 rfl 3 144 Ea underlying138 tl (Ue _) (.lit (.string (bl qo))) [] (wN sZ) mb _ (mH d.eF) rfl UA _ _ rfl Px ?_;intro v ps hv;(obtain rfl:v=V:=hV2.out v ps hv);clear hv;rw [hhD])
    | (refine eY rfl 144 _ _ rfl _ _ rfl rfl fi ?_))
   go_end0
   refine ⟨rfl,?_⟩;have r:=H9.out (by first | trivial | rfl)
   rw [ay] at r;exact r
  ·go_wp2_with (first
    | (at_lookup;have _t:=RV;refine wpList_lookup_own_ok_int _ rfl _ _ 139 rfl 3 3 .i64 Ea underlying139 underlying3 (M3 _) nb _ Dn rfl xW _ _ rfl Px ?_;intro c sk hwc;clear RV sk hwc;rw [Te])
    | (at_lookup;refine wpList_lookup_own_ok _ rfl _ _ 138 rfl 3 144 Ea underlying138 tl (Ue _) (.lit (.string (bl qo))) [] (wN sZ) mb _ (mH d.eF) rfl UA _ _ rfl Px ?_;intro v ps hv;(obtain rfl:v=V:=hV2.out v ps hv);clear hv;rw [hhD])
    | (refine eY rfl 144 _ _ rfl _ _ rfl rfl fi ?_))
   go_end0
   exact ⟨rfl,XK.out⟩
theorem BC(n:Nat):(madeCells #[Value.int .u8 0] n).toList=dW (fC n):=by
 rw [dW,fC,oX];simp [madeCells,Nat.mod_one,List.map_const']
theorem Bq{w:World}{base g n:Nat}{l:List UInt8}(h:w.ownsRow base 5 1 (.slice (some ⟨g,0,none⟩) n n) n (dW l)):cL w g l:=by
 rcases h.2 with ⟨h',_⟩ | ⟨g',eP,cur,h',hb,hg,hn,hc,hs,ht⟩
 ·cases h'
 ·cases h'
  unfold cL;rw [hg,← ht,aq (by simpa using Nat.le_of_eq hs)]
theorem Bz{w:World}{base g n:Nat}{l:List UInt8}(h:cL w g l)(hl:l.length=n)(hb:base≤g)(hn:n≤maxLen):w.ownsRow base 5 1 (.slice (some ⟨g,0,none⟩) n n) n (dW l) :=
 ⟨by rw [a6];omega,.inr ⟨g,n,_,rfl,hb,h,aj _,hn,by simp [a6];omega,by
  rw [aq (by simp [a6];omega)]⟩⟩
structure yD(A:Nat→Addr)(w:World)(b:Nat)(F:Nat→Prop)(r:bq × List UInt8 × Nat)(e:Ending)(w':World)(v:Value):Prop where
 ret:e = .returned (.tuple #[v,iz A r.2.2])
 row:w'.ownsRow w.heap.size 5 1 v r.2.1.length (dW r.2.1)
 dev:cO w' b F r.1
 step:Step F F w w'
 one:Step (fun k=>k=b) (fun k=>k=b) w w'
structure JC(w wr:World)(d:bq)(s:Int)(m k:Nat):Prop where
 row:cL wr w.heap.size (iY d s k++fC ((m - k)*512))
 eV:Below w.heap.size w wr
theorem mm(base:Nat)(A:Nat→Addr)(b:Nat)(F:Nat→Prop)(d:bq)(w:World)(h:cO w b F d)(hE:mS base A w)(s n:Int)(hn:n<9223372036854775808):Calls prog 151 #[.pointer (some ⟨b,0,none⟩),.int .i64 s,.int .i64 n] w fun e w'=>∃ v,yD A w b F (d.read s n) e w' v:=by
 have HK:Hid (cO w b F d):=h;have H0:=AN b F d s n w h hn;generalize hf:d.fits s n=fb at H0;have yW:Hid (d.fits s n=fb):=hf;have Mz:Hid (Calls prog 41 #[.pointer (some ⟨b,0,none⟩),.int .i64 s,.int .i64 n] w fun e w'=>e = .returned (.bool fb)∧w=w'):=H0
 obtain ⟨mb,nb,pv,av,Dn,h⟩:=h;have c5:w.cell? ⟨b,5,none⟩=some (.bool d.dead):=h.cell 5;have e7:=hE.dead;have e0:=hE.arg;have e2:=hE.many;clear h hE H0 hf;have HER:Hid (∀ m c,d.read s n=(d,[],c)→∃ v,yD A w b F (d.read s n) (.returned (.tuple #[.slice none 0 0,iz A c])) (w.drewN m) v):=fun m c hc=>by
  rw [hc];exact ⟨_,rfl,World.ownsRow_nil _ _ _ _,HK.out.below (below_drewN (Below.refl _ _) m),Step.bA (below_drewN (Below.refl _ _) m),Step.bA (below_drewN (Below.refl _ _) m)⟩
 cases hd:d.dead
 ·rw [hd] at c5;cases fb
  ·have HR:Hid (d.read s n=(d,[],1)):=by show d.read s n=_;unfold bq.read;rw [hd,yW.out];rfl
   go_enter func151,ntmps151;go_wp2_with (go_at_call 41;refine Mz.out.mono ?_;rintro e w' ⟨rfl,rfl⟩)
   go_quiet (fail)
   go_wp2_with fail;go_ret2;exact HER.out _ 1 HR.out
  ·have eE:=yW.out;simp only [bq.fits,decide_eq_true_eq] at eE;have jk:=HK.out.ok.s1;by_cases hm:1024<n
   ·have HR:Hid (d.read s n=(d,[],3)):=by show d.read s n=_;unfold bq.read;rw [hd,yW.out];simp [hm]
    go_enter func151,ntmps151;go_wp2_with (go_at_call 41;refine Mz.out.mono ?_;rintro e w' ⟨rfl,rfl⟩)
    go_quiet (fail)
    go_wp2_with fail;go_ret2;exact HER.out _ 3 HR.out
   ·obtain ⟨m,rfl⟩ : ∃ m:Nat,n=(m:Int):=⟨n.toNat,by omega⟩
    have HR:Hid (d.read s (m:Int)=({ d with nr:=wrap64 (d.nr+(m:Int)) },iY d s m,0)):=by show d.read s _=_;unfold bq.read;rw [hd,yW.out];simp [hm]
    obtain ⟨i0,hi,n7,mW,pH⟩:=info_parts Tryz.info5;have i1:IntKind.i64.wrap ((m:Int)*512)=(m:Int)*512:=wrap_i64 _ (by omega) (by omega)
    have sP:decide ((1024:Int)<(m:Int))=false:=decide_eq_false (by omega)
    clear e7 e0 e2 HER;go_enter func151,ntmps151;go_wp2_with (first
     | (go_at_call 41;refine Mz.out.mono ?_;rintro e w' ⟨rfl,rfl⟩)
     | (at_make;refine wpList_make_full _ rfl _ _ 145 rfl 0 5 i0 (.int .u8 0) 1 underlying145 hi n7 mW .i64 .i64 _ _ (m*512) rfl rfl ?c0 ?c0 ?c1 ?c2 (aD _) ?_))
    case c0=>omega
    case c1=>rw [pH];omega
    case c2=>unfold maxLen;omega
    intro w1 oM fK;rw [BC] at oM;have HI:Hid (JC w w1 d s m 0):=⟨by simpa [iY] using Bq oM,⟨fK.os,fK.tape,fK.output,fK.size,fun k hk=>fK.block k hk (by simp)⟩⟩
    clear oM fK;go_wp2_with fail;go_loopw [28] (fun i wr=>∃ k,k≤m∧i = .int .i64 (k:Int)∧JC w wr d s m k) (fun i _=>m - (intOf i).toNat)
    case atStart=>exact ⟨0,aD _,rfl,HI.out⟩
    case round =>
     obtain ⟨k,hk,rfl,inv⟩:=hrel;have vj:Hid (JC w wr d s m k):=inv;clear inv HI;by_cases bP:k<m
     ·have hz:fC ((m - k)*512)=fC 512++fC ((m - (k+1))*512):=by
       unfold fC;rw [List.replicate_append_replicate];congr 1;omega
      have bG:=vj.out.row;rw [hz,← ay] at bG;have C:=LZ b F d wr (HK.out.below vj.out.eV) w.heap.size (iY d s k) (fC ((m - (k+1))*512)) (s+(k:Int)) (m*512 - k*512) (m*512 - k*512) bG (by omega) (by omega) (by omega)
      rw [pz HK.out.ok,← wX] at C;have HC:Hid (Calls prog 186 #[.pointer (some ⟨b,0,none⟩),.slice (some ⟨w.heap.size,k*512,none⟩) (m*512 - k*512) (m*512 - k*512),.int .i64 (s+(k:Int))] wr fun e w'=>e = .returned (.tuple #[])∧cL w' w.heap.size (iY d s (k+1)++fC ((m - (k+1))*512))∧wr.grownBy w' (some w.heap.size)):=C
      have j1:IntKind.i64.wrap ((k:Int)*512)=(k:Int)*512:=wrap_i64 _ (by omega) (by omega)
      have j2:IntKind.i64.wrap (s+(k:Int))=s+(k:Int):=wrap_i64 _ (by omega) (by omega)
      have j3:(k:Int)*512≤(m:Int)*512:=by omega
      have j4:(0:Int)≤(k:Int)*512:=by omega
      have j5:m*512≠k*512:=by omega
      clear C hz bG;go_wp2_with fail;refine HC.out.mono ?_
      rintro e w4 ⟨rfl,r4,g4⟩;have V:JC w w4 d s m (k+1):=⟨r4,vj.out.eV.trans ⟨g4.os,g4.tape,g4.output,g4.size,fun i hi=>g4.block i (ar hi vj.out.eV.size) (fun e=>by have:=Option.some.inj e;omega)⟩⟩
      clear HC r4 g4 vj;go_wp2_with fail;go_roundw
      case rel=>exact ⟨k+1,by omega,by go_num,V⟩
      case measure=>simp [intOf];omega
     ·have Lf:k=m:=by omega
      subst Lf;have bG:=vj.out.row;rw [dO,Nat.zero_mul,show fC 0=[] from rfl,List.append_nil] at bG
      have PL:=HK.out.below vj.out.eV;have cT:=PL.ok;obtain ⟨mb4,nb4,pv4,av4,Dn4,h4⟩:=PL;have x6:wr.cell? ⟨b,6,none⟩=some (.int .i64 d.nr):=h4.cell 6;have f6:=h4.frozen 6;obtain ⟨h5,s5⟩:=h4.set (d':={ d with nr:=wrap64 (d.nr+(k:Int)) }) 6 (.int .i64 (wrap64 (d.nr+(k:Int)))) rfl rfl rfl rfl ⟨cT.s0,cT.s1,cT.eF,cT.rise,cT.aV,cT.eR⟩;have iA:w.heap.size≠b:=by have:=HK.out.lt b HK.out.fb;omega
      have HP:Hid (yD A w b F (d.read s (k:Int)) (.returned (.tuple #[.slice (some ⟨w.heap.size,0,none⟩) (k*512) (k*512),.nilIface])) (wr.setCell ⟨b,6,none⟩ (.int .i64 (wrap64 (d.nr+(k:Int))))) (.slice (some ⟨w.heap.size,0,none⟩) (k*512) (k*512))):=by
       rw [HR.out];refine ⟨rfl,?_,⟨_,_,_,_,_,h5⟩,(Step.bA vj.out.eV).trans s5,(Step.bA vj.out.eV).trans ⟨rfl,rfl,rfl,by simp,fun q _ hn=>Below.heap_setCell wr ⟨b,6,none⟩ _ _ hn,fun _ h=>.inl h⟩⟩
       simp only [pz HK.out.ok];exact Bz ((Below.heap_setCell wr ⟨b,6,none⟩ _ _ iA).trans bG) (pz HK.out.ok s k) (aj _) (by unfold maxLen;omega)
      clear h4 h5 s5 bG cT vj;go_wp2_with fail;go_ret2;exact ⟨_,HP.out⟩
 ·rw [hd] at c5;have HR:Hid (d.read s n=(d,[],8)):=by show d.read s n=_;unfold bq.read;rw [hd];rfl
  go_enter func151,ntmps151;go_wp2_with fail;go_quiet (fail)
  go_wp2_with fail;go_ret2;exact HER.out _ 8 HR.out
end S.V
end Go.Proofs.YtihmgigfkmofnaaGreatDoor
