import Derived.Test.YtihmgigfkmofnaaGreatDoorG38
import Derived.Deep.CutRange
set_option maxHeartbeats 8000000
set_option maxRecDepth 100000
open Go.Proofs.Tryz
namespace Go.Proofs.YtihmgigfkmofnaaGreatDoor
namespace T
open Go.RowKit
theorem dD{w w':World}{base e s n:Nat}{v:Value}{xs:List Value}(h:w.ownsRow base e s v n xs)(hb:∀ k,v.ownBlock=some k→w'.heap[k]?=w.heap[k]?):w'.ownsRow base e s v n xs:=by
 refine ⟨h.1,?_⟩;rcases h.2 with h' | ⟨g,cap,cur,rfl,h1,h2,hr⟩
 ·exact .inl h'
 ·exact .inr ⟨g,cap,cur,rfl,h1,(hb g rfl).trans h2,hr⟩
theorem D0{w:World}{base e s n k:Nat}{v:Value}{xs:List Value}(h:w.ownsRow base e s v n xs)(hk:v.ownBlock=some k):∃ cur,w.heap[k]?=some (.cells cur e (0,0)):=by
 rcases h.2 with ⟨rfl,_⟩ | ⟨g,cap,cur,rfl,h1,h2,hr⟩
 ·simp [Value.ownBlock] at hk
 ·cases hk;exact ⟨cur,h2⟩
theorem dR{w:World}{base e s n k t:Nat}{v:Value}{xs:List Value}{cs:Array Value}(h:w.ownsRow base e s v n xs)(hr:B.au w k cs t)(cY:e≠t):v.ownBlock≠some k:=fun hk=>by
 obtain ⟨cur,hc⟩:=D0 h hk;have hr:w.heap[k]?=some (.cells cs t (0,0)):=hr;rw [hr] at hc;simp only [Option.some.injEq,Obj.cells.injEq,and_true] at hc;exact cY hc.2.symm
theorem rU{w:World}{base e s n acj e2 s2 n2:Nat}{v u:Value}{xs ys:List Value}(h:w.ownsRow base e s v n xs)(h2:w.ownsRow acj e2 s2 u n2 ys)(cY:e≠e2){k:Nat}(hk:v.ownBlock=some k):u.ownBlock≠some k:=by
 obtain ⟨cur,hc⟩:=D0 h hk;exact dR h2 hc (Ne.symm cY)
theorem rJ{w:World}{b:Nat}{x y z u:Value}{t:TypeId}(h:B.au w b #[x,y,z,u] t)(j:Nat)(v:Value):B.au (w.setCell ⟨b,j,none⟩ v) b (#[x,y,z,u].setIfInBounds j v) t:=heap_setCell_same w b j _ t v h
structure LB(base:Nat)(A:Nat→Addr)(db:Nat)(F:Nat→Prop)(d:S.V.bE)(ob:Nat)(w0:World)(h:Nat)(cs:List (Nd h))(P0:Nat)(f:Int)(lk:List B.Lk)(lv:Value)(RB BB AB i:Nat)(pv qv:Value)(w:World):Prop where
 k:FR base A db F d ob w
 m:Mv db F w0 w
 r:B.au w RB #[.slice none 0 0,.slice none 0 0,.int .i64 0,.bool false] 134
 b:B.au w BB #[.int .i64 f,lv] 150
 l:B.b9 w w0.heap.size lv lk
 a:B.au w AB #[pv,qv,.int .i64 (if i=0 then 0 else (h:Int)+2),.bool true] 134
 p:sZ w w0.heap.size pv (P0::(cs.take i).flatMap (cD h))
 q:fJ w w0.heap.size qv ((cs.take i).flatMap (flat h))
 n:w0.heap.size≤RB∧w0.heap.size≤BB∧w0.heap.size≤AB∧RB≠AB∧db<w0.heap.size
section
variable {base:Nat} {A:Nat→Addr} {db:Nat} {F:Nat→Prop} {d:S.V.bE} {ob:Nat} {w0:World} {h:Nat} {cs:List (Nd h)} {P0:Nat} {f:Int} {lk:List B.Lk} {lv:Value} {RB BB AB i:Nat} {pv qv:Value}
theorem LB.mv{w w1:World}(hL:LB base A db F d ob w0 h cs P0 f lk lv RB BB AB i pv qv w)(hv:Dv base A db F d w1)(hm:Mv db F w w1):LB base A db F d ob w0 h cs P0 f lk lv RB BB AB i pv qv w1:=by
 have hn:=hL.n;exact ⟨hL.k.mv hv hm,hL.m.trans hm,tF hm hL.r (by omega),tF hm hL.b (by omega),dD hL.l fun k hk=>B6 hm (World.ownsRow.lt hL.l k hk).2 (by have:=(World.ownsRow.lt hL.l k hk).1;omega),tF hm hL.a (by omega),hL.p.mvO hm (by omega),fJ.mvO hL.q hm (by omega),hn⟩
theorem LB.below{w w1:World}(hL:LB base A db F d ob w0 h cs P0 f lk lv RB BB AB i pv qv w)(hb:Below w.heap.size w w1):LB base A db F d ob w0 h cs P0 f lk lv RB BB AB i pv qv w1:=hL.mv (hL.k.dv.below hb) (Mv.of hb)
theorem LB.set{w:World}(hL:LB base A db F d ob w0 h cs P0 f lk lv RB BB AB i pv qv w)(h0:FR base A db F d ob w0):LB base A db F d ob w0 h cs P0 f lk lv RB BB AB i pv qv (w.setCell ⟨AB,3,none⟩ (.bool true)):=by
 have hn:=hL.n;have hB:Below w0.heap.size w (w.setCell ⟨AB,3,none⟩ (.bool true)):=(Below.refl _ _).setCell hn.2.2.1 _;obtain ⟨hv,hm⟩:=hL.k.dv.grown hB hL.m h0.dv;have ho:∀ k,k≠AB→(w.setCell ⟨AB,3,none⟩ (.bool true)).heap[k]?=w.heap[k]?:=fun k hk=>heap_setCell_other _ _ k _ hk
 refine ⟨h0.mv hv hm,hm,(ho RB hn.2.2.2.1).trans hL.r,(ho BB (fun e=>?_)).trans hL.b,dD hL.l fun k hk=>ho k (fun e=>dR hL.l hL.a (by decide) (e▸hk)),rJ hL.a 3 _,dD hL.p fun k hk=>ho k (fun e=>dR hL.p hL.a (by decide) (e▸hk)),dD hL.q fun k hk=>ho k (fun e=>dR hL.q hL.a (by decide) (e▸hk)),hn⟩
 have h1:w.heap[BB]?=_:=hL.b;have h2:w.heap[AB]?=_:=hL.a;rw [e,h2] at h1;simp at h1
theorem LB.bne{w:World}(hL:LB base A db F d ob w0 h cs P0 f lk lv RB BB AB i pv qv w):BB≠AB:=fun e=>by
 have h1:w.heap[BB]?=_:=hL.b;have h2:w.heap[AB]?=_:=hL.a;rw [e,h2] at h1;simp at h1
theorem tu{α β:Type}(g:α→List β){cs:List α}{i:Nat}{c:α}(hc:cs[i]?=some c):(cs.take (i+1)).flatMap g=(cs.take i).flatMap g++g c:=by
 obtain ⟨hi,rfl⟩:=List.getElem?_eq_some_iff.1 hc;rw [ax hi,aN];simp
theorem LB.next{w1:World}{c:Nd h}{Lh Jt:Value}{b2:Nat}(hL:LB base A db F d ob w0 h cs P0 f lk lv RB BB AB i pv qv w1)(h0:FR base A db F d ob w0)(hc:cs[i]?=some c)(hp:sZ w1 b2 Lh (cD h c))(hq:fJ w1 b2 Jt (flat h c))(np:(P0::(cs.take i).flatMap (cD h)).length+(cD h c).length≤1000000)(nq:((cs.take i).flatMap (flat h)).length+(flat h c).length≤1000000):∃ a n c' w3 a' n' Wd w4,(Builtin.append_ #[69,69] 69 #[pv,Lh]).run prog ((w1.alloc (.cells #[Lh,Jt,.int .i64 ((h+1:Nat):Int),.bool true] 134)).setCell ⟨AB,3,none⟩ (.bool true)) = .ok (.slice a n c') w3∧B.au w3 AB #[pv,qv,.int .i64 (if i=0 then 0 else (h:Int)+2),.bool true] 134∧B.au w3 w1.heap.size #[Lh,Jt,.int .i64 ((h+1:Nat):Int),.bool true] 134∧(Builtin.append_ #[63,63] 63 #[qv,Jt]).run prog (w3.setCell ⟨AB,0,none⟩ (.slice a n c')) = .ok (.slice a' n' Wd) w4∧B.au w4 AB #[.slice a n c',qv,.int .i64 (if i=0 then 0 else (h:Int)+2),.bool true] 134∧B.au w4 w1.heap.size #[Lh,Jt,.int .i64 ((h+1:Nat):Int),.bool true] 134∧LB base A db F d ob w0 h cs P0 f lk lv RB BB AB (i+1) (.slice a n c') (.slice a' n' Wd) ((w4.setCell ⟨AB,1,none⟩ (.slice a' n' Wd)).setCell ⟨AB,2,none⟩ (.int .i64 ((h:Int)+2))):=by
 obtain ⟨Wa,hWa⟩ : ∃ Wa,Wa=w1.alloc (.cells #[Lh,Jt,.int .i64 ((h+1:Nat):Int),.bool true] 134):=⟨_,rfl⟩;have qa:Below w1.heap.size w1 Wa:=hWa▸ai w1 _;have xa:B.au Wa w1.heap.size #[Lh,Jt,.int .i64 ((h+1:Nat):Int),.bool true] 134:=hWa▸B.au.new w1 _ _;rw [← hWa];have hn:=hL.n;have ak7:=hL.a.lt;have jR:=(hL.below qa).set h0;have NO:sZ (Wa.setCell ⟨AB,3,none⟩ (.bool true)) b2 Lh (cD h c):=dD hp fun k hk=>(heap_setCell_other _ _ k _ (fun (e:k=AB)=>dR hp hL.a (by decide) (e▸hk))).trans (qa.block k (World.ownsRow.lt hp k hk).2)
 have H7:fJ (Wa.setCell ⟨AB,3,none⟩ (.bool true)) b2 Jt (flat h c):=dD hq fun k hk=>(heap_setCell_other _ _ k _ (fun (e:k=AB)=>dR hq hL.a (by decide) (e▸hk))).trans (qa.block k (World.ownsRow.lt hq k hk).2)
 have xc:B.au (Wa.setCell ⟨AB,3,none⟩ (.bool true)) w1.heap.size #[Lh,Jt,.int .i64 ((h+1:Nat):Int),.bool true] 134:=(heap_setCell_other _ _ _ _ (show w1.heap.size≠AB by omega)).trans xa
 have iL:w0.heap.size≤(Wa.setCell ⟨AB,3,none⟩ (.bool true)).heap.size:=jR.m.size;generalize Wa.setCell ⟨AB,3,none⟩ (.bool true)=W2 at *;clear hWa qa xa hL;have hB2:Below w0.heap.size W2 W2:=Below.refl _ _;obtain ⟨a,c',w3,r3,o3,g3⟩:=sZ.app w0.heap.size pv Lh _ _ W2 jR.p NO.at (by omega) iL
 have Uz:=hB2.grown g3 iL fun k hk=>(World.ownsRow.lt jR.p k hk).1
 have k3:∀ k,k<W2.heap.size→pv.ownBlock≠some k→w3.heap[k]?=W2.heap[k]?:=fun k hk cY=>g3.block k hk (fun e=>cY e.symm)
 have a3:B.au w3 AB #[pv,qv,.int .i64 (if i=0 then 0 else (h:Int)+2),.bool true] 134:=(k3 AB jR.a.lt (dR jR.p jR.a (by decide))).trans jR.a
 have c3:B.au w3 w1.heap.size #[Lh,Jt,.int .i64 ((h+1:Nat):Int),.bool true] 134:=(k3 _ xc.lt (dR jR.p xc (by decide))).trans xc
 obtain ⟨v3,rr⟩ : ∃ v3,v3=Value.slice a ((P0::(cs.take i).flatMap (cD h)).length+(cD h c).length) c':=⟨_,rfl⟩;rw [← rr] at o3;have s3:∀ k,k≠AB→(w3.setCell ⟨AB,0,none⟩ v3).heap[k]?=w3.heap[k]?:=fun k hk=>heap_setCell_other _ _ k _ hk
 have X1:Below w0.heap.size W2 (w3.setCell ⟨AB,0,none⟩ v3):=Uz.setCell hn.2.2.1 _;have q3:fJ (w3.setCell ⟨AB,0,none⟩ v3) w0.heap.size qv ((cs.take i).flatMap (flat h)):=dD jR.q fun k hk=>(s3 k (fun e=>dR jR.q jR.a (by decide) (e▸hk))).trans (k3 k (World.ownsRow.lt jR.q k hk).2 (rU jR.q jR.p (by decide) hk))
 have q32:fJ (w3.setCell ⟨AB,0,none⟩ v3) b2 Jt (flat h c):=dD H7 fun k hk=>(s3 k (fun e=>dR H7 jR.a (by decide) (e▸hk))).trans (k3 k (World.ownsRow.lt H7 k hk).2 (rU H7 jR.p (by decide) hk))
 have o3':sZ (w3.setCell ⟨AB,0,none⟩ v3) w0.heap.size v3 ((P0::(cs.take i).flatMap (cD h))++cD h c):=dD o3 fun k hk=>s3 k (fun e=>dR o3 a3 (by decide) (e▸hk))
 have a3':B.au (w3.setCell ⟨AB,0,none⟩ v3) AB #[v3,qv,.int .i64 (if i=0 then 0 else (h:Int)+2),.bool true] 134:=rJ a3 0 _
 have c3':B.au (w3.setCell ⟨AB,0,none⟩ v3) w1.heap.size #[Lh,Jt,.int .i64 ((h+1:Nat):Int),.bool true] 134:=(s3 _ (by omega)).trans c3
 obtain ⟨a',Wd,w4,r4,o4,g4⟩:=gh w0.heap.size qv Jt _ _ _ q3 q32.at (by omega) (ar iL X1.size)
 have hB4:=X1.grown g4 (ar iL X1.size) fun k hk=>(World.ownsRow.lt q3 k hk).1
 have k4:∀ k,k<(w3.setCell ⟨AB,0,none⟩ v3).heap.size→qv.ownBlock≠some k→w4.heap[k]?=(w3.setCell ⟨AB,0,none⟩ v3).heap[k]?:=fun k hk cY=>g4.block k hk (fun e=>cY e.symm)
 have a4:=(k4 AB a3'.lt (dR q3 a3' (by decide))).trans a3'
 have c4:=(k4 _ c3'.lt (dR q3 c3' (by decide))).trans c3'
 have o4p:sZ w4 w0.heap.size v3 ((P0::(cs.take i).flatMap (cD h))++cD h c):=dD o3' fun k hk=>k4 k (World.ownsRow.lt o3' k hk).2 (rU o3' q3 (by decide) hk)
 obtain ⟨v4,Qh⟩ : ∃ v4,v4=Value.slice a' (((cs.take i).flatMap (flat h)).length+(flat h c).length) Wd:=⟨_,rfl⟩;rw [← Qh] at o4;have s5:∀ k,k≠AB→((w4.setCell ⟨AB,1,none⟩ v4).setCell ⟨AB,2,none⟩ (.int .i64 ((h:Int)+2))).heap[k]?=w4.heap[k]?:=fun k hk=>by rw [heap_setCell_other _ _ k _ hk,heap_setCell_other _ _ k _ hk]
 have hB5:Below w0.heap.size W2 ((w4.setCell ⟨AB,1,none⟩ v4).setCell ⟨AB,2,none⟩ (.int .i64 ((h:Int)+2))):=(hB4.setCell hn.2.2.1 _).setCell hn.2.2.1 _;have keep:∀ k,k<W2.heap.size→k≠AB→pv.ownBlock≠some k→qv.ownBlock≠some k→((w4.setCell ⟨AB,1,none⟩ v4).setCell ⟨AB,2,none⟩ (.int .i64 ((h:Int)+2))).heap[k]?=W2.heap[k]?:=fun k hk h1 h2 h3=>((s5 k h1).trans (k4 k (by have:=g3.size;simp;omega) h3)).trans ((s3 k h1).trans (k3 k hk h2))
 obtain ⟨hv5,hm5⟩:=jR.k.dv.grown hB5 jR.m h0.dv;refine ⟨a,_,c',w3,a',_,Wd,w4,r3,a3,c3,rr▸r4,rr▸a4,c4,?_⟩;rw [← rr,← Qh];refine ⟨h0.mv hv5 hm5,hm5,(keep RB jR.r.lt hn.2.2.2.1 (dR jR.p jR.r (by decide)) (dR jR.q jR.r (by decide))).trans jR.r,(keep BB jR.b.lt jR.bne (dR jR.p jR.b (by decide)) (dR jR.q jR.b (by decide))).trans jR.b,dD jR.l fun k hk=>keep k (World.ownsRow.lt jR.l k hk).2 (fun e=>dR jR.l jR.a (by decide) (e▸hk)) (rU jR.l jR.p (by decide) hk) (rU jR.l jR.q (by decide) hk),?_,?_,?_,hn⟩
 ·rw [if_neg (by omega)]
  unfold B.au;rw [heap_setCell_same _ AB 2 _ _ _ (heap_setCell_same _ AB 1 _ _ _ a4)];rfl
 ·rw [tu _ hc];exact dD o4p fun k hk=>s5 k (fun e=>dR o4p a4 (by decide) (e▸hk))
 ·rw [tu _ hc];exact dD o4 fun k hk=>s5 k (fun e=>dR o4 a4 (by decide) (e▸hk))
end
def R4(base:Nat)(A:Nat→Addr)(db:Nat)(F:Nat→Prop)(d:S.V.bE)(ob:Nat)(h:Nat):Prop:=∀ (t:Nd h) (id:Int) (lo hi:Option ByteArray) (low high:ByteArray) (bd root:Bool) (deep:Nat) (w:World),FR base A db F d ob w→fu (cF d) h id t→Ok h t lo hi→mQ h t≤4072→qf h t→(root=false→Full h t)→S1 lo hi low high bd→deep+h≤9→(cD h t).length≤1000000→(flat h t).length≤1000000 →
 Calls prog 75 #[.pointer (some ⟨ob,0,none⟩),.int .i64 id,.string low,.string high,.bool bd,.bool root,.int .i64 (deep:Int)] w (RZ base A db F d w h t)
theorem M6{f:Int}{l:List B.Lk}{root:Bool}(h:B.lz f l true=none)(hf:root=false→1777≤B.jy l):B.lz f l root=none:=by
 cases root with
 | true=>exact h
 | false =>
  obtain ⟨h1,h2,h3,h4,h5,h6,_⟩:=B.iX h;have:=hf rfl;unfold B.lz;rw [if_neg h1,if_neg (by rw [h2,List.all_eq_true.2 h3];decide),if_neg (by simpa using h4),if_neg (by simpa using h5),if_neg (by omega),if_neg (by omega)]
theorem Mz{h:Nat}{t:Nd h}(hf:Full h t):qf h t:=by
 cases h with
 | zero =>
  intro e;have h1:1556≤fB t.2:=hf.1;rw [e] at h1;simp [lG] at h1
 | succ h =>
  intro e;have h1:1777≤eI t.2.1:=hf.1;rw [e] at h1;simp [eI] at h1
theorem Fc{α β:Type}(g:α→List β){cs:List α}{i:Nat}{c:α}(hc:cs[i]?=some c):((cs.take i).flatMap g).length+(g c).length≤(cs.flatMap g).length:=by
 have h1:=tu g hc;have h2:cs.flatMap g=(cs.take (i+1)).flatMap g++(cs.drop (i+1)).flatMap g:=by rw [← aN,aI]
 rw [h2,h1,ae,ae];omega
theorem Ek{base:Nat}{A:Nat→Addr}{db:Nat}{F:Nat→Prop}{d:S.V.bE}{ob h:Nat}(IH:R4 base A db F d ob h):R4 base A db F d ob (h+1):=by
 intro t id lo hi9 low high bd root deep w hk hp ho b8 ja hf hb Gh L8 hqn;obtain ⟨P0,ks,cs⟩:=t;obtain ⟨hid,ru,f,lk,hPG,abj,VV,oQ⟩:=hp;have jg:ks=lk.map (·.1):=abj;have hlen:cs.length=lk.length+1:=VV;clear abj VV;have NQ:gi (kG h) lo hi9 ks cs:=ho;have hsB:eI ks=B.jy lk:=by rw [jg];exact rF lk
 have yt:cD (h+1) ((P0,ks,cs):Nd (h+1))=P0::cs.flatMap (cD h):=by
  show cU P0++_=_
  rw [D1 (n:=P0) ru hid.1];rfl
 have Ba:lk.length≤4000:=by have:=B.py lk;have:eI ks≤4072:=b8;omega
 obtain ⟨W0,sW⟩ : ∃ W0,w.alloc (.cells #[.slice none 0 0,.slice none 0 0,.int .i64 0,.bool false] 134)=W0:=⟨_,rfl⟩;have q0:=ai w (.cells #[.slice none 0 0,.slice none 0 0,.int .i64 0,.bool false] 134);have x0:=B.au.new w #[.slice none 0 0,.slice none 0 0,.int .i64 0,.bool false] 134;rw [sW] at q0 x0;have h0:=hk.below q0;have c1:(w.alloc (.cells #[.slice none 0 0,.slice none 0 0,.int .i64 0,.bool false] 134)).cell? ⟨ob,1,none⟩=some (.pointer (some ⟨db,0,none⟩)):=by rw [sW];exact h0.o
 have Ur:¬ (9:Int)<(deep:Int):=by omega
 obtain ⟨RB,hRB⟩ : ∃ RB,RB=w.heap.size:=⟨_,rfl⟩;have HX:=ab x0;have HL:=ab (AP base A db F d id (.br f lk) W0 h0.dv hPG);have Vi:=ab q0;have Ve:=ab sW;have HH:=ab hk;have kR:=ab Ba;have Yo:=ab yt;have HID:=ab ru;have uL:=ab hRB;have Wv:=ab jg;have iq:=ab hlen;have HOC:=ab NQ;have IX:=ab oQ;have HBD:=ab hb;have YM:Hid (root=false→1777≤B.jy lk):=fun e=>by rw [← hsB];exact (hf e).1
 have ZH:=ab Gh;have N8:Hid ((P0::cs.flatMap (cD h)).length≤1000000):=by rw [← yt];exact L8
 have HQN:Hid ((cs.flatMap (flat h)).length≤1000000):=hqn;have HIH:=ab IH;clear hk h0 q0 x0 yt ru hPG ho b8 ja hf hb sW jg hlen NQ oQ hsB Ba L8 hqn IH;go_enter func75,ntmps75;go_wp2_with fail;rw [Ve.out];refine HL.out.mono ?_
 rintro e w1 ⟨⟨kd,zK,tx,cn,bo⟩,rfl,qQ,hh,fD,fo⟩;simp only at qQ hh ⊢;obtain ⟨oR,pY,hfe,hle⟩ : kd=66∧B.uM cn.toNat bo.data.toList∧f=B.FC (bX bo.data.toList cn.toNat)∧lk=B.Bu (bX bo.data.toList cn.toNat):=by
  rcases hh with ⟨_,_,h3⟩ | ⟨h1,h2,h3⟩
  ·cases h3
  ·exact ⟨h1,h2,by simpa using h3⟩
 subst oR;have q2:=ai w1 (.cells #[.int .i64 66,.int .i64 zK,.int .u64 (tx:Int),.int .i64 cn,.string bo] 87);have x2:=B.au.new w1 #[.int .i64 66,.int .i64 zK,.int .u64 (tx:Int),.int .i64 cn,.string bo] 87;have k0:=x2.cell 0 (by simp)
 have k3:=x2.cell 3 (by simp)
 have k4:=x2.cell 4 (by simp)
 simp only [a8,List.getElem_cons_zero,List.getElem_cons_succ] at k0 k3 k4;have jD:Mv db F w (w1.alloc (.cells #[.int .i64 66,.int .i64 zK,.int .u64 (tx:Int),.int .i64 cn,.string bo] 87)):=((Mv.of Vi.out).trans fo).trans (Mv.of q2);have WD:Hid (B.lz f lk root=none):=M6 (by rw [hfe,hle];exact pY.2.2) YM.out
 have nC:Hid (Calls prog 116 #[.int .i64 cn,.string bo] (w1.alloc (.cells #[.int .i64 66,.int .i64 zK,.int .u64 (tx:Int),.int .i64 cn,.string bo] 87)) fun e w'=>∃ (ua:Option Addr) (uc:Nat),e = .returned (.tuple #[.agg #[.int .i64 f,.slice ua lk.length uc],.nilIface])∧B.b9 w' w.heap.size (.slice ua lk.length uc) lk∧FR base A db F d ob w'∧Mv db F w w'∧B.au w' RB #[.slice none 0 0,.slice none 0 0,.int .i64 0,.bool false] 134):=by
  have je:=fD.below q2;refine (B.yW A cn bo _ je.UG).mono fun e w' ⟨hv,hb⟩=>?_
  rcases hv with ⟨_,_,u,he,ho⟩ | ⟨fl,_⟩
  ·rw [← hle] at ho;rw [← hfe] at he;obtain ⟨ua,uc,hu⟩:=ho.form;subst hu;have lX:=jD.trans (Mv.of hb);refine ⟨ua,uc,he,ho.mono jD.size,HH.out.mv (je.below hb) lX,lX,?_⟩;rw [uL.out];have EX:=(fo.trans (Mv.of q2)).trans (Mv.of hb);exact tF EX HX.out (by have:=HH.out.lt;omega)
  ·exact absurd ⟨qQ,pY⟩ fl
 clear fo jD fD hh qQ pY hle hfe q2 x2 HL c1 YM;go_wp2_with fail;refine nC.out.mono ?_
 rintro e w3 ⟨ua,uc,rfl,ho,Mf,lX,nF⟩;obtain ⟨N,hN⟩ : ∃ N,N=lk.length:=⟨_,rfl⟩;rw [← hN] at ho ⊢;have BH:=ab hN;have hNb:N≤4000:=by have:=kR.out;omega
 have q4:=ai w3 (.cells #[.int .i64 f,.slice ua N uc] 150);have x4:=B.au.new w3 #[.int .i64 f,.slice ua N uc] 150;have b0:=x4.c0;have b1:=x4.c1;have WE:Hid (Calls prog 117 #[.agg #[.int .i64 f,.slice ua N uc],.bool root] (w3.alloc (.cells #[.int .i64 f,.slice ua N uc] 150)) fun e w'=>e = .returned .nilIface∧B.b9 w' w.heap.size (.slice ua N uc) lk∧FR base A db F d ob w'∧Mv db F w w'∧B.au w' RB #[.slice none 0 0,.slice none 0 0,.int .i64 0,.bool false] 134∧B.au w' w3.heap.size #[.int .i64 f,.slice ua N uc] 150):=by
  have VZ:=Mf.below q4;have vi:=B.rh A f (.slice ua N uc) lk root _ (fun p hp=>by have:=B.jN ((B.iX WD.out).2.2.1 p hp);omega) (by have:=kR.out;omega) (ho.at.below q4) VZ.dv.UG
  rw [WD.out] at vi;exact vi.mono fun e w' ⟨he,hb⟩=>⟨he,(ho.below q4).below hb,VZ.below hb,(lX.trans (Mv.of q4)).trans (Mv.of hb),(nF.below q4).below hb,x4.below hb⟩
 have zp:w.heap.size≤w3.heap.size:=lX.size;clear ho Mf lX nF hN nC k0 k3 k4 q4 x4;go_wp2_with fail;refine WE.out.mono ?_
 rintro e w4 ⟨rfl,Cj,VZ,EX,EK,fS⟩;have q5:=ai w4 (.cells #[.int .i64 id] 3);have q6:=ai (w4.alloc (.cells #[.int .i64 id] 3)) (.cells #[.slice (some ⟨w4.heap.size,0,none⟩) 1 1,.slice none 0 0,.int .i64 0,.bool true] 134);have x6:=B.au.new (w4.alloc (.cells #[.int .i64 id] 3)) #[.slice (some ⟨w4.heap.size,0,none⟩) 1 1,.slice none 0 0,.int .i64 0,.bool true] 134;have YU:=Below.next q5 q6;have EY:=JS w4 P0;rw [HID.out] at EY;have tV:=EX.size;have nP:(w4.alloc (.cells #[.int .i64 id] 3)).heap.size=w4.heap.size+1:=by simp
 have HLB:Hid (LB base A db F d ob w h cs P0 f lk (.slice ua N uc) RB w3.heap.size (w4.alloc (.cells #[.int .i64 id] 3)).heap.size 0 (.slice (some ⟨w4.heap.size,0,none⟩) 1 1) (.slice none 0 0) ((w4.alloc (.cells #[.int .i64 id] 3)).alloc (.cells #[.slice (some ⟨w4.heap.size,0,none⟩) 1 1,.slice none 0 0,.int .i64 0,.bool true] 134))) :=
  ⟨VZ.below YU,EX.trans (Mv.of YU),EK.below YU,fS.below YU,Cj.below YU,x6,(EY.mono tV).same fun k hk=>q6.block k (by cases hk;rw [nP];show w4.heap.size<_;omega),fJ.nil _ _,by rw [uL.out];exact aj _,zp,by rw [nP];omega,by rw [uL.out,nP];omega,HH.out.lt⟩
 obtain ⟨AB,hAB⟩ : ∃ AB,AB=(w4.alloc (.cells #[.int .i64 id] 3)).heap.size:=⟨_,rfl⟩;obtain ⟨BB,hBB⟩ : ∃ BB,BB=w3.heap.size:=⟨_,rfl⟩;rw [← hAB,← hBB] at HLB;rw [← hBB];clear Cj VZ EX EK fS q5 q6 x6 YU EY tV WE b0 b1 zp nP hBB;go_wp2;have ab7:w4.heap.size+1=AB:=by rw [hAB];simp
 simp only [ab7];clear hAB ab7;go_loopw [25] (fun iv wr=>∃ (i:Nat) (pv qv:Value),iv = .int .i64 (i:Int)∧i≤N+1∧LB base A db F d ob w h cs P0 f lk (.slice ua N uc) RB BB AB i pv qv wr) (fun iv _=>N+1 - (intOf iv).toNat)
 case atStart=>exact ⟨0,_,_,rfl,aB _,HLB.out⟩
 case round =>
  obtain ⟨i,pv,qv,rfl,hi,hL⟩:=hrel;have b0:=hL.b.c0;have b1:=hL.b.c1;have a0:=hL.a.cell 0 (by simp)
  have a1:=hL.a.cell 1 (by simp)
  have a2:=hL.a.cell 2 (by simp)
  have a3:=hL.a.cell 3 (by simp)
  have z0:=hL.a.free 0;have z1:=hL.a.free 1;have z2:=hL.a.free 2;have z3:=hL.a.free 3;simp only [a8,List.getElem_cons_zero,List.getElem_cons_succ] at a0 a1 a2 a3;have Sk:=ab hL;clear hL HLB;by_cases bO:i≤N
  ·have dE:(i:Int)≤(N:Int):=by omega
   have e0:(0:Int)≤(i:Int):=by omega
   have HKL:Hid (ks.length=N):=by show _=_;rw [Wv.out,az,BH.out]
   go_upto_if 121 with fail
   go_cut [26,27] from 112 to 205 (fun fv _ wx=>fv = .string (JQ low ks i)∧LB base A db F d ob w h cs P0 f lk (.slice ua N uc) RB BB AB i pv qv wx)
   case first =>
    by_cases ud:i=0
    ·subst ud;go_wp2_with fail;go_meet
     case rel=>exact ⟨rfl,Sk.out⟩
    ·obtain ⟨j,NU⟩ : ∃ j:Nat,i=j+1:=⟨i - 1,by omega⟩
     have QE:j<lk.length:=by have:=BH.out;omega
     obtain ⟨g,o,rfl,d1⟩ : ∃ g o,ua=some ⟨g,o,none⟩∧wr.cell? ⟨g,o+j*2,none⟩=some (.string lk[j].1):=by
      obtain ⟨a,c,hv,_,_,hc⟩:=Sk.out.l.at;simp only [Value.slice.injEq] at hv;obtain ⟨rfl,-,-⟩:=hv;obtain ⟨g,o,ha,h1,_⟩:=hc j QE;exact ⟨g,o,ha,h1⟩
     have sS:IntKind.i64.wrap ((i:Int) - 1)=(j:Int):=by rw [IntKind.wrap_i64];omega
     have hjN:(j:Int)<(N:Int):=by omega
     have Gg:(0:Int)≤(j:Int):=by omega
     have hip:(0:Int)<(i:Int):=by omega
     have vT:JQ low ks i=lk[j].1:=by
      rw [NU];show ks.getD j ⟨#[]⟩=_
      rw [Wv.out,aF,aG,af QE];rfl
     have Mc:lk[j].1 ∈ ks:=by rw [Wv.out];exact List.mem_map.2 ⟨_,aJ QE,rfl⟩
     have HBT:=ab (FF lk[j].1 low high bd wr);rw [HBD.out.key HOC.out Mc] at HBT;have YC:=ab vT;clear vT Mc NU;generalize lk[j].1=key at *;go_wp2_with fail;refine HBT.out.mono ?_
     rintro e w5 ⟨rfl,rfl⟩;go_wp2;go_meet
     case rel=>exact ⟨by rw [YC.out],Sk.out.set HH.out⟩
   case rest =>
    obtain ⟨rfl,hL⟩:=hcut;obtain ⟨LV,hLV⟩ : ∃ LV,LV=JQ low ks i:=⟨_,rfl⟩;rw [← hLV];have SW:=ab hLV;clear hLV;clear b0 b1 a0 a1 a2 a3 z0 z1 z2 z3;have b0:=hL.b.c0;have b1:=hL.b.c1;have Gn:=ab hL;clear hL Sk;go_upto_if 146 with fail
    go_cut [28,29] from 112 to 205 (fun tv mv wx=>tv = .string ((ks[i]?).getD high)∧mv = .bool (bd || decide (i<ks.length))∧wx=wc)
    case first =>
     by_cases hiN:i<N
     ·have Bb:i<lk.length:=by have:=BH.out;omega
      obtain ⟨g,o,rfl,d1⟩ : ∃ g o,ua=some ⟨g,o,none⟩∧wc.cell? ⟨g,o+i*2,none⟩=some (.string lk[i].1):=by
       obtain ⟨a,c,hv,_,_,hc⟩:=Gn.out.l.at;simp only [Value.slice.injEq] at hv;obtain ⟨rfl,-,-⟩:=hv;obtain ⟨g,o,ha,h1,_⟩:=hc i Bb;exact ⟨g,o,ha,h1⟩
      have hiI:(i:Int)<(N:Int):=by omega
      have HT:Hid (lk[i].1=(ks[i]?).getD high∧(bd || decide (i<ks.length))=true):=by
       refine ⟨?_,by rw [HKL.out,decide_eq_true hiN,Bool.or_true]⟩
       rw [Wv.out,aG,af Bb];rfl
      generalize lk[i].1=key at *;go_wp2;go_meet
      case rel=>exact ⟨by rw [HT.out.1],by rw [HT.out.2],rfl⟩
     ·have hiI:¬ (i:Int)<(N:Int):=by omega
      have HT:Hid (high=(ks[i]?).getD high∧(bd || decide (i<ks.length))=bd):=by
       refine ⟨?_,by rw [HKL.out,decide_eq_false hiN,Bool.or_false]⟩
       rw [bu (by rw [HKL.out];omega)];rfl
      go_wp2;go_meet
      case rel=>exact ⟨by rw [← HT.out.1],by rw [HT.out.2],rfl⟩
    case rest =>
     obtain ⟨rfl,rfl,rfl⟩:=hcut;have Zb:i<cs.length:=by have:=iq.out;have:=BH.out;omega
     obtain ⟨c,hc⟩ : ∃ c,cs[i]?=some c:=⟨_,af Zb⟩;have hkx:(B.kids f lk)[i]?=some (B.qX f lk (i:Int)):=by
      cases i with
      | zero=>rfl
      | succ j =>
       have QE:j<lk.length:=by have:=BH.out;omega
       show (lk.map (·.2))[j]?=_
       rw [aG,af QE,B.qX,if_neg (by omega),show (((j+1:Nat):Int) - 1).toNat=j by omega,aF,af QE]
       rfl
     have NP:kG h c (Xd lo ks i) (QF hi9 ks i):=G8 HOC.out i c hc;obtain ⟨HV,hHV⟩ : ∃ HV,HV=(ks[i]?).getD high:=⟨_,rfl⟩;obtain ⟨MV,hMV⟩ : ∃ MV,MV=(bd || decide (i<ks.length)):=⟨_,rfl⟩
     have hbk:=HBD.out.qi i (by rw [HKL.out];exact bO)
     have zW:=IX.out i c _ hc hkx;rw [← hHV,← hMV,← SW.out] at hbk;rw [← hHV,← hMV];obtain ⟨X,hX⟩ : ∃ X,X=B.qX f lk (i:Int):=⟨_,rfl⟩;have HCD:Hid (Calls prog 118 #[.agg #[.int .i64 f,.slice ua N uc],.int .i64 (i:Int)] wc fun e w'=>e = .returned (.tuple #[.int .i64 X,.nilIface])∧LB base A db F d ob w h cs P0 f lk (.slice ua N uc) RB BB AB i pv qv w'):=by
      refine (B.IL A f (i:Int) (.slice ua N uc) lk wc (by have:=kR.out;omega) Gn.out.l.at Gn.out.k.dv.uq).mono fun e w' ⟨he,hb⟩=>⟨?_,Gn.out.below hb⟩
      rw [he,B.rp,if_pos (by simp only [B.sD,bV,decide_eq_true_eq];have:=BH.out;omega),hX]
     have h1:=Fc (cD h) hc;have h2:=Fc (flat h) hc;have h3:(cs.flatMap (cD h)).length+1≤1000000:=N8.out;have h4:=HQN.out;have zv:Hid (∀ w',FR base A db F d ob w'→Calls prog 75 #[.pointer (some ⟨ob,0,none⟩),.int .i64 X,.string LV,.string HV,.bool MV,.bool false,.int .i64 ((deep:Int)+1)] w' (RZ base A db F d w' h c)):=fun w' NT=>by
      rw [hX];exact HIH.out c _ _ _ LV HV MV false (deep+1) w' NT zW NP.1 NP.2.2 (Mz NP.2) (fun _=>NP.2) hbk (by have:=ZH.out;omega) (by omega) (by omega)
     have HC:=ab hc;have ZB:Hid ((P0::(cs.take i).flatMap (cD h)).length+(cD h c).length≤1000000∧((cs.take i).flatMap (flat h)).length+(flat h c).length≤1000000):=⟨by rw [List.length_cons];omega,by omega⟩
     have hde:IntKind.i64.wrap ((deep:Int)+1)=(deep:Int)+1:=by rw [IntKind.wrap_i64];omega
     clear hc hkx NP hbk zW hX hHV hMV h1 h2 h3 h4 HIH IX HOC HBD Gn;go_wp2_with fail;refine HCD.out.mono ?_
     rintro e w5 ⟨rfl,hL5⟩;have HL5:=ab hL5;have acP:=ab (zv.out w5 hL5.k);clear hL5 zv HCD b0 b1;go_wp2_with fail;refine acP.out.mono ?_
     rintro e w6 ⟨Lh,Jt,rfl,NO,H7,hv6,hm6⟩;have hL6:=HL5.out.mv hv6 hm6;obtain ⟨WM,WK,rfl⟩:=NO.form;obtain ⟨WL,WJ,rfl⟩:=H7.form;obtain ⟨a,n,ca,w7,a',n',ca',w8,r7,rA7,rC7,r8,rA8,rC8,hL9⟩:=hL6.next HH.out HC.out NO H7 ZB.out.1 ZB.out.2;generalize (cD h c).length=n2 at *;generalize (flat h c).length=m2 at *;generalize hD:((h+1:Nat):Int)=D at *;have q7:=ai w6 (.cells #[.slice WM n2 WK,.slice WL m2 WJ,.int .i64 D,.bool true] 134);have rC6:=B.au.new w6 #[.slice WM n2 WK,.slice WL m2 WJ,.int .i64 D,.bool true] 134;have Z8:=hL6.a.below q7;have hAC:w6.heap.size≠AB:=by have:=hL6.a.lt;omega
     have Z5:B.au ((w6.alloc (.cells #[.slice WM n2 WK,.slice WL m2 WJ,.int .i64 D,.bool true] 134)).setCell ⟨AB,3,none⟩ (.bool true)) w6.heap.size #[.slice WM n2 WK,.slice WL m2 WJ,.int .i64 D,.bool true] 134:=rC6.other hAC _;have Z7:B.au ((w6.alloc (.cells #[.slice WM n2 WK,.slice WL m2 WJ,.int .i64 D,.bool true] 134)).setCell ⟨AB,3,none⟩ (.bool true)) AB #[pv,qv,.int .i64 (if i=0 then 0 else (h:Int)+2),.bool true] 134:=rJ Z8 3 (.bool true)
     have Z6:B.au (w7.setCell ⟨AB,0,none⟩ (.slice a n ca)) AB #[.slice a n ca,qv,.int .i64 (if i=0 then 0 else (h:Int)+2),.bool true] 134:=rJ rA7 0 (.slice a n ca)
     have Z4:B.au (w7.setCell ⟨AB,0,none⟩ (.slice a n ca)) w6.heap.size #[.slice WM n2 WK,.slice WL m2 WJ,.int .i64 D,.bool true] 134:=rC7.other hAC _;have WY:B.au (w8.setCell ⟨AB,1,none⟩ (.slice a' n' ca')) AB #[.slice a n ca,.slice a' n' ca',.int .i64 (if i=0 then 0 else (h:Int)+2),.bool true] 134:=rJ rA8 1 (.slice a' n' ca')
     have Z3:B.au (w8.setCell ⟨AB,1,none⟩ (.slice a' n' ca')) w6.heap.size #[.slice WM n2 WK,.slice WL m2 WJ,.int .i64 D,.bool true] 134:=rC8.other hAC _;have s1:=Z8.cell 3 (by simp)
     have s2:=Z8.cell 2 (by simp)
     have s3:=Z8.free 3;have s4:=rC6.cell 3 (by simp)
     have s5:=rC6.cell 2 (by simp)
     have s6:=Z7.cell 0 (by simp)
     have s7:=Z5.cell 0 (by simp)
     have s8:=rA7.cell 0 (by simp)
     have s9:=rA7.free 0;have t1:=Z6.cell 1 (by simp)
     have t2:=Z4.cell 1 (by simp)
     have t3:=rA8.cell 1 (by simp)
     have t4:=rA8.free 1;have t5:=Z3.cell 2 (by simp)
     have t6:=WY.cell 2 (by simp)
     have t7:=WY.free 2;simp only [a8,List.getElem_cons_zero,List.getElem_cons_succ] at s1 s2 s4 s5 s6 s7 s8 t1 t2 t3 t5 t6;have hwd:IntKind.i64.wrap (D+1)=(h:Int)+2:=by have:=ZH.out;rw [IntKind.wrap_i64];omega
     have HD:=ab hD;clear hD;have R7:=ab r7;have R8:=ab r8;have HL9:=ab hL9;clear hL6 NO H7 hv6 hm6 HL5 acP r7 r8 hL9 q7 rC6 Z8 Z5 Z7 rA7 rC7 rA8 rC8 Z6 Z4 WY Z3 HC ZB Zb;rcases Nat.eq_zero_or_pos i with ud | ud
     ·subst ud;go_wp2_with (first
       | (at_builtin;refine wpList_append_run 69 rfl (.tmp 191) (.tmp 193) rfl rfl _ _ rfl rfl _ _ R7.out ?_)
       | (at_builtin;refine wpList_append_run 63 rfl (.tmp 197) (.tmp 199) rfl rfl _ _ rfl rfl _ _ R8.out ?_))
      go_roundw
      case rel=>exact ⟨1,_,_,rfl,by omega,HL9.out⟩
      case measure=>simp [intOf]
     ·have cY:((i:Int) == 0)=false:=by rw [beq_eq_false_iff_ne];omega
      rw [if_neg (by omega)] at s2 t6
      go_wp2_with (first
       | (at_builtin;refine wpList_append_run 69 rfl (.tmp 191) (.tmp 193) rfl rfl _ _ rfl rfl _ _ R7.out ?_)
       | (at_builtin;refine wpList_append_run 63 rfl (.tmp 197) (.tmp 199) rfl rfl _ _ rfl rfl _ _ R8.out ?_))
      go_roundw
      case rel=>exact ⟨i+1,_,_,by go_num,by omega,HL9.out⟩
      case measure=>simp [intOf];omega
  ·have dE:¬ (i:Int)≤(N:Int):=by omega
   have hiN:i=N+1:=by omega
   obtain ⟨pa,pc,wG⟩:=Sk.out.p.form;obtain ⟨qa,qc,hqf⟩:=Sk.out.q.form;generalize (P0::(cs.take i).flatMap (cD h)).length=n2 at *;generalize ((cs.take i).flatMap (flat h)).length=m2 at *;subst wG;subst hqf;rw [if_neg (by omega)] at a2
   have hr:=Sk.out.r;rw [uL.out] at hr;have s0:=hr.cell 0 (by simp)
   have s1:=hr.cell 1 (by simp)
   have s2:=hr.cell 2 (by simp)
   have s3:=hr.cell 3 (by simp)
   simp only [a8,List.getElem_cons_zero,List.getElem_cons_succ] at s0 s1 s2 s3;have y0:=hr.free 0;have y1:=hr.free 1;have y2:=hr.free 2;have y3:=hr.free 3;have HR:=ab hr;have YG:=ab hiN;clear hr hiN;go_wp2;have hR:=DD HR.out (.slice pa n2 pc) (.slice qa m2 qc) (.int .i64 ((h:Int)+2)) (.bool true);have hBl:Below w.heap.size wr _:=yS (b:=w.heap.size) (x:=.slice pa n2 pc) (y:=.slice qa m2 qc) (z:=.int .i64 ((h:Int)+2)) (u:=.bool true) (Below.refl _ _) (aj _);have EO:∀ k,k≠w.heap.size→∀ (W:World) (x y z u:Value),((((W.setCell ⟨w.heap.size,0,none⟩ x).setCell ⟨w.heap.size,1,none⟩ y).setCell ⟨w.heap.size,2,none⟩ z).setCell ⟨w.heap.size,3,none⟩ u).heap[k]?=W.heap[k]?:=fun k hk W x y z u=>by
    rw [heap_setCell_other _ _ k _ hk,heap_setCell_other _ _ k _ hk,heap_setCell_other _ _ k _ hk,heap_setCell_other _ _ k _ hk]
   obtain ⟨hv9,hm9⟩:=Sk.out.k.dv.grown hBl Sk.out.m HH.out.dv;have lE:cs.take i=cs:=ao (by have:=iq.out;have:=BH.out;have:=YG.out;omega)
   have hp9:=Sk.out.p;have hq9:=Sk.out.q;rw [lE] at hp9 hq9;refine bodyPost_ret (results_cell_row rfl _ _ w.heap.size 134 _ (0,0) _ rfl hR underlying134 rfl (by kernel_rfl)) rfl ⟨_,_,rfl,?_,?_,hv9,hm9⟩
   ·rw [Yo.out];exact dD hp9 fun k hk=>EO k (fun e=>dR hp9 HR.out (by decide) (e▸hk)) _ _ _ _ _
   ·exact dD hq9 fun k hk=>EO k (fun e=>dR hq9 HR.out (by decide) (e▸hk)) _ _ _ _ _
theorem yd{base:Nat}{A:Nat→Addr}{db:Nat}{F:Nat→Prop}{d:S.V.bE}{ob:Nat}:∀ (h:Nat),R4 base A db F d ob h
 | 0=>fun t id lo hi low high bd root deep w hk hp ho b8 ja hf hb Gh _ _=>LJ t id lo hi low high bd root deep w hk hp ho b8 ja hf hb (by omega)
 | h+1=>Ek (yd h)
variable {w:World} {l:List Int} {base:Nat} {S:List Int}
def uI(w:World)(base:Nat)(v:Value)(l:List Int):Prop:=w.ownsRow base 3 1 v l.length (l.map (Value.int .i64))
theorem uI.nil(w:World)(base:Nat):uI w base (.slice none 0 0) []:=World.ownsRow_nil _ _ _ _
theorem uI.form{v:Value}(h:uI w base v l):∃ a c,v = .slice a l.length c:=by
 obtain ⟨a,c,h,_⟩:=rY h;exact ⟨a,c,h⟩
theorem uI.slot{n c:Nat}{a:Option Addr}(h:uI w base (.slice a n c) l)(h0:0<l.length):∃ g,a=some ⟨g,0,none⟩∧base≤g∧∃ cur,w.heap[g]?=some (.cells cur 3 (0,0)):=by
 rcases h.2 with ⟨h',h1⟩ | ⟨g,cap,cur,h',hb,hg,_⟩
 ·omega
 ·simp only [Value.slice.injEq] at h';exact ⟨g,h'.1,hb,cur,hg⟩
theorem uI.set{w:World}{base g n cap:Nat}{l:List Int}(h:uI w base (.slice (some ⟨g,0,none⟩) n cap) l)(j:Nat)(x:Int):uI (w.setCell ⟨g,j,none⟩ (.int .i64 x)) base (.slice (some ⟨g,0,none⟩) n cap) (l.set j x):=by
 rcases h.2 with ⟨h',_⟩ | ⟨g',eO,cur,h',hb,hg,hn,hm,hs,ht⟩
 ·simp at h'
 ·simp only [Value.slice.injEq,Option.some.injEq,Addr.mk.injEq,and_true] at h';obtain ⟨rfl,rfl,rfl⟩:=h';refine ⟨by simp,.inr ⟨g,cap,cur.setIfInBounds j (.int .i64 x),by rw [bI],hb,heap_setCell_same w g j cur 3 _ hg,by rw [bI];exact hn,hm,by rw [Array.size_setIfInBounds];exact hs,?_⟩⟩
  rw [Array.toList_setIfInBounds,bI,List.take_set,ht,List.map_set]
theorem uI.push(base:Nat)(v:Value)(l:List Int)(x:Int)(w:World)(h:uI w base v l)(hn:l.length≤1099511627776)(dd:base≤w.heap.size):∃ a' c' w',(Builtin.append_ #[69,69] 69 #[v,.slice (some ⟨w.heap.size,0,none⟩) 1 1]).run prog (w.alloc (.cells #[.int .i64 x] 3)) = .ok (.slice a' (l.length+1) c') w'∧uI w' base (.slice a' (l.length+1) c') (l++[x])∧(w.alloc (.cells #[.int .i64 x] 3)).grownBy w' v.ownBlock:=by
 obtain ⟨W,hW⟩ : ∃ W,W=w.alloc (.cells #[.int .i64 x] 3):=⟨_,rfl⟩;have hsW:W.heap.size=w.heap.size+1:=by rw [hW];simp
 have me:=bM w #[.int .i64 x] 3;rw [← hW] at me;have ho:W.ownsRow base 3 1 v l.length (l.map (Value.int .i64)):=hW▸World.ownsRow.alloc h _;have H6:lF W (.slice (some ⟨w.heap.size,0,none⟩) 1 1) [.int .i64 x]:=by
  refine ⟨_,_,rfl,aj _,(fun e=>by cases e),fun j u hj=>⟨_,_,rfl,?_⟩⟩
  match j,hj with
  | 0,hj=>cases hj;exact me.2 0 (by simp)
 obtain ⟨a',c',w',hr,aE,hg⟩:=jW 69 3 (.int .i64 0) 8 JZ underlying69 rfl base l.length v (l.map (Value.int .i64)) W ho _ [.int .i64 x] H6 (by simp [Value.oneCell']) (by simp;omega) (by decide) (by omega)
 rw [aQ] at hr aE;rw [← hW];exact ⟨a',c',w',hr,by show w'.ownsRow _ _ _ _ (l++[x]).length _;rw [ae,bz];exact aE,hg⟩
def CW(S:List Int)(x:Int)(k:Nat):List Int:=S.take k++x::S.drop k
theorem Kh(S:List Int)(x:Int)(k:Nat)(hk:k≤S.length):(CW S x k).length=S.length+1:=by
 unfold CW;rw [ae,ag,List.length_cons,al];omega
theorem UN(S:List Int)(x:Int):CW S x S.length=S++[x]:=by simp [CW]
theorem X9(S:List Int)(x:Int)(k:Nat)(hk:k≤S.length):(CW S x k)[k]?=some x:=by
 unfold CW;rw [aM (by rw [ag];omega),ag,aT hk,de]
 rfl
theorem Kg(S:List Int)(x:Int)(k:Nat)(hk:k<S.length):(CW S x (k+1))[k]?=some S[k]:=by
 unfold CW;rw [bf (by rw [ag];omega),List.getElem?_take_of_lt (by omega),af hk]
theorem Rj(S:List Int)(x:Int)(k:Nat)(hk:k<S.length):((CW S x (k+1)).set (k+1) S[k]).set k x=CW S x k:=by
 apply lC
 intro j;have hl:=Kh S x (k+1) (by omega)
 unfold CW at *;rw [List.getElem?_set,List.getElem?_set];simp only [bI,hl];by_cases h1:k=j
 ·subst h1;rw [if_pos rfl,if_pos (by omega),aM (by rw [ag];omega),ag,aT (by omega),de]
  rfl
 ·rw [if_neg h1];by_cases h2:k+1=j
  ·subst h2;rw [if_pos rfl,if_pos (by omega),aM (by rw [ag];omega),ag,aT (by omega),show k+1 - k=0+1 from by omega,List.getElem?_cons_succ,bZ,Nat.add_zero,af hk]
  ·rw [if_neg h2];rcases a6 j k with h3 | h3
   ·rw [bf (by rw [ag];omega),bf (by rw [ag];omega),List.getElem?_take_of_lt (by omega),List.getElem?_take_of_lt h3]
   ·rw [aM (by rw [ag];omega),aM (by rw [ag];omega),ag,ag,aT (by omega),aT (by omega),show j - (k+1)=(j - (k+2))+1 from by omega,show j - k=(j - (k+1))+1 from by omega,List.getElem?_cons_succ,List.getElem?_cons_succ,bZ,bZ]
    congr 1
    omega
def U9(S:List Int):Prop:=S.Pairwise (·≤·)
theorem X8{S:List Int}{x:Int}{k:Nat}(hS:U9 S)(hk:k≤S.length)(Ze:∀ j (h:j<S.length),k≤j→x≤S[j])(n7:∀ (h:0<k),S[k - 1]'(by omega)≤x):U9 (CW S x k):=by
 unfold U9 CW;rw [List.pairwise_append];refine ⟨hS.sublist (List.take_sublist _ _),List.pairwise_cons.2 ⟨fun y hy=>?_,hS.sublist (List.drop_sublist _ _)⟩,fun a ha b hb=>?_⟩
 ·obtain ⟨j,hj,rfl⟩:=aK hy;rw [al] at hj;rw [cu];exact Ze _ (by omega) (by omega)
 ·obtain ⟨j,hj,rfl⟩:=aK ha;rw [ag] at hj;rw [bF];have SG:S[j]'(by omega)≤x:=by
   rcases a6 j (k - 1) with h | h
   ·have h1:=List.pairwise_iff_getElem.1 hS j (k - 1) (by omega) (by omega) h
    have h2:=n7 (by omega)
    omega
   ·have:j=k - 1:=by omega
    subst this;exact n7 (by omega)
  rcases List.mem_cons.1 hb with rfl | hb
  ·exact SG
  ·obtain ⟨i,hi,rfl⟩:=aK hb;rw [al] at hi;rw [cu];have:=Ze (k+i) (by omega) (by omega)
   omega
theorem Rk(S:List Int)(x:Int)(k:Nat):(CW S x k).Perm (S++[x]):=by
 unfold CW;refine (List.perm_middle).trans ?_
 rw [aI];exact (List.perm_append_comm (l₁:=[x]) (l₂:=S))
theorem S6(hS:U9 S)(hp:S.Perm l):S=l.mergeSort fun x y=>decide (x≤y):=by
 refine (List.Perm.eq_of_pairwise (le:=fun a b=>decide (a≤b)=true) (fun a b _ _ h1 h2=>?_) (List.pairwise_mergeSort (fun a b c h1 h2=>?_) (fun a b=>?_) l) (hS.imp fun h=>decide_eq_true h) ((List.mergeSort_perm l _).trans hp.symm)).symm
 ·have h1:=of_decide_eq_true h1;have h2:=of_decide_eq_true h2;omega
 ·have h1:=of_decide_eq_true h1;have h2:=of_decide_eq_true h2;exact decide_eq_true (by omega)
 ·rcases Int.le_total a b with h | h
  ·rw [decide_eq_true h];rfl
  ·rw [decide_eq_true h];simp
theorem KK(hp:S.Perm l)(hn:l.Nodup)(k:Nat)(hk:k+1<S.length):S[k]≠S[k+1]:=by
 have h:=List.nodup_iff_pairwise_ne.1 (hp.nodup_iff.2 hn);exact List.pairwise_iff_getElem.1 h k (k+1) (by omega) hk (by omega)
end T
end Go.Proofs.YtihmgigfkmofnaaGreatDoor
