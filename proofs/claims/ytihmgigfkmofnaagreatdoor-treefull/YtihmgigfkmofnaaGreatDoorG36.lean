import Derived.Test.YtihmgigfkmofnaaGreatDoorG35
set_option maxHeartbeats 8000000
set_option maxRecDepth 100000
open Go.Proofs.Tryz
namespace Go.Proofs.YtihmgigfkmofnaaGreatDoor
namespace T
open Go.RowKit
def kM(db fb tb:Nat)(wv:Value)(root tx:Nat):Array Value:=#[.int .i64 4000,.pointer (some ⟨db,0,none⟩),.pointer (some ⟨fb,0,none⟩),.pointer (some ⟨tb,0,none⟩),wv,.int .i64 (root:Int),.int .u64 (tx:Int)]
structure Os(base:Nat)(A:Nat→Addr)(w0 w:World)(ob db tb fb fg:Nat)(F:Nat→Prop)(d:S.V.bw)(r:cC)(T:Nat→Bool)(wv:Value)(root tx:Nat)(l:List Pr):Prop where
 row:B.au w ob (kM db fb tb wv root tx) 65
 ts:Ts base A db F d w w tb r
 mp:Mp base F tb w fb fg 4000 T
 env:Q.Env base A w
 want:ir w base wv l
 nd:(eJ r).Nodup
 pt:∀ i ∈ eJ r,T i=true
 pr:∀ i ∈ eJ r,2≤i∧i<4000
 lx:d.eX=[]∧d.aX=[]∧d.size=32000
 eZ:Below base w0 w
 ap:base≤ob∧¬ F ob∧ob≠tb∧ob≠fb∧ob≠fg
 wn:∀ k,wv.ownBlock=some k→¬ F k∧k≠tb∧k≠ob∧k≠fb∧k≠fg
theorem _root_.Go.Proofs.YtihmgigfkmofnaaGreatDoor.ir.same{w w':World}{base:Nat}{v:Value}{l:List Pr}(h:ir w base v l)(hb:∀ k,v.ownBlock=some k→w'.heap[k]?=w.heap[k]?):ir w' base v l:=by
 refine ⟨h.1,?_⟩;rcases h.2 with h' | ⟨g,cap,cur,rfl,h1,h2,hr⟩
 ·exact .inl h'
 ·exact .inr ⟨g,cap,cur,rfl,h1,(hb g rfl).trans h2,hr⟩
theorem gr{v:Value}{w:World}{base:Nat}{l:List Pr}(h:ir w base v l):∃ a n c,v = .slice a n c:=by
 obtain ⟨a,c,h⟩:=h.form;exact ⟨a,_,c,h⟩
section
variable {base:Nat} {A:Nat→Addr} {w0:World} {ob db tb fb fg:Nat} {F:Nat→Prop} {d:S.V.bw} {r:cC} {T:Nat→Bool} {wv:Value} {root tx:Nat} {l:List Pr}
theorem Os.tree{w w1:World}{r1:cC}(h:Os base A w0 w ob db tb fb fg F d r T wv root tx l)(h1:Ts base A db F d w w1 tb r1)(hs:(eJ r1).Sublist (eJ r)):Os base A w0 w1 ob db tb fb fg F d r1 T wv root tx l:=by
 have st:=h1.st;have hb:∀ k,k<w.heap.size→¬ F k→k≠tb→w1.heap[k]?=w.heap[k]?:=fun k hk hf ht=>st.block k hk (fun e=>e.elim (fun e=>hf (e▸h1.dv.own)) ht)
 have jz:Below base w w1:=⟨st.os,st.tape,st.output,st.size,fun k hk=>hb k (aq hk h.env.size) (fun e=>by have:=h.ts.dv.up k e;omega) (by have:=h.ts.lo.1;omega)⟩
 have m:=h.mp;refine ⟨(hb ob h.row.lt h.ap.2.1 h.ap.2.2.1).trans h.row,⟨h1.dv,h1.tr,h1.ok,S.V.Step.refl _ _,h1.lo⟩,⟨jL m.map (hb _ m.map.SW m.nf.2 m.nt.2) (hb _ m.map.Rz m.nf.1 m.nt.1),m.ok,m.lo,m.nf,m.nt⟩,h.env.keep jz,h.want.same fun k hk=>hb k (h.want.dF k hk).2 (h.wn k hk).1 (h.wn k hk).2.1,h.nd.sublist hs,fun i hi=>h.pt i (hs.subset hi),fun i hi=>h.pr i (hs.subset hi),h.lx,⟨jz.os.trans h.eZ.os,jz.tape.trans h.eZ.tape,jz.output.trans h.eZ.output,ar h.eZ.size jz.size,fun k hk=>(jz.block k hk).trans (h.eZ.block k hk)⟩,h.ap,h.wn⟩
theorem Os.below{w w1:World}(h:Os base A w0 w ob db tb fb fg F d r T wv root tx l)(hb:Below w.heap.size w w1):Os base A w0 w1 ob db tb fb fg F d r T wv root tx l:=h.tree (h.ts.below hb) (List.Sublist.refl _)
theorem I9{w:World}{db fb tb ob:Nat}{wv:Value}{root tx:Nat}(h:B.au w ob (kM db fb tb wv root tx) 65)(hv:∃ a n c,wv = .slice a n c):Uo w ob:=by
 obtain ⟨a,n,c,rfl⟩:=hv;refine ⟨fun j u hc=>?_,fun cs fr e=>?_,fun cs fr e=>?_⟩
 ·rw [cell_of_row w _ j _ _ _ h] at hc;obtain ⟨h3,h4⟩:=Array.getElem?_eq_some_iff.1 hc;have hu:u ∈ (kM db fb tb (.slice a n c) root tx).toList:=by rw [← h4];exact gH h3
  simp only [kM,dP,dA,or_false] at hu;rcases hu with rfl | rfl | rfl | rfl | rfl | rfl | rfl <;> exact ⟨(fun s e=>by cases e),(fun t x e=>by cases e)⟩
 ·have h':w.heap[ob]?=_:=h;rw [h'] at e;simp at e
 ·have h':w.heap[ob]?=_:=h;rw [h'] at e;simp at e
theorem Os.set{w:World}{LN Na wU YG:Nat}{T':Nat→Bool}{yS u:Value}{l':List Pr}(j:Nat)(h:Os base A w0 w ob db tb fb fg F d r T wv root tx l)(bE:B.au (w.setCell ⟨ob,j,none⟩ u) ob (kM db LN tb yS wU YG) 65)(hm:Mp base F tb w LN Na 4000 T')(ho:ob≠LN∧ob≠Na)(FG:∀ i ∈ eJ r,T' i=true)(hw:ir w base yS l')(GW:∀ k,yS.ownBlock=some k→¬ F k∧k≠tb∧k≠ob∧k≠LN∧k≠Na):Os base A w0 (w.setCell ⟨ob,j,none⟩ u) ob db tb LN Na F d r T' yS wU YG l':=by
 have hs:=bJ.set ob j w u;have ha:cW w (w.setCell ⟨ob,j,none⟩ u):=⟨hs.size,fun k hk=>by
  by_cases e:k=ob
  ·exact .inr (e▸I9 h.row (gr h.want))
  ·exact .inl (hs.block k hk e)⟩
 obtain ⟨rv,t1,t2⟩:=h.ts.tr;have jz:Below base w (w.setCell ⟨ob,j,none⟩ u):=⟨hs.os,hs.tape,hs.output,hs.size,fun k hk=>hs.block k (aq hk h.env.size) (by have:=h.ap.1;omega)⟩
 refine ⟨bE,⟨h.ts.dv.tree h.ap.1 h.ap.2.1 j u,⟨rv,ed ha t1,t2.cH ha⟩,h.ts.ok,S.V.Step.refl _ _,h.ts.lo⟩,⟨jL hm.map (hs.block _ hm.map.SW ho.1.symm) (hs.block _ hm.map.Rz ho.2.symm),hm.ok,hm.lo,hm.nf,hm.nt⟩,h.env.keep jz,hw.same fun k hk=>hs.block k (hw.dF k hk).2 (GW k hk).2.2.1,h.nd,FG,h.pr,h.lx,⟨jz.os.trans h.eZ.os,jz.tape.trans h.eZ.tape,jz.output.trans h.eZ.output,ar h.eZ.size jz.size,fun k hk=>(jz.block k hk).trans (h.eZ.block k hk)⟩,⟨h.ap.1,h.ap.2.1,h.ap.2.2.1,ho.1,ho.2⟩,GW⟩
theorem Os.IM{w:World}{u:Value}{l':List Pr}(h:Os base A w0 w ob db tb fb fg F d r T wv root tx l)(hw:ir w base u l')(GW:∀ k,u.ownBlock=some k→¬ F k∧k≠tb∧k≠ob∧k≠fb∧k≠fg):Os base A w0 (w.setCell ⟨ob,4,none⟩ u) ob db tb fb fg F d r T u root tx l' :=
 h.set 4 (heap_setCell_same _ _ 4 _ _ _ h.row) h.mp h.ap.2.2.2 h.pt hw GW
theorem Os.new{w:World}{k:Nat}(h:Os base A w0 w ob db tb fb fg F d r T wv root tx l)(hk:w.heap.size≤k):¬ F k∧k≠tb∧k≠ob∧k≠fb∧k≠fg:=by
 obtain ⟨rv,t1,_⟩:=h.ts.tr;obtain ⟨d',_,hd⟩:=h.ts.dv.dev;have:=t1.lt;have:=h.row.lt;have:=h.mp.map.SW;have:=h.mp.map.Rz;exact ⟨fun e=>by have:=hd.lt k e;omega,by omega,by omega,by omega,by omega⟩
theorem Os.c{w:World}(h:Os base A w0 w ob db tb fb fg F d r T wv root tx l):w.cell? ⟨ob,3,none⟩=some (.pointer (some ⟨tb,0,none⟩))∧w.cell? ⟨ob,4,none⟩=some wv∧w.cell? ⟨ob,0,none⟩=some (.int .i64 4000)∧w.cell? ⟨ob,1,none⟩=some (.pointer (some ⟨db,0,none⟩))∧w.cell? ⟨ob,2,none⟩=some (.pointer (some ⟨fb,0,none⟩))∧w.cell? ⟨ob,5,none⟩=some (.int .i64 (root:Int))∧w.cell? ⟨ob,6,none⟩=some (.int .u64 (tx:Int)) :=
 ⟨h.row.cell 3 (by simp [kM]),h.row.cell 4 (by simp [kM]),h.row.cell 0 (by simp [kM]),h.row.cell 1 (by simp [kM]),h.row.cell 2 (by simp [kM]),h.row.cell 5 (by simp [kM]),h.row.cell 6 (by simp [kM])⟩
theorem om(l:List Pr)(key value:ByteArray):(fu l key value).length≤l.length+1:=by
 have:=eW l key;have:=cD l key;unfold fu;rw [ae,ag,List.length_cons,ao];omega
theorem L5(l:List Pr)(key:ByteArray):(fX l key).length≤l.length:=by
 have:=eW l key;have:=cD l key;unfold fX;rw [ae,ag,ao];omega
def Fr(db tb ob:Nat)(w w':World):Prop:=w.heap.size≤w'.heap.size∧∀ k,k<w.heap.size→k≠db→k≠tb→k≠ob→w'.heap[k]?=w.heap[k]?
theorem pA{db tb ob:Nat}{w w1:World}(h:S.V.Step (fun k=>k=db∨k=tb) (fun k=>k=db∨k=tb) w w1):Fr db tb ob w w1:=⟨h.size,fun k hk h1 h2 _=>h.block k hk (fun e=>e.elim h1 h2)⟩
theorem Fr.set{db tb ob:Nat}{w w1 w2:World}(h:Fr db tb ob w w1)(hb:Below w1.heap.size w1 w2)(j:Nat)(u:Value):Fr db tb ob w (w2.setCell ⟨ob,j,none⟩ u):=⟨ar h.1 (ar hb.size (bJ.set ob j w2 u).size),fun k hk h1 h2 h3=>((bJ.set ob j w2 u).block k (aq (aq hk h.1) hb.size) h3).trans ((hb.block k (aq hk h.1)).trans (h.2 k hk h1 h2 h3))⟩
theorem Fr.trans{db tb ob:Nat}{w w1 w2:World}(h:Fr db tb ob w w1)(k:Fr db tb ob w1 w2):Fr db tb ob w w2:=⟨ar h.1 k.1,fun i hi a b c=>(k.2 i (aq hi h.1) a b c).trans (h.2 i hi a b c)⟩
theorem dC{db tb ob:Nat}{w w1:World}(h:Below w.heap.size w w1):Fr db tb ob w w1:=⟨h.size,fun i hi _ _ _=>h.block i hi⟩
theorem rW{db:Nat}{F:Nat→Prop}{tb ob:Nat}{w w1:World}(h:Mv db F w w1):Fr db tb ob w w1:=⟨h.size,fun i hi a _ _=>h.one.block i hi a⟩
theorem I5{w:World}(key value:ByteArray)(h:Os base A w0 w ob db tb fb fg F d r T wv root tx (aD r))(hn:(aD r).length≤1000000)(de:key.size≤140737488355328)(vf:value.size≤140737488355328):Calls prog 10 #[.pointer (some ⟨ob,0,none⟩),.string key,.string value] w fun e w'=>e = .returned (.bool true)∧∃ r' yS,((cN (key,value)=true∧tP key (fun l=>fu l key value) r r')∨(¬ cN (key,value)=true∧r'=r))∧Os base A w0 w' ob db tb fb fg F d r' T yS root tx (aD r')∧Fr db tb ob w w':=by
 have HP:=ab (KA key value h.ts (by omega) de vf)
 have yY:=ab (yt key value w de vf);have p3:=h.c.1;have H:=ab h;have HN:=ab hn;clear h hn;by_cases hm:cN (key,value)=true
 ·rw [hm] at yY;have HM:=ab hm;clear hm;go_enter func10,ntmps10;go_wp2_with fail;refine yY.out.mono ?_
  rintro e w' ⟨rfl,rfl⟩;go_wp2_with fail;refine HP.out.mono ?_
  rintro e w1 (⟨_,rfl,r',hu,ht⟩ | ⟨hm,_⟩)
  rotate_left
  ·exact absurd HM.out hm
  have h1:=H.out.tree ht (Dx hu);have gU:=(oW (vV HM.out) H.out.ts.ok hu).2;obtain ⟨a,c,kq⟩:=h1.want.form;have p4:=h1.c.2.1;have HW:=ab (Lf wv (aD r) key value w1 (by have:=HN.out;omega) h1.want.at)
  have H1:=ab h1;have HU:=ab hu;have CD:=ab gU;have gP:=ab ht.st;subst kq;clear ht h1 hu gU p3 HP yY;go_wp2_with fail;refine HW.out.mono ?_
  rintro e w2 ⟨u,rfl,ho,hb⟩;have h2:=H1.out.below hb;have hfm:=gr ho;have z4:=h2.c.2.1;have y4:=h2.row.free 4;have H3:Hid (Os base A w0 (w2.setCell ⟨ob,4,none⟩ u) ob db tb fb fg F d r' T u root tx (aD r')):=by
   rw [CD.out];exact h2.IM (ho.mono (H1.out.env.size)) fun k hk=>H1.out.new (ho.dF k hk).1
  have Ck:=ab ((pA (ob:=ob) gP.out).set hb 4 u);clear h2 ho hb p4 HW;obtain ⟨ua,un,uc,rfl⟩:=hfm;go_wp2;go_ret;exact ⟨rfl,r',_,.inl ⟨HM.out,HU.out⟩,H3.out,Ck.out⟩
 ·have Lm:cN (key,value)=false:=by simpa using hm
  rw [Lm] at yY;have HM:=ab hm;clear hm Lm;go_enter func10,ntmps10;go_wp2_with fail;refine yY.out.mono ?_
  rintro e w' ⟨rfl,rfl⟩;go_wp2_with fail;refine HP.out.mono ?_
  rintro e w1 (⟨hm,_⟩ | ⟨_,rfl,ht⟩)
  ·exact absurd hm HM.out
  have h1:=H.out.tree ht (List.Sublist.refl _);have R0:=ab (vJ A w1 h1.ts.dv.errs);have H1:=ab h1;have Ck:=ab (pA (ob:=ob) ht.st);clear ht h1 p3 HP yY;go_wp2_with fail;refine R0.out.mono ?_
  rintro e w2 ⟨rfl,rfl⟩;go_wp2;go_ret;exact ⟨rfl,r,_,.inr ⟨HM.out,rfl⟩,H1.out,Ck.out⟩
end
section
variable {base:Nat} {A:Nat→Addr} {w0:World} {ob db tb fb fg:Nat} {F:Nat→Prop} {d:S.V.bw} {r:cC} {T:Nat→Bool} {wv:Value} {root tx:Nat} {l:List Pr}
theorem OI{w:World}(key:ByteArray)(h:Os base A w0 w ob db tb fb fg F d r T wv root tx (aD r))(hn:(aD r).length≤1000000)(de:key.size≤140737488355328):Calls prog 22 #[.pointer (some ⟨ob,0,none⟩),.string key] w fun e w'=>e = .returned (.bool true)∧∃ r' yS,((cN (key,⟨#[]⟩)=true∧bg (aD r) key=true∧tP key (fun l=>fX l key) r r')∨(¬ (cN (key,⟨#[]⟩)=true∧bg (aD r) key=true)∧r'=r))∧Os base A w0 w' ob db tb fb fg F d r' T yS root tx (aD r')∧Fr db tb ob w w':=by
 have HP:=ab (L7 key h.ts (by omega) de)
 have yY:=ab (fun W=>yt key ⟨#[]⟩ W de (by simp [ByteArray.size]))
 have p3:=h.c.1;have H:=ab h;have HN:=ab hn;clear h hn;by_cases hm:cN (key,⟨#[]⟩)=true
 ·rw [hm] at yY;have HM:=ab hm;clear hm;go_enter func22,ntmps22;go_wp2_with fail;refine HP.out.mono ?_
  rintro e w1 (⟨_,rfl,hcase⟩ | ⟨hm,_⟩)
  rotate_left
  ·exact absurd HM.out hm
  have h1:∃ r',((bg (aD r) key=true∧tP key (fun l=>fX l key) r r')∨(bg (aD r) key=false∧r'=r))∧aD r'=fX (aD r) key∧Os base A w0 w1 ob db tb fb fg F d r' T wv root tx (aD r)∧S.V.Step (fun k=>k=db∨k=tb) (fun k=>k=db∨k=tb) w w1:=by
   rcases hcase with ⟨hf,r',hu,ht⟩ | ⟨hf,ht⟩
   ·exact ⟨r',.inl ⟨hf,hu⟩,(oW (fit_drop key) H.out.ts.ok hu).2,H.out.tree ht (Dx hu),ht.st⟩
   ·exact ⟨r,.inr ⟨hf,rfl⟩,(yv hf).symm,H.out.tree ht (List.Sublist.refl _),ht.st⟩
  obtain ⟨r',fI,gU,h1,Zn⟩:=h1;have gP:=ab Zn;obtain ⟨a,c,kq⟩:=h1.want.form;have p4:=h1.c.2.1;have pS:=ab (mn wv (aD r) key w1 (by have:=HN.out;omega) h1.want.at)
  have FQ:=ab fI;have CD:=ab gU;have H1:=ab h1;have Yv:=ab (yY.out w1);subst kq;clear hcase fI gU h1 p3 HP yY Zn;go_wp2_with fail;refine Yv.out.mono ?_
  rintro e w1' ⟨rfl,rfl⟩;go_wp2_with fail;refine pS.out.mono ?_
  rintro e w1' ⟨rfl,k,rfl⟩;have h2:=H1.out.below (aA (Below.refl _ _) k);have q4:=h2.c.2.1;have HW:=ab (BM (.slice a (aD r).length c) (aD r) key (w1.drewN k) (by have:=HN.out;omega) h2.want.at)
  have H2:=ab h2;clear h2 p4 pS Yv;go_wp2_with fail;refine HW.out.mono ?_
  rintro e w2 ⟨hcase,hb⟩;have h3:=H2.out.below hb;have z4:=h3.c.2.1;have y4:=h3.row.free 4;have PE:∃ ua un uc,e = .returned (.slice ua un uc)∧ir w2 base (.slice ua un uc) (aD r')∧∀ k,(Value.slice ua un uc).ownBlock=some k→¬ F k∧k≠tb∧k≠ob∧k≠fb∧k≠fg:=by
   rcases hcase with ⟨hf,rfl⟩ | ⟨hf,u,rfl,ho⟩
   ·refine ⟨_,_,_,rfl,?_,h3.wn⟩;rw [CD.out,yv hf];exact h3.want
   ·obtain ⟨ua,un,uc,rfl⟩:=gr ho;refine ⟨_,_,_,rfl,?_,fun k hk=>H2.out.new (ho.dF k hk).1⟩
    rw [CD.out];exact ho.mono H2.out.env.size
  obtain ⟨ua,un,uc,rfl,ho,GW⟩:=PE;have H3:Hid (Os base A w0 (w2.setCell ⟨ob,4,none⟩ (.slice ua un uc)) ob db tb fb fg F d r' T (.slice ua un uc) root tx (aD r')):=h3.IM ho GW;have Ck:=ab ((pA (ob:=ob) gP.out).set (Below.next (aA (Below.refl _ _) k) hb) 4 (.slice ua un uc));have HR:Hid ((cN (key,⟨#[]⟩)=true∧bg (aD r) key=true∧tP key (fun l=>fX l key) r r')∨(¬ (cN (key,⟨#[]⟩)=true∧bg (aD r) key=true)∧r'=r)):=by
   rcases FQ.out with ⟨hf,hu⟩ | ⟨hf,hu⟩
   ·exact .inl ⟨HM.out,hf,hu⟩
   ·exact .inr ⟨fun h=>(by rw [hf] at h;cases h.2),hu⟩
  clear h3 hcase ho GW hb q4 HW;generalize bg (aD r) key=fd;cases fd
  all_goals
   go_wp2;go_ret;exact ⟨rfl,r',_,HR.out,H3.out,Ck.out⟩
 ·have Lm:cN (key,⟨#[]⟩)=false:=by simpa using hm
  rw [Lm] at yY;have HM:=ab hm;clear hm Lm;go_enter func22,ntmps22;go_wp2_with fail;refine HP.out.mono ?_
  rintro e w1 (⟨hm,_⟩ | ⟨_,rfl,ht⟩)
  ·exact absurd hm HM.out
  have h1:=H.out.tree ht (List.Sublist.refl _);have R0:=ab (vJ A w1 h1.ts.dv.errs);have Yv:=ab (yY.out w1);have H1:=ab h1;have Ck:=ab (pA (ob:=ob) ht.st);clear ht h1 p3 HP yY;go_wp2_with fail;refine Yv.out.mono ?_
  rintro e w1' ⟨rfl,rfl⟩;go_wp2_with fail;refine R0.out.mono ?_
  rintro e w2 ⟨rfl,rfl⟩;go_wp2;go_ret;exact ⟨rfl,r,_,.inr ⟨fun h=>HM.out h.1,rfl⟩,H1.out,Ck.out⟩
end
theorem Sm(l:List Nat):∃ L:List Nat,uY l=L.map (fun n:Nat=>(n:Int))∧L.Perm l:=by
 have hp:=Kn l;refine ⟨(uY l).map Int.toNat,?_,?_⟩
 ·rw [eO];have:∀ x ∈ uY l,((fun n:Nat=>(n:Int)) ∘ Int.toNat) x=x:=fun x hx=>by
   obtain ⟨n,_,rfl⟩:=List.mem_map.1 (hp.mem_iff.1 hx);simp
  conv=>lhs;rw [← List.map_id (uY l)]
  exact gO fun x hx=>(this x hx).symm
 ·have:=hp.map Int.toNat;rw [eO] at this;have e:l.map (Int.toNat ∘ fun n:Nat=>(n:Int))=l:=by
   conv=>rhs;rw [← List.map_id l]
   exact gO fun x _=>by simp
  rw [e] at this;exact this
theorem GL(T:Nat→Bool)(L:List Nat)(i:Nat):iS T (L++[i])=Q.lE (iS T L) i true:=by
 unfold iS;rw [gx];rfl
theorem GH{L:List Nat}(h:L.Nodup){k:Nat}(hk:k<L.length):¬ L[k] ∈ L.take k:=fun hm=>by
 obtain ⟨j,hj,he⟩:=aO hm;rw [ag] at hj;rw [bF] at he;exact List.pairwise_iff_getElem.1 h j k (by omega) hk (by omega) he
theorem YI{i:Nat}(h1:2≤i)(h2:i<4000):Q.T0 4000 i=false:=by
 unfold Q.T0;rw [decide_eq_false (by omega),decide_eq_false (by omega)]
 rfl
section
variable {base:Nat} {A:Nat→Addr} {w0:World} {ob db tb fb fg:Nat} {F:Nat→Prop} {d:S.V.bw} {r:cC} {T:Nat→Bool} {wv:Value} {root tx:Nat} {l:List Pr}
theorem Oz{w:World}(h:Os base A w0 w ob db tb fb fg F d r T wv root tx l)(hn:(aD r).length≤1000000):Calls prog 64 #[.pointer (some ⟨ob,0,none⟩)] w fun e w'=>e = .returned (.bool true)∧∃ LN Na L,L.Perm (eJ r)∧Os base A w0 w' ob db tb LN Na F d r (iS (Q.T0 4000) L) wv root tx l∧Fr db tb ob w w':=by
 have tp:=kj h.ts.ok;obtain ⟨L,hL,Ly⟩:=Sm (eJ r);have Jv:L.Nodup:=Ly.nodup_iff.2 h.nd;have hLr:∀ i ∈ L,2≤i∧i<4000:=fun i hi=>h.pr i (Ly.mem_iff.1 hi)
 have Uw:=ab (DB h.ts (by omega) h.nd (by omega))
 rw [hL] at Uw;obtain ⟨n,Et⟩ : ∃ n,n=L.length:=⟨_,rfl⟩;rw [← Ly.length_eq,← Et] at Uw;have rP:n≤1000000000:=by rw [Et,Ly.length_eq];omega
 have p3:=h.c.1;have H:=ab h;have sI:=ab Jv;have XC:=ab hLr;have zP:=ab Ly;have R4:=ab Et;clear h hn tp hL Jv hLr Ly Et;obtain ⟨Q0,BW⟩ : ∃ Q0:Ending→World→Prop,Q0=fun e w'=>e = .returned (.bool true)∧∃ LN Na L,L.Perm (eJ r)∧Os base A w0 w' ob db tb LN Na F d r (iS (Q.T0 4000) L) wv root tx l∧Fr db tb ob w w':=⟨_,rfl⟩
 rw [← BW];have HQ:=ab BW;clear BW;go_enter func64,ntmps64;go_wp2_with fail;refine Uw.out.mono ?_
 rintro e w1 ⟨⟨v,rfl,aF⟩,fP,fs⟩;have h1:=H.out.tree (H.out.ts.mv fs fP) (List.Sublist.refl _);have kq:∃ a c,v = .slice a n c:=by
  rcases aF.2 with ⟨h',h0⟩ | ⟨g,cap,cur,h',_⟩
  ·exact ⟨none,0,by rw [h',h0]⟩
  ·exact ⟨_,_,h'⟩
 obtain ⟨a,c,kq⟩:=kq;have yR:Hid (∀ j (hj:j<n),∃ gb,a=some ⟨gb,0,none⟩∧w1.cell? ⟨gb,j,none⟩=some (.int .i64 ((L[j]'(by have:=R4.out;omega):Nat):Int))):=fun j hj=>by
  have hlen:j<L.length:=by have:=R4.out;omega
  rcases aF.2 with ⟨h',h0⟩ | ⟨g,cap,cur,h',hb,hg,_⟩
  ·omega
  ·rw [kq] at h';simp only [Value.slice.injEq] at h';refine ⟨g,h'.1,?_⟩;have AL:v = .slice (some ⟨g,0,none⟩) n cap:=by rw [kq,h'.1,h'.2.2]
   rw [AL] at aF;have:=aF.cellAt j (by omega)
   rw [this,aL,aL,af hlen];rfl
 have p0:=h1.c.2.2.1;have H1:=ab h1;have Yt:=ab (Q.vL 4000 w1 (by decide) (by decide))
 have Yv:Hid (Fr db tb ob w w1):=rW fs;subst kq;clear aF fP fs h1 Uw p3;go_wp2_with fail;refine Yt.out.mono ?_
 rintro e w2 ⟨mb,mg,rfl,Jn,ZY,hmap,aS⟩;have h2:=H1.out.below aS;have HMB:=ab Jn;have VD:=ab ZY;have Rp:=ab hmap;have bG:=ab aS;have abx:=ab h2.env;clear h2 Jn ZY hmap aS Yt p0;go_wp2;go_loopw [7] (fun iv wr=>∃ k:Nat,k≤n∧iv = .int .i64 (k:Int)∧Q.dj wr mb mg 4000 (iS (Q.T0 4000) (L.take k))∧Q.eF (fun k=>k=mg) w2 wr) (fun iv _=>n - (intOf iv).toNat)
 case atStart=>exact ⟨0,aB _,rfl,by rw [List.take_zero];exact Rp.out,Q.eF.refl _ _⟩
 case round =>
  obtain ⟨k,hk,rfl,ZV,Ep⟩:=hrel;by_cases bK:k<n
  ·have de:k<L.length:=by have:=R4.out;omega
   obtain ⟨gb,rfl,c1⟩:=yR.out k bK;have yj:=World.block_lt_of_cell? w1 _ c1;have c2:wr.cell? ⟨gb,k,none⟩=some (.int .i64 ((L[k] : Nat):Int)):=Ep.cell (a:=⟨gb,k,none⟩) ((bG.out.cell (p:=⟨gb,k,none⟩) yj).trans c1) (by have:=VD.out;have h9:gb<w1.heap.size:=yj;show ¬ gb=mg;omega)
   have aal:Q.Env base A wr:=abx.out.keep ⟨Ep.os,Ep.tape,Ep.output,Ep.size,fun k hk=>Ep.block k (aq hk abx.out.size) (by have h8:=VD.out;have h9:=H1.out.env.size;show ¬ k=mg;omega)⟩
   have HMK:=ab (Q.OU base A mb mg 4000 _ ((L[k] : Nat):Int) wr ZV aal);have U3:=XC.out L[k] (aI de);have Vf:iS (Q.T0 4000) (L.take k) L[k]=false:=by
    rw [ox];have h1:Q.T0 4000 L[k]=false:=YI U3.1 U3.2;have h2:=GH sI.out de;rw [h1,decide_eq_false h2];rfl
   have hmd:Q.DP 4000 (iS (Q.T0 4000) (L.take k)) ((L[k] : Nat):Int)=(none,iS (Q.T0 4000) (L.take (k+1))):=by
    have ht:Q.kG 4000 ((L[k] : Nat):Int)=true:=by
     unfold Q.kG;rw [decide_eq_true (by omega:(2:Int)≤((L[k] : Nat):Int)),decide_eq_true (by omega:((L[k] : Nat):Int)<((4000:Nat):Int))];rfl
    unfold Q.DP;rw [if_pos ht,aW,Vf,ax de,GL];rfl
   rw [hmd] at HMK;have dK:(k:Int)<(n:Int):=by omega
   have j0:(0:Int)≤(k:Int):=by omega
   have Xs:=ab Ep;generalize ((L[k] : Nat):Int)=x at *;clear hmd Vf U3 aal ZV Ep c1 yj yR;go_wp2_with fail;refine HMK.out.mono ?_
   rintro e w3 ⟨rfl,sA,lF⟩;have CC:=ab sA;have zN:=ab (Xs.out.trans lF);rw [show gC A none = .nilIface from rfl]
   clear sA lF HMK c2;go_wp2;go_roundw
   case rel=>exact ⟨k+1,by omega,by go_num,CC.out,zN.out⟩
   case measure=>simp [intOf];omega
  ·have dK:¬ (k:Int)<(n:Int):=by omega
   have nU:k=n:=by omega
   have bO:Below w1.heap.size w1 wr:=⟨Ep.os.trans bG.out.os,Ep.tape.trans bG.out.tape,Ep.output.trans bG.out.output,ar bG.out.size Ep.size,fun k hk=>(Ep.block k (aq hk bG.out.size) (by have h8:=VD.out;show ¬ k=mg;omega)).trans (bG.out.block k hk)⟩
   have h3:Os base A w0 wr ob db tb fb fg F d r T wv root tx l:=H1.out.below bO;have Ck:=ab (Yv.out.set bO 2 (.pointer (some ⟨mb,0,none⟩)));have z2:=h3.c.2.2.2.2.1;have y2:=h3.row.free 2;have H3:Hid (Os base A w0 (wr.setCell ⟨ob,2,none⟩ (.pointer (some ⟨mb,0,none⟩))) ob db tb mb mg F d r (iS (Q.T0 4000) L) wv root tx l):=by
    have rP:=H1.out.new HMB.out;have PL:=H1.out.new VD.out;have b8:=H1.out.env.size;have hT:L.take k=L:=al (by have:=R4.out;omega)
    rw [hT] at ZV;refine h3.set 2 (heap_setCell_same _ _ 2 _ _ _ h3.row) ⟨ZV,OV (Q.UL (by decide) (by decide)) L,⟨by have:=VD.out;omega,by have:=HMB.out;omega⟩,⟨PL.1,rP.1⟩,⟨PL.2.1,rP.2.1⟩⟩ ⟨rP.2.2.1.symm,PL.2.2.1.symm⟩ (fun i hi=>?_) h3.want fun k hk=>?_
    ·rw [ox,decide_eq_true (zP.out.mem_iff.2 hi),Bool.or_true]
    ·have h7:=h3.wn k hk;have h8:=(H1.out.want.dF k hk).2;exact ⟨h7.1,h7.2.1,h7.2.2.1,by have:=HMB.out;omega,by have:=VD.out;omega⟩
   clear ZV Ep h3 yR bO;go_wp2;rw [HQ.out];exact ⟨rfl,_,_,L,zP.out,H3.out,Ck.out⟩
end
structure Ob(base:Nat)(A:Nat→Addr)(w0 w:World)(ob db tb fb fg:Nat)(F:Nat→Prop)(d:S.V.bw)(rv:Value)(T:Nat→Bool)(wv:Value)(root tx:Nat)(l:List Pr):Prop where
 row:B.au w ob (kM db fb tb wv root tx) 65
 dv:Dv base A db F d w
 tr:B.au w tb #[.pointer (some ⟨db,0,none⟩),rv] 100
 mp:Mp base F tb w fb fg 4000 T
 env:Q.Env base A w
 want:ir w base wv l
 eZ:Below base w0 w
 ap:base≤ob∧¬ F ob∧ob≠tb∧ob≠fb∧ob≠fg
 wn:∀ k,wv.ownBlock=some k→¬ F k∧k≠tb∧k≠ob∧k≠fb∧k≠fg
 lo:base≤tb∧¬ F tb
theorem lz{base:Nat}{a b c:World}(h:Below base a b)(k:Below base b c):Below base a c:=⟨k.os.trans h.os,k.tape.trans h.tape,k.output.trans h.output,ar h.size k.size,fun i hi=>(k.block i hi).trans (h.block i hi)⟩
section
variable {base:Nat} {A:Nat→Addr} {w0:World} {ob db tb fb fg:Nat} {F:Nat→Prop} {d:S.V.bw} {r:cC} {T:Nat→Bool} {wv rv:Value} {root tx:Nat} {l:List Pr}
theorem Ob.os{w:World}(h:Ob base A w0 w ob db tb fb fg F d rv T wv root tx l)(hr:fK (cM d) w rv r)(cO:fc r)(jw:(eJ r).Nodup)(FG:∀ i ∈ eJ r,T i=true)(hpr:∀ i ∈ eJ r,2≤i∧i<4000)(hd:d.eX=[]∧d.aX=[]∧d.size=32000):Os base A w0 w ob db tb fb fg F d r T wv root tx l :=
 ⟨h.row,⟨h.dv,⟨rv,h.tr,hr⟩,cO,S.V.Step.refl _ _,h.lo⟩,h.mp,h.env,h.want,jw,FG,hpr,hd,h.eZ,h.ap,h.wn⟩
theorem Ob.step{w w1:World}{F1:Nat→Prop}{d1:S.V.bw}(h:Ob base A w0 w ob db tb fb fg F d rv T wv root tx l)(hs:S.V.Step F F1 w w1)(hv:Dv base A db F1 d1 w1):Ob base A w0 w1 ob db tb fb fg F1 d1 rv T wv root tx l:=by
 have hb:∀ k,k<w.heap.size→¬ F k→w1.heap[k]?=w.heap[k]?:=hs.block;have Tw:∀ k,k<w.heap.size→¬ F k→¬ F1 k:=fun k hk hf e=>(hs.sub k e).elim hf (by omega)
 have jz:Below base w w1:=(sR hs h.env.size h.dv.up).1;have m:=h.mp;have c1:=m.map.SW;have c2:=m.map.Rz;refine ⟨(hb ob h.row.lt h.ap.2.1).trans h.row,hv,(hb tb h.tr.lt h.lo.2).trans h.tr,⟨jL m.map (hb _ c1 m.nf.2) (hb _ c2 m.nf.1),m.ok,m.lo,⟨Tw _ c2 m.nf.1,Tw _ c1 m.nf.2⟩,m.nt⟩,h.env.keep jz,h.want.same fun k hk=>hb k (h.want.dF k hk).2 (h.wn k hk).1,lz h.eZ jz,⟨h.ap.1,Tw _ h.row.lt h.ap.2.1,h.ap.2.2⟩,fun k hk=>⟨Tw k (h.want.dF k hk).2 (h.wn k hk).1,(h.wn k hk).2⟩,h.lo.1,Tw _ h.tr.lt h.lo.2⟩
theorem Ob.St{w:World}(h:Ob base A w0 w ob db tb fb fg F d rv T wv root tx l)(wU:Nat):Ob base A w0 (w.setCell ⟨ob,5,none⟩ (.int .i64 (wU:Int))) ob db tb fb fg F d rv T wv wU tx l:=by
 have hs:=bJ.set ob 5 w (.int .i64 (wU:Int));have jz:Below base w (w.setCell ⟨ob,5,none⟩ (.int .i64 (wU:Int))):=⟨hs.os,hs.tape,hs.output,hs.size,fun k hk=>hs.block k (aq hk h.env.size) (by have:=h.ap.1;omega)⟩
 have m:=h.mp;refine ⟨heap_setCell_same _ _ 5 _ _ _ h.row,h.dv.tree h.ap.1 h.ap.2.1 5 _,(hs.block tb h.tr.lt h.ap.2.2.1.symm).trans h.tr,⟨jL m.map (hs.block _ m.map.SW h.ap.2.2.2.1.symm) (hs.block _ m.map.Rz h.ap.2.2.2.2.symm),m.ok,m.lo,m.nf,m.nt⟩,h.env.keep jz,h.want.same fun k hk=>hs.block k (h.want.dF k hk).2 (h.wn k hk).2.2.1,lz h.eZ jz,h.ap,h.wn,h.lo⟩
theorem Ob.c{w:World}(h:Ob base A w0 w ob db tb fb fg F d rv T wv root tx l):w.cell? ⟨ob,3,none⟩=some (.pointer (some ⟨tb,0,none⟩))∧w.cell? ⟨ob,1,none⟩=some (.pointer (some ⟨db,0,none⟩))∧w.cell? ⟨ob,5,none⟩=some (.int .i64 (root:Int))∧w.cell? ⟨ob,2,none⟩=some (.pointer (some ⟨fb,0,none⟩))∧w.cell? ⟨ob,6,none⟩=some (.int .u64 (tx:Int)) :=
 ⟨h.row.cell 3 (by simp [kM]),h.row.cell 1 (by simp [kM]),h.row.cell 5 (by simp [kM]),h.row.cell 2 (by simp [kM]),h.row.cell 6 (by simp [kM])⟩
theorem Os.YO{w:World}(h:Os base A w0 w ob db tb fb fg F d r T wv root tx l)(YG:Nat):Os base A w0 (w.setCell ⟨ob,6,none⟩ (.int .u64 (YG:Int))) ob db tb fb fg F d r T wv root YG l :=
 h.set 6 (heap_setCell_same _ _ 6 _ _ _ h.row) h.mp h.ap.2.2.2 h.pt h.want h.wn
theorem se{w:World}{tb:Nat}{q:Value}(r:cC)(ht:B.au w tb #[q,kH r] 100):Calls prog 20 #[.pointer (some ⟨tb,0,none⟩)] w fun e w'=>e = .returned (.int .i64 0)∧w=w':=by
 have c1:=ht.c1;clear ht;cases r with
 | none =>
  have Vn:w.cell? ⟨tb,1,none⟩=some .nilIface:=c1;have hq:=fun W=>oM W
  clear c1;go_enter func20,ntmps20;go_wp2;go_ret;exact ⟨rfl,rfl⟩
 | some x =>
  have Vn:w.cell? ⟨tb,1,none⟩=some (.iface 146 (.int .i64 (fy x.1 x.2:Int))):=c1;have hq:=fun W=>nA 146 (.int .i64 (fy x.1 x.2:Int)) W
  clear c1;go_enter func20,ntmps20;go_wp2_with fail;refine (xm _ w).mono ?_
  rintro e w1 ⟨rfl,rfl⟩;go_wp2;go_ret;exact ⟨rfl,rfl⟩
theorem Os.SG{w w1:World}{rv:Value}{T1:Nat→Bool}(h:Os base A w0 w ob db tb fb fg F d r T wv root tx l)(hm:Mp base F tb w1 fb fg 4000 T1)(ht:B.au w1 tb #[.pointer (some ⟨db,0,none⟩),rv] 100)(hv:Dv base A db F d w1)(hs:S.V.Step (fun k=>k=fg∨k=tb) (fun k=>k=fg∨k=tb) w w1):Ob base A w0 w1 ob db tb fb fg F d rv T1 wv root tx l:=by
 have hb:∀ k,k<w.heap.size→k≠fg→k≠tb→w1.heap[k]?=w.heap[k]?:=fun k hk h1 h2=>hs.block k hk (fun e=>e.elim h1 h2)
 have jz:Below base w w1:=(sR hs h.env.size (fun k hk=>by
  rcases hk with rfl | rfl
  ·exact h.mp.lo.1
  ·exact h.ts.lo.1)).1
 exact ⟨(hb ob h.row.lt h.ap.2.2.2.2 h.ap.2.2.1).trans h.row,hv,ht,hm,h.env.keep jz,h.want.same fun k hk=>hb k (h.want.dF k hk).2 (h.wn k hk).2.2.2.2 (h.wn k hk).2.1,lz h.eZ jz,h.ap,h.wn,h.ts.lo⟩
end
theorem oY:∀ (l:List S.Sh) (j:Nat) (h:j<l.length) (q:Nat),q<5→(Kr l)[j*5+q]?=(l[j]).cells[q]?
 | [],_,h,_,_=>absurd h (by simp)
 | x::r,0,_,q,hq=>by
  show (x.cells++Kr r)[0*5+q]?=x.cells[q]?
  rw [Nat.zero_mul,Nat.zero_add,bD (by simpa [S.Sh.cells] using hq)]
 | x::r,j+1,h,q,hq=>by
  show (x.cells++Kr r)[(j+1)*5+q]?=_
  have hl:x.cells.length=5:=rfl;rw [bf (by rw [hl];omega),hl,show (j+1)*5+q - 5=j*5+q by omega,oY r j (by simpa using h) q hq]
  rfl
theorem sD.cells{w:World}{base:Nat}{a:Option Addr}{n c:Nat}{L:List S.Sh}(h:sD w base (.slice a n c) L)(j:Nat)(hj:j<L.length):∃ g,a=some ⟨g,0,none⟩∧(base≤g∧g<w.heap.size)∧w.cell? ⟨g,j*5,none⟩=some (.int .i64 L[j].kind)∧w.cell? ⟨g,j*5+1,none⟩=some (.int .i64 L[j].id)∧w.cell? ⟨g,j*5+2,none⟩=some (.int .u64 (L[j].pG:Int))∧w.cell? ⟨g,j*5+3,none⟩=some (.int .i64 L[j].count)∧w.cell? ⟨g,j*5+4,none⟩=some (.string L[j].body):=by
 rcases h.2 with ⟨_,h0⟩ | ⟨g,cap,cur,h',hb,hg,_⟩
 ·omega
 ·simp only [Value.slice.injEq] at h';obtain ⟨rfl,rfl,rfl⟩:=h';have h:w.ownsRow base 87 5 (.slice (some ⟨g,0,none⟩) L.length c) L.length (Kr L):=h;refine ⟨g,rfl,⟨hb,(Array.getElem?_eq_some_iff.1 hg).1⟩,?_,?_,?_,?_,?_⟩
  ·rw [h.cellAt (j*5) (by omega)];exact oY L j hj 0 (by decide)
  ·rw [h.cellAt (j*5+1) (by omega)];exact oY L j hj 1 (by decide)
  ·rw [h.cellAt (j*5+2) (by omega)];exact oY L j hj 2 (by decide)
  ·rw [h.cellAt (j*5+3) (by omega)];exact oY L j hj 3 (by decide)
  ·rw [h.cellAt (j*5+4) (by omega)];exact oY L j hj 4 (by decide)
section
variable {base:Nat} {A:Nat→Addr} {w0:World} {ob db tb fb fg:Nat} {F:Nat→Prop} {d:S.V.bw} {r:cC} {T:Nat→Bool} {wv:Value} {root tx:Nat} {l:List Pr}
abbrev laid(T:Nat→Bool)(r:cC):cC:=(fH (eB (Q.eT T 4000 (dO r))) r).1
abbrev US(T:Nat→Bool)(r:cC)(tx:Nat):List S.Sh:=(fH (eB (Q.eT T 4000 (dO r))) r).2.map (gK tx)
def Fs(F:Nat→Prop)(tb ob fg:Nat)(w:World)(F1:Nat→Prop)(w':World):Prop:=w.heap.size≤w'.heap.size∧∀ k,k<w.heap.size→¬ F k→k≠tb→k≠ob→k≠fg→w'.heap[k]?=w.heap[k]?∧¬ F1 k
theorem Fs.step{F F1 F2:Nat→Prop}{tb ob fg:Nat}{w w1 w2:World}(h:Fs F tb ob fg w F1 w1)(hs:S.V.Step F1 F2 w1 w2):Fs F tb ob fg w F2 w2:=⟨ar h.1 hs.size,fun k hk a b c e=>by
 obtain ⟨h1,h2⟩:=h.2 k hk a b c e;exact ⟨(hs.block k (aq hk h.1) h2).trans h1,fun g=>(hs.sub k g).elim h2 (by have:=h.1;omega)⟩⟩
theorem Fs.fr{F F1:Nat→Prop}{db tb ob fg:Nat}{w w1 w2:World}(h:Fs F tb ob fg w F1 w1)(hd:F1 db)(hs:Fr db tb ob w1 w2):Fs F tb ob fg w F1 w2:=⟨ar h.1 hs.1,fun k hk a b c e=>by
 obtain ⟨h1,h2⟩:=h.2 k hk a b c e;exact ⟨(hs.2 k (aq hk h.1) (fun e=>h2 (e▸hd)) b c).trans h1,h2⟩⟩
theorem Fs.set{F F1:Nat→Prop}{tb ob fg:Nat}{w w1:World}(h:Fs F tb ob fg w F1 w1)(j:Nat)(u:Value):Fs F tb ob fg w F1 (w1.setCell ⟨ob,j,none⟩ u):=⟨ar h.1 (bJ.set ob j w1 u).size,fun k hk a b c e=>by
 obtain ⟨h1,h2⟩:=h.2 k hk a b c e;exact ⟨((bJ.set ob j w1 u).block k (aq hk h.1) c).trans h1,h2⟩⟩
structure Ib(base:Nat)(A:Nat→Addr)(w0 w:World)(ob db tb:Nat)(r:cC)(T:Nat→Bool)(wv:Value)(tx:Nat)(l:List Pr)(F0:Nat→Prop)(fg0:Nat)(wS:World):Prop where
 out:∃ (fb fg:Nat) (F:Nat→Prop) (d:S.V.bw) (L:List Nat),L.Perm (eJ (laid T r))∧Os base A w0 w ob db tb fb fg F d (laid T r) (iS (Q.T0 4000) L) wv (gI (laid T r)) (tx+1) l∧(∀ W,fK (cM d) W (kH (laid T r)) (laid T r))∧Fs F0 tb ob fg0 wS F w
theorem Lb:(fH (eB (Q.eT T 4000 (dO r))) r).2.length=dO r:=by
 cases r with
 | none=>rfl
 | some x=>exact nu x.1 x.2 0
theorem Au{w:World}(h:Os base A w0 w ob db tb fb fg F d r T wv root tx l)(hn:(aD r).length≤50000)(Ez:dO r≤(Q.dU T 4000).length)(RE:tx<1099511627776):Calls prog 26 #[.pointer (some ⟨ob,0,none⟩)] w fun e w'=>e = .returned (.bool true)∧Ib base A w0 w' ob db tb r T wv tx l F fg w:=by
 have tp:=kj h.ts.ok;have Il:=ab (iz h.ts (by omega))
 have P9:dO r≤100000:=by omega
 obtain ⟨rv0,_,Zz⟩:=h.ts.tr;obtain ⟨Qa,hpe,MX⟩:=C4 (tx:=tx+1) Zz h.ts.ok h.mp.ok Ez h.nd h.pt (by rw [h.lx.2.1];intro x hx;simp at hx) h.lx.2.2 (by omega)
 have hlen:(US T r (tx+1)).length=dO r:=by rw [az];exact Lb
 obtain ⟨vi,FL⟩:=qz h.mp.ok Ez h.nd h.pt;have Tz:=BI (P:=eB (Q.eT T 4000 (dO r))) h.ts.ok;have U4:=AE FL (fun j=>by have:=np (n:=dO r) h.mp.ok j;omega)
 have HPT:Hid (∀ i ∈ eJ (laid T r),Q.gl T (Q.eT T 4000 (dO r)) i=true∧2≤i∧i<4000):=fun i hi=>by
  have hi:=U4.mem_iff.1 hi;have hk:=h.mp.ok;rcases List.mem_append.1 hi with hi | hi
  ·exact ⟨by simp [Q.gl,h.pt i hi],h.pr i hi⟩
  ·have h1:=Q.rE hi;refine ⟨by simp [Q.gl,hi],?_,h1.1⟩
   rcases a8 i 2 with hx | hx
   ·have:i=0∨i=1:=by omega
    rcases this with rfl | rfl
    ·rw [hk.t0] at h1;cases h1.2
    ·rw [hk.t1] at h1;cases h1.2
   ·exact hx
 obtain ⟨Z,hZ⟩ : ∃ Z,Z=US T r (tx+1):=⟨_,rfl⟩;obtain ⟨R,hR⟩ : ∃ R,R=laid T r:=⟨_,rfl⟩;have hpd:=fun (n:Nat)=>lM (d:=d) (Z.take n).length (Z.take n) rfl
 have afj:Hid (∀ s ∈ Z,QU d.size s):=by rw [hZ];exact Qa
 have VC:Hid (∀ k,(eP d (Z.take k)).aX.length≤1000000∧(eP d (Z.take k)).eX=[]∧(eP d (Z.take k)).size=d.size):=fun k=>by
  obtain ⟨a1,a2,a3,a4,a5⟩:=hpd k;have:(Z.take k).length≤dO r:=by rw [ag,← hlen,hZ];omega
  exact ⟨by rw [a4,h.lx.2.1];simp only [List.length_nil];omega,by rw [a2];exact h.lx.1,a1⟩
 have aeD:Hid ((nJ (eP d Z)).eX=[]∧(nJ (eP d Z)).aX=[]∧(nJ (eP d Z)).size=32000):=by
  obtain ⟨a1,a2,a3,a4,a5⟩:=lM (d:=d) Z.length Z rfl;exact ⟨by show (eP d Z).eX=[];rw [a2];exact h.lx.1,rfl,by show (eP d Z).size=32000;rw [a1];exact h.lx.2.2⟩
 have Ng:Hid (∀ W,fK (cM (nJ (eP d Z))) W (kH R) R):=by rw [hZ,hR];exact MX
 have hlZ:Z.length=dO r:=by rw [hZ];exact hlen
 have aa7:Hid (fc R∧aD R=aD r∧(eJ R).Nodup):=by rw [hR];exact ⟨Tz.1,Tz.2,vi⟩
 have Vv:=ab (h.YO (tx+1));have pS:Hid (∀ W,Below (w.setCell ⟨ob,6,none⟩ (.int .u64 ((tx+1:Nat):Int))).heap.size (w.setCell ⟨ob,6,none⟩ (.int .u64 ((tx+1:Nat):Int))) W→Calls prog 35 #[.pointer (some ⟨tb,0,none⟩),.pointer (some ⟨fb,0,none⟩),.int .u64 ((tx:Int)+1)] W fun e w'=>∃ sv,e = .returned (.tuple #[sv,.int .i64 (gI R:Int),.nilIface])∧(sD w' base sv Z∧∀ g,sv.ownBlock=some g→¬ F g)∧Ob base A w0 w' ob db tb fb fg F d (kH R) (Q.gl T (Q.eT T 4000 (dO r))) wv root (tx+1) l∧Fs F tb ob fg w F w'):=fun W hW=>by
  have h1:=Vv.out.below hW;have hp:=xl (tx:=tx+1) h1.ts h1.env h1.mp Ez (by omega) h1.nd h1.pt
  rw [eA,kA] at hp;refine hp.mono ?_
  rintro e w' ⟨sv,rfl,ho,hm,ht,hv,hs⟩;rw [hZ,hR];refine ⟨sv,rfl,⟨ho.lower h1.env.size,fun g hg=>(h1.new (ho.dF hg).1).1⟩,h1.SG hm ht hv hs,?_⟩
  have s6:=bJ.set ob 6 w (.int .u64 ((tx+1:Nat):Int));refine ⟨ar s6.size (ar hW.size hs.size),fun k hk a b c e=>⟨?_,a⟩⟩
  have jx:=aq hk s6.size;exact (hs.block k (aq jx hW.size) (fun x=>x.elim e b)).trans ((hW.block k jx).trans (s6.block k hk c))
 have HTI:Hid (∀ (w:World) (fb fg:Nat) (F:Nat→Prop) (d:S.V.bw) (T1:Nat→Bool) (wv:Value) (root tx:Nat),Os base A w0 w ob db tb fb fg F d R T1 wv root tx l→Calls prog 64 #[.pointer (some ⟨ob,0,none⟩)] w fun e w'=>e = .returned (.bool true)∧∃ LN Na L,L.Perm (eJ R)∧Os base A w0 w' ob db tb LN Na F d R (iS (Q.T0 4000) L) wv root tx l∧Fr db tb ob w w'):=fun w fb fg F d T1 wv root tx ho=>Oz ho (by rw [hR,Tz.2];omega)
 have p3:=h.c.1;have p6:=h.c.2.2.2.2.2.2;have y6:=h.row.free 6;have q6:=Vv.out.c.2.2.2.2.2.2;have q3:=Vv.out.c.1;have q2:=Vv.out.c.2.2.2.2.1;rw [eA,kA] at q6 q3 q2;rw [eA,kA] at pS;rw [← hR] at HPT;have HR:=ab hR;obtain ⟨N,hN⟩ : ∃ N,N=dO r:=⟨_,rfl⟩;rw [← hN] at Il hlZ P9;have hNI:(Z.length:Int)=(N:Int):=by rw [hlZ]
 have akb:=ab h.lx;clear h hn Ez tp Qa hpe MX Zz hlen vi FL Tz U4 hZ hR hpd hN;obtain ⟨Q0,BW⟩ : ∃ Q0:Ending→World→Prop,Q0=fun e w'=>e = .returned (.bool true)∧Ib base A w0 w' ob db tb r T wv tx l F fg w:=⟨_,rfl⟩
 rw [← BW];have HQ:=ab BW;clear BW;have htb:(tx:Int)+1<18446744073709551616:=by omega
 go_enter func26,ntmps26;go_wp2_with fail;refine Il.out.mono ?_
 rintro e w1' ⟨rfl,rfl⟩;go_wp2_with fail;go_region_held3 (fun w'=>w'.cell? ⟨ob,3,none⟩=some (.pointer (some ⟨tb,0,none⟩))∧w'.cell? ⟨ob,2,none⟩=some (.pointer (some ⟨fb,0,none⟩))∧w'.cell? ⟨ob,6,none⟩=some (.int .u64 ((tx:Int)+1))) (go_keep)
  (first
   | (go_at_call 35;refine (pS.out _ ?_).mono ?_;(first | exact (Below.refl _ _).drew | exact aA (Below.refl _ _) _);rintro e w2 ⟨sv,rfl,⟨ja,PL⟩,aS,Ha⟩;have HFS:=ab Ha;obtain ⟨sa,sc,rfl⟩:=ja.form;rw [hlZ] at ja PL ⊢;have jE:=ab ja;have HNG:=ab PL;have bG:=ab aS;have m3:=aS.c.1;have m2:=aS.c.2.2.2.1;have m6:=aS.c.2.2.2.2;rw [eA,kA] at m6;clear ja aS PL Ha))
 all_goals
  clear p3 p6 y6 q6 q3 q2 pS Il Vv m2 m6;go_wp2_with fail;refine (se R bG.out.tr).mono ?_
  rintro e w3 ⟨rfl,rfl⟩;clear m3;go_wp2;go_loopw [7] (fun iv wr=>∃ (k:Nat) (F1:Nat→Prop),k≤N∧iv = .int .i64 (k:Int)∧Ob base A w0 wr ob db tb fb fg F1 (eP d (Z.take k)) (kH R) (Q.gl T (Q.eT T 4000 (dO r))) wv root (tx+1) l∧sD wr base (.slice sa N sc) Z∧(∀ g,(Value.slice sa N sc).ownBlock=some g→¬ F1 g)∧Fs F tb ob fg w F1 wr) (fun iv _=>N - (intOf iv).toNat)
  case atStart=>exact ⟨0,F,aB _,rfl,bG.out,jE.out,HNG.out,HFS.out⟩
  case round =>
   obtain ⟨k,F1,hk,rfl,zC,AM,PL,hfs⟩:=hrel;by_cases bK:k<N
   ·have de:k<Z.length:=by omega
    obtain ⟨g,rfl,yj,h0,h1,h2,h3,h4⟩:=AM.cells k de;have gP:Hid (∀ W,Below wr.heap.size wr W→Calls prog 62 #[.pointer (some ⟨db,0,none⟩),.agg #[.int .i64 Z[k].kind,.int .i64 Z[k].id,.int .u64 (Z[k].pG:Int),.int .i64 Z[k].count,.string Z[k].body]] W fun e w'=>e = .returned .nilIface∧∃ F2,Ob base A w0 w' ob db tb fb fg F2 (eP d (Z.take (k+1))) (kH R) (Q.gl T (Q.eT T 4000 (dO r))) wv root (tx+1) l∧sD w' base (.slice (some ⟨g,0,none⟩) N sc) Z∧(∀ k,(Value.slice (some ⟨g,0,none⟩) N sc).ownBlock=some k→¬ F2 k)∧(∀ o u,wr.cell? ⟨g,o,none⟩=some u→w'.cell? ⟨g,o,none⟩=some u)∧Fs F tb ob fg w F2 w'):=fun W hW=>by
     have ZK:=zC.step (S.V.Step.bo hW) (zC.dv.below hW);have fI:=afj.out Z[k] (aI de);have G3:=VC.out k;refine (NS Z[k] ZK.dv fI.1 fI.2.1 (by rw [G3.2.2];exact fI.2.2) G3.1 G3.2.1).mono ?_
     rintro e w' ⟨rfl,F2,kD,jv⟩;have hgn:¬ F1 g:=PL g rfl;have hgW:g<W.heap.size:=aq yj.2 hW.size;have il:w'.heap[g]?=wr.heap[g]?:=(jv.block g hgW hgn).trans (hW.block g yj.2);refine ⟨rfl,F2,?_,?_,?_,fun o u hu=>bL il hu,(hfs.step (S.V.Step.bo hW)).step jv⟩
     ·rw [ax de,qo];exact ZK.step jv kD
     ·refine AM.same fun j hj=>?_
      have hj:g=j:=by simpa [Value.ownBlock] using hj
      subst hj;exact il
     ·intro j hj;have hj:g=j:=by simpa [Value.ownBlock] using hj
      subst hj;exact fun e=>(jv.sub g e).elim hgn (by omega)
    have p1:=zC.c.2.1;have dK:(k:Int)<(N:Int):=by omega
    have j0:(0:Int)≤(k:Int):=by omega
    obtain ⟨x,hx⟩ : ∃ x,x=Z[k]:=⟨_,rfl⟩;rw [← hx] at h0 h1 h2 h3 h4 gP;obtain ⟨xk,xi,xt,xc,xb⟩:=x;simp only at h0 h1 h2 h3 h4 gP;clear hx AM zC PL hfs;go_wp2_with fail;go_region_held3 (fun w'=>w'.cell? ⟨ob,1,none⟩=some (.pointer (some ⟨db,0,none⟩))∧w'.cell? ⟨g,k*5,none⟩=some (.int .i64 xk)∧w'.cell? ⟨g,k*5+1,none⟩=some (.int .i64 xi)∧w'.cell? ⟨g,k*5+2,none⟩=some (.int .u64 (xt:Int))∧w'.cell? ⟨g,k*5+3,none⟩=some (.int .i64 xc)∧w'.cell? ⟨g,k*5+4,none⟩=some (.string xb)) (go_keep)
     (first
      | (go_at_call 62;refine (gP.out _ ?_).mono ?_;(first | exact (Below.refl _ _).drew | exact aA (Below.refl _ _) _);rintro e w4 ⟨rfl,F2,Wv,Zr,ZQ,FJ,Ha⟩;have ae7:=ab Ha;have n0:=FJ _ _ h0;have n1:=FJ _ _ h1;have n2:=FJ _ _ h2;have n3:=FJ _ _ h3;have n4:=FJ _ _ h4;have zM:=ab Wv;have Fv:=ab Zr;have aeO:=ab ZQ;have m1:=Wv.c.2.1;clear Wv Zr ZQ FJ Ha))
    all_goals
     clear h0 h1 h2 h3 h4 n0 n1 n2 n3 n4 m1 p1 gP;go_wp2;go_roundw
     case rel=>exact ⟨k+1,F2,by omega,by go_num,zM.out,Fv.out,aeO.out,ae7.out⟩
     case measure=>simp [intOf];omega
   ·have dK:¬ (k:Int)<(N:Int):=by omega
    have hT:Z.take k=Z:=al (by omega)
    have G3:=VC.out k;rw [hT] at zC G3;have HSY:=ab (Sk zC.dv G3.1 G3.2.1);have zM:=ab zC;have p1:=zC.c.2.1;have ae6:=ab hfs;clear zC AM PL G3 hfs;go_wp2_with fail;refine HSY.out.mono ?_
    rintro e w5 ⟨rfl,F3,yV,PC⟩;have Es:=zM.out.step PC yV;have z5:=Es.c.2.2.1;have y5:=Es.row.free 5;have X3:=(Es.St (gI R)).os (Ng.out _) aa7.out.1 aa7.out.2.2 (fun i hi=>(HPT.out i hi).1) (fun i hi=>(HPT.out i hi).2) aeD.out
    have ae5:=ab ((ae6.out.step PC).set 5 (.int .i64 (gI R:Int)));have HTD:=ab (HTI.out _ _ _ _ _ _ _ _ _ X3);clear Es X3 yV PC HSY p1;go_wp2_with fail;refine HTD.out.mono ?_
    rintro e w6 ⟨rfl,LN,Na,L,hL,ho,Ez⟩;have HE:Hid (Ib base A w0 w6 ob db tb r T wv tx l F fg w):=by
     have adH:=ae5.out.fr ho.ts.dv.own Ez;have e:=HR.out;have h9:=Ng.out;rw [e] at hL ho h9;exact ⟨LN,Na,F3,_,L,hL,ho,h9,adH⟩
    clear hL ho HTD z5 y5 Ez;go_wp2;rw [HQ.out];exact ⟨rfl,HE.out⟩
end
end T
end Go.Proofs.YtihmgigfkmofnaaGreatDoor
