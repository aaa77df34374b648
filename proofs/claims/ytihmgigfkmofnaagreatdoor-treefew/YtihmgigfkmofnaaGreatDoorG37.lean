import Derived.Test.YtihmgigfkmofnaaGreatDoorG36
set_option maxHeartbeats 8000000
set_option maxRecDepth 100000
open Go.Proofs.Tryz
namespace Go.Proofs.YtihmgigfkmofnaaGreatDoor
namespace T
open Go.RowKit
def nD(db fb tb:Nat)(wv:Value)(root tx:Nat):Array Value:=#[.int .i64 4000,.pointer (some ⟨db,0,none⟩),.pointer (some ⟨fb,0,none⟩),.pointer (some ⟨tb,0,none⟩),wv,.int .i64 (root:Int),.int .u64 (tx:Int)]
structure Os(base:Nat)(A:Nat→Addr)(w0 w:World)(ob db tb fb fg:Nat)(F:Nat→Prop)(d:S.V.bD)(r:cT)(T:Nat→Bool)(wv:Value)(root tx:Nat)(l:List Pr):Prop where
 row:B.au w ob (nD db fb tb wv root tx) 65
 ts:Ts base A db F d w w tb r
 mp:Mp base F tb w fb fg 4000 T
 env:Q.Env base A w
 want:iU w base wv l
 nd:(bz r).Nodup
 pt:∀ i ∈ bz r,T i=true
 pr:∀ i ∈ bz r,2≤i∧i<4000
 kS:d.eQ=[]∧d.aS=[]∧d.size=32000
 ff:Below base w0 w
 ap:base≤ob∧¬ F ob∧ob≠tb∧ob≠fb∧ob≠fg
 wn:∀ k,wv.ownBlock=some k→¬ F k∧k≠tb∧k≠ob∧k≠fb∧k≠fg
theorem _root_.Go.Proofs.YtihmgigfkmofnaaGreatDoor.iU.same{w w':World}{base:Nat}{v:Value}{l:List Pr}(h:iU w base v l)(hb:∀ k,v.ownBlock=some k→w'.heap[k]?=w.heap[k]?):iU w' base v l:=by
 refine ⟨h.1,?_⟩;rcases h.2 with h' | ⟨g,cap,cur,rfl,h1,h2,hr⟩
 ·exact .inl h'
 ·exact .inr ⟨g,cap,cur,rfl,h1,(hb g rfl).trans h2,hr⟩
theorem iZ{v:Value}{w:World}{base:Nat}{l:List Pr}(h:iU w base v l):∃ a n c,v = .slice a n c:=by
 obtain ⟨a,c,h⟩:=h.form;exact ⟨a,_,c,h⟩
section
variable {base:Nat} {A:Nat→Addr} {w0:World} {ob db tb fb fg:Nat} {F:Nat→Prop} {d:S.V.bD} {r:cT} {T:Nat→Bool} {wv:Value} {root tx:Nat} {l:List Pr}
theorem Os.tree{w w1:World}{r1:cT}(h:Os base A w0 w ob db tb fb fg F d r T wv root tx l)(h1:Ts base A db F d w w1 tb r1)(hs:(bz r1).Sublist (bz r)):Os base A w0 w1 ob db tb fb fg F d r1 T wv root tx l:=by
 have st:=h1.st;have hb:∀ k,k<w.heap.size→¬ F k→k≠tb→w1.heap[k]?=w.heap[k]?:=fun k hk hf ht=>st.block k hk (fun e=>e.elim hf ht)
 have jJ:Below base w w1:=⟨st.os,st.tape,st.output,st.size,fun k hk=>hb k (al hk h.env.size) (fun e=>by have:=h.ts.dv.up k e;omega) (by have:=h.ts.lo.1;omega)⟩
 have m:=h.mp;refine ⟨(hb ob h.row.lt h.ap.2.1 h.ap.2.2.1).trans h.row,⟨h1.dv,h1.tr,h1.ok,S.V.Step.refl _ _,h1.lo⟩,⟨kB m.map (hb _ m.map.TR m.nf.2 m.nt.2) (hb _ m.map.TQ m.nf.1 m.nt.1),m.ok,m.lo,m.nf,m.nt⟩,h.env.keep jJ,h.want.same fun k hk=>hb k (h.want.dy k hk).2 (h.wn k hk).1 (h.wn k hk).2.1,h.nd.sublist hs,fun i hi=>h.pt i (hs.subset hi),fun i hi=>h.pr i (hs.subset hi),h.kS,⟨jJ.os.trans h.ff.os,jJ.tape.trans h.ff.tape,jJ.output.trans h.ff.output,aq h.ff.size jJ.size,fun k hk=>(jJ.block k hk).trans (h.ff.block k hk)⟩,h.ap,h.wn⟩
theorem Os.below{w w1:World}(h:Os base A w0 w ob db tb fb fg F d r T wv root tx l)(hb:Below w.heap.size w w1):Os base A w0 w1 ob db tb fb fg F d r T wv root tx l:=h.tree (h.ts.below hb) (List.Sublist.refl _)
theorem RX{w:World}{db fb tb ob:Nat}{wv:Value}{root tx:Nat}(h:B.au w ob (nD db fb tb wv root tx) 65)(hv:∃ a n c,wv = .slice a n c):Tp w ob:=by
 obtain ⟨a,n,c,rfl⟩:=hv;refine ⟨fun j u hc=>?_,fun cs fr e=>?_,fun cs fr e=>?_⟩
 ·rw [cell_of_row w _ j _ _ _ h] at hc;obtain ⟨h3,h4⟩:=Array.getElem?_eq_some_iff.1 hc;have hu:u ∈ (nD db fb tb (.slice a n c) root tx).toList:=by rw [← h4];exact gG h3
  simp only [nD,dG,dx,or_false] at hu;rcases hu with rfl | rfl | rfl | rfl | rfl | rfl | rfl <;> exact ⟨(fun s e=>by cases e),(fun t x e=>by cases e)⟩
 ·have h':w.heap[ob]?=_:=h;rw [h'] at e;simp at e
 ·have h':w.heap[ob]?=_:=h;rw [h'] at e;simp at e
theorem Os.set{w:World}{Li MB wR XG:Nat}{T':Nat→Bool}{Cq u:Value}{l':List Pr}(j:Nat)(h:Os base A w0 w ob db tb fb fg F d r T wv root tx l)(bV:B.au (w.setCell ⟨ob,j,none⟩ u) ob (nD db Li tb Cq wR XG) 65)(hm:Mp base F tb w Li MB 4000 T')(ho:ob≠Li∧ob≠MB)(Fz:∀ i ∈ bz r,T' i=true)(hw:iU w base Cq l')(OK:∀ k,Cq.ownBlock=some k→¬ F k∧k≠tb∧k≠ob∧k≠Li∧k≠MB):Os base A w0 (w.setCell ⟨ob,j,none⟩ u) ob db tb Li MB F d r T' Cq wR XG l':=by
 have hs:=bK.set ob j w u;have ha:dd w (w.setCell ⟨ob,j,none⟩ u):=⟨hs.size,fun k hk=>by
  by_cases e:k=ob
  ·exact .inr (e▸RX h.row (iZ h.want))
  ·exact .inl (hs.block k hk e)⟩
 obtain ⟨rv,t1,t2⟩:=h.ts.tr;have jJ:Below base w (w.setCell ⟨ob,j,none⟩ u):=⟨hs.os,hs.tape,hs.output,hs.size,fun k hk=>hs.block k (al hk h.env.size) (by have:=h.ap.1;omega)⟩
 refine ⟨bV,⟨h.ts.dv.tree h.ap.1 h.ap.2.1 j u,⟨rv,dz ha t1,t2.cx ha⟩,h.ts.ok,S.V.Step.refl _ _,h.ts.lo⟩,⟨kB hm.map (hs.block _ hm.map.TR ho.1.symm) (hs.block _ hm.map.TQ ho.2.symm),hm.ok,hm.lo,hm.nf,hm.nt⟩,h.env.keep jJ,hw.same fun k hk=>hs.block k (hw.dy k hk).2 (OK k hk).2.2.1,h.nd,Fz,h.pr,h.kS,⟨jJ.os.trans h.ff.os,jJ.tape.trans h.ff.tape,jJ.output.trans h.ff.output,aq h.ff.size jJ.size,fun k hk=>(jJ.block k hk).trans (h.ff.block k hk)⟩,⟨h.ap.1,h.ap.2.1,h.ap.2.2.1,ho.1,ho.2⟩,OK⟩
theorem Os.ID{w:World}{u:Value}{l':List Pr}(h:Os base A w0 w ob db tb fb fg F d r T wv root tx l)(hw:iU w base u l')(OK:∀ k,u.ownBlock=some k→¬ F k∧k≠tb∧k≠ob∧k≠fb∧k≠fg):Os base A w0 (w.setCell ⟨ob,4,none⟩ u) ob db tb fb fg F d r T u root tx l' :=
 h.set 4 (heap_setCell_same _ _ 4 _ _ _ h.row) h.mp h.ap.2.2.2 h.pt hw OK
theorem Os.new{w:World}{k:Nat}(h:Os base A w0 w ob db tb fb fg F d r T wv root tx l)(hk:w.heap.size≤k):¬ F k∧k≠tb∧k≠ob∧k≠fb∧k≠fg:=by
 obtain ⟨rv,t1,_⟩:=h.ts.tr;obtain ⟨d',_,hd⟩:=h.ts.dv.dev;have:=t1.lt;have:=h.row.lt;have:=h.mp.map.TR;have:=h.mp.map.TQ;exact ⟨fun e=>by have:=hd.lt k e;omega,by omega,by omega,by omega,by omega⟩
theorem Os.c{w:World}(h:Os base A w0 w ob db tb fb fg F d r T wv root tx l):w.cell? ⟨ob,3,none⟩=some (.pointer (some ⟨tb,0,none⟩))∧w.cell? ⟨ob,4,none⟩=some wv∧w.cell? ⟨ob,0,none⟩=some (.int .i64 4000)∧w.cell? ⟨ob,1,none⟩=some (.pointer (some ⟨db,0,none⟩))∧w.cell? ⟨ob,2,none⟩=some (.pointer (some ⟨fb,0,none⟩))∧w.cell? ⟨ob,5,none⟩=some (.int .i64 (root:Int))∧w.cell? ⟨ob,6,none⟩=some (.int .u64 (tx:Int)) :=
 ⟨h.row.cell 3 (by simp [nD]),h.row.cell 4 (by simp [nD]),h.row.cell 0 (by simp [nD]),h.row.cell 1 (by simp [nD]),h.row.cell 2 (by simp [nD]),h.row.cell 5 (by simp [nD]),h.row.cell 6 (by simp [nD])⟩
theorem oe(l:List Pr)(key value:ByteArray):(eT l key value).length≤l.length+1:=by
 have:=eP l key;have:=cW l key;unfold eT;rw [ae,ag,List.length_cons,ao];omega
theorem tR(l:List Pr)(key:ByteArray):(cX l key).length≤l.length:=by
 have:=eP l key;have:=cW l key;unfold cX;rw [ae,ag,ao];omega
def Fr(F:Nat→Prop)(tb ob:Nat)(w w':World):Prop:=w.heap.size≤w'.heap.size∧∀ k,k<w.heap.size→¬ F k→k≠tb→k≠ob→w'.heap[k]?=w.heap[k]?
theorem vZ{F:Nat→Prop}{tb ob:Nat}{w w1:World}(h:S.V.Step (fun k=>F k∨k=tb) (fun k=>F k∨k=tb) w w1):Fr F tb ob w w1:=⟨h.size,fun k hk h1 h2 _=>h.block k hk (fun e=>e.elim h1 h2)⟩
theorem Fr.set{F:Nat→Prop}{tb ob:Nat}{w w1 w2:World}(h:Fr F tb ob w w1)(hb:Below w1.heap.size w1 w2)(j:Nat)(u:Value):Fr F tb ob w (w2.setCell ⟨ob,j,none⟩ u):=⟨aq h.1 (aq hb.size (bK.set ob j w2 u).size),fun k hk h1 h2 h3=>((bK.set ob j w2 u).block k (al (al hk h.1) hb.size) h3).trans ((hb.block k (al hk h.1)).trans (h.2 k hk h1 h2 h3))⟩
theorem Fr.trans{F:Nat→Prop}{tb ob:Nat}{w w1 w2:World}(h:Fr F tb ob w w1)(k:Fr F tb ob w1 w2):Fr F tb ob w w2:=⟨aq h.1 k.1,fun i hi a b c=>(k.2 i (al hi h.1) a b c).trans (h.2 i hi a b c)⟩
theorem Ex{F:Nat→Prop}{tb ob:Nat}{w w1:World}(h:Below w.heap.size w w1):Fr F tb ob w w1:=⟨h.size,fun i hi _ _ _=>h.block i hi⟩
theorem l6{db:Nat}{F:Nat→Prop}{tb ob:Nat}{w w1:World}(h:Mv db F w w1):Fr F tb ob w w1:=⟨h.size,fun i hi a _ _=>h.step.block i hi a⟩
theorem IW{w:World}(key value:ByteArray)(h:Os base A w0 w ob db tb fb fg F d r T wv root tx (aP r))(hn:(aP r).length≤1000000)(ep:key.size≤140737488355328)(TX:value.size≤140737488355328):Calls prog 10 #[.pointer (some ⟨ob,0,none⟩),.string key,.string value] w fun e w'=>e = .returned (.bool true)∧∃ r' Cq,((cF (key,value)=true∧pQ key (fun l=>eT l key value) r r')∨(¬ cF (key,value)=true∧r'=r))∧Os base A w0 w' ob db tb fb fg F d r' T Cq root tx (aP r')∧Fr F tb ob w w':=by
 have HP:=ab (Kj key value h.ts (by omega) ep TX)
 have zk:=ab (l9 key value w ep TX);have p3:=h.c.1;have H:=ab h;have HN:=ab hn;clear h hn;by_cases hm:cF (key,value)=true
 ·rw [hm] at zk;have HM:=ab hm;clear hm;go_enter func10,ntmps10;go_wp2_with fail;refine zk.out.mono ?_
  rintro e w' ⟨rfl,rfl⟩;go_wp2_with fail;refine HP.out.mono ?_
  rintro e w1 (⟨_,rfl,r',hu,ht⟩ | ⟨hm,_⟩)
  rotate_left
  ·exact absurd HM.out hm
  have h1:=H.out.tree ht (rG hu);have kU:=(km (ll HM.out) H.out.ts.ok hu).2;obtain ⟨a,c,mQ⟩:=h1.want.form;have p4:=h1.c.2.1;have HW:=ab (KP wv (aP r) key value w1 (by have:=HN.out;omega) h1.want.at)
  have H1:=ab h1;have HU:=ab hu;have MI:=ab kU;have gN:=ab ht.st;subst mQ;clear ht h1 hu kU p3 HP zk;go_wp2_with fail;refine HW.out.mono ?_
  rintro e w2 ⟨u,rfl,ho,hb⟩;have h2:=H1.out.below hb;have hfm:=iZ ho;have z4:=h2.c.2.1;have y4:=h2.row.free 4;have H3:Hid (Os base A w0 (w2.setCell ⟨ob,4,none⟩ u) ob db tb fb fg F d r' T u root tx (aP r')):=by
   rw [MI.out];exact h2.ID (ho.mono (H1.out.env.size)) fun k hk=>H1.out.new (ho.dy k hk).1
  have TD:=ab ((vZ (ob:=ob) gN.out).set hb 4 u);clear h2 ho hb p4 HW;obtain ⟨ua,un,uc,rfl⟩:=hfm;go_wp2;go_ret;exact ⟨rfl,r',_,.inl ⟨HM.out,HU.out⟩,H3.out,TD.out⟩
 ·have O6:cF (key,value)=false:=by simpa using hm
  rw [O6] at zk;have HM:=ab hm;clear hm O6;go_enter func10,ntmps10;go_wp2_with fail;refine zk.out.mono ?_
  rintro e w' ⟨rfl,rfl⟩;go_wp2_with fail;refine HP.out.mono ?_
  rintro e w1 (⟨hm,_⟩ | ⟨_,rfl,ht⟩)
  ·exact absurd hm HM.out
  have h1:=H.out.tree ht (List.Sublist.refl _);have HNU:=ab (BD A w1 h1.ts.dv.errs);have H1:=ab h1;have TD:=ab (vZ (ob:=ob) ht.st);clear ht h1 p3 HP zk;go_wp2_with fail;refine HNU.out.mono ?_
  rintro e w2 ⟨rfl,rfl⟩;go_wp2;go_ret;exact ⟨rfl,r,_,.inr ⟨HM.out,rfl⟩,H1.out,TD.out⟩
end
section
variable {base:Nat} {A:Nat→Addr} {w0:World} {ob db tb fb fg:Nat} {F:Nat→Prop} {d:S.V.bD} {r:cT} {T:Nat→Bool} {wv:Value} {root tx:Nat} {l:List Pr}
theorem N3{w:World}(key:ByteArray)(h:Os base A w0 w ob db tb fb fg F d r T wv root tx (aP r))(hn:(aP r).length≤1000000)(ep:key.size≤140737488355328):Calls prog 22 #[.pointer (some ⟨ob,0,none⟩),.string key] w fun e w'=>e = .returned (.bool true)∧∃ r' Cq,((cF (key,⟨#[]⟩)=true∧bq (aP r) key=true∧pQ key (fun l=>cX l key) r r')∨(¬ (cF (key,⟨#[]⟩)=true∧bq (aP r) key=true)∧r'=r))∧Os base A w0 w' ob db tb fb fg F d r' T Cq root tx (aP r')∧Fr F tb ob w w':=by
 have HP:=ab (LA key h.ts (by omega) ep)
 have zk:=ab (fun W=>l9 key ⟨#[]⟩ W ep (by simp [ByteArray.size]))
 have p3:=h.c.1;have H:=ab h;have HN:=ab hn;clear h hn;by_cases hm:cF (key,⟨#[]⟩)=true
 ·rw [hm] at zk;have HM:=ab hm;clear hm;go_enter func22,ntmps22;go_wp2_with fail;refine HP.out.mono ?_
  rintro e w1 (⟨_,rfl,lY⟩ | ⟨hm,_⟩)
  rotate_left
  ·exact absurd HM.out hm
  have h1:∃ r',((bq (aP r) key=true∧pQ key (fun l=>cX l key) r r')∨(bq (aP r) key=false∧r'=r))∧aP r'=cX (aP r) key∧Os base A w0 w1 ob db tb fb fg F d r' T wv root tx (aP r)∧S.V.Step (fun k=>F k∨k=tb) (fun k=>F k∨k=tb) w w1:=by
   rcases lY with ⟨hf,r',hu,ht⟩ | ⟨hf,ht⟩
   ·exact ⟨r',.inl ⟨hf,hu⟩,(km (fit_drop key) H.out.ts.ok hu).2,H.out.tree ht (rG hu),ht.st⟩
   ·exact ⟨r,.inr ⟨hf,rfl⟩,(yr hf).symm,H.out.tree ht (List.Sublist.refl _),ht.st⟩
  obtain ⟨r',fG,kU,h1,Yf⟩:=h1;have gN:=ab Yf;obtain ⟨a,c,mQ⟩:=h1.want.form;have p4:=h1.c.2.1;have Fe:=ab (jx wv (aP r) key w1 (by have:=HN.out;omega) h1.want.at)
  have FI:=ab fG;have MI:=ab kU;have H1:=ab h1;have Xs:=ab (zk.out w1);subst mQ;clear lY fG kU h1 p3 HP zk Yf;go_wp2_with fail;refine Xs.out.mono ?_
  rintro e w1' ⟨rfl,rfl⟩;go_wp2_with fail;refine Fe.out.mono ?_
  rintro e w1' ⟨rfl,k,rfl⟩;have h2:=H1.out.below (aB (Below.refl _ _) k);have q4:=h2.c.2.1;have HW:=ab (BM (.slice a (aP r).length c) (aP r) key (w1.drewN k) (by have:=HN.out;omega) h2.want.at)
  have H2:=ab h2;clear h2 p4 Fe Xs;go_wp2_with fail;refine HW.out.mono ?_
  rintro e w2 ⟨lY,hb⟩;have h3:=H2.out.below hb;have z4:=h3.c.2.1;have y4:=h3.row.free 4;have OU:∃ ua un uc,e = .returned (.slice ua un uc)∧iU w2 base (.slice ua un uc) (aP r')∧∀ k,(Value.slice ua un uc).ownBlock=some k→¬ F k∧k≠tb∧k≠ob∧k≠fb∧k≠fg:=by
   rcases lY with ⟨hf,rfl⟩ | ⟨hf,u,rfl,ho⟩
   ·refine ⟨_,_,_,rfl,?_,h3.wn⟩;rw [MI.out,yr hf];exact h3.want
   ·obtain ⟨ua,un,uc,rfl⟩:=iZ ho;refine ⟨_,_,_,rfl,?_,fun k hk=>H2.out.new (ho.dy k hk).1⟩
    rw [MI.out];exact ho.mono H2.out.env.size
  obtain ⟨ua,un,uc,rfl,ho,OK⟩:=OU;have H3:Hid (Os base A w0 (w2.setCell ⟨ob,4,none⟩ (.slice ua un uc)) ob db tb fb fg F d r' T (.slice ua un uc) root tx (aP r')):=h3.ID ho OK;have TD:=ab ((vZ (ob:=ob) gN.out).set (Below.next (aB (Below.refl _ _) k) hb) 4 (.slice ua un uc));have HR:Hid ((cF (key,⟨#[]⟩)=true∧bq (aP r) key=true∧pQ key (fun l=>cX l key) r r')∨(¬ (cF (key,⟨#[]⟩)=true∧bq (aP r) key=true)∧r'=r)):=by
   rcases FI.out with ⟨hf,hu⟩ | ⟨hf,hu⟩
   ·exact .inl ⟨HM.out,hf,hu⟩
   ·exact .inr ⟨fun h=>(by rw [hf] at h;cases h.2),hu⟩
  clear h3 lY ho OK hb q4 HW;generalize bq (aP r) key=fd;cases fd
  all_goals
   go_wp2;go_ret;exact ⟨rfl,r',_,HR.out,H3.out,TD.out⟩
 ·have O6:cF (key,⟨#[]⟩)=false:=by simpa using hm
  rw [O6] at zk;have HM:=ab hm;clear hm O6;go_enter func22,ntmps22;go_wp2_with fail;refine HP.out.mono ?_
  rintro e w1 (⟨hm,_⟩ | ⟨_,rfl,ht⟩)
  ·exact absurd hm HM.out
  have h1:=H.out.tree ht (List.Sublist.refl _);have HNU:=ab (BD A w1 h1.ts.dv.errs);have Xs:=ab (zk.out w1);have H1:=ab h1;have TD:=ab (vZ (ob:=ob) ht.st);clear ht h1 p3 HP zk;go_wp2_with fail;refine Xs.out.mono ?_
  rintro e w1' ⟨rfl,rfl⟩;go_wp2_with fail;refine HNU.out.mono ?_
  rintro e w2 ⟨rfl,rfl⟩;go_wp2;go_ret;exact ⟨rfl,r,_,.inr ⟨fun h=>HM.out h.1,rfl⟩,H1.out,TD.out⟩
end
theorem Rw(l:List Nat):∃ L:List Nat,iG l=L.map (fun n:Nat=>(n:Int))∧L.Perm l:=by
 have hp:=oY l;refine ⟨(iG l).map Int.toNat,?_,?_⟩
 ·rw [eG];have:∀ x ∈ iG l,((fun n:Nat=>(n:Int)) ∘ Int.toNat) x=x:=fun x hx=>by
   obtain ⟨n,_,rfl⟩:=List.mem_map.1 (hp.mem_iff.1 hx);simp
  conv=>lhs;rw [← List.map_id (iG l)]
  exact gL fun x hx=>(this x hx).symm
 ·have:=hp.map Int.toNat;rw [eG] at this;have e:l.map (Int.toNat ∘ fun n:Nat=>(n:Int))=l:=by
   conv=>rhs;rw [← List.map_id l]
   exact gL fun x _=>by simp
  rw [e] at this;exact this
theorem GB(T:Nat→Bool)(L:List Nat)(i:Nat):fN T (L++[i])=Q.nO (fN T L) i true:=by
 unfold fN;rw [gr];rfl
theorem Gx{L:List Nat}(h:L.Nodup){k:Nat}(hk:k<L.length):¬ L[k] ∈ L.take k:=fun hm=>by
 obtain ⟨j,hj,he⟩:=aI hm;rw [ag] at hj;rw [bZ] at he;exact List.pairwise_iff_getElem.1 h j k (by omega) hk (by omega) he
theorem XI{i:Nat}(h1:2≤i)(h2:i<4000):Q.T0 4000 i=false:=by
 unfold Q.T0;rw [decide_eq_false (by omega),decide_eq_false (by omega)]
 rfl
section
variable {base:Nat} {A:Nat→Addr} {w0:World} {ob db tb fb fg:Nat} {F:Nat→Prop} {d:S.V.bD} {r:cT} {T:Nat→Bool} {wv:Value} {root tx:Nat} {l:List Pr}
theorem NT{w:World}(h:Os base A w0 w ob db tb fb fg F d r T wv root tx l)(hn:(aP r).length≤1000000):Calls prog 64 #[.pointer (some ⟨ob,0,none⟩)] w fun e w'=>e = .returned (.bool true)∧∃ Li MB L,L.Perm (bz r)∧Os base A w0 w' ob db tb Li MB F d r (fN (Q.T0 4000) L) wv root tx l∧Fr F tb ob w w':=by
 have zK:=gl h.ts.ok;obtain ⟨L,hL,zi⟩:=Rw (bz r);have Jl:L.Nodup:=zi.nodup_iff.2 h.nd;have hLr:∀ i ∈ L,2≤i∧i<4000:=fun i hi=>h.pr i (zi.mem_iff.1 hi)
 have Ff:=ab (eZ h.ts (by omega) h.nd (by omega))
 rw [hL] at Ff;obtain ⟨n,GW⟩ : ∃ n,n=L.length:=⟨_,rfl⟩;rw [← zi.length_eq,← GW] at Ff;have xW:n≤1000000000:=by rw [GW,zi.length_eq];omega
 have p3:=h.c.1;have H:=ab h;have yW:=ab Jl;have Ws:=ab hLr;have CE:=ab zi;have Re:=ab GW;clear h hn zK hL Jl hLr zi GW;obtain ⟨Q0,G6⟩ : ∃ Q0:Ending→World→Prop,Q0=fun e w'=>e = .returned (.bool true)∧∃ Li MB L,L.Perm (bz r)∧Os base A w0 w' ob db tb Li MB F d r (fN (Q.T0 4000) L) wv root tx l∧Fr F tb ob w w':=⟨_,rfl⟩
 rw [← G6];have HQ:=ab G6;clear G6;go_enter func64,ntmps64;go_wp2_with fail;refine Ff.out.mono ?_
 rintro e w1 ⟨⟨v,rfl,aD⟩,eH,fI⟩;have h1:=H.out.tree (H.out.ts.mv fI eH) (List.Sublist.refl _);have mQ:∃ a c,v = .slice a n c:=by
  rcases aD.2 with ⟨h',h0⟩ | ⟨g,cap,cur,h',_⟩
  ·exact ⟨none,0,by rw [h',h0]⟩
  ·exact ⟨_,_,h'⟩
 obtain ⟨a,c,mQ⟩:=mQ;have yY:Hid (∀ j (hj:j<n),∃ gb,a=some ⟨gb,0,none⟩∧w1.cell? ⟨gb,j,none⟩=some (.int .i64 ((L[j]'(by have:=Re.out;omega):Nat):Int))):=fun j hj=>by
  have hlen:j<L.length:=by have:=Re.out;omega
  rcases aD.2 with ⟨h',h0⟩ | ⟨g,cap,cur,h',hb,hg,_⟩
  ·omega
  ·rw [mQ] at h';simp only [Value.slice.injEq] at h';refine ⟨g,h'.1,?_⟩;have OL:v = .slice (some ⟨g,0,none⟩) n cap:=by rw [mQ,h'.1,h'.2.2]
   rw [OL] at aD;have:=aD.cellAt j (by omega)
   rw [this,aL,aL,af hlen];rfl
 have p0:=h1.c.2.2.1;have H1:=ab h1;have Fk:=ab (Q.vO 4000 w1 (by decide) (by decide))
 have Xs:Hid (Fr F tb ob w w1):=l6 fI;subst mQ;clear aD eH fI h1 Ff p3;go_wp2_with fail;refine Fk.out.mono ?_
 rintro e w2 ⟨mb,mg,rfl,Ek,YJ,hmap,aY⟩;have h2:=H1.out.below aY;have Z5:=ab Ek;have UF:=ab YJ;have QH:=ab hmap;have bH:=ab aY;have aah:=ab h2.env;clear h2 Ek YJ hmap aY Fk p0;go_wp2;go_loopw [7] (fun iv wr=>∃ k:Nat,k≤n∧iv = .int .i64 (k:Int)∧Q.eU wr mb mg 4000 (fN (Q.T0 4000) (L.take k))∧Q.gm (fun k=>k=mg) w2 wr) (fun iv _=>n - (intOf iv).toNat)
 case atStart=>exact ⟨0,aC _,rfl,by rw [List.take_zero];exact QH.out,Q.gm.refl _ _⟩
 case round =>
  obtain ⟨k,hk,rfl,YG,Ef⟩:=hrel;by_cases bX:k<n
  ·have ep:k<L.length:=by have:=Re.out;omega
   obtain ⟨gb,rfl,c1⟩:=yY.out k bX;have ye:=World.block_lt_of_cell? w1 _ c1;have c2:wr.cell? ⟨gb,k,none⟩=some (.int .i64 ((L[k] : Nat):Int)):=Ef.cell (a:=⟨gb,k,none⟩) ((bH.out.cell (p:=⟨gb,k,none⟩) ye).trans c1) (by have:=UF.out;have h9:gb<w1.heap.size:=ye;show ¬ gb=mg;omega)
   have YZ:Q.Env base A wr:=aah.out.keep ⟨Ef.os,Ef.tape,Ef.output,Ef.size,fun k hk=>Ef.block k (al hk aah.out.size) (by have h8:=UF.out;have h9:=H1.out.env.size;show ¬ k=mg;omega)⟩
   have Z4:=ab (Q.Of base A mb mg 4000 _ ((L[k] : Nat):Int) wr YG YZ);have T6:=Ws.out L[k] (aH ep);have Uj:fN (Q.T0 4000) (L.take k) L[k]=false:=by
    rw [oq];have h1:Q.T0 4000 L[k]=false:=XI T6.1 T6.2;have h2:=Gx yW.out ep;rw [h1,decide_eq_false h2];rfl
   have hmd:Q.DJ 4000 (fN (Q.T0 4000) (L.take k)) ((L[k] : Nat):Int)=(none,fN (Q.T0 4000) (L.take (k+1))):=by
    have ht:Q.nU 4000 ((L[k] : Nat):Int)=true:=by
     unfold Q.nU;rw [decide_eq_true (by omega:(2:Int)≤((L[k] : Nat):Int)),decide_eq_true (by omega:((L[k] : Nat):Int)<((4000:Nat):Int))];rfl
    unfold Q.DJ;rw [if_pos ht,bn,Uj,ay ep,GB];rfl
   rw [hmd] at Z4;have dO:(k:Int)<(n:Int):=by omega
   have j0:(0:Int)≤(k:Int):=by omega
   have Wn:=ab Ef;generalize ((L[k] : Nat):Int)=x at *;clear hmd Uj T6 YZ YG Ef c1 ye yY;go_wp2_with fail;refine Z4.out.mono ?_
   rintro e w3 ⟨rfl,qI,fX⟩;have QI:=ab qI;have nL:=ab (Wn.out.trans fX);rw [show im A none = .nilIface from rfl]
   clear qI fX Z4 c2;go_wp2;go_roundw
   case rel=>exact ⟨k+1,by omega,by go_num,QI.out,nL.out⟩
   case measure=>simp [intOf];omega
  ·have dO:¬ (k:Int)<(n:Int):=by omega
   have oD:k=n:=by omega
   have bL:Below w1.heap.size w1 wr:=⟨Ef.os.trans bH.out.os,Ef.tape.trans bH.out.tape,Ef.output.trans bH.out.output,aq bH.out.size Ef.size,fun k hk=>(Ef.block k (al hk bH.out.size) (by have h8:=UF.out;show ¬ k=mg;omega)).trans (bH.out.block k hk)⟩
   have h3:Os base A w0 wr ob db tb fb fg F d r T wv root tx l:=H1.out.below bL;have TD:=ab (Xs.out.set bL 2 (.pointer (some ⟨mb,0,none⟩)));have z2:=h3.c.2.2.2.2.1;have y2:=h3.row.free 2;have H3:Hid (Os base A w0 (wr.setCell ⟨ob,2,none⟩ (.pointer (some ⟨mb,0,none⟩))) ob db tb mb mg F d r (fN (Q.T0 4000) L) wv root tx l):=by
    have xW:=H1.out.new Z5.out;have O0:=H1.out.new UF.out;have cp:=H1.out.env.size;have hT:L.take k=L:=ar (by have:=Re.out;omega)
    rw [hT] at YG;refine h3.set 2 (heap_setCell_same _ _ 2 _ _ _ h3.row) ⟨YG,Og (Q.TM (by decide) (by decide)) L,⟨by have:=UF.out;omega,by have:=Z5.out;omega⟩,⟨O0.1,xW.1⟩,⟨O0.2.1,xW.2.1⟩⟩ ⟨xW.2.2.1.symm,O0.2.2.1.symm⟩ (fun i hi=>?_) h3.want fun k hk=>?_
    ·rw [oq,decide_eq_true (CE.out.mem_iff.2 hi),Bool.or_true]
    ·have h7:=h3.wn k hk;have h8:=(H1.out.want.dy k hk).2;exact ⟨h7.1,h7.2.1,h7.2.2.1,by have:=Z5.out;omega,by have:=UF.out;omega⟩
   clear YG Ef h3 yY bL;go_wp2;rw [HQ.out];exact ⟨rfl,_,_,L,CE.out,H3.out,TD.out⟩
end
structure Ob(base:Nat)(A:Nat→Addr)(w0 w:World)(ob db tb fb fg:Nat)(F:Nat→Prop)(d:S.V.bD)(rv:Value)(T:Nat→Bool)(wv:Value)(root tx:Nat)(l:List Pr):Prop where
 row:B.au w ob (nD db fb tb wv root tx) 65
 dv:Dv base A db F d w
 tr:B.au w tb #[.pointer (some ⟨db,0,none⟩),rv] 100
 mp:Mp base F tb w fb fg 4000 T
 env:Q.Env base A w
 want:iU w base wv l
 ff:Below base w0 w
 ap:base≤ob∧¬ F ob∧ob≠tb∧ob≠fb∧ob≠fg
 wn:∀ k,wv.ownBlock=some k→¬ F k∧k≠tb∧k≠ob∧k≠fb∧k≠fg
 lo:base≤tb∧¬ F tb
theorem qV{base:Nat}{a b c:World}(h:Below base a b)(k:Below base b c):Below base a c:=⟨k.os.trans h.os,k.tape.trans h.tape,k.output.trans h.output,aq h.size k.size,fun i hi=>(k.block i hi).trans (h.block i hi)⟩
section
variable {base:Nat} {A:Nat→Addr} {w0:World} {ob db tb fb fg:Nat} {F:Nat→Prop} {d:S.V.bD} {r:cT} {T:Nat→Bool} {wv rv:Value} {root tx:Nat} {l:List Pr}
theorem Ob.os{w:World}(h:Ob base A w0 w ob db tb fb fg F d rv T wv root tx l)(hr:gA (cU d) w rv r)(cC:dU r)(ji:(bz r).Nodup)(Fz:∀ i ∈ bz r,T i=true)(hpr:∀ i ∈ bz r,2≤i∧i<4000)(hd:d.eQ=[]∧d.aS=[]∧d.size=32000):Os base A w0 w ob db tb fb fg F d r T wv root tx l :=
 ⟨h.row,⟨h.dv,⟨rv,h.tr,hr⟩,cC,S.V.Step.refl _ _,h.lo⟩,h.mp,h.env,h.want,ji,Fz,hpr,hd,h.ff,h.ap,h.wn⟩
theorem Ob.step{w w1:World}{F1:Nat→Prop}{d1:S.V.bD}(h:Ob base A w0 w ob db tb fb fg F d rv T wv root tx l)(hs:S.V.Step F F1 w w1)(hv:Dv base A db F1 d1 w1):Ob base A w0 w1 ob db tb fb fg F1 d1 rv T wv root tx l:=by
 have hb:∀ k,k<w.heap.size→¬ F k→w1.heap[k]?=w.heap[k]?:=hs.block;have Sy:∀ k,k<w.heap.size→¬ F k→¬ F1 k:=fun k hk hf e=>(hs.sub k e).elim hf (by omega)
 have jJ:Below base w w1:=(td hs h.env.size h.dv.up).1;have m:=h.mp;have c1:=m.map.TR;have c2:=m.map.TQ;refine ⟨(hb ob h.row.lt h.ap.2.1).trans h.row,hv,(hb tb h.tr.lt h.lo.2).trans h.tr,⟨kB m.map (hb _ c1 m.nf.2) (hb _ c2 m.nf.1),m.ok,m.lo,⟨Sy _ c2 m.nf.1,Sy _ c1 m.nf.2⟩,m.nt⟩,h.env.keep jJ,h.want.same fun k hk=>hb k (h.want.dy k hk).2 (h.wn k hk).1,qV h.ff jJ,⟨h.ap.1,Sy _ h.row.lt h.ap.2.1,h.ap.2.2⟩,fun k hk=>⟨Sy k (h.want.dy k hk).2 (h.wn k hk).1,(h.wn k hk).2⟩,h.lo.1,Sy _ h.tr.lt h.lo.2⟩
theorem Ob.RD{w:World}(h:Ob base A w0 w ob db tb fb fg F d rv T wv root tx l)(wR:Nat):Ob base A w0 (w.setCell ⟨ob,5,none⟩ (.int .i64 (wR:Int))) ob db tb fb fg F d rv T wv wR tx l:=by
 have hs:=bK.set ob 5 w (.int .i64 (wR:Int));have jJ:Below base w (w.setCell ⟨ob,5,none⟩ (.int .i64 (wR:Int))):=⟨hs.os,hs.tape,hs.output,hs.size,fun k hk=>hs.block k (al hk h.env.size) (by have:=h.ap.1;omega)⟩
 have m:=h.mp;refine ⟨heap_setCell_same _ _ 5 _ _ _ h.row,h.dv.tree h.ap.1 h.ap.2.1 5 _,(hs.block tb h.tr.lt h.ap.2.2.1.symm).trans h.tr,⟨kB m.map (hs.block _ m.map.TR h.ap.2.2.2.1.symm) (hs.block _ m.map.TQ h.ap.2.2.2.2.symm),m.ok,m.lo,m.nf,m.nt⟩,h.env.keep jJ,h.want.same fun k hk=>hs.block k (h.want.dy k hk).2 (h.wn k hk).2.2.1,qV h.ff jJ,h.ap,h.wn,h.lo⟩
theorem Ob.c{w:World}(h:Ob base A w0 w ob db tb fb fg F d rv T wv root tx l):w.cell? ⟨ob,3,none⟩=some (.pointer (some ⟨tb,0,none⟩))∧w.cell? ⟨ob,1,none⟩=some (.pointer (some ⟨db,0,none⟩))∧w.cell? ⟨ob,5,none⟩=some (.int .i64 (root:Int))∧w.cell? ⟨ob,2,none⟩=some (.pointer (some ⟨fb,0,none⟩))∧w.cell? ⟨ob,6,none⟩=some (.int .u64 (tx:Int)) :=
 ⟨h.row.cell 3 (by simp [nD]),h.row.cell 1 (by simp [nD]),h.row.cell 5 (by simp [nD]),h.row.cell 2 (by simp [nD]),h.row.cell 6 (by simp [nD])⟩
theorem Os.XM{w:World}(h:Os base A w0 w ob db tb fb fg F d r T wv root tx l)(XG:Nat):Os base A w0 (w.setCell ⟨ob,6,none⟩ (.int .u64 (XG:Int))) ob db tb fb fg F d r T wv root XG l :=
 h.set 6 (heap_setCell_same _ _ 6 _ _ _ h.row) h.mp h.ap.2.2.2 h.pt h.want h.wn
theorem B5{w:World}{tb:Nat}{q:Value}(r:cT)(ht:B.au w tb #[q,lL r] 100):Calls prog 20 #[.pointer (some ⟨tb,0,none⟩)] w fun e w'=>e = .returned (.int .i64 0)∧w=w':=by
 have c1:=ht.c1;clear ht;cases r with
 | none =>
  have Ut:w.cell? ⟨tb,1,none⟩=some .nilIface:=c1;have hq:=fun W=>oJ W
  clear c1;go_enter func20,ntmps20;go_wp2;go_ret;exact ⟨rfl,rfl⟩
 | some x =>
  have Ut:w.cell? ⟨tb,1,none⟩=some (.iface 146 (.int .i64 (eX x.1 x.2:Int))):=c1;have hq:=fun W=>kM 146 (.int .i64 (eX x.1 x.2:Int)) W
  clear c1;go_enter func20,ntmps20;go_wp2_with fail;refine (xe _ w).mono ?_
  rintro e w1 ⟨rfl,rfl⟩;go_wp2;go_ret;exact ⟨rfl,rfl⟩
theorem Os.RQ{w w1:World}{rv:Value}{T1:Nat→Bool}(h:Os base A w0 w ob db tb fb fg F d r T wv root tx l)(hm:Mp base F tb w1 fb fg 4000 T1)(ht:B.au w1 tb #[.pointer (some ⟨db,0,none⟩),rv] 100)(hv:Dv base A db F d w1)(hs:S.V.Step (fun k=>k=fg∨k=tb) (fun k=>k=fg∨k=tb) w w1):Ob base A w0 w1 ob db tb fb fg F d rv T1 wv root tx l:=by
 have hb:∀ k,k<w.heap.size→k≠fg→k≠tb→w1.heap[k]?=w.heap[k]?:=fun k hk h1 h2=>hs.block k hk (fun e=>e.elim h1 h2)
 have jJ:Below base w w1:=(td hs h.env.size (fun k hk=>by
  rcases hk with rfl | rfl
  ·exact h.mp.lo.1
  ·exact h.ts.lo.1)).1
 exact ⟨(hb ob h.row.lt h.ap.2.2.2.2 h.ap.2.2.1).trans h.row,hv,ht,hm,h.env.keep jJ,h.want.same fun k hk=>hb k (h.want.dy k hk).2 (h.wn k hk).2.2.2.2 (h.wn k hk).2.1,qV h.ff jJ,h.ap,h.wn,h.ts.lo⟩
end
theorem o7:∀ (l:List S.Sh) (j:Nat) (h:j<l.length) (q:Nat),q<5→(Kb l)[j*5+q]?=(l[j]).cells[q]?
 | [],_,h,_,_=>absurd h (by simp)
 | x::r,0,_,q,hq=>by
  show (x.cells++Kb r)[0*5+q]?=x.cells[q]?
  rw [Nat.zero_mul,Nat.zero_add,bu (by simpa [S.Sh.cells] using hq)]
 | x::r,j+1,h,q,hq=>by
  show (x.cells++Kb r)[(j+1)*5+q]?=_
  have hl:x.cells.length=5:=rfl;rw [aX (by rw [hl];omega),hl,show (j+1)*5+q - 5=j*5+q by omega,o7 r j (by simpa using h) q hq]
  rfl
theorem sQ.cells{w:World}{base:Nat}{a:Option Addr}{n c:Nat}{L:List S.Sh}(h:sQ w base (.slice a n c) L)(j:Nat)(hj:j<L.length):∃ g,a=some ⟨g,0,none⟩∧(base≤g∧g<w.heap.size)∧w.cell? ⟨g,j*5,none⟩=some (.int .i64 L[j].kind)∧w.cell? ⟨g,j*5+1,none⟩=some (.int .i64 L[j].id)∧w.cell? ⟨g,j*5+2,none⟩=some (.int .u64 (L[j].s7:Int))∧w.cell? ⟨g,j*5+3,none⟩=some (.int .i64 L[j].count)∧w.cell? ⟨g,j*5+4,none⟩=some (.string L[j].body):=by
 rcases h.2 with ⟨_,h0⟩ | ⟨g,cap,cur,h',hb,hg,_⟩
 ·omega
 ·simp only [Value.slice.injEq] at h';obtain ⟨rfl,rfl,rfl⟩:=h';have h:w.ownsRow base 87 5 (.slice (some ⟨g,0,none⟩) L.length c) L.length (Kb L):=h;refine ⟨g,rfl,⟨hb,(Array.getElem?_eq_some_iff.1 hg).1⟩,?_,?_,?_,?_,?_⟩
  ·rw [h.cellAt (j*5) (by omega)];exact o7 L j hj 0 (by decide)
  ·rw [h.cellAt (j*5+1) (by omega)];exact o7 L j hj 1 (by decide)
  ·rw [h.cellAt (j*5+2) (by omega)];exact o7 L j hj 2 (by decide)
  ·rw [h.cellAt (j*5+3) (by omega)];exact o7 L j hj 3 (by decide)
  ·rw [h.cellAt (j*5+4) (by omega)];exact o7 L j hj 4 (by decide)
section
variable {base:Nat} {A:Nat→Addr} {w0:World} {ob db tb fb fg:Nat} {F:Nat→Prop} {d:S.V.bD} {r:cT} {T:Nat→Bool} {wv:Value} {root tx:Nat} {l:List Pr}
abbrev laid(T:Nat→Bool)(r:cT):cT:=(jk (fi (Q.fj T 4000 (bY r))) r).1
abbrev TU(T:Nat→Bool)(r:cT)(tx:Nat):List S.Sh:=(jk (fi (Q.fj T 4000 (bY r))) r).2.map (jM tx)
def Fs(F:Nat→Prop)(tb ob fg:Nat)(w:World)(F1:Nat→Prop)(w':World):Prop:=w.heap.size≤w'.heap.size∧∀ k,k<w.heap.size→¬ F k→k≠tb→k≠ob→k≠fg→w'.heap[k]?=w.heap[k]?∧¬ F1 k
theorem Fs.step{F F1 F2:Nat→Prop}{tb ob fg:Nat}{w w1 w2:World}(h:Fs F tb ob fg w F1 w1)(hs:S.V.Step F1 F2 w1 w2):Fs F tb ob fg w F2 w2:=⟨aq h.1 hs.size,fun k hk a b c e=>by
 obtain ⟨h1,h2⟩:=h.2 k hk a b c e;exact ⟨(hs.block k (al hk h.1) h2).trans h1,fun g=>(hs.sub k g).elim h2 (by have:=h.1;omega)⟩⟩
theorem Fs.fr{F F1:Nat→Prop}{tb ob fg:Nat}{w w1 w2:World}(h:Fs F tb ob fg w F1 w1)(hs:Fr F1 tb ob w1 w2):Fs F tb ob fg w F1 w2:=⟨aq h.1 hs.1,fun k hk a b c e=>by
 obtain ⟨h1,h2⟩:=h.2 k hk a b c e;exact ⟨(hs.2 k (al hk h.1) h2 b c).trans h1,h2⟩⟩
theorem Fs.set{F F1:Nat→Prop}{tb ob fg:Nat}{w w1:World}(h:Fs F tb ob fg w F1 w1)(j:Nat)(u:Value):Fs F tb ob fg w F1 (w1.setCell ⟨ob,j,none⟩ u):=⟨aq h.1 (bK.set ob j w1 u).size,fun k hk a b c e=>by
 obtain ⟨h1,h2⟩:=h.2 k hk a b c e;exact ⟨((bK.set ob j w1 u).block k (al hk h.1) c).trans h1,h2⟩⟩
structure Hv(base:Nat)(A:Nat→Addr)(w0 w:World)(ob db tb:Nat)(r:cT)(T:Nat→Bool)(wv:Value)(tx:Nat)(l:List Pr)(F0:Nat→Prop)(fg0:Nat)(wS:World):Prop where
 out:∃ (fb fg:Nat) (F:Nat→Prop) (d:S.V.bD) (L:List Nat),L.Perm (bz (laid T r))∧Os base A w0 w ob db tb fb fg F d (laid T r) (fN (Q.T0 4000) L) wv (oh (laid T r)) (tx+1) l∧(∀ W,gA (cU d) W (lL (laid T r)) (laid T r))∧Fs F0 tb ob fg0 wS F w
theorem KL:(jk (fi (Q.fj T 4000 (bY r))) r).2.length=bY r:=by
 cases r with
 | none=>rfl
 | some x=>exact pz x.1 x.2 0
theorem pe{w:World}(h:Os base A w0 w ob db tb fb fg F d r T wv root tx l)(hn:(aP r).length≤50000)(Jf:bY r≤(Q.fY T 4000).length)(QV:tx<1099511627776):Calls prog 26 #[.pointer (some ⟨ob,0,none⟩)] w fun e w'=>e = .returned (.bool true)∧Hv base A w0 w' ob db tb r T wv tx l F fg w:=by
 have zK:=gl h.ts.ok;have wk:=ab (eC h.ts (by omega))
 have My:bY r≤100000:=by omega
 obtain ⟨rv0,_,Ym⟩:=h.ts.tr;obtain ⟨Pq,hpe,T5⟩:=CZ (tx:=tx+1) Ym h.ts.ok h.mp.ok Jf h.nd h.pt (by rw [h.kS.2.1];intro x hx;simp at hx) h.kS.2.2 (by omega)
 have hlen:(TU T r (tx+1)).length=bY r:=by rw [az];exact KL
 obtain ⟨vp,K4⟩:=qz h.mp.ok Jf h.nd h.pt;have SB:=rX (P:=fi (Q.fj T 4000 (bY r))) h.ts.ok;have T8:=Ay K4 (fun j=>by have:=mP (n:=bY r) h.mp.ok j;omega)
 have HPT:Hid (∀ i ∈ bz (laid T r),Q.kn T (Q.fj T 4000 (bY r)) i=true∧2≤i∧i<4000):=fun i hi=>by
  have hi:=T8.mem_iff.1 hi;have hk:=h.mp.ok;rcases List.mem_append.1 hi with hi | hi
  ·exact ⟨by simp [Q.kn,h.pt i hi],h.pr i hi⟩
  ·have h1:=Q.rT hi;refine ⟨by simp [Q.kn,hi],?_,h1.1⟩
   rcases aZ i 2 with hx | hx
   ·have:i=0∨i=1:=by omega
    rcases this with rfl | rfl
    ·rw [hk.t0] at h1;cases h1.2
    ·rw [hk.t1] at h1;cases h1.2
   ·exact hx
 obtain ⟨Z,hZ⟩ : ∃ Z,Z=TU T r (tx+1):=⟨_,rfl⟩;obtain ⟨R,hR⟩ : ∃ R,R=laid T r:=⟨_,rfl⟩;have hpd:=fun (n:Nat)=>kZ (d:=d) (Z.take n).length (Z.take n) rfl
 have adS:Hid (∀ s ∈ Z,Qg d.size s):=by rw [hZ];exact Pq
 have UE:Hid (∀ k,(eI d (Z.take k)).aS.length≤1000000∧(eI d (Z.take k)).eQ=[]∧(eI d (Z.take k)).size=d.size):=fun k=>by
  obtain ⟨a1,a2,a3,a4,a5⟩:=hpd k;have:(Z.take k).length≤bY r:=by rw [ag,← hlen,hZ];omega
  exact ⟨by rw [a4,h.kS.2.1];simp only [List.length_nil];omega,by rw [a2];exact h.kS.1,a1⟩
 have adf:Hid ((nu (eI d Z)).eQ=[]∧(nu (eI d Z)).aS=[]∧(nu (eI d Z)).size=32000):=by
  obtain ⟨a1,a2,a3,a4,a5⟩:=kZ (d:=d) Z.length Z rfl;exact ⟨by show (eI d Z).eQ=[];rw [a2];exact h.kS.1,rfl,by show (eI d Z).size=32000;rw [a1];exact h.kS.2.2⟩
 have HRT:Hid (∀ W,gA (cU (nu (eI d Z))) W (lL R) R):=by rw [hZ,hR];exact T5
 have hlZ:Z.length=bY r:=by rw [hZ];exact hlen
 have ZQ:Hid (dU R∧aP R=aP r∧(bz R).Nodup):=by rw [hR];exact ⟨SB.1,SB.2,vp⟩
 have A9:=ab (h.XM (tx+1));have Fe:Hid (∀ W,Below (w.setCell ⟨ob,6,none⟩ (.int .u64 ((tx+1:Nat):Int))).heap.size (w.setCell ⟨ob,6,none⟩ (.int .u64 ((tx+1:Nat):Int))) W→Calls prog 35 #[.pointer (some ⟨tb,0,none⟩),.pointer (some ⟨fb,0,none⟩),.int .u64 ((tx:Int)+1)] W fun e w'=>∃ sv,e = .returned (.tuple #[sv,.int .i64 (oh R:Int),.nilIface])∧(sQ w' base sv Z∧∀ g,sv.ownBlock=some g→¬ F g)∧Ob base A w0 w' ob db tb fb fg F d (lL R) (Q.kn T (Q.fj T 4000 (bY r))) wv root (tx+1) l∧Fs F tb ob fg w F w'):=fun W hW=>by
  have h1:=A9.out.below hW;have hp:=Gg (tx:=tx+1) h1.ts h1.env h1.mp Jf (by omega) h1.nd h1.pt
  rw [gd,jX] at hp;refine hp.mono ?_
  rintro e w' ⟨sv,rfl,ho,hm,ht,hv,hs⟩;rw [hZ,hR];refine ⟨sv,rfl,⟨ho.lower h1.env.size,fun g hg=>(h1.new (ho.dy hg).1).1⟩,h1.RQ hm ht hv hs,?_⟩
  have s6:=bK.set ob 6 w (.int .u64 ((tx+1:Nat):Int));refine ⟨aq s6.size (aq hW.size hs.size),fun k hk a b c e=>⟨?_,a⟩⟩
  have jm:=al hk s6.size;exact (hs.block k (al jm hW.size) (fun x=>x.elim e b)).trans ((hW.block k jm).trans (s6.block k hk c))
 have HTI:Hid (∀ (w:World) (fb fg:Nat) (F:Nat→Prop) (d:S.V.bD) (T1:Nat→Bool) (wv:Value) (root tx:Nat),Os base A w0 w ob db tb fb fg F d R T1 wv root tx l→Calls prog 64 #[.pointer (some ⟨ob,0,none⟩)] w fun e w'=>e = .returned (.bool true)∧∃ Li MB L,L.Perm (bz R)∧Os base A w0 w' ob db tb Li MB F d R (fN (Q.T0 4000) L) wv root tx l∧Fr F tb ob w w'):=fun w fb fg F d T1 wv root tx ho=>NT ho (by rw [hR,SB.2];omega)
 have p3:=h.c.1;have p6:=h.c.2.2.2.2.2.2;have y6:=h.row.free 6;have q6:=A9.out.c.2.2.2.2.2.2;have q3:=A9.out.c.1;have q2:=A9.out.c.2.2.2.2.1;rw [gd,jX] at q6 q3 q2;rw [gd,jX] at Fe;rw [← hR] at HPT;have HR:=ab hR;obtain ⟨N,hN⟩ : ∃ N,N=bY r:=⟨_,rfl⟩;rw [← hN] at wk hlZ My;have hNI:(Z.length:Int)=(N:Int):=by rw [hlZ]
 have aic:=ab h.kS;clear h hn Jf zK Pq hpe T5 Ym hlen vp K4 SB T8 hZ hR hpd hN;obtain ⟨Q0,G6⟩ : ∃ Q0:Ending→World→Prop,Q0=fun e w'=>e = .returned (.bool true)∧Hv base A w0 w' ob db tb r T wv tx l F fg w:=⟨_,rfl⟩
 rw [← G6];have HQ:=ab G6;clear G6;have htb:(tx:Int)+1<18446744073709551616:=by omega
 go_enter func26,ntmps26;go_wp2_with fail;refine wk.out.mono ?_
 rintro e w1' ⟨rfl,rfl⟩;go_wp2_with fail;go_region_held3 (fun w'=>w'.cell? ⟨ob,3,none⟩=some (.pointer (some ⟨tb,0,none⟩))∧w'.cell? ⟨ob,2,none⟩=some (.pointer (some ⟨fb,0,none⟩))∧w'.cell? ⟨ob,6,none⟩=some (.int .u64 ((tx:Int)+1))) (go_keep)
  (first
   | (go_at_call 35;refine (Fe.out _ ?_).mono ?_;(first | exact (Below.refl _ _).drew | exact aB (Below.refl _ _) _);rintro e w2 ⟨sv,rfl,⟨dW,O0⟩,aY,mU⟩;have HFS:=ab mU;obtain ⟨sa,sc,rfl⟩:=dW.form;rw [hlZ] at dW O0 ⊢;have gX:=ab dW;have HNG:=ab O0;have bH:=ab aY;have m3:=aY.c.1;have m2:=aY.c.2.2.2.1;have m6:=aY.c.2.2.2.2;rw [gd,jX] at m6;clear dW aY O0 mU))
 all_goals
  clear p3 p6 y6 q6 q3 q2 Fe wk A9 m2 m6;go_wp2_with fail;refine (B5 R bH.out.tr).mono ?_
  rintro e w3 ⟨rfl,rfl⟩;clear m3;go_wp2;go_loopw [7] (fun iv wr=>∃ (k:Nat) (F1:Nat→Prop),k≤N∧iv = .int .i64 (k:Int)∧Ob base A w0 wr ob db tb fb fg F1 (eI d (Z.take k)) (lL R) (Q.kn T (Q.fj T 4000 (bY r))) wv root (tx+1) l∧sQ wr base (.slice sa N sc) Z∧(∀ g,(Value.slice sa N sc).ownBlock=some g→¬ F1 g)∧Fs F tb ob fg w F1 wr) (fun iv _=>N - (intOf iv).toNat)
  case atStart=>exact ⟨0,F,aC _,rfl,bH.out,gX.out,HNG.out,HFS.out⟩
  case round =>
   obtain ⟨k,F1,hk,rfl,vm,Fx,O0,hfs⟩:=hrel;by_cases bX:k<N
   ·have ep:k<Z.length:=by omega
    obtain ⟨g,rfl,ye,h0,h1,h2,h3,h4⟩:=Fx.cells k ep;have gN:Hid (∀ W,Below wr.heap.size wr W→Calls prog 62 #[.pointer (some ⟨db,0,none⟩),.agg #[.int .i64 Z[k].kind,.int .i64 Z[k].id,.int .u64 (Z[k].s7:Int),.int .i64 Z[k].count,.string Z[k].body]] W fun e w'=>e = .returned .nilIface∧∃ F2,Ob base A w0 w' ob db tb fb fg F2 (eI d (Z.take (k+1))) (lL R) (Q.kn T (Q.fj T 4000 (bY r))) wv root (tx+1) l∧sQ w' base (.slice (some ⟨g,0,none⟩) N sc) Z∧(∀ k,(Value.slice (some ⟨g,0,none⟩) N sc).ownBlock=some k→¬ F2 k)∧(∀ o u,wr.cell? ⟨g,o,none⟩=some u→w'.cell? ⟨g,o,none⟩=some u)∧Fs F tb ob fg w F2 w'):=fun W hW=>by
     have Yw:=vm.step (S.V.Step.bx hW) (vm.dv.below hW);have fG:=adS.out Z[k] (aH ep);have GV:=UE.out k;refine (Nk Z[k] Yw.dv fG.1 fG.2.1 (by rw [GV.2.2];exact fG.2.2) GV.1 GV.2.1).mono ?_
     rintro e w' ⟨rfl,F2,nF,j8⟩;have hgn:¬ F1 g:=O0 g rfl;have hgW:g<W.heap.size:=al ye.2 hW.size;have iq:w'.heap[g]?=wr.heap[g]?:=(j8.block g hgW hgn).trans (hW.block g ye.2);refine ⟨rfl,F2,?_,?_,?_,fun o u hu=>b9 iq hu,(hfs.step (S.V.Step.bx hW)).step j8⟩
     ·rw [ay ep,qo];exact Yw.step j8 nF
     ·refine Fx.same fun j hj=>?_
      have hj:g=j:=by simpa [Value.ownBlock] using hj
      subst hj;exact iq
     ·intro j hj;have hj:g=j:=by simpa [Value.ownBlock] using hj
      subst hj;exact fun e=>(j8.sub g e).elim hgn (by omega)
    have p1:=vm.c.2.1;have dO:(k:Int)<(N:Int):=by omega
    have j0:(0:Int)≤(k:Int):=by omega
    obtain ⟨x,hx⟩ : ∃ x,x=Z[k]:=⟨_,rfl⟩;rw [← hx] at h0 h1 h2 h3 h4 gN;obtain ⟨xk,xi,xt,xc,xb⟩:=x;simp only at h0 h1 h2 h3 h4 gN;clear hx Fx vm O0 hfs;go_wp2_with fail;go_region_held3 (fun w'=>w'.cell? ⟨ob,1,none⟩=some (.pointer (some ⟨db,0,none⟩))∧w'.cell? ⟨g,k*5,none⟩=some (.int .i64 xk)∧w'.cell? ⟨g,k*5+1,none⟩=some (.int .i64 xi)∧w'.cell? ⟨g,k*5+2,none⟩=some (.int .u64 (xt:Int))∧w'.cell? ⟨g,k*5+3,none⟩=some (.int .i64 xc)∧w'.cell? ⟨g,k*5+4,none⟩=some (.string xb)) (go_keep)
     (first
      | (go_at_call 62;refine (gN.out _ ?_).mono ?_;(first | exact (Below.refl _ _).drew | exact aB (Below.refl _ _) _);rintro e w4 ⟨rfl,F2,Vm,Yj,YC,FE,mU⟩;have adI:=ab mU;have n0:=FE _ _ h0;have n1:=FE _ _ h1;have n2:=FE _ _ h2;have n3:=FE _ _ h3;have n4:=FE _ _ h4;have vu:=ab Vm;have FH:=ab Yj;have adq:=ab YC;have m1:=Vm.c.2.1;clear Vm Yj YC FE mU))
    all_goals
     clear h0 h1 h2 h3 h4 n0 n1 n2 n3 n4 m1 p1 gN;go_wp2;go_roundw
     case rel=>exact ⟨k+1,F2,by omega,by go_num,vu.out,FH.out,adq.out,adI.out⟩
     case measure=>simp [intOf];omega
   ·have dO:¬ (k:Int)<(N:Int):=by omega
    have hT:Z.take k=Z:=ar (by omega)
    have GV:=UE.out k;rw [hT] at vm GV;have HSY:=ab (Ru vm.dv GV.1 GV.2.1);have vu:=ab vm;have p1:=vm.c.2.1;have adH:=ab hfs;clear vm Fx O0 GV hfs;go_wp2_with fail;refine HSY.out.mono ?_
    rintro e w5 ⟨rfl,F3,si,Fy⟩;have vl:=vu.out.step Fy si;have z5:=vl.c.2.2.1;have y5:=vl.row.free 5;have QX:=(vl.RD (oh R)).os (HRT.out _) ZQ.out.1 ZQ.out.2.2 (fun i hi=>(HPT.out i hi).1) (fun i hi=>(HPT.out i hi).2) adf.out
    have adG:=ab ((adH.out.step Fy).set 5 (.int .i64 (oh R:Int)));have HTD:=ab (HTI.out _ _ _ _ _ _ _ _ _ QX);clear vl QX si Fy HSY p1;go_wp2_with fail;refine HTD.out.mono ?_
    rintro e w6 ⟨rfl,Li,MB,L,hL,ho,Jf⟩;have HE:Hid (Hv base A w0 w6 ob db tb r T wv tx l F fg w):=by
     have acm:=adG.out.fr Jf;have e:=HR.out;have h9:=HRT.out;rw [e] at hL ho h9;exact ⟨Li,MB,F3,_,L,hL,ho,h9,acm⟩
    clear hL ho HTD z5 y5 Jf;go_wp2;rw [HQ.out];exact ⟨rfl,HE.out⟩
end
end T
end Go.Proofs.YtihmgigfkmofnaaGreatDoor
