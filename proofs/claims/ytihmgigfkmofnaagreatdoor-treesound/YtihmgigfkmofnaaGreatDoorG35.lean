import Derived.Test.YtihmgigfkmofnaaGreatDoorG34
set_option maxHeartbeats 8000000
set_option maxRecDepth 100000
open Go.Proofs.Tryz
namespace Go.Proofs.YtihmgigfkmofnaaGreatDoor
namespace T
open Go.RowKit
def kM(db fb tb:Nat)(wv:Value)(root tx:Nat):Array Value:=#[.int .i64 4000,.pointer (some ⟨db,0,none⟩),.pointer (some ⟨fb,0,none⟩),.pointer (some ⟨tb,0,none⟩),wv,.int .i64 (root:Int),.int .u64 (tx:Int)]
structure Os(base:Nat)(A:Nat→Addr)(w0 w:World)(ob db tb fb fg:Nat)(F:Nat→Prop)(d:S.V.bE)(r:cT)(T:Nat→Bool)(wv:Value)(root tx:Nat)(l:List Pr):Prop where
 row:B.au w ob (kM db fb tb wv root tx) 65
 ts:Ts base A db F d w w tb r
 mp:Mp base F tb w fb fg 4000 T
 env:Q.Env base A w
 want:fJ w base wv l
 nd:(eh r).Nodup
 pt:∀ i ∈ eh r,T i=true
 pr:∀ i ∈ eh r,2≤i∧i<4000
 lx:d.eQ=[]∧d.aX=[]∧d.size=32000
 eT:Below base w0 w
 ap:base≤ob∧¬ F ob∧ob≠tb∧ob≠fb∧ob≠fg
 wn:∀ k,wv.ownBlock=some k→¬ F k∧k≠tb∧k≠ob∧k≠fb∧k≠fg
theorem _root_.Go.Proofs.YtihmgigfkmofnaaGreatDoor.fJ.same{w w':World}{base:Nat}{v:Value}{l:List Pr}(h:fJ w base v l)(hb:∀ k,v.ownBlock=some k→w'.heap[k]?=w.heap[k]?):fJ w' base v l:=by
 refine ⟨h.1,?_⟩;rcases h.2 with h' | ⟨g,cap,cur,rfl,h1,h2,hr⟩
 ·exact .inl h'
 ·exact .inr ⟨g,cap,cur,rfl,h1,(hb g rfl).trans h2,hr⟩
theorem jl{v:Value}{w:World}{base:Nat}{l:List Pr}(h:fJ w base v l):∃ a n c,v = .slice a n c:=by
 obtain ⟨a,c,h⟩:=h.form;exact ⟨a,_,c,h⟩
section
variable {base:Nat} {A:Nat→Addr} {w0:World} {ob db tb fb fg:Nat} {F:Nat→Prop} {d:S.V.bE} {r:cT} {T:Nat→Bool} {wv:Value} {root tx:Nat} {l:List Pr}
theorem Os.tree{w w1:World}{r1:cT}(h:Os base A w0 w ob db tb fb fg F d r T wv root tx l)(h1:Ts base A db F d w w1 tb r1)(hs:(eh r1).Sublist (eh r)):Os base A w0 w1 ob db tb fb fg F d r1 T wv root tx l:=by
 have st:=h1.st;have hb:∀ k,k<w.heap.size→¬ F k→k≠tb→w1.heap[k]?=w.heap[k]?:=fun k hk hf ht=>st.block k hk (fun e=>e.elim hf ht)
 have jB:Below base w w1:=⟨st.os,st.tape,st.output,st.size,fun k hk=>hb k (aq hk h.env.size) (fun e=>by have:=h.ts.dv.up k e;omega) (by have:=h.ts.lo.1;omega)⟩
 have m:=h.mp;refine ⟨(hb ob h.row.lt h.ap.2.1 h.ap.2.2.1).trans h.row,⟨h1.dv,h1.tr,h1.ok,S.V.Step.refl _ _,h1.lo⟩,⟨jO m.map (hb _ m.map.TO m.nf.2 m.nt.2) (hb _ m.map.TN m.nf.1 m.nt.1),m.ok,m.lo,m.nf,m.nt⟩,h.env.keep jB,h.want.same fun k hk=>hb k (h.want.dx k hk).2 (h.wn k hk).1 (h.wn k hk).2.1,h.nd.sublist hs,fun i hi=>h.pt i (hs.subset hi),fun i hi=>h.pr i (hs.subset hi),h.lx,⟨jB.os.trans h.eT.os,jB.tape.trans h.eT.tape,jB.output.trans h.eT.output,ar h.eT.size jB.size,fun k hk=>(jB.block k hk).trans (h.eT.block k hk)⟩,h.ap,h.wn⟩
theorem Os.below{w w1:World}(h:Os base A w0 w ob db tb fb fg F d r T wv root tx l)(hb:Below w.heap.size w w1):Os base A w0 w1 ob db tb fb fg F d r T wv root tx l:=h.tree (h.ts.below hb) (List.Sublist.refl _)
theorem JN{w:World}{db fb tb ob:Nat}{wv:Value}{root tx:Nat}(h:B.au w ob (kM db fb tb wv root tx) 65)(hv:∃ a n c,wv = .slice a n c):Va w ob:=by
 obtain ⟨a,n,c,rfl⟩:=hv;refine ⟨fun j u hc=>?_,fun cs fr e=>?_,fun cs fr e=>?_⟩
 ·rw [cell_of_row w _ j _ _ _ h] at hc;obtain ⟨h3,h4⟩:=Array.getElem?_eq_some_iff.1 hc;have hu:u ∈ (kM db fb tb (.slice a n c) root tx).toList:=by rw [← h4];exact gH h3
  simp only [kM,dO,dB,or_false] at hu;rcases hu with rfl | rfl | rfl | rfl | rfl | rfl | rfl <;> exact ⟨(fun s e=>by cases e),(fun t x e=>by cases e)⟩
 ·have h':w.heap[ob]?=_:=h;rw [h'] at e;simp at e
 ·have h':w.heap[ob]?=_:=h;rw [h'] at e;simp at e
theorem Os.set{w:World}{MF N4 xz ZR:Nat}{T':Nat→Bool}{vZ u:Value}{l':List Pr}(j:Nat)(h:Os base A w0 w ob db tb fb fg F d r T wv root tx l)(bH:B.au (w.setCell ⟨ob,j,none⟩ u) ob (kM db MF tb vZ xz ZR) 65)(hm:Mp base F tb w MF N4 4000 T')(ho:ob≠MF∧ob≠N4)(yt:∀ i ∈ eh r,T' i=true)(hw:fJ w base vZ l')(Hu:∀ k,vZ.ownBlock=some k→¬ F k∧k≠tb∧k≠ob∧k≠MF∧k≠N4):Os base A w0 (w.setCell ⟨ob,j,none⟩ u) ob db tb MF N4 F d r T' vZ xz ZR l':=by
 have hs:=bG.set ob j w u;have ha:df w (w.setCell ⟨ob,j,none⟩ u):=⟨hs.size,fun k hk=>by
  by_cases e:k=ob
  ·exact .inr (e▸JN h.row (jl h.want))
  ·exact .inl (hs.block k hk e)⟩
 obtain ⟨rv,t1,t2⟩:=h.ts.tr;have jB:Below base w (w.setCell ⟨ob,j,none⟩ u):=⟨hs.os,hs.tape,hs.output,hs.size,fun k hk=>hs.block k (aq hk h.env.size) (by have:=h.ap.1;omega)⟩
 refine ⟨bH,⟨h.ts.dv.tree h.ap.1 h.ap.2.1 j u,⟨rv,dX ha t1,t2.cN ha⟩,h.ts.ok,S.V.Step.refl _ _,h.ts.lo⟩,⟨jO hm.map (hs.block _ hm.map.TO ho.1.symm) (hs.block _ hm.map.TN ho.2.symm),hm.ok,hm.lo,hm.nf,hm.nt⟩,h.env.keep jB,hw.same fun k hk=>hs.block k (hw.dx k hk).2 (Hu k hk).2.2.1,h.nd,yt,h.pr,h.lx,⟨jB.os.trans h.eT.os,jB.tape.trans h.eT.tape,jB.output.trans h.eT.output,ar h.eT.size jB.size,fun k hk=>(jB.block k hk).trans (h.eT.block k hk)⟩,⟨h.ap.1,h.ap.2.1,h.ap.2.2.1,ho.1,ho.2⟩,Hu⟩
theorem Os.Jp{w:World}{u:Value}{l':List Pr}(h:Os base A w0 w ob db tb fb fg F d r T wv root tx l)(hw:fJ w base u l')(Hu:∀ k,u.ownBlock=some k→¬ F k∧k≠tb∧k≠ob∧k≠fb∧k≠fg):Os base A w0 (w.setCell ⟨ob,4,none⟩ u) ob db tb fb fg F d r T u root tx l' :=
 h.set 4 (heap_setCell_same _ _ 4 _ _ _ h.row) h.mp h.ap.2.2.2 h.pt hw Hu
theorem Os.new{w:World}{k:Nat}(h:Os base A w0 w ob db tb fb fg F d r T wv root tx l)(hk:w.heap.size≤k):¬ F k∧k≠tb∧k≠ob∧k≠fb∧k≠fg:=by
 obtain ⟨rv,t1,_⟩:=h.ts.tr;obtain ⟨d',_,hd⟩:=h.ts.dv.dev;have:=t1.lt;have:=h.row.lt;have:=h.mp.map.TO;have:=h.mp.map.TN;exact ⟨fun e=>by have:=hd.lt k e;omega,by omega,by omega,by omega,by omega⟩
theorem Os.c{w:World}(h:Os base A w0 w ob db tb fb fg F d r T wv root tx l):w.cell? ⟨ob,3,none⟩=some (.pointer (some ⟨tb,0,none⟩))∧w.cell? ⟨ob,4,none⟩=some wv∧w.cell? ⟨ob,0,none⟩=some (.int .i64 4000)∧w.cell? ⟨ob,1,none⟩=some (.pointer (some ⟨db,0,none⟩))∧w.cell? ⟨ob,2,none⟩=some (.pointer (some ⟨fb,0,none⟩))∧w.cell? ⟨ob,5,none⟩=some (.int .i64 (root:Int))∧w.cell? ⟨ob,6,none⟩=some (.int .u64 (tx:Int)) :=
 ⟨h.row.cell 3 (by simp [kM]),h.row.cell 4 (by simp [kM]),h.row.cell 0 (by simp [kM]),h.row.cell 1 (by simp [kM]),h.row.cell 2 (by simp [kM]),h.row.cell 5 (by simp [kM]),h.row.cell 6 (by simp [kM])⟩
theorem oz(l:List Pr)(key value:ByteArray):(fx l key value).length≤l.length+1:=by
 have:=eP l key;have:=cH l key;unfold fx;rw [ae,ag,List.length_cons,al];omega
theorem MS(l:List Pr)(key:ByteArray):(fT l key).length≤l.length:=by
 have:=eP l key;have:=cH l key;unfold fT;rw [ae,ag,al];omega
def Fr(F:Nat→Prop)(tb ob:Nat)(w w':World):Prop:=w.heap.size≤w'.heap.size∧∀ k,k<w.heap.size→¬ F k→k≠tb→k≠ob→w'.heap[k]?=w.heap[k]?
theorem pM{F:Nat→Prop}{tb ob:Nat}{w w1:World}(h:S.V.Step (fun k=>F k∨k=tb) (fun k=>F k∨k=tb) w w1):Fr F tb ob w w1:=⟨h.size,fun k hk h1 h2 _=>h.block k hk (fun e=>e.elim h1 h2)⟩
theorem Fr.set{F:Nat→Prop}{tb ob:Nat}{w w1 w2:World}(h:Fr F tb ob w w1)(hb:Below w1.heap.size w1 w2)(j:Nat)(u:Value):Fr F tb ob w (w2.setCell ⟨ob,j,none⟩ u):=⟨ar h.1 (ar hb.size (bG.set ob j w2 u).size),fun k hk h1 h2 h3=>((bG.set ob j w2 u).block k (aq (aq hk h.1) hb.size) h3).trans ((hb.block k (aq hk h.1)).trans (h.2 k hk h1 h2 h3))⟩
theorem Fr.trans{F:Nat→Prop}{tb ob:Nat}{w w1 w2:World}(h:Fr F tb ob w w1)(k:Fr F tb ob w1 w2):Fr F tb ob w w2:=⟨ar h.1 k.1,fun i hi a b c=>(k.2 i (aq hi h.1) a b c).trans (h.2 i hi a b c)⟩
theorem dM{F:Nat→Prop}{tb ob:Nat}{w w1:World}(h:Below w.heap.size w w1):Fr F tb ob w w1:=⟨h.size,fun i hi _ _ _=>h.block i hi⟩
theorem vm{db:Nat}{F:Nat→Prop}{tb ob:Nat}{w w1:World}(h:Mv db F w w1):Fr F tb ob w w1:=⟨h.size,fun i hi a _ _=>h.step.block i hi a⟩
theorem JI{w:World}(key value:ByteArray)(h:Os base A w0 w ob db tb fb fg F d r T wv root tx (aD r))(hn:(aD r).length≤1000000)(cZ:key.size≤140737488355328)(Cg:value.size≤140737488355328):Calls prog 10 #[.pointer (some ⟨ob,0,none⟩),.string key,.string value] w fun e w'=>e = .returned (.bool true)∧∃ r' vZ,((cQ (key,value)=true∧uE key (fun l=>fx l key value) r r')∨(¬ cQ (key,value)=true∧r'=r))∧Os base A w0 w' ob db tb fb fg F d r' T vZ root tx (aD r')∧Fr F tb ob w w':=by
 have HP:=ab (Lj key value h.ts (by omega) cZ Cg)
 have zy:=ab (yF key value w cZ Cg);have p3:=h.c.1;have H:=ab h;have HN:=ab hn;clear h hn;by_cases hm:cQ (key,value)=true
 ·rw [hm] at zy;have HM:=ab hm;clear hm;go_enter func10,ntmps10;go_wp2_with fail;refine zy.out.mono ?_
  rintro e w' ⟨rfl,rfl⟩;go_wp2_with fail;refine HP.out.mono ?_
  rintro e w1 (⟨_,rfl,r',hu,ht⟩ | ⟨hm,_⟩)
  rotate_left
  ·exact absurd HM.out hm
  have h1:=H.out.tree ht (DV hu);have il:=(pw (wJ HM.out) H.out.ts.ok hu).2;obtain ⟨a,c,lM⟩:=h1.want.form;have p4:=h1.c.2.1;have HW:=ab (L5 wv (aD r) key value w1 (by have:=HN.out;omega) h1.want.at)
  have H1:=ab h1;have HU:=ab hu;have IZ:=ab il;have gy:=ab ht.st;subst lM;clear ht h1 hu il p3 HP zy;go_wp2_with fail;refine HW.out.mono ?_
  rintro e w2 ⟨u,rfl,ho,hb⟩;have h2:=H1.out.below hb;have hfm:=jl ho;have z4:=h2.c.2.1;have y4:=h2.row.free 4;have H3:Hid (Os base A w0 (w2.setCell ⟨ob,4,none⟩ u) ob db tb fb fg F d r' T u root tx (aD r')):=by
   rw [IZ.out];exact h2.Jp (ho.mono (H1.out.env.size)) fun k hk=>H1.out.new (ho.dx k hk).1
  have Vo:=ab ((pM (ob:=ob) gy.out).set hb 4 u);clear h2 ho hb p4 HW;obtain ⟨ua,un,uc,rfl⟩:=hfm;go_wp2;go_ret;exact ⟨rfl,r',_,.inl ⟨HM.out,HU.out⟩,H3.out,Vo.out⟩
 ·have Mb:cQ (key,value)=false:=by simpa using hm
  rw [Mb] at zy;have HM:=ab hm;clear hm Mb;go_enter func10,ntmps10;go_wp2_with fail;refine zy.out.mono ?_
  rintro e w' ⟨rfl,rfl⟩;go_wp2_with fail;refine HP.out.mono ?_
  rintro e w1 (⟨hm,_⟩ | ⟨_,rfl,ht⟩)
  ·exact absurd hm HM.out
  have h1:=H.out.tree ht (List.Sublist.refl _);have Yu:=ab (wu A w1 h1.ts.dv.errs);have H1:=ab h1;have Vo:=ab (pM (ob:=ob) ht.st);clear ht h1 p3 HP zy;go_wp2_with fail;refine Yu.out.mono ?_
  rintro e w2 ⟨rfl,rfl⟩;go_wp2;go_ret;exact ⟨rfl,r,_,.inr ⟨HM.out,rfl⟩,H1.out,Vo.out⟩
end
section
variable {base:Nat} {A:Nat→Addr} {w0:World} {ob db tb fb fg:Nat} {F:Nat→Prop} {d:S.V.bE} {r:cT} {T:Nat→Bool} {wv:Value} {root tx:Nat} {l:List Pr}
theorem Ea{w:World}(key:ByteArray)(h:Os base A w0 w ob db tb fb fg F d r T wv root tx (aD r))(hn:(aD r).length≤1000000)(cZ:key.size≤140737488355328):Calls prog 22 #[.pointer (some ⟨ob,0,none⟩),.string key] w fun e w'=>e = .returned (.bool true)∧∃ r' vZ,((cQ (key,⟨#[]⟩)=true∧bm (aD r) key=true∧uE key (fun l=>fT l key) r r')∨(¬ (cQ (key,⟨#[]⟩)=true∧bm (aD r) key=true)∧r'=r))∧Os base A w0 w' ob db tb fb fg F d r' T vZ root tx (aD r')∧Fr F tb ob w w':=by
 have HP:=ab (MU key h.ts (by omega) cZ)
 have zy:=ab (fun W=>yF key ⟨#[]⟩ W cZ (by simp [ByteArray.size]))
 have p3:=h.c.1;have H:=ab h;have HN:=ab hn;clear h hn;by_cases hm:cQ (key,⟨#[]⟩)=true
 ·rw [hm] at zy;have HM:=ab hm;clear hm;go_enter func22,ntmps22;go_wp2_with fail;refine HP.out.mono ?_
  rintro e w1 (⟨_,rfl,hcase⟩ | ⟨hm,_⟩)
  rotate_left
  ·exact absurd HM.out hm
  have h1:∃ r',((bm (aD r) key=true∧uE key (fun l=>fT l key) r r')∨(bm (aD r) key=false∧r'=r))∧aD r'=fT (aD r) key∧Os base A w0 w1 ob db tb fb fg F d r' T wv root tx (aD r)∧S.V.Step (fun k=>F k∨k=tb) (fun k=>F k∨k=tb) w w1:=by
   rcases hcase with ⟨hf,r',hu,ht⟩ | ⟨hf,ht⟩
   ·exact ⟨r',.inl ⟨hf,hu⟩,(pw (fit_drop key) H.out.ts.ok hu).2,H.out.tree ht (DV hu),ht.st⟩
   ·exact ⟨r,.inr ⟨hf,rfl⟩,(yI hf).symm,H.out.tree ht (List.Sublist.refl _),ht.st⟩
  obtain ⟨r',fI,il,h1,aaA⟩:=h1;have gy:=ab aaA;obtain ⟨a,c,lM⟩:=h1.want.form;have p4:=h1.c.2.1;have vM:=ab (mn wv (aD r) key w1 (by have:=HN.out;omega) h1.want.at)
  have Gp:=ab fI;have IZ:=ab il;have H1:=ab h1;have ZG:=ab (zy.out w1);subst lM;clear hcase fI il h1 p3 HP zy aaA;go_wp2_with fail;refine ZG.out.mono ?_
  rintro e w1' ⟨rfl,rfl⟩;go_wp2_with fail;refine vM.out.mono ?_
  rintro e w1' ⟨rfl,k,rfl⟩;have h2:=H1.out.below (aA (Below.refl _ _) k);have q4:=h2.c.2.1;have HW:=ab (Cf (.slice a (aD r).length c) (aD r) key (w1.drewN k) (by have:=HN.out;omega) h2.want.at)
  have H2:=ab h2;clear h2 p4 vM ZG;go_wp2_with fail;refine HW.out.mono ?_
  rintro e w2 ⟨hcase,hb⟩;have h3:=H2.out.below hb;have z4:=h3.c.2.1;have y4:=h3.row.free 4;have Qp:∃ ua un uc,e = .returned (.slice ua un uc)∧fJ w2 base (.slice ua un uc) (aD r')∧∀ k,(Value.slice ua un uc).ownBlock=some k→¬ F k∧k≠tb∧k≠ob∧k≠fb∧k≠fg:=by
   rcases hcase with ⟨hf,rfl⟩ | ⟨hf,u,rfl,ho⟩
   ·refine ⟨_,_,_,rfl,?_,h3.wn⟩;rw [IZ.out,yI hf];exact h3.want
   ·obtain ⟨ua,un,uc,rfl⟩:=jl ho;refine ⟨_,_,_,rfl,?_,fun k hk=>H2.out.new (ho.dx k hk).1⟩
    rw [IZ.out];exact ho.mono H2.out.env.size
  obtain ⟨ua,un,uc,rfl,ho,Hu⟩:=Qp;have H3:Hid (Os base A w0 (w2.setCell ⟨ob,4,none⟩ (.slice ua un uc)) ob db tb fb fg F d r' T (.slice ua un uc) root tx (aD r')):=h3.Jp ho Hu;have Vo:=ab ((pM (ob:=ob) gy.out).set (Below.next (aA (Below.refl _ _) k) hb) 4 (.slice ua un uc));have HR:Hid ((cQ (key,⟨#[]⟩)=true∧bm (aD r) key=true∧uE key (fun l=>fT l key) r r')∨(¬ (cQ (key,⟨#[]⟩)=true∧bm (aD r) key=true)∧r'=r)):=by
   rcases Gp.out with ⟨hf,hu⟩ | ⟨hf,hu⟩
   ·exact .inl ⟨HM.out,hf,hu⟩
   ·exact .inr ⟨fun h=>(by rw [hf] at h;cases h.2),hu⟩
  clear h3 hcase ho Hu hb q4 HW;generalize bm (aD r) key=fd;cases fd
  all_goals
   go_wp2;go_ret;exact ⟨rfl,r',_,HR.out,H3.out,Vo.out⟩
 ·have Mb:cQ (key,⟨#[]⟩)=false:=by simpa using hm
  rw [Mb] at zy;have HM:=ab hm;clear hm Mb;go_enter func22,ntmps22;go_wp2_with fail;refine HP.out.mono ?_
  rintro e w1 (⟨hm,_⟩ | ⟨_,rfl,ht⟩)
  ·exact absurd hm HM.out
  have h1:=H.out.tree ht (List.Sublist.refl _);have Yu:=ab (wu A w1 h1.ts.dv.errs);have ZG:=ab (zy.out w1);have H1:=ab h1;have Vo:=ab (pM (ob:=ob) ht.st);clear ht h1 p3 HP zy;go_wp2_with fail;refine ZG.out.mono ?_
  rintro e w1' ⟨rfl,rfl⟩;go_wp2_with fail;refine Yu.out.mono ?_
  rintro e w2 ⟨rfl,rfl⟩;go_wp2;go_ret;exact ⟨rfl,r,_,.inr ⟨fun h=>HM.out h.1,rfl⟩,H1.out,Vo.out⟩
end
theorem Tf(l:List Nat):∃ L:List Nat,pS l=L.map (fun n:Nat=>(n:Int))∧L.Perm l:=by
 have hp:=K0 l;refine ⟨(pS l).map Int.toNat,?_,?_⟩
 ·rw [et];have:∀ x ∈ pS l,((fun n:Nat=>(n:Int)) ∘ Int.toNat) x=x:=fun x hx=>by
   obtain ⟨n,_,rfl⟩:=List.mem_map.1 (hp.mem_iff.1 hx);simp
  conv=>lhs;rw [← List.map_id (pS l)]
  exact gN fun x hx=>(this x hx).symm
 ·have:=hp.map Int.toNat;rw [et] at this;have e:l.map (Int.toNat ∘ fun n:Nat=>(n:Int))=l:=by
   conv=>rhs;rw [← List.map_id l]
   exact gN fun x _=>by simp
  rw [e] at this;exact this
theorem Hi(T:Nat→Bool)(L:List Nat)(i:Nat):iu T (L++[i])=Q.nX (iu T L) i true:=by
 unfold iu;rw [gx];rfl
theorem Hd{L:List Nat}(h:L.Nodup){k:Nat}(hk:k<L.length):¬ L[k] ∈ L.take k:=fun hm=>by
 obtain ⟨j,hj,he⟩:=aK hm;rw [ag] at hj;rw [bF] at he;exact List.pairwise_iff_getElem.1 h j k (by omega) hk (by omega) he
theorem ZT{i:Nat}(h1:2≤i)(h2:i<4000):Q.T0 4000 i=false:=by
 unfold Q.T0;rw [decide_eq_false (by omega),decide_eq_false (by omega)]
 rfl
section
variable {base:Nat} {A:Nat→Addr} {w0:World} {ob db tb fb fg:Nat} {F:Nat→Prop} {d:S.V.bE} {r:cT} {T:Nat→Bool} {wv:Value} {root tx:Nat} {l:List Pr}
theorem Pp{w:World}(h:Os base A w0 w ob db tb fb fg F d r T wv root tx l)(hn:(aD r).length≤1000000):Calls prog 64 #[.pointer (some ⟨ob,0,none⟩)] w fun e w'=>e = .returned (.bool true)∧∃ MF N4 L,L.Perm (eh r)∧Os base A w0 w' ob db tb MF N4 F d r (iu (Q.T0 4000) L) wv root tx l∧Fr F tb ob w w':=by
 have ue:=kn h.ts.ok;obtain ⟨L,hL,E6⟩:=Tf (eh r);have Ka:L.Nodup:=E6.nodup_iff.2 h.nd;have hLr:∀ i ∈ L,2≤i∧i<4000:=fun i hi=>h.pr i (E6.mem_iff.1 hi)
 have N9:=ab (uV h.ts (by omega) h.nd (by omega))
 rw [hL] at N9;obtain ⟨n,EV⟩ : ∃ n,n=L.length:=⟨_,rfl⟩;rw [← E6.length_eq,← EV] at N9;have su:n≤1000000000:=by rw [EV,E6.length_eq];omega
 have p3:=h.c.1;have H:=ab h;have zi:=ab Ka;have YB:=ab hLr;have Ah:=ab E6;have BH:=ab EV;clear h hn ue hL Ka hLr E6 EV;obtain ⟨Q0,Iq⟩ : ∃ Q0:Ending→World→Prop,Q0=fun e w'=>e = .returned (.bool true)∧∃ MF N4 L,L.Perm (eh r)∧Os base A w0 w' ob db tb MF N4 F d r (iu (Q.T0 4000) L) wv root tx l∧Fr F tb ob w w':=⟨_,rfl⟩
 rw [← Iq];have HQ:=ab Iq;clear Iq;go_enter func64,ntmps64;go_wp2_with fail;refine N9.out.mono ?_
 rintro e w1 ⟨⟨v,rfl,aE⟩,fD,fo⟩;have h1:=H.out.tree (H.out.ts.mv fo fD) (List.Sublist.refl _);have lM:∃ a c,v = .slice a n c:=by
  rcases aE.2 with ⟨h',h0⟩ | ⟨g,cap,cur,h',_⟩
  ·exact ⟨none,0,by rw [h',h0]⟩
  ·exact ⟨_,_,h'⟩
 obtain ⟨a,c,lM⟩:=lM;have zm:Hid (∀ j (hj:j<n),∃ gb,a=some ⟨gb,0,none⟩∧w1.cell? ⟨gb,j,none⟩=some (.int .i64 ((L[j]'(by have:=BH.out;omega):Nat):Int))):=fun j hj=>by
  have hlen:j<L.length:=by have:=BH.out;omega
  rcases aE.2 with ⟨h',h0⟩ | ⟨g,cap,cur,h',hb,hg,_⟩
  ·omega
  ·rw [lM] at h';simp only [Value.slice.injEq] at h';refine ⟨g,h'.1,?_⟩;have A2:v = .slice (some ⟨g,0,none⟩) n cap:=by rw [lM,h'.1,h'.2.2]
   rw [A2] at aE;have:=aE.cellAt j (by omega)
   rw [this,aG,aG,af hlen];rfl
 have p0:=h1.c.2.2.1;have H1:=ab h1;have ZE:=ab (Q.wA 4000 w1 (by decide) (by decide))
 have ZG:Hid (Fr F tb ob w w1):=vm fo;subst lM;clear aE fD fo h1 N9 p3;go_wp2_with fail;refine ZE.out.mono ?_
 rintro e w2 ⟨mb,mg,rfl,J5,hmg,hmap,aV⟩;have h2:=H1.out.below aV;have HMB:=ab J5;have Ws:=ab hmg;have Sj:=ab hmap;have bL:=ab aV;have acZ:=ab h2.env;clear h2 J5 hmg hmap aV ZE p0;go_wp2;go_loopw [7] (fun iv wr=>∃ k:Nat,k≤n∧iv = .int .i64 (k:Int)∧Q.eU wr mb mg 4000 (iu (Q.T0 4000) (L.take k))∧Q.gv (fun k=>k=mg) w2 wr) (fun iv _=>n - (intOf iv).toNat)
 case atStart=>exact ⟨0,aB _,rfl,by rw [List.take_zero];exact Sj.out,Q.gv.refl _ _⟩
 case round =>
  obtain ⟨k,hk,rfl,hmr,ES⟩:=hrel;by_cases bO:k<n
  ·have cZ:k<L.length:=by have:=BH.out;omega
   obtain ⟨gb,rfl,c1⟩:=zm.out k bO;have yy:=World.block_lt_of_cell? w1 _ c1;have c2:wr.cell? ⟨gb,k,none⟩=some (.int .i64 ((L[k] : Nat):Int)):=ES.cell (a:=⟨gb,k,none⟩) ((bL.out.cell (p:=⟨gb,k,none⟩) yy).trans c1) (by have:=Ws.out;have h9:gb<w1.heap.size:=yy;show ¬ gb=mg;omega)
   have abA:Q.Env base A wr:=acZ.out.keep ⟨ES.os,ES.tape,ES.output,ES.size,fun k hk=>ES.block k (aq hk acZ.out.size) (by have h8:=Ws.out;have h9:=H1.out.env.size;show ¬ k=mg;omega)⟩
   have HMK:=ab (Q.PL base A mb mg 4000 _ ((L[k] : Nat):Int) wr hmr abA);have VO:=YB.out L[k] (aJ cZ);have V1:iu (Q.T0 4000) (L.take k) L[k]=false:=by
    rw [oH];have h1:Q.T0 4000 L[k]=false:=ZT VO.1 VO.2;have h2:=Hd zi.out cZ;rw [h1,decide_eq_false h2];rfl
   have hmd:Q.Eh 4000 (iu (Q.T0 4000) (L.take k)) ((L[k] : Nat):Int)=(none,iu (Q.T0 4000) (L.take (k+1))):=by
    have ht:Q.oj 4000 ((L[k] : Nat):Int)=true:=by
     unfold Q.oj;rw [decide_eq_true (by omega:(2:Int)≤((L[k] : Nat):Int)),decide_eq_true (by omega:((L[k] : Nat):Int)<((4000:Nat):Int))];rfl
    unfold Q.Eh;rw [if_pos ht,bt,V1,ax cZ,Hi];rfl
   rw [hmd] at HMK;have dE:(k:Int)<(n:Int):=by omega
   have j0:(0:Int)≤(k:Int):=by omega
   have Ys:=ab ES;generalize ((L[k] : Nat):Int)=x at *;clear hmd V1 VO abA hmr ES c1 yy zm;go_wp2_with fail;refine HMK.out.mono ?_
   rintro e w3 ⟨rfl,lX,kO⟩;have C0:=ab lX;have rl:=ab (Ys.out.trans kO);rw [show im A none = .nilIface from rfl]
   clear lX kO HMK c2;go_wp2;go_roundw
   case rel=>exact ⟨k+1,by omega,by go_num,C0.out,rl.out⟩
   case measure=>simp [intOf];omega
  ·have dE:¬ (k:Int)<(n:Int):=by omega
   have nG:k=n:=by omega
   have bQ:Below w1.heap.size w1 wr:=⟨ES.os.trans bL.out.os,ES.tape.trans bL.out.tape,ES.output.trans bL.out.output,ar bL.out.size ES.size,fun k hk=>(ES.block k (aq hk bL.out.size) (by have h8:=Ws.out;show ¬ k=mg;omega)).trans (bL.out.block k hk)⟩
   have h3:Os base A w0 wr ob db tb fb fg F d r T wv root tx l:=H1.out.below bQ;have Vo:=ab (ZG.out.set bQ 2 (.pointer (some ⟨mb,0,none⟩)));have z2:=h3.c.2.2.2.2.1;have y2:=h3.row.free 2;have H3:Hid (Os base A w0 (wr.setCell ⟨ob,2,none⟩ (.pointer (some ⟨mb,0,none⟩))) ob db tb mb mg F d r (iu (Q.T0 4000) L) wv root tx l):=by
    have su:=H1.out.new HMB.out;have Qv:=H1.out.new Ws.out;have b8:=H1.out.env.size;have hT:L.take k=L:=ao (by have:=BH.out;omega)
    rw [hT] at hmr;refine h3.set 2 (heap_setCell_same _ _ 2 _ _ _ h3.row) ⟨hmr,PM (Q.Vz (by decide) (by decide)) L,⟨by have:=Ws.out;omega,by have:=HMB.out;omega⟩,⟨Qv.1,su.1⟩,⟨Qv.2.1,su.2.1⟩⟩ ⟨su.2.2.1.symm,Qv.2.2.1.symm⟩ (fun i hi=>?_) h3.want fun k hk=>?_
    ·rw [oH,decide_eq_true (Ah.out.mem_iff.2 hi),Bool.or_true]
    ·have h7:=h3.wn k hk;have h8:=(H1.out.want.dx k hk).2;exact ⟨h7.1,h7.2.1,h7.2.2.1,by have:=HMB.out;omega,by have:=Ws.out;omega⟩
   clear hmr ES h3 zm bQ;go_wp2;rw [HQ.out];exact ⟨rfl,_,_,L,Ah.out,H3.out,Vo.out⟩
end
structure Ob(base:Nat)(A:Nat→Addr)(w0 w:World)(ob db tb fb fg:Nat)(F:Nat→Prop)(d:S.V.bE)(rv:Value)(T:Nat→Bool)(wv:Value)(root tx:Nat)(l:List Pr):Prop where
 row:B.au w ob (kM db fb tb wv root tx) 65
 dv:Dv base A db F d w
 tr:B.au w tb #[.pointer (some ⟨db,0,none⟩),rv] 100
 mp:Mp base F tb w fb fg 4000 T
 env:Q.Env base A w
 want:fJ w base wv l
 eT:Below base w0 w
 ap:base≤ob∧¬ F ob∧ob≠tb∧ob≠fb∧ob≠fg
 wn:∀ k,wv.ownBlock=some k→¬ F k∧k≠tb∧k≠ob∧k≠fb∧k≠fg
 lo:base≤tb∧¬ F tb
theorem nB{base:Nat}{a b c:World}(h:Below base a b)(k:Below base b c):Below base a c:=⟨k.os.trans h.os,k.tape.trans h.tape,k.output.trans h.output,ar h.size k.size,fun i hi=>(k.block i hi).trans (h.block i hi)⟩
section
variable {base:Nat} {A:Nat→Addr} {w0:World} {ob db tb fb fg:Nat} {F:Nat→Prop} {d:S.V.bE} {r:cT} {T:Nat→Bool} {wv rv:Value} {root tx:Nat} {l:List Pr}
theorem Ob.os{w:World}(h:Ob base A w0 w ob db tb fb fg F d rv T wv root tx l)(hr:ft (cF d) w rv r)(cM:eD r)(jb:(eh r).Nodup)(yt:∀ i ∈ eh r,T i=true)(hpr:∀ i ∈ eh r,2≤i∧i<4000)(hd:d.eQ=[]∧d.aX=[]∧d.size=32000):Os base A w0 w ob db tb fb fg F d r T wv root tx l :=
 ⟨h.row,⟨h.dv,⟨rv,h.tr,hr⟩,cM,S.V.Step.refl _ _,h.lo⟩,h.mp,h.env,h.want,jb,yt,hpr,hd,h.eT,h.ap,h.wn⟩
theorem Ob.step{w w1:World}{F1:Nat→Prop}{d1:S.V.bE}(h:Ob base A w0 w ob db tb fb fg F d rv T wv root tx l)(hs:S.V.Step F F1 w w1)(hv:Dv base A db F1 d1 w1):Ob base A w0 w1 ob db tb fb fg F1 d1 rv T wv root tx l:=by
 have hb:∀ k,k<w.heap.size→¬ F k→w1.heap[k]?=w.heap[k]?:=hs.block;have Uk:∀ k,k<w.heap.size→¬ F k→¬ F1 k:=fun k hk hf e=>(hs.sub k e).elim hf (by omega)
 have jB:Below base w w1:=(tC hs h.env.size h.dv.up).1;have m:=h.mp;have c1:=m.map.TO;have c2:=m.map.TN;refine ⟨(hb ob h.row.lt h.ap.2.1).trans h.row,hv,(hb tb h.tr.lt h.lo.2).trans h.tr,⟨jO m.map (hb _ c1 m.nf.2) (hb _ c2 m.nf.1),m.ok,m.lo,⟨Uk _ c2 m.nf.1,Uk _ c1 m.nf.2⟩,m.nt⟩,h.env.keep jB,h.want.same fun k hk=>hb k (h.want.dx k hk).2 (h.wn k hk).1,nB h.eT jB,⟨h.ap.1,Uk _ h.row.lt h.ap.2.1,h.ap.2.2⟩,fun k hk=>⟨Uk k (h.want.dx k hk).2 (h.wn k hk).1,(h.wn k hk).2⟩,h.lo.1,Uk _ h.tr.lt h.lo.2⟩
theorem Ob.Tk{w:World}(h:Ob base A w0 w ob db tb fb fg F d rv T wv root tx l)(xz:Nat):Ob base A w0 (w.setCell ⟨ob,5,none⟩ (.int .i64 (xz:Int))) ob db tb fb fg F d rv T wv xz tx l:=by
 have hs:=bG.set ob 5 w (.int .i64 (xz:Int));have jB:Below base w (w.setCell ⟨ob,5,none⟩ (.int .i64 (xz:Int))):=⟨hs.os,hs.tape,hs.output,hs.size,fun k hk=>hs.block k (aq hk h.env.size) (by have:=h.ap.1;omega)⟩
 have m:=h.mp;refine ⟨heap_setCell_same _ _ 5 _ _ _ h.row,h.dv.tree h.ap.1 h.ap.2.1 5 _,(hs.block tb h.tr.lt h.ap.2.2.1.symm).trans h.tr,⟨jO m.map (hs.block _ m.map.TO h.ap.2.2.2.1.symm) (hs.block _ m.map.TN h.ap.2.2.2.2.symm),m.ok,m.lo,m.nf,m.nt⟩,h.env.keep jB,h.want.same fun k hk=>hs.block k (h.want.dx k hk).2 (h.wn k hk).2.2.1,nB h.eT jB,h.ap,h.wn,h.lo⟩
theorem Ob.c{w:World}(h:Ob base A w0 w ob db tb fb fg F d rv T wv root tx l):w.cell? ⟨ob,3,none⟩=some (.pointer (some ⟨tb,0,none⟩))∧w.cell? ⟨ob,1,none⟩=some (.pointer (some ⟨db,0,none⟩))∧w.cell? ⟨ob,5,none⟩=some (.int .i64 (root:Int))∧w.cell? ⟨ob,2,none⟩=some (.pointer (some ⟨fb,0,none⟩))∧w.cell? ⟨ob,6,none⟩=some (.int .u64 (tx:Int)) :=
 ⟨h.row.cell 3 (by simp [kM]),h.row.cell 1 (by simp [kM]),h.row.cell 5 (by simp [kM]),h.row.cell 2 (by simp [kM]),h.row.cell 6 (by simp [kM])⟩
theorem Os.ZY{w:World}(h:Os base A w0 w ob db tb fb fg F d r T wv root tx l)(ZR:Nat):Os base A w0 (w.setCell ⟨ob,6,none⟩ (.int .u64 (ZR:Int))) ob db tb fb fg F d r T wv root ZR l :=
 h.set 6 (heap_setCell_same _ _ 6 _ _ _ h.row) h.mp h.ap.2.2.2 h.pt h.want h.wn
theorem Cw{w:World}{tb:Nat}{q:Value}(r:cT)(ht:B.au w tb #[q,j9 r] 100):Calls prog 20 #[.pointer (some ⟨tb,0,none⟩)] w fun e w'=>e = .returned (.int .i64 0)∧w=w':=by
 have c1:=ht.c1;clear ht;cases r with
 | none =>
  have Wc:w.cell? ⟨tb,1,none⟩=some .nilIface:=c1;have hq:=fun W=>oW W
  clear c1;go_enter func20,ntmps20;go_wp2;go_ret;exact ⟨rfl,rfl⟩
 | some x =>
  have Wc:w.cell? ⟨tb,1,none⟩=some (.iface 146 (.int .i64 (fh x.1 x.2:Int))):=c1;have hq:=fun W=>nx 146 (.int .i64 (fh x.1 x.2:Int)) W
  clear c1;go_enter func20,ntmps20;go_wp2_with fail;refine (xK _ w).mono ?_
  rintro e w1 ⟨rfl,rfl⟩;go_wp2;go_ret;exact ⟨rfl,rfl⟩
theorem Os.Ty{w w1:World}{rv:Value}{T1:Nat→Bool}(h:Os base A w0 w ob db tb fb fg F d r T wv root tx l)(hm:Mp base F tb w1 fb fg 4000 T1)(ht:B.au w1 tb #[.pointer (some ⟨db,0,none⟩),rv] 100)(hv:Dv base A db F d w1)(hs:S.V.Step (fun k=>k=fg∨k=tb) (fun k=>k=fg∨k=tb) w w1):Ob base A w0 w1 ob db tb fb fg F d rv T1 wv root tx l:=by
 have hb:∀ k,k<w.heap.size→k≠fg→k≠tb→w1.heap[k]?=w.heap[k]?:=fun k hk h1 h2=>hs.block k hk (fun e=>e.elim h1 h2)
 have jB:Below base w w1:=(tC hs h.env.size (fun k hk=>by
  rcases hk with rfl | rfl
  ·exact h.mp.lo.1
  ·exact h.ts.lo.1)).1
 exact ⟨(hb ob h.row.lt h.ap.2.2.2.2 h.ap.2.2.1).trans h.row,hv,ht,hm,h.env.keep jB,h.want.same fun k hk=>hb k (h.want.dx k hk).2 (h.wn k hk).2.2.2.2 (h.wn k hk).2.1,nB h.eT jB,h.ap,h.wn,h.ts.lo⟩
end
theorem pA:∀ (l:List S.Sh) (j:Nat) (h:j<l.length) (q:Nat),q<5→(K7 l)[j*5+q]?=(l[j]).cells[q]?
 | [],_,h,_,_=>absurd h (by simp)
 | x::r,0,_,q,hq=>by
  show (x.cells++K7 r)[0*5+q]?=x.cells[q]?
  rw [Nat.zero_mul,Nat.zero_add,bf (by simpa [S.Sh.cells] using hq)]
 | x::r,j+1,h,q,hq=>by
  show (x.cells++K7 r)[(j+1)*5+q]?=_
  have hl:x.cells.length=5:=rfl;rw [aM (by rw [hl];omega),hl,show (j+1)*5+q - 5=j*5+q by omega,pA r j (by simpa using h) q hq]
  rfl
theorem sX.cells{w:World}{base:Nat}{a:Option Addr}{n c:Nat}{L:List S.Sh}(h:sX w base (.slice a n c) L)(j:Nat)(hj:j<L.length):∃ g,a=some ⟨g,0,none⟩∧(base≤g∧g<w.heap.size)∧w.cell? ⟨g,j*5,none⟩=some (.int .i64 L[j].kind)∧w.cell? ⟨g,j*5+1,none⟩=some (.int .i64 L[j].id)∧w.cell? ⟨g,j*5+2,none⟩=some (.int .u64 (L[j].rD:Int))∧w.cell? ⟨g,j*5+3,none⟩=some (.int .i64 L[j].count)∧w.cell? ⟨g,j*5+4,none⟩=some (.string L[j].body):=by
 rcases h.2 with ⟨_,h0⟩ | ⟨g,cap,cur,h',hb,hg,_⟩
 ·omega
 ·simp only [Value.slice.injEq] at h';obtain ⟨rfl,rfl,rfl⟩:=h';have h:w.ownsRow base 87 5 (.slice (some ⟨g,0,none⟩) L.length c) L.length (K7 L):=h;refine ⟨g,rfl,⟨hb,(Array.getElem?_eq_some_iff.1 hg).1⟩,?_,?_,?_,?_,?_⟩
  ·rw [h.cellAt (j*5) (by omega)];exact pA L j hj 0 (by decide)
  ·rw [h.cellAt (j*5+1) (by omega)];exact pA L j hj 1 (by decide)
  ·rw [h.cellAt (j*5+2) (by omega)];exact pA L j hj 2 (by decide)
  ·rw [h.cellAt (j*5+3) (by omega)];exact pA L j hj 3 (by decide)
  ·rw [h.cellAt (j*5+4) (by omega)];exact pA L j hj 4 (by decide)
section
variable {base:Nat} {A:Nat→Addr} {w0:World} {ob db tb fb fg:Nat} {F:Nat→Prop} {d:S.V.bE} {r:cT} {T:Nat→Bool} {wv:Value} {root tx:Nat} {l:List Pr}
abbrev laid(T:Nat→Bool)(r:cT):cT:=(jz (fi (Q.fk T 4000 (eA r))) r).1
abbrev VG(T:Nat→Bool)(r:cT)(tx:Nat):List S.Sh:=(jz (fi (Q.fk T 4000 (eA r))) r).2.map (j8 tx)
def Fs(F:Nat→Prop)(tb ob fg:Nat)(w:World)(F1:Nat→Prop)(w':World):Prop:=w.heap.size≤w'.heap.size∧∀ k,k<w.heap.size→¬ F k→k≠tb→k≠ob→k≠fg→w'.heap[k]?=w.heap[k]?∧¬ F1 k
theorem Fs.step{F F1 F2:Nat→Prop}{tb ob fg:Nat}{w w1 w2:World}(h:Fs F tb ob fg w F1 w1)(hs:S.V.Step F1 F2 w1 w2):Fs F tb ob fg w F2 w2:=⟨ar h.1 hs.size,fun k hk a b c e=>by
 obtain ⟨h1,h2⟩:=h.2 k hk a b c e;exact ⟨(hs.block k (aq hk h.1) h2).trans h1,fun g=>(hs.sub k g).elim h2 (by have:=h.1;omega)⟩⟩
theorem Fs.fr{F F1:Nat→Prop}{tb ob fg:Nat}{w w1 w2:World}(h:Fs F tb ob fg w F1 w1)(hs:Fr F1 tb ob w1 w2):Fs F tb ob fg w F1 w2:=⟨ar h.1 hs.1,fun k hk a b c e=>by
 obtain ⟨h1,h2⟩:=h.2 k hk a b c e;exact ⟨(hs.2 k (aq hk h.1) h2 b c).trans h1,h2⟩⟩
theorem Fs.set{F F1:Nat→Prop}{tb ob fg:Nat}{w w1:World}(h:Fs F tb ob fg w F1 w1)(j:Nat)(u:Value):Fs F tb ob fg w F1 (w1.setCell ⟨ob,j,none⟩ u):=⟨ar h.1 (bG.set ob j w1 u).size,fun k hk a b c e=>by
 obtain ⟨h1,h2⟩:=h.2 k hk a b c e;exact ⟨((bG.set ob j w1 u).block k (aq hk h.1) c).trans h1,h2⟩⟩
structure IQ(base:Nat)(A:Nat→Addr)(w0 w:World)(ob db tb:Nat)(r:cT)(T:Nat→Bool)(wv:Value)(tx:Nat)(l:List Pr)(F0:Nat→Prop)(fg0:Nat)(wS:World):Prop where
 out:∃ (fb fg:Nat) (F:Nat→Prop) (d:S.V.bE) (L:List Nat),L.Perm (eh (laid T r))∧Os base A w0 w ob db tb fb fg F d (laid T r) (iu (Q.T0 4000) L) wv (gm (laid T r)) (tx+1) l∧(∀ W,ft (cF d) W (j9 (laid T r)) (laid T r))∧Fs F0 tb ob fg0 wS F w
theorem LZ:(jz (fi (Q.fk T 4000 (eA r))) r).2.length=eA r:=by
 cases r with
 | none=>rfl
 | some x=>exact pI x.1 x.2 0
theorem tK{w:World}(h:Os base A w0 w ob db tb fb fg F d r T wv root tx l)(hn:(aD r).length≤50000)(E2:eA r≤(Q.gB T 4000).length)(Sx:tx<1099511627776):Calls prog 26 #[.pointer (some ⟨ob,0,none⟩)] w fun e w'=>e = .returned (.bool true)∧IQ base A w0 w' ob db tb r T wv tx l F fg w:=by
 have ue:=kn h.ts.ok;have YN:=ab (jZ h.ts (by omega))
 have Ut:eA r≤100000:=by omega
 obtain ⟨rv0,_,aaM⟩:=h.ts.tr;obtain ⟨QR,hpe,NN⟩:=Dp (tx:=tx+1) aaM h.ts.ok h.mp.ok E2 h.nd h.pt (by rw [h.lx.2.1];intro x hx;simp at hx) h.lx.2.2 (by omega)
 have hlen:(VG T r (tx+1)).length=eA r:=by rw [az];exact LZ
 obtain ⟨vS,Mq⟩:=qL h.mp.ok E2 h.nd h.pt;have Un:=wD (P:=fi (Q.fk T 4000 (eA r))) h.ts.ok;have VP:=AV Mq (fun j=>by have:=ni (n:=eA r) h.mp.ok j;omega)
 have Yo:Hid (∀ i ∈ eh (laid T r),Q.kL T (Q.fk T 4000 (eA r)) i=true∧2≤i∧i<4000):=fun i hi=>by
  have hi:=VP.mem_iff.1 hi;have hk:=h.mp.ok;rcases List.mem_append.1 hi with hi | hi
  ·exact ⟨by simp [Q.kL,h.pt i hi],h.pr i hi⟩
  ·have h1:=Q.se hi;refine ⟨by simp [Q.kL,hi],?_,h1.1⟩
   rcases a6 i 2 with hx | hx
   ·have:i=0∨i=1:=by omega
    rcases this with rfl | rfl
    ·rw [hk.t0] at h1;cases h1.2
    ·rw [hk.t1] at h1;cases h1.2
   ·exact hx
 obtain ⟨Z,hZ⟩ : ∃ Z,Z=VG T r (tx+1):=⟨_,rfl⟩;obtain ⟨R,hR⟩ : ∃ R,R=laid T r:=⟨_,rfl⟩;have hpd:=fun (n:Nat)=>lJ (d:=d) (Z.take n).length (Z.take n) rfl
 have agN:Hid (∀ s ∈ Z,RI d.size s):=by rw [hZ];exact QR
 have Wq:Hid (∀ k,(eJ d (Z.take k)).aX.length≤1000000∧(eJ d (Z.take k)).eQ=[]∧(eJ d (Z.take k)).size=d.size):=fun k=>by
  obtain ⟨a1,a2,a3,a4,a5⟩:=hpd k;have:(Z.take k).length≤eA r:=by rw [ag,← hlen,hZ];omega
  exact ⟨by rw [a4,h.lx.2.1];simp only [List.length_nil];omega,by rw [a2];exact h.lx.1,a1⟩
 have agb:Hid ((nE (eJ d Z)).eQ=[]∧(nE (eJ d Z)).aX=[]∧(nE (eJ d Z)).size=32000):=by
  obtain ⟨a1,a2,a3,a4,a5⟩:=lJ (d:=d) Z.length Z rfl;exact ⟨by show (eJ d Z).eQ=[];rw [a2];exact h.lx.1,rfl,by show (eJ d Z).size=32000;rw [a1];exact h.lx.2.2⟩
 have N6:Hid (∀ W,ft (cF (nE (eJ d Z))) W (j9 R) R):=by rw [hZ,hR];exact NN
 have hlZ:Z.length=eA r:=by rw [hZ];exact hlen
 have acy:Hid (eD R∧aD R=aD r∧(eh R).Nodup):=by rw [hR];exact ⟨Un.1,Un.2,vS⟩
 have Wk:=ab (h.ZY (tx+1));have vM:Hid (∀ W,Below (w.setCell ⟨ob,6,none⟩ (.int .u64 ((tx+1:Nat):Int))).heap.size (w.setCell ⟨ob,6,none⟩ (.int .u64 ((tx+1:Nat):Int))) W→Calls prog 35 #[.pointer (some ⟨tb,0,none⟩),.pointer (some ⟨fb,0,none⟩),.int .u64 ((tx:Int)+1)] W fun e w'=>∃ sv,e = .returned (.tuple #[sv,.int .i64 (gm R:Int),.nilIface])∧(sX w' base sv Z∧∀ g,sv.ownBlock=some g→¬ F g)∧Ob base A w0 w' ob db tb fb fg F d (j9 R) (Q.kL T (Q.fk T 4000 (eA r))) wv root (tx+1) l∧Fs F tb ob fg w F w'):=fun W hW=>by
  have h1:=Wk.out.below hW;have hp:=GV (tx:=tx+1) h1.ts h1.env h1.mp E2 (by omega) h1.nd h1.pt
  rw [gk,kA] at hp;refine hp.mono ?_
  rintro e w' ⟨sv,rfl,ho,hm,ht,hv,hs⟩;rw [hZ,hR];refine ⟨sv,rfl,⟨ho.lower h1.env.size,fun g hg=>(h1.new (ho.dx hg).1).1⟩,h1.Ty hm ht hv hs,?_⟩
  have s6:=bG.set ob 6 w (.int .u64 ((tx+1:Nat):Int));refine ⟨ar s6.size (ar hW.size hs.size),fun k hk a b c e=>⟨?_,a⟩⟩
  have iV:=aq hk s6.size;exact (hs.block k (aq iV hW.size) (fun x=>x.elim e b)).trans ((hW.block k iV).trans (s6.block k hk c))
 have HTI:Hid (∀ (w:World) (fb fg:Nat) (F:Nat→Prop) (d:S.V.bE) (T1:Nat→Bool) (wv:Value) (root tx:Nat),Os base A w0 w ob db tb fb fg F d R T1 wv root tx l→Calls prog 64 #[.pointer (some ⟨ob,0,none⟩)] w fun e w'=>e = .returned (.bool true)∧∃ MF N4 L,L.Perm (eh R)∧Os base A w0 w' ob db tb MF N4 F d R (iu (Q.T0 4000) L) wv root tx l∧Fr F tb ob w w'):=fun w fb fg F d T1 wv root tx ho=>Pp ho (by rw [hR,Un.2];omega)
 have p3:=h.c.1;have p6:=h.c.2.2.2.2.2.2;have y6:=h.row.free 6;have q6:=Wk.out.c.2.2.2.2.2.2;have q3:=Wk.out.c.1;have q2:=Wk.out.c.2.2.2.2.1;rw [gk,kA] at q6 q3 q2;rw [gk,kA] at vM;rw [← hR] at Yo;have HR:=ab hR;obtain ⟨N,hN⟩ : ∃ N,N=eA r:=⟨_,rfl⟩;rw [← hN] at YN hlZ Ut;have hNI:(Z.length:Int)=(N:Int):=by rw [hlZ]
 have alZ:=ab h.lx;clear h hn E2 ue QR hpe NN aaM hlen vS Mq Un VP hZ hR hpd hN;obtain ⟨Q0,Iq⟩ : ∃ Q0:Ending→World→Prop,Q0=fun e w'=>e = .returned (.bool true)∧IQ base A w0 w' ob db tb r T wv tx l F fg w:=⟨_,rfl⟩
 rw [← Iq];have HQ:=ab Iq;clear Iq;have htb:(tx:Int)+1<18446744073709551616:=by omega
 go_enter func26,ntmps26;go_wp2_with fail;refine YN.out.mono ?_
 rintro e w1' ⟨rfl,rfl⟩;go_wp2_with fail;go_region_held3 (fun w'=>w'.cell? ⟨ob,3,none⟩=some (.pointer (some ⟨tb,0,none⟩))∧w'.cell? ⟨ob,2,none⟩=some (.pointer (some ⟨fb,0,none⟩))∧w'.cell? ⟨ob,6,none⟩=some (.int .u64 ((tx:Int)+1))) (go_keep)
  (first
   | (go_at_call 35;refine (vM.out _ ?_).mono ?_;(first | exact (Below.refl _ _).drew | exact aA (Below.refl _ _) _);rintro e w2 ⟨sv,rfl,⟨jf,Qv⟩,aV,Ij⟩;have HFS:=ab Ij;obtain ⟨sa,sc,rfl⟩:=jf.form;rw [hlZ] at jf Qv ⊢;have jx:=ab jf;have HNG:=ab Qv;have bL:=ab aV;have m3:=aV.c.1;have m2:=aV.c.2.2.2.1;have m6:=aV.c.2.2.2.2;rw [gk,kA] at m6;clear jf aV Qv Ij))
 all_goals
  clear p3 p6 y6 q6 q3 q2 vM YN Wk m2 m6;go_wp2_with fail;refine (Cw R bL.out.tr).mono ?_
  rintro e w3 ⟨rfl,rfl⟩;clear m3;go_wp2;go_loopw [7] (fun iv wr=>∃ (k:Nat) (F1:Nat→Prop),k≤N∧iv = .int .i64 (k:Int)∧Ob base A w0 wr ob db tb fb fg F1 (eJ d (Z.take k)) (j9 R) (Q.kL T (Q.fk T 4000 (eA r))) wv root (tx+1) l∧sX wr base (.slice sa N sc) Z∧(∀ g,(Value.slice sa N sc).ownBlock=some g→¬ F1 g)∧Fs F tb ob fg w F1 wr) (fun iv _=>N - (intOf iv).toNat)
  case atStart=>exact ⟨0,F,aB _,rfl,bL.out,jx.out,HNG.out,HFS.out⟩
  case round =>
   obtain ⟨k,F1,hk,rfl,zX,CP,Qv,hfs⟩:=hrel;by_cases bO:k<N
   ·have cZ:k<Z.length:=by omega
    obtain ⟨g,rfl,yy,h0,h1,h2,h3,h4⟩:=CP.cells k cZ;have gy:Hid (∀ W,Below wr.heap.size wr W→Calls prog 62 #[.pointer (some ⟨db,0,none⟩),.agg #[.int .i64 Z[k].kind,.int .i64 Z[k].id,.int .u64 (Z[k].rD:Int),.int .i64 Z[k].count,.string Z[k].body]] W fun e w'=>e = .returned .nilIface∧∃ F2,Ob base A w0 w' ob db tb fb fg F2 (eJ d (Z.take (k+1))) (j9 R) (Q.kL T (Q.fk T 4000 (eA r))) wv root (tx+1) l∧sX w' base (.slice (some ⟨g,0,none⟩) N sc) Z∧(∀ k,(Value.slice (some ⟨g,0,none⟩) N sc).ownBlock=some k→¬ F2 k)∧(∀ o u,wr.cell? ⟨g,o,none⟩=some u→w'.cell? ⟨g,o,none⟩=some u)∧Fs F tb ob fg w F2 w'):=fun W hW=>by
     have aaW:=zX.step (S.V.Step.bD hW) (zX.dv.below hW);have fI:=agN.out Z[k] (aJ cZ);have H8:=Wq.out k;refine (OO Z[k] aaW.dv fI.1 fI.2.1 (by rw [H8.2.2];exact fI.2.2) H8.1 H8.2.1).mono ?_
     rintro e w' ⟨rfl,F2,je,iL⟩;have hgn:¬ F1 g:=Qv g rfl;have hgW:g<W.heap.size:=aq yy.2 hW.size;have gJ:w'.heap[g]?=wr.heap[g]?:=(iL.block g hgW hgn).trans (hW.block g yy.2);refine ⟨rfl,F2,?_,?_,?_,fun o u hu=>bP gJ hu,(hfs.step (S.V.Step.bD hW)).step iL⟩
     ·rw [ax cZ,qF];exact aaW.step iL je
     ·refine CP.same fun j hj=>?_
      have hj:g=j:=by simpa [Value.ownBlock] using hj
      subst hj;exact gJ
     ·intro j hj;have hj:g=j:=by simpa [Value.ownBlock] using hj
      subst hj;exact fun e=>(iL.sub g e).elim hgn (by omega)
    have p1:=zX.c.2.1;have dE:(k:Int)<(N:Int):=by omega
    have j0:(0:Int)≤(k:Int):=by omega
    obtain ⟨x,hx⟩ : ∃ x,x=Z[k]:=⟨_,rfl⟩;rw [← hx] at h0 h1 h2 h3 h4 gy;obtain ⟨xk,xi,xt,xc,xb⟩:=x;simp only at h0 h1 h2 h3 h4 gy;clear hx CP zX Qv hfs;go_wp2_with fail;go_region_held3 (fun w'=>w'.cell? ⟨ob,1,none⟩=some (.pointer (some ⟨db,0,none⟩))∧w'.cell? ⟨g,k*5,none⟩=some (.int .i64 xk)∧w'.cell? ⟨g,k*5+1,none⟩=some (.int .i64 xi)∧w'.cell? ⟨g,k*5+2,none⟩=some (.int .u64 (xt:Int))∧w'.cell? ⟨g,k*5+3,none⟩=some (.int .i64 xc)∧w'.cell? ⟨g,k*5+4,none⟩=some (.string xb)) (go_keep)
     (first
      | (go_at_call 62;refine (gy.out _ ?_).mono ?_;(first | exact (Below.refl _ _).drew | exact aA (Below.refl _ _) _);rintro e w4 ⟨rfl,F2,XD,aaE,aa2,Gf,Ij⟩;have agB:=ab Ij;have n0:=Gf _ _ h0;have n1:=Gf _ _ h1;have n2:=Gf _ _ h2;have n3:=Gf _ _ h3;have n4:=Gf _ _ h4;have Af:=ab XD;have FX:=ab aaE;have agm:=ab aa2;have m1:=XD.c.2.1;clear XD aaE aa2 Gf Ij))
    all_goals
     clear h0 h1 h2 h3 h4 n0 n1 n2 n3 n4 m1 p1 gy;go_wp2;go_roundw
     case rel=>exact ⟨k+1,F2,by omega,by go_num,Af.out,FX.out,agm.out,agB.out⟩
     case measure=>simp [intOf];omega
   ·have dE:¬ (k:Int)<(N:Int):=by omega
    have hT:Z.take k=Z:=ao (by omega)
    have H8:=Wq.out k;rw [hT] at zX H8;have HSY:=ab (Td zX.dv H8.1 H8.2.1);have Af:=ab zX;have p1:=zX.c.2.1;have agA:=ab hfs;clear zX CP Qv H8 hfs;go_wp2_with fail;refine HSY.out.mono ?_
    rintro e w5 ⟨rfl,F3,rr,Qo⟩;have EU:=Af.out.step Qo rr;have z5:=EU.c.2.2.1;have y5:=EU.row.free 5;have Y6:=(EU.Tk (gm R)).os (N6.out _) acy.out.1 acy.out.2.2 (fun i hi=>(Yo.out i hi).1) (fun i hi=>(Yo.out i hi).2) agb.out
    have agz:=ab ((agA.out.step Qo).set 5 (.int .i64 (gm R:Int)));have HTD:=ab (HTI.out _ _ _ _ _ _ _ _ _ Y6);clear EU Y6 rr Qo HSY p1;go_wp2_with fail;refine HTD.out.mono ?_
    rintro e w6 ⟨rfl,MF,N4,L,hL,ho,E2⟩;have HE:Hid (IQ base A w0 w6 ob db tb r T wv tx l F fg w):=by
     have ae6:=agz.out.fr E2;have e:=HR.out;have h9:=N6.out;rw [e] at hL ho h9;exact ⟨MF,N4,F3,_,L,hL,ho,h9,ae6⟩
    clear hL ho HTD z5 y5 E2;go_wp2;rw [HQ.out];exact ⟨rfl,HE.out⟩
end
end T
end Go.Proofs.YtihmgigfkmofnaaGreatDoor
