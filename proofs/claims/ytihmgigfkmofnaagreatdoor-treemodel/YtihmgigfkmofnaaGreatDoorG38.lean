import Derived.Test.YtihmgigfkmofnaaGreatDoorG37
set_option maxHeartbeats 8000000
set_option maxRecDepth 100000
open Go.Proofs.Tryz
namespace Go.Proofs.YtihmgigfkmofnaaGreatDoor
namespace T
open Go.RowKit
def kQ(db fb tb:Nat)(wv:Value)(root tx:Nat):Array Value:=#[.int .i64 4000,.pointer (some ⟨db,0,none⟩),.pointer (some ⟨fb,0,none⟩),.pointer (some ⟨tb,0,none⟩),wv,.int .i64 (root:Int),.int .u64 (tx:Int)]
structure Os(base:Nat)(A:Nat→Addr)(w0 w:World)(ob db tb fb fg:Nat)(F:Nat→Prop)(d:S.V.bq)(r:cQ)(T:Nat→Bool)(wv:Value)(root tx:Nat)(l:List Pr):Prop where
 row:B.ax w ob (kQ db fb tb wv root tx) 65
 ts:Ts base A db F d w w tb r
 mp:Mp base F tb w fb fg 4000 T
 env:Q.Env base A w
 want:iC w base wv l
 nd:(eD r).Nodup
 pt:∀ i ∈ eD r,T i=true
 pr:∀ i ∈ eD r,2≤i∧i<4000
 lE:d.eR=[]∧d.aV=[]∧d.size=32000
 eV:Below base w0 w
 ap:base≤ob∧¬ F ob∧ob≠tb∧ob≠fb∧ob≠fg
 wn:∀ k,wv.ownBlock=some k→¬ F k∧k≠tb∧k≠ob∧k≠fb∧k≠fg
theorem _root_.Go.Proofs.YtihmgigfkmofnaaGreatDoor.iC.same{w w':World}{base:Nat}{v:Value}{l:List Pr}(h:iC w base v l)(hb:∀ k,v.ownBlock=some k→w'.heap[k]?=w.heap[k]?):iC w' base v l:=by
 refine ⟨h.1,?_⟩;rcases h.2 with h' | ⟨g,cap,cur,rfl,h1,h2,hr⟩
 ·exact .inl h'
 ·exact .inr ⟨g,cap,cur,rfl,h1,(hb g rfl).trans h2,hr⟩
theorem gR{v:Value}{w:World}{base:Nat}{l:List Pr}(h:iC w base v l):∃ a n c,v = .slice a n c:=by
 obtain ⟨a,c,h⟩:=h.form;exact ⟨a,_,c,h⟩
section
variable {base:Nat} {A:Nat→Addr} {w0:World} {ob db tb fb fg:Nat} {F:Nat→Prop} {d:S.V.bq} {r:cQ} {T:Nat→Bool} {wv:Value} {root tx:Nat} {l:List Pr}
theorem Os.tree{w w1:World}{r1:cQ}(h:Os base A w0 w ob db tb fb fg F d r T wv root tx l)(h1:Ts base A db F d w w1 tb r1)(hs:(eD r1).Sublist (eD r)):Os base A w0 w1 ob db tb fb fg F d r1 T wv root tx l:=by
 have st:=h1.st;have hb:∀ k,k<w.heap.size→¬ F k→k≠tb→w1.heap[k]?=w.heap[k]?:=fun k hk hf ht=>st.block k hk (fun e=>e.elim hf ht)
 have jD:Below base w w1:=⟨st.os,st.tape,st.output,st.size,fun k hk=>hb k (ar hk h.env.size) (fun e=>by have:=h.ts.dv.up k e;omega) (by have:=h.ts.lo.1;omega)⟩
 have m:=h.mp;refine ⟨(hb ob h.row.lt h.ap.2.1 h.ap.2.2.1).trans h.row,⟨h1.dv,h1.tr,h1.ok,S.V.Step.refl _ _,h1.lo⟩,⟨jP m.map (hb _ m.map.SB m.nf.2 m.nt.2) (hb _ m.map.SA m.nf.1 m.nt.1),m.ok,m.lo,m.nf,m.nt⟩,h.env.keep jD,h.want.same fun k hk=>hb k (h.want.dn k hk).2 (h.wn k hk).1 (h.wn k hk).2.1,h.nd.sublist hs,fun i hi=>h.pt i (hs.subset hi),fun i hi=>h.pr i (hs.subset hi),h.lE,⟨jD.os.trans h.eV.os,jD.tape.trans h.eV.tape,jD.output.trans h.eV.output,al h.eV.size jD.size,fun k hk=>(jD.block k hk).trans (h.eV.block k hk)⟩,h.ap,h.wn⟩
theorem Os.below{w w1:World}(h:Os base A w0 w ob db tb fb fg F d r T wv root tx l)(hb:Below w.heap.size w w1):Os base A w0 w1 ob db tb fb fg F d r T wv root tx l:=h.tree (h.ts.below hb) (List.Sublist.refl _)
theorem I2{w:World}{db fb tb ob:Nat}{wv:Value}{root tx:Nat}(h:B.ax w ob (kQ db fb tb wv root tx) 65)(hv:∃ a n c,wv = .slice a n c):TV w ob:=by
 obtain ⟨a,n,c,rfl⟩:=hv;refine ⟨fun j u hc=>?_,fun cs fr e=>?_,fun cs fr e=>?_⟩
 ·rw [cell_of_row w _ j _ _ _ h] at hc;obtain ⟨h3,h4⟩:=Array.getElem?_eq_some_iff.1 hc;have hu:u ∈ (kQ db fb tb (.slice a n c) root tx).toList:=by rw [← h4];exact gH h3
  simp only [kQ,dN,dA,or_false] at hu;rcases hu with rfl | rfl | rfl | rfl | rfl | rfl | rfl <;> exact ⟨(fun s e=>by cases e),(fun t x e=>by cases e)⟩
 ·have h':w.heap[ob]?=_:=h;rw [h'] at e;simp at e
 ·have h':w.heap[ob]?=_:=h;rw [h'] at e;simp at e
theorem Os.set{w:World}{LC MU wP X3:Nat}{T':Nat→Bool}{zV u:Value}{l':List Pr}(j:Nat)(h:Os base A w0 w ob db tb fb fg F d r T wv root tx l)(bG:B.ax (w.setCell ⟨ob,j,none⟩ u) ob (kQ db LC tb zV wP X3) 65)(hm:Mp base F tb w LC MU 4000 T')(ho:ob≠LC∧ob≠MU)(FE:∀ i ∈ eD r,T' i=true)(hw:iC w base zV l')(GS:∀ k,zV.ownBlock=some k→¬ F k∧k≠tb∧k≠ob∧k≠LC∧k≠MU):Os base A w0 (w.setCell ⟨ob,j,none⟩ u) ob db tb LC MU F d r T' zV wP X3 l':=by
 have hs:=bL.set ob j w u;have ha:cM w (w.setCell ⟨ob,j,none⟩ u):=⟨hs.size,fun k hk=>by
  by_cases e:k=ob
  ·exact .inr (e▸I2 h.row (gR h.want))
  ·exact .inl (hs.block k hk e)⟩
 obtain ⟨rv,t1,t2⟩:=h.ts.tr;have jD:Below base w (w.setCell ⟨ob,j,none⟩ u):=⟨hs.os,hs.tape,hs.output,hs.size,fun k hk=>hs.block k (ar hk h.env.size) (by have:=h.ap.1;omega)⟩
 refine ⟨bG,⟨h.ts.dv.tree h.ap.1 h.ap.2.1 j u,⟨rv,cG ha t1,t2.bU ha⟩,h.ts.ok,S.V.Step.refl _ _,h.ts.lo⟩,⟨jP hm.map (hs.block _ hm.map.SB ho.1.symm) (hs.block _ hm.map.SA ho.2.symm),hm.ok,hm.lo,hm.nf,hm.nt⟩,h.env.keep jD,hw.same fun k hk=>hs.block k (hw.dn k hk).2 (GS k hk).2.2.1,h.nd,FE,h.pr,h.lE,⟨jD.os.trans h.eV.os,jD.tape.trans h.eV.tape,jD.output.trans h.eV.output,al h.eV.size jD.size,fun k hk=>(jD.block k hk).trans (h.eV.block k hk)⟩,⟨h.ap.1,h.ap.2.1,h.ap.2.2.1,ho.1,ho.2⟩,GS⟩
theorem Os.IF{w:World}{u:Value}{l':List Pr}(h:Os base A w0 w ob db tb fb fg F d r T wv root tx l)(hw:iC w base u l')(GS:∀ k,u.ownBlock=some k→¬ F k∧k≠tb∧k≠ob∧k≠fb∧k≠fg):Os base A w0 (w.setCell ⟨ob,4,none⟩ u) ob db tb fb fg F d r T u root tx l' :=
 h.set 4 (heap_setCell_same _ _ 4 _ _ _ h.row) h.mp h.ap.2.2.2 h.pt hw GS
theorem Os.new{w:World}{k:Nat}(h:Os base A w0 w ob db tb fb fg F d r T wv root tx l)(hk:w.heap.size≤k):¬ F k∧k≠tb∧k≠ob∧k≠fb∧k≠fg:=by
 obtain ⟨rv,t1,_⟩:=h.ts.tr;obtain ⟨d',_,hd⟩:=h.ts.dv.dev;have:=t1.lt;have:=h.row.lt;have:=h.mp.map.SB;have:=h.mp.map.SA;exact ⟨fun e=>by have:=hd.lt k e;omega,by omega,by omega,by omega,by omega⟩
theorem Os.c{w:World}(h:Os base A w0 w ob db tb fb fg F d r T wv root tx l):w.cell? ⟨ob,3,none⟩=some (.pointer (some ⟨tb,0,none⟩))∧w.cell? ⟨ob,4,none⟩=some wv∧w.cell? ⟨ob,0,none⟩=some (.int .i64 4000)∧w.cell? ⟨ob,1,none⟩=some (.pointer (some ⟨db,0,none⟩))∧w.cell? ⟨ob,2,none⟩=some (.pointer (some ⟨fb,0,none⟩))∧w.cell? ⟨ob,5,none⟩=some (.int .i64 (root:Int))∧w.cell? ⟨ob,6,none⟩=some (.int .u64 (tx:Int)) :=
 ⟨h.row.cell 3 (by simp [kQ]),h.row.cell 4 (by simp [kQ]),h.row.cell 0 (by simp [kQ]),h.row.cell 1 (by simp [kQ]),h.row.cell 2 (by simp [kQ]),h.row.cell 5 (by simp [kQ]),h.row.cell 6 (by simp [kQ])⟩
theorem oz(l:List Pr)(key value:ByteArray):(fc l key value).length≤l.length+1:=by
 have:=eQ l key;have:=cp l key;unfold fc;rw [ae,ag,List.length_cons,ao];omega
theorem tW(l:List Pr)(key:ByteArray):(cU l key).length≤l.length:=by
 have:=eQ l key;have:=cp l key;unfold cU;rw [ae,ag,ao];omega
def Fr(F:Nat→Prop)(tb ob:Nat)(w w':World):Prop:=w.heap.size≤w'.heap.size∧∀ k,k<w.heap.size→¬ F k→k≠tb→k≠ob→w'.heap[k]?=w.heap[k]?
theorem pJ{F:Nat→Prop}{tb ob:Nat}{w w1:World}(h:S.V.Step (fun k=>F k∨k=tb) (fun k=>F k∨k=tb) w w1):Fr F tb ob w w1:=⟨h.size,fun k hk h1 h2 _=>h.block k hk (fun e=>e.elim h1 h2)⟩
theorem Fr.set{F:Nat→Prop}{tb ob:Nat}{w w1 w2:World}(h:Fr F tb ob w w1)(hb:Below w1.heap.size w1 w2)(j:Nat)(u:Value):Fr F tb ob w (w2.setCell ⟨ob,j,none⟩ u):=⟨al h.1 (al hb.size (bL.set ob j w2 u).size),fun k hk h1 h2 h3=>((bL.set ob j w2 u).block k (ar (ar hk h.1) hb.size) h3).trans ((hb.block k (ar hk h.1)).trans (h.2 k hk h1 h2 h3))⟩
theorem Fr.trans{F:Nat→Prop}{tb ob:Nat}{w w1 w2:World}(h:Fr F tb ob w w1)(k:Fr F tb ob w1 w2):Fr F tb ob w w2:=⟨al h.1 k.1,fun i hi a b c=>(k.2 i (ar hi h.1) a b c).trans (h.2 i hi a b c)⟩
theorem cC{F:Nat→Prop}{tb ob:Nat}{w w1:World}(h:Below w.heap.size w w1):Fr F tb ob w w1:=⟨h.size,fun i hi _ _ _=>h.block i hi⟩
theorem uP{db:Nat}{F:Nat→Prop}{tb ob:Nat}{w w1:World}(h:Mv db F w w1):Fr F tb ob w w1:=⟨h.size,fun i hi a _ _=>h.step.block i hi a⟩
theorem IY{w:World}(key value:ByteArray)(h:Os base A w0 w ob db tb fb fg F d r T wv root tx (aC r))(hn:(aC r).length≤1000000)(dm:key.size≤140737488355328)(Eg:value.size≤140737488355328):Calls prog 10 #[.pointer (some ⟨ob,0,none⟩),.string key,.string value] w fun e w'=>e = .returned (.bool true)∧∃ r' zV,((cP (key,value)=true∧qZ key (fun l=>fc l key value) r r')∨(¬ cP (key,value)=true∧r'=r))∧Os base A w0 w' ob db tb fb fg F d r' T zV root tx (aC r')∧Fr F tb ob w w':=by
 have HP:=ab (Kv key value h.ts (by omega) dm Eg)
 have yW:=ab (yk key value w dm Eg);have p3:=h.c.1;have H:=ab h;have HN:=ab hn;clear h hn;by_cases hm:cP (key,value)=true
 ·rw [hm] at yW;have HM:=ab hm;clear hm;go_enter func10,ntmps10;go_wp2_with fail;refine yW.out.mono ?_
  rintro e w' ⟨rfl,rfl⟩;go_wp2_with fail;refine HP.out.mono ?_
  rintro e w1 (⟨_,rfl,r',hu,ht⟩ | ⟨hm,_⟩)
  rotate_left
  ·exact absurd HM.out hm
  have h1:=H.out.tree ht (Ds hu);have iB:=(lK (su HM.out) H.out.ts.ok hu).2;obtain ⟨a,c,jS⟩:=h1.want.form;have p4:=h1.c.2.1;have HW:=ab (K8 wv (aC r) key value w1 (by have:=HN.out;omega) h1.want.at)
  have H1:=ab h1;have HU:=ab hu;have M0:=ab iB;have gY:=ab ht.st;subst jS;clear ht h1 hu iB p3 HP yW;go_wp2_with fail;refine HW.out.mono ?_
  rintro e w2 ⟨u,rfl,ho,hb⟩;have h2:=H1.out.below hb;have hfm:=gR ho;have z4:=h2.c.2.1;have y4:=h2.row.free 4;have H3:Hid (Os base A w0 (w2.setCell ⟨ob,4,none⟩ u) ob db tb fb fg F d r' T u root tx (aC r')):=by
   rw [M0.out];exact h2.IF (ho.mono (H1.out.env.size)) fun k hk=>H1.out.new (ho.dn k hk).1
  have T8:=ab ((pJ (ob:=ob) gY.out).set hb 4 u);clear h2 ho hb p4 HW;obtain ⟨ua,un,uc,rfl⟩:=hfm;go_wp2;go_ret;exact ⟨rfl,r',_,.inl ⟨HM.out,HU.out⟩,H3.out,T8.out⟩
 ·have G3:cP (key,value)=false:=by simpa using hm
  rw [G3] at yW;have HM:=ab hm;clear hm G3;go_enter func10,ntmps10;go_wp2_with fail;refine yW.out.mono ?_
  rintro e w' ⟨rfl,rfl⟩;go_wp2_with fail;refine HP.out.mono ?_
  rintro e w1 (⟨hm,_⟩ | ⟨_,rfl,ht⟩)
  ·exact absurd hm HM.out
  have h1:=H.out.tree ht (List.Sublist.refl _);have WK:=ab (rQ A w1 h1.ts.dv.errs);have H1:=ab h1;have T8:=ab (pJ (ob:=ob) ht.st);clear ht h1 p3 HP yW;go_wp2_with fail;refine WK.out.mono ?_
  rintro e w2 ⟨rfl,rfl⟩;go_wp2;go_ret;exact ⟨rfl,r,_,.inr ⟨HM.out,rfl⟩,H1.out,T8.out⟩
end
section
variable {base:Nat} {A:Nat→Addr} {w0:World} {ob db tb fb fg:Nat} {F:Nat→Prop} {d:S.V.bq} {r:cQ} {T:Nat→Bool} {wv:Value} {root tx:Nat} {l:List Pr}
theorem DG{w:World}(key:ByteArray)(h:Os base A w0 w ob db tb fb fg F d r T wv root tx (aC r))(hn:(aC r).length≤1000000)(dm:key.size≤140737488355328):Calls prog 22 #[.pointer (some ⟨ob,0,none⟩),.string key] w fun e w'=>e = .returned (.bool true)∧∃ r' zV,((cP (key,⟨#[]⟩)=true∧bh (aC r) key=true∧qZ key (fun l=>cU l key) r r')∨(¬ (cP (key,⟨#[]⟩)=true∧bh (aC r) key=true)∧r'=r))∧Os base A w0 w' ob db tb fb fg F d r' T zV root tx (aC r')∧Fr F tb ob w w':=by
 have HP:=ab (LX key h.ts (by omega) dm)
 have yW:=ab (fun W=>yk key ⟨#[]⟩ W dm (by simp [ByteArray.size]))
 have p3:=h.c.1;have H:=ab h;have HN:=ab hn;clear h hn;by_cases hm:cP (key,⟨#[]⟩)=true
 ·rw [hm] at yW;have HM:=ab hm;clear hm;go_enter func22,ntmps22;go_wp2_with fail;refine HP.out.mono ?_
  rintro e w1 (⟨_,rfl,hcase⟩ | ⟨hm,_⟩)
  rotate_left
  ·exact absurd HM.out hm
  have h1:∃ r',((bh (aC r) key=true∧qZ key (fun l=>cU l key) r r')∨(bh (aC r) key=false∧r'=r))∧aC r'=cU (aC r) key∧Os base A w0 w1 ob db tb fb fg F d r' T wv root tx (aC r)∧S.V.Step (fun k=>F k∨k=tb) (fun k=>F k∨k=tb) w w1:=by
   rcases hcase with ⟨hf,r',hu,ht⟩ | ⟨hf,ht⟩
   ·exact ⟨r',.inl ⟨hf,hu⟩,(lK (fit_drop key) H.out.ts.ok hu).2,H.out.tree ht (Ds hu),ht.st⟩
   ·exact ⟨r,.inr ⟨hf,rfl⟩,(yn hf).symm,H.out.tree ht (List.Sublist.refl _),ht.st⟩
  obtain ⟨r',fs,iB,h1,YC⟩:=h1;have gY:=ab YC;obtain ⟨a,c,jS⟩:=h1.want.form;have p4:=h1.c.2.1;have o9:=ab (mn wv (aC r) key w1 (by have:=HN.out;omega) h1.want.at)
  have FR:=ab fs;have M0:=ab iB;have H1:=ab h1;have XS:=ab (yW.out w1);subst jS;clear hcase fs iB h1 p3 HP yW YC;go_wp2_with fail;refine XS.out.mono ?_
  rintro e w1' ⟨rfl,rfl⟩;go_wp2_with fail;refine o9.out.mono ?_
  rintro e w1' ⟨rfl,k,rfl⟩;have h2:=H1.out.below (aB (Below.refl _ _) k);have q4:=h2.c.2.1;have HW:=ab (BJ (.slice a (aC r).length c) (aC r) key (w1.drewN k) (by have:=HN.out;omega) h2.want.at)
  have H2:=ab h2;clear h2 p4 o9 XS;go_wp2_with fail;refine HW.out.mono ?_
  rintro e w2 ⟨hcase,hb⟩;have h3:=H2.out.below hb;have z4:=h3.c.2.1;have y4:=h3.row.free 4;have Ph:∃ ua un uc,e = .returned (.slice ua un uc)∧iC w2 base (.slice ua un uc) (aC r')∧∀ k,(Value.slice ua un uc).ownBlock=some k→¬ F k∧k≠tb∧k≠ob∧k≠fb∧k≠fg:=by
   rcases hcase with ⟨hf,rfl⟩ | ⟨hf,u,rfl,ho⟩
   ·refine ⟨_,_,_,rfl,?_,h3.wn⟩;rw [M0.out,yn hf];exact h3.want
   ·obtain ⟨ua,un,uc,rfl⟩:=gR ho;refine ⟨_,_,_,rfl,?_,fun k hk=>H2.out.new (ho.dn k hk).1⟩
    rw [M0.out];exact ho.mono H2.out.env.size
  obtain ⟨ua,un,uc,rfl,ho,GS⟩:=Ph;have H3:Hid (Os base A w0 (w2.setCell ⟨ob,4,none⟩ (.slice ua un uc)) ob db tb fb fg F d r' T (.slice ua un uc) root tx (aC r')):=h3.IF ho GS;have T8:=ab ((pJ (ob:=ob) gY.out).set (Below.next (aB (Below.refl _ _) k) hb) 4 (.slice ua un uc));have HR:Hid ((cP (key,⟨#[]⟩)=true∧bh (aC r) key=true∧qZ key (fun l=>cU l key) r r')∨(¬ (cP (key,⟨#[]⟩)=true∧bh (aC r) key=true)∧r'=r)):=by
   rcases FR.out with ⟨hf,hu⟩ | ⟨hf,hu⟩
   ·exact .inl ⟨HM.out,hf,hu⟩
   ·exact .inr ⟨fun h=>(by rw [hf] at h;cases h.2),hu⟩
  clear h3 hcase ho GS hb q4 HW;generalize bh (aC r) key=fd;cases fd
  all_goals
   go_wp2;go_ret;exact ⟨rfl,r',_,HR.out,H3.out,T8.out⟩
 ·have G3:cP (key,⟨#[]⟩)=false:=by simpa using hm
  rw [G3] at yW;have HM:=ab hm;clear hm G3;go_enter func22,ntmps22;go_wp2_with fail;refine HP.out.mono ?_
  rintro e w1 (⟨hm,_⟩ | ⟨_,rfl,ht⟩)
  ·exact absurd hm HM.out
  have h1:=H.out.tree ht (List.Sublist.refl _);have WK:=ab (rQ A w1 h1.ts.dv.errs);have XS:=ab (yW.out w1);have H1:=ab h1;have T8:=ab (pJ (ob:=ob) ht.st);clear ht h1 p3 HP yW;go_wp2_with fail;refine XS.out.mono ?_
  rintro e w1' ⟨rfl,rfl⟩;go_wp2_with fail;refine WK.out.mono ?_
  rintro e w2 ⟨rfl,rfl⟩;go_wp2;go_ret;exact ⟨rfl,r,_,.inr ⟨fun h=>HM.out h.1,rfl⟩,H1.out,T8.out⟩
end
theorem R4(l:List Nat):∃ L:List Nat,vm l=L.map (fun n:Nat=>(n:Int))∧L.Perm l:=by
 have hp:=Kg l;refine ⟨(vm l).map Int.toNat,?_,?_⟩
 ·rw [eH];have:∀ x ∈ vm l,((fun n:Nat=>(n:Int)) ∘ Int.toNat) x=x:=fun x hx=>by
   obtain ⟨n,_,rfl⟩:=List.mem_map.1 (hp.mem_iff.1 hx);simp
  conv=>lhs;rw [← List.map_id (vm l)]
  exact gM fun x hx=>(this x hx).symm
 ·have:=hp.map Int.toNat;rw [eH] at this;have e:l.map (Int.toNat ∘ fun n:Nat=>(n:Int))=l:=by
   conv=>rhs;rw [← List.map_id l]
   exact gM fun x _=>by simp
  rw [e] at this;exact this
theorem GI(T:Nat→Bool)(L:List Nat)(i:Nat):ja T (L++[i])=Q.nZ (ja T L) i true:=by
 unfold ja;rw [gq];rfl
theorem GD{L:List Nat}(h:L.Nodup){k:Nat}(hk:k<L.length):¬ L[k] ∈ L.take k:=fun hm=>by
 obtain ⟨j,hj,he⟩:=aQ hm;rw [ag] at hj;rw [bD] at he;exact List.pairwise_iff_getElem.1 h j k (by omega) hk (by omega) he
theorem X5{i:Nat}(h1:2≤i)(h2:i<4000):Q.T0 4000 i=false:=by
 unfold Q.T0;rw [decide_eq_false (by omega),decide_eq_false (by omega)]
 rfl
section
variable {base:Nat} {A:Nat→Addr} {w0:World} {ob db tb fb fg:Nat} {F:Nat→Prop} {d:S.V.bq} {r:cQ} {T:Nat→Bool} {wv:Value} {root tx:Nat} {l:List Pr}
theorem Og{w:World}(h:Os base A w0 w ob db tb fb fg F d r T wv root tx l)(hn:(aC r).length≤1000000):Calls prog 64 #[.pointer (some ⟨ob,0,none⟩)] w fun e w'=>e = .returned (.bool true)∧∃ LC MU L,L.Perm (eD r)∧Os base A w0 w' ob db tb LC MU F d r (ja (Q.T0 4000) L) wv root tx l∧Fr F tb ob w w':=by
 have uL:=ky h.ts.ok;obtain ⟨L,hL,Jm⟩:=R4 (eD r);have Jn:L.Nodup:=Jm.nodup_iff.2 h.nd;have hLr:∀ i ∈ L,2≤i∧i<4000:=fun i hi=>h.pr i (Jm.mem_iff.1 hi)
 have Fq:=ab (Dx h.ts (by omega) h.nd (by omega))
 rw [hL] at Fq;obtain ⟨n,Er⟩ : ∃ n,n=L.length:=⟨_,rfl⟩;rw [← Jm.length_eq,← Er] at Fq;have sO:n≤1000000000:=by rw [Er,Jm.length_eq];omega
 have p3:=h.c.1;have H:=ab h;have yN:=ab Jn;have WR:=ab hLr;have zQ:=ab Jm;have RJ:=ab Er;clear h hn uL hL Jn hLr Jm Er;obtain ⟨Q0,PW⟩ : ∃ Q0:Ending→World→Prop,Q0=fun e w'=>e = .returned (.bool true)∧∃ LC MU L,L.Perm (eD r)∧Os base A w0 w' ob db tb LC MU F d r (ja (Q.T0 4000) L) wv root tx l∧Fr F tb ob w w':=⟨_,rfl⟩
 rw [← PW];have HQ:=ab PW;clear PW;go_enter func64,ntmps64;go_wp2_with fail;refine Fq.out.mono ?_
 rintro e w1 ⟨⟨v,rfl,aE⟩,dX,eo⟩;have h1:=H.out.tree (H.out.ts.mv eo dX) (List.Sublist.refl _);have jS:∃ a c,v = .slice a n c:=by
  rcases aE.2 with ⟨h',h0⟩ | ⟨g,cap,cur,h',_⟩
  ·exact ⟨none,0,by rw [h',h0]⟩
  ·exact ⟨_,_,h'⟩
 obtain ⟨a,c,jS⟩:=jS;have yP:Hid (∀ j (hj:j<n),∃ gb,a=some ⟨gb,0,none⟩∧w1.cell? ⟨gb,j,none⟩=some (.int .i64 ((L[j]'(by have:=RJ.out;omega):Nat):Int))):=fun j hj=>by
  have hlen:j<L.length:=by have:=RJ.out;omega
  rcases aE.2 with ⟨h',h0⟩ | ⟨g,cap,cur,h',hb,hg,_⟩
  ·omega
  ·rw [jS] at h';simp only [Value.slice.injEq] at h';refine ⟨g,h'.1,?_⟩;have vT:v = .slice (some ⟨g,0,none⟩) n cap:=by rw [jS,h'.1,h'.2.2]
   rw [vT] at aE;have:=aE.cellAt j (by omega)
   rw [this,aL,aL,af hlen];rfl
 have p0:=h1.c.2.2.1;have H1:=ab h1;have XR:=ab (Q.vM 4000 w1 (by decide) (by decide))
 have XS:Hid (Fr F tb ob w w1):=uP eo;subst jS;clear aE dX eo h1 Fq p3;go_wp2_with fail;refine XR.out.mono ?_
 rintro e w2 ⟨mb,mg,rfl,Et,Za,hmap,aO⟩;have h2:=H1.out.below aO;have HMB:=ab Et;have U5:=ab Za;have Q4:=ab hmap;have bJ:=ab aO;have aaP:=ab h2.env;clear h2 Et Za hmap aO XR p0;go_wp2;go_loopw [7] (fun iv wr=>∃ k:Nat,k≤n∧iv = .int .i64 (k:Int)∧Q.eU wr mb mg 4000 (ja (Q.T0 4000) (L.take k))∧Q.gl (fun k=>k=mg) w2 wr) (fun iv _=>n - (intOf iv).toNat)
 case atStart=>exact ⟨0,aD _,rfl,by rw [List.take_zero];exact Q4.out,Q.gl.refl _ _⟩
 case round =>
  obtain ⟨k,hk,rfl,Y7,Eo⟩:=hrel;by_cases bP:k<n
  ·have dm:k<L.length:=by have:=RJ.out;omega
   obtain ⟨gb,rfl,c1⟩:=yP.out k bP;have xZ:=World.block_lt_of_cell? w1 _ c1;have c2:wr.cell? ⟨gb,k,none⟩=some (.int .i64 ((L[k] : Nat):Int)):=Eo.cell (a:=⟨gb,k,none⟩) ((bJ.out.cell (p:=⟨gb,k,none⟩) xZ).trans c1) (by have:=U5.out;have h9:gb<w1.heap.size:=xZ;show ¬ gb=mg;omega)
   have Zx:Q.Env base A wr:=aaP.out.keep ⟨Eo.os,Eo.tape,Eo.output,Eo.size,fun k hk=>Eo.block k (ar hk aaP.out.size) (by have h8:=U5.out;have h9:=H1.out.env.size;show ¬ k=mg;omega)⟩
   have HMK:=ab (Q.OD base A mb mg 4000 _ ((L[k] : Nat):Int) wr Y7 Zx);have Ux:=WR.out L[k] (aH dm);have UI:ja (Q.T0 4000) (L.take k) L[k]=false:=by
    rw [oF];have h1:Q.T0 4000 L[k]=false:=X5 Ux.1 Ux.2;have h2:=GD yN.out dm;rw [h1,decide_eq_false h2];rfl
   have hmd:Q.DO 4000 (ja (Q.T0 4000) (L.take k)) ((L[k] : Nat):Int)=(none,ja (Q.T0 4000) (L.take (k+1))):=by
    have ht:Q.oj 4000 ((L[k] : Nat):Int)=true:=by
     unfold Q.oj;rw [decide_eq_true (by omega:(2:Int)≤((L[k] : Nat):Int)),decide_eq_true (by omega:((L[k] : Nat):Int)<((4000:Nat):Int))];rfl
    unfold Q.DO;rw [if_pos ht,bo,UI,az dm,GI];rfl
   rw [hmd] at HMK;have dS:(k:Int)<(n:Int):=by omega
   have j0:(0:Int)≤(k:Int):=by omega
   have WJ:=ab Eo;generalize ((L[k] : Nat):Int)=x at *;clear hmd UI Ux Zx Y7 Eo c1 xZ yP;go_wp2_with fail;refine HMK.out.mono ?_
   rintro e w3 ⟨rfl,yT,jh⟩;have FP:=ab yT;have vC:=ab (WJ.out.trans jh);rw [show iz A none = .nilIface from rfl]
   clear yT jh HMK c2;go_wp2;go_roundw
   case rel=>exact ⟨k+1,by omega,by go_num,FP.out,vC.out⟩
   case measure=>simp [intOf];omega
  ·have dS:¬ (k:Int)<(n:Int):=by omega
   have n9:k=n:=by omega
   have bO:Below w1.heap.size w1 wr:=⟨Eo.os.trans bJ.out.os,Eo.tape.trans bJ.out.tape,Eo.output.trans bJ.out.output,al bJ.out.size Eo.size,fun k hk=>(Eo.block k (ar hk bJ.out.size) (by have h8:=U5.out;show ¬ k=mg;omega)).trans (bJ.out.block k hk)⟩
   have h3:Os base A w0 wr ob db tb fb fg F d r T wv root tx l:=H1.out.below bO;have T8:=ab (XS.out.set bO 2 (.pointer (some ⟨mb,0,none⟩)));have z2:=h3.c.2.2.2.2.1;have y2:=h3.row.free 2;have H3:Hid (Os base A w0 (wr.setCell ⟨ob,2,none⟩ (.pointer (some ⟨mb,0,none⟩))) ob db tb mb mg F d r (ja (Q.T0 4000) L) wv root tx l):=by
    have sO:=H1.out.new HMB.out;have Po:=H1.out.new U5.out;have cx:=H1.out.env.size;have hT:L.take k=L:=aq (by have:=RJ.out;omega)
    rw [hT] at Y7;refine h3.set 2 (heap_setCell_same _ _ 2 _ _ _ h3.row) ⟨Y7,OE (Q.Ug (by decide) (by decide)) L,⟨by have:=U5.out;omega,by have:=HMB.out;omega⟩,⟨Po.1,sO.1⟩,⟨Po.2.1,sO.2.1⟩⟩ ⟨sO.2.2.1.symm,Po.2.2.1.symm⟩ (fun i hi=>?_) h3.want fun k hk=>?_
    ·rw [oF,decide_eq_true (zQ.out.mem_iff.2 hi),Bool.or_true]
    ·have h7:=h3.wn k hk;have h8:=(H1.out.want.dn k hk).2;exact ⟨h7.1,h7.2.1,h7.2.2.1,by have:=HMB.out;omega,by have:=U5.out;omega⟩
   clear Y7 Eo h3 yP bO;go_wp2;rw [HQ.out];exact ⟨rfl,_,_,L,zQ.out,H3.out,T8.out⟩
end
structure Ob(base:Nat)(A:Nat→Addr)(w0 w:World)(ob db tb fb fg:Nat)(F:Nat→Prop)(d:S.V.bq)(rv:Value)(T:Nat→Bool)(wv:Value)(root tx:Nat)(l:List Pr):Prop where
 row:B.ax w ob (kQ db fb tb wv root tx) 65
 dv:Dv base A db F d w
 tr:B.ax w tb #[.pointer (some ⟨db,0,none⟩),rv] 100
 mp:Mp base F tb w fb fg 4000 T
 env:Q.Env base A w
 want:iC w base wv l
 eV:Below base w0 w
 ap:base≤ob∧¬ F ob∧ob≠tb∧ob≠fb∧ob≠fg
 wn:∀ k,wv.ownBlock=some k→¬ F k∧k≠tb∧k≠ob∧k≠fb∧k≠fg
 lo:base≤tb∧¬ F tb
theorem nF{base:Nat}{a b c:World}(h:Below base a b)(k:Below base b c):Below base a c:=⟨k.os.trans h.os,k.tape.trans h.tape,k.output.trans h.output,al h.size k.size,fun i hi=>(k.block i hi).trans (h.block i hi)⟩
section
variable {base:Nat} {A:Nat→Addr} {w0:World} {ob db tb fb fg:Nat} {F:Nat→Prop} {d:S.V.bq} {r:cQ} {T:Nat→Bool} {wv rv:Value} {root tx:Nat} {l:List Pr}
theorem Ob.os{w:World}(h:Ob base A w0 w ob db tb fb fg F d rv T wv root tx l)(hr:fH (cJ d) w rv r)(cT:eW r)(jz:(eD r).Nodup)(FE:∀ i ∈ eD r,T i=true)(hpr:∀ i ∈ eD r,2≤i∧i<4000)(hd:d.eR=[]∧d.aV=[]∧d.size=32000):Os base A w0 w ob db tb fb fg F d r T wv root tx l :=
 ⟨h.row,⟨h.dv,⟨rv,h.tr,hr⟩,cT,S.V.Step.refl _ _,h.lo⟩,h.mp,h.env,h.want,jz,FE,hpr,hd,h.eV,h.ap,h.wn⟩
theorem Ob.step{w w1:World}{F1:Nat→Prop}{d1:S.V.bq}(h:Ob base A w0 w ob db tb fb fg F d rv T wv root tx l)(hs:S.V.Step F F1 w w1)(hv:Dv base A db F1 d1 w1):Ob base A w0 w1 ob db tb fb fg F1 d1 rv T wv root tx l:=by
 have hb:∀ k,k<w.heap.size→¬ F k→w1.heap[k]?=w.heap[k]?:=hs.block;have S6:∀ k,k<w.heap.size→¬ F k→¬ F1 k:=fun k hk hf e=>(hs.sub k e).elim hf (by omega)
 have jD:Below base w w1:=(tj hs h.env.size h.dv.up).1;have m:=h.mp;have c1:=m.map.SB;have c2:=m.map.SA;refine ⟨(hb ob h.row.lt h.ap.2.1).trans h.row,hv,(hb tb h.tr.lt h.lo.2).trans h.tr,⟨jP m.map (hb _ c1 m.nf.2) (hb _ c2 m.nf.1),m.ok,m.lo,⟨S6 _ c2 m.nf.1,S6 _ c1 m.nf.2⟩,m.nt⟩,h.env.keep jD,h.want.same fun k hk=>hb k (h.want.dn k hk).2 (h.wn k hk).1,nF h.eV jD,⟨h.ap.1,S6 _ h.row.lt h.ap.2.1,h.ap.2.2⟩,fun k hk=>⟨S6 k (h.want.dn k hk).2 (h.wn k hk).1,(h.wn k hk).2⟩,h.lo.1,S6 _ h.tr.lt h.lo.2⟩
theorem Ob.R9{w:World}(h:Ob base A w0 w ob db tb fb fg F d rv T wv root tx l)(wP:Nat):Ob base A w0 (w.setCell ⟨ob,5,none⟩ (.int .i64 (wP:Int))) ob db tb fb fg F d rv T wv wP tx l:=by
 have hs:=bL.set ob 5 w (.int .i64 (wP:Int));have jD:Below base w (w.setCell ⟨ob,5,none⟩ (.int .i64 (wP:Int))):=⟨hs.os,hs.tape,hs.output,hs.size,fun k hk=>hs.block k (ar hk h.env.size) (by have:=h.ap.1;omega)⟩
 have m:=h.mp;refine ⟨heap_setCell_same _ _ 5 _ _ _ h.row,h.dv.tree h.ap.1 h.ap.2.1 5 _,(hs.block tb h.tr.lt h.ap.2.2.1.symm).trans h.tr,⟨jP m.map (hs.block _ m.map.SB h.ap.2.2.2.1.symm) (hs.block _ m.map.SA h.ap.2.2.2.2.symm),m.ok,m.lo,m.nf,m.nt⟩,h.env.keep jD,h.want.same fun k hk=>hs.block k (h.want.dn k hk).2 (h.wn k hk).2.2.1,nF h.eV jD,h.ap,h.wn,h.lo⟩
theorem Ob.c{w:World}(h:Ob base A w0 w ob db tb fb fg F d rv T wv root tx l):w.cell? ⟨ob,3,none⟩=some (.pointer (some ⟨tb,0,none⟩))∧w.cell? ⟨ob,1,none⟩=some (.pointer (some ⟨db,0,none⟩))∧w.cell? ⟨ob,5,none⟩=some (.int .i64 (root:Int))∧w.cell? ⟨ob,2,none⟩=some (.pointer (some ⟨fb,0,none⟩))∧w.cell? ⟨ob,6,none⟩=some (.int .u64 (tx:Int)) :=
 ⟨h.row.cell 3 (by simp [kQ]),h.row.cell 1 (by simp [kQ]),h.row.cell 5 (by simp [kQ]),h.row.cell 2 (by simp [kQ]),h.row.cell 6 (by simp [kQ])⟩
theorem Os.Ya{w:World}(h:Os base A w0 w ob db tb fb fg F d r T wv root tx l)(X3:Nat):Os base A w0 (w.setCell ⟨ob,6,none⟩ (.int .u64 (X3:Int))) ob db tb fb fg F d r T wv root X3 l :=
 h.set 6 (heap_setCell_same _ _ 6 _ _ _ h.row) h.mp h.ap.2.2.2 h.pt h.want h.wn
theorem B2{w:World}{tb:Nat}{q:Value}(r:cQ)(ht:B.ax w tb #[q,kL r] 100):Calls prog 20 #[.pointer (some ⟨tb,0,none⟩)] w fun e w'=>e = .returned (.int .i64 0)∧w=w':=by
 have c1:=ht.c1;clear ht;cases r with
 | none =>
  have UQ:w.cell? ⟨tb,1,none⟩=some .nilIface:=c1;have hq:=fun W=>oR W
  clear c1;go_enter func20,ntmps20;go_wp2;go_ret;exact ⟨rfl,rfl⟩
 | some x =>
  have UQ:w.cell? ⟨tb,1,none⟩=some (.iface 146 (.int .i64 (fx x.1 x.2:Int))):=c1;have hq:=fun W=>jU 146 (.int .i64 (fx x.1 x.2:Int)) W
  clear c1;go_enter func20,ntmps20;go_wp2_with fail;refine (xe _ w).mono ?_
  rintro e w1 ⟨rfl,rfl⟩;go_wp2;go_ret;exact ⟨rfl,rfl⟩
theorem Os.Sp{w w1:World}{rv:Value}{T1:Nat→Bool}(h:Os base A w0 w ob db tb fb fg F d r T wv root tx l)(hm:Mp base F tb w1 fb fg 4000 T1)(ht:B.ax w1 tb #[.pointer (some ⟨db,0,none⟩),rv] 100)(hv:Dv base A db F d w1)(hs:S.V.Step (fun k=>k=fg∨k=tb) (fun k=>k=fg∨k=tb) w w1):Ob base A w0 w1 ob db tb fb fg F d rv T1 wv root tx l:=by
 have hb:∀ k,k<w.heap.size→k≠fg→k≠tb→w1.heap[k]?=w.heap[k]?:=fun k hk h1 h2=>hs.block k hk (fun e=>e.elim h1 h2)
 have jD:Below base w w1:=(tj hs h.env.size (fun k hk=>by
  rcases hk with rfl | rfl
  ·exact h.mp.lo.1
  ·exact h.ts.lo.1)).1
 exact ⟨(hb ob h.row.lt h.ap.2.2.2.2 h.ap.2.2.1).trans h.row,hv,ht,hm,h.env.keep jD,h.want.same fun k hk=>hb k (h.want.dn k hk).2 (h.wn k hk).2.2.2.2 (h.wn k hk).2.1,nF h.eV jD,h.ap,h.wn,h.ts.lo⟩
end
theorem pq:∀ (l:List S.Sh) (j:Nat) (h:j<l.length) (q:Nat),q<5→(Kk l)[j*5+q]?=(l[j]).cells[q]?
 | [],_,h,_,_=>absurd h (by simp)
 | x::r,0,_,q,hq=>by
  show (x.cells++Kk r)[0*5+q]?=x.cells[q]?
  rw [Nat.zero_mul,Nat.zero_add,bu (by simpa [S.Sh.cells] using hq)]
 | x::r,j+1,h,q,hq=>by
  show (x.cells++Kk r)[(j+1)*5+q]?=_
  have hl:x.cells.length=5:=rfl;rw [aZ (by rw [hl];omega),hl,show (j+1)*5+q - 5=j*5+q by omega,pq r j (by simpa using h) q hq]
  rfl
theorem sS.cells{w:World}{base:Nat}{a:Option Addr}{n c:Nat}{L:List S.Sh}(h:sS w base (.slice a n c) L)(j:Nat)(hj:j<L.length):∃ g,a=some ⟨g,0,none⟩∧(base≤g∧g<w.heap.size)∧w.cell? ⟨g,j*5,none⟩=some (.int .i64 L[j].kind)∧w.cell? ⟨g,j*5+1,none⟩=some (.int .i64 L[j].id)∧w.cell? ⟨g,j*5+2,none⟩=some (.int .u64 (L[j].te:Int))∧w.cell? ⟨g,j*5+3,none⟩=some (.int .i64 L[j].count)∧w.cell? ⟨g,j*5+4,none⟩=some (.string L[j].body):=by
 rcases h.2 with ⟨_,h0⟩ | ⟨g,cap,cur,h',hb,hg,_⟩
 ·omega
 ·simp only [Value.slice.injEq] at h';obtain ⟨rfl,rfl,rfl⟩:=h';have h:w.ownsRow base 87 5 (.slice (some ⟨g,0,none⟩) L.length c) L.length (Kk L):=h;refine ⟨g,rfl,⟨hb,(Array.getElem?_eq_some_iff.1 hg).1⟩,?_,?_,?_,?_,?_⟩
  ·rw [h.cellAt (j*5) (by omega)];exact pq L j hj 0 (by decide)
  ·rw [h.cellAt (j*5+1) (by omega)];exact pq L j hj 1 (by decide)
  ·rw [h.cellAt (j*5+2) (by omega)];exact pq L j hj 2 (by decide)
  ·rw [h.cellAt (j*5+3) (by omega)];exact pq L j hj 3 (by decide)
  ·rw [h.cellAt (j*5+4) (by omega)];exact pq L j hj 4 (by decide)
section
variable {base:Nat} {A:Nat→Addr} {w0:World} {ob db tb fb fg:Nat} {F:Nat→Prop} {d:S.V.bq} {r:cQ} {T:Nat→Bool} {wv:Value} {root tx:Nat} {l:List Pr}
abbrev laid(T:Nat→Bool)(r:cQ):cQ:=(jB (fj (Q.fk T 4000 (eG r))) r).1
abbrev Um(T:Nat→Bool)(r:cQ)(tx:Nat):List S.Sh:=(jB (fj (Q.fk T 4000 (eG r))) r).2.map (kj tx)
def Fs(F:Nat→Prop)(tb ob fg:Nat)(w:World)(F1:Nat→Prop)(w':World):Prop:=w.heap.size≤w'.heap.size∧∀ k,k<w.heap.size→¬ F k→k≠tb→k≠ob→k≠fg→w'.heap[k]?=w.heap[k]?∧¬ F1 k
theorem Fs.step{F F1 F2:Nat→Prop}{tb ob fg:Nat}{w w1 w2:World}(h:Fs F tb ob fg w F1 w1)(hs:S.V.Step F1 F2 w1 w2):Fs F tb ob fg w F2 w2:=⟨al h.1 hs.size,fun k hk a b c e=>by
 obtain ⟨h1,h2⟩:=h.2 k hk a b c e;exact ⟨(hs.block k (ar hk h.1) h2).trans h1,fun g=>(hs.sub k g).elim h2 (by have:=h.1;omega)⟩⟩
theorem Fs.fr{F F1:Nat→Prop}{tb ob fg:Nat}{w w1 w2:World}(h:Fs F tb ob fg w F1 w1)(hs:Fr F1 tb ob w1 w2):Fs F tb ob fg w F1 w2:=⟨al h.1 hs.1,fun k hk a b c e=>by
 obtain ⟨h1,h2⟩:=h.2 k hk a b c e;exact ⟨(hs.2 k (ar hk h.1) h2 b c).trans h1,h2⟩⟩
theorem Fs.set{F F1:Nat→Prop}{tb ob fg:Nat}{w w1:World}(h:Fs F tb ob fg w F1 w1)(j:Nat)(u:Value):Fs F tb ob fg w F1 (w1.setCell ⟨ob,j,none⟩ u):=⟨al h.1 (bL.set ob j w1 u).size,fun k hk a b c e=>by
 obtain ⟨h1,h2⟩:=h.2 k hk a b c e;exact ⟨((bL.set ob j w1 u).block k (ar hk h.1) c).trans h1,h2⟩⟩
structure H8(base:Nat)(A:Nat→Addr)(w0 w:World)(ob db tb:Nat)(r:cQ)(T:Nat→Bool)(wv:Value)(tx:Nat)(l:List Pr)(F0:Nat→Prop)(fg0:Nat)(wS:World):Prop where
 out:∃ (fb fg:Nat) (F:Nat→Prop) (d:S.V.bq) (L:List Nat),L.Perm (eD (laid T r))∧Os base A w0 w ob db tb fb fg F d (laid T r) (ja (Q.T0 4000) L) wv (gO (laid T r)) (tx+1) l∧(∀ W,fH (cJ d) W (kL (laid T r)) (laid T r))∧Fs F0 tb ob fg0 wS F w
theorem K4:(jB (fj (Q.fk T 4000 (eG r))) r).2.length=eG r:=by
 cases r with
 | none=>rfl
 | some x=>exact pE x.1 x.2 0
theorem Aq{w:World}(h:Os base A w0 w ob db tb fb fg F d r T wv root tx l)(hn:(aC r).length≤50000)(Ex:eG r≤(Q.gx T 4000).length)(Rj:tx<1099511627776):Calls prog 26 #[.pointer (some ⟨ob,0,none⟩)] w fun e w'=>e = .returned (.bool true)∧H8 base A w0 w' ob db tb r T wv tx l F fg w:=by
 have uL:=ky h.ts.ok;have Xa:=ab (qj h.ts (by omega))
 have Tg:eG r≤100000:=by omega
 obtain ⟨rv0,_,YK⟩:=h.ts.tr;obtain ⟨PQ,hpe,MM⟩:=CY (tx:=tx+1) YK h.ts.ok h.mp.ok Ex h.nd h.pt (by rw [h.lE.2.1];intro x hx;simp at hx) h.lE.2.2 (by omega)
 have hlen:(Um T r (tx+1)).length=eG r:=by rw [aA];exact K4
 obtain ⟨vu,Lp⟩:=qI h.mp.ok Ex h.nd h.pt;have S9:=vP (P:=fj (Q.fk T 4000 (eG r))) h.ts.ok;have Uy:=AB Lp (fun j=>by have:=nx (n:=eG r) h.mp.ok j;omega)
 have HPT:Hid (∀ i ∈ eD (laid T r),Q.kP T (Q.fk T 4000 (eG r)) i=true∧2≤i∧i<4000):=fun i hi=>by
  have hi:=Uy.mem_iff.1 hi;have hk:=h.mp.ok;rcases List.mem_append.1 hi with hi | hi
  ·exact ⟨by simp [Q.kP,h.pt i hi],h.pr i hi⟩
  ·have h1:=Q.rT hi;refine ⟨by simp [Q.kP,hi],?_,h1.1⟩
   rcases a7 i 2 with hx | hx
   ·have:i=0∨i=1:=by omega
    rcases this with rfl | rfl
    ·rw [hk.t0] at h1;cases h1.2
    ·rw [hk.t1] at h1;cases h1.2
   ·exact hx
 obtain ⟨Z,hZ⟩ : ∃ Z,Z=Um T r (tx+1):=⟨_,rfl⟩;obtain ⟨R,hR⟩ : ∃ R,R=laid T r:=⟨_,rfl⟩;have hpd:=fun (n:Nat)=>lN (d:=d) (Z.take n).length (Z.take n) rfl
 have aet:Hid (∀ s ∈ Z,QD d.size s):=by rw [hZ];exact PQ
 have U4:Hid (∀ k,(eI d (Z.take k)).aV.length≤1000000∧(eI d (Z.take k)).eR=[]∧(eI d (Z.take k)).size=d.size):=fun k=>by
  obtain ⟨a1,a2,a3,a4,a5⟩:=hpd k;have:(Z.take k).length≤eG r:=by rw [ag,← hlen,hZ];omega
  exact ⟨by rw [a4,h.lE.2.1];simp only [List.length_nil];omega,by rw [a2];exact h.lE.1,a1⟩
 have adL:Hid ((nL (eI d Z)).eR=[]∧(nL (eI d Z)).aV=[]∧(nL (eI d Z)).size=32000):=by
  obtain ⟨a1,a2,a3,a4,a5⟩:=lN (d:=d) Z.length Z rfl;exact ⟨by show (eI d Z).eR=[];rw [a2];exact h.lE.1,rfl,by show (eI d Z).size=32000;rw [a1];exact h.lE.2.2⟩
 have MW:Hid (∀ W,fH (cJ (nL (eI d Z))) W (kL R) R):=by rw [hZ,hR];exact MM
 have hlZ:Z.length=eG r:=by rw [hZ];exact hlen
 have aan:Hid (eW R∧aC R=aC r∧(eD R).Nodup):=by rw [hR];exact ⟨S9.1,S9.2,vu⟩
 have UY:=ab (h.Ya (tx+1));have o9:Hid (∀ W,Below (w.setCell ⟨ob,6,none⟩ (.int .u64 ((tx+1:Nat):Int))).heap.size (w.setCell ⟨ob,6,none⟩ (.int .u64 ((tx+1:Nat):Int))) W→Calls prog 35 #[.pointer (some ⟨tb,0,none⟩),.pointer (some ⟨fb,0,none⟩),.int .u64 ((tx:Int)+1)] W fun e w'=>∃ sv,e = .returned (.tuple #[sv,.int .i64 (gO R:Int),.nilIface])∧(sS w' base sv Z∧∀ g,sv.ownBlock=some g→¬ F g)∧Ob base A w0 w' ob db tb fb fg F d (kL R) (Q.kP T (Q.fk T 4000 (eG r))) wv root (tx+1) l∧Fs F tb ob fg w F w'):=fun W hW=>by
  have h1:=UY.out.below hW;have hp:=Gn (tx:=tx+1) h1.ts h1.env h1.mp Ex (by omega) h1.nd h1.pt
  rw [fZ,kE] at hp;refine hp.mono ?_
  rintro e w' ⟨sv,rfl,ho,hm,ht,hv,hs⟩;rw [hZ,hR];refine ⟨sv,rfl,⟨ho.lower h1.env.size,fun g hg=>(h1.new (ho.dn hg).1).1⟩,h1.Sp hm ht hv hs,?_⟩
  have s6:=bL.set ob 6 w (.int .u64 ((tx+1:Nat):Int));refine ⟨al s6.size (al hW.size hs.size),fun k hk a b c e=>⟨?_,a⟩⟩
  have jA:=ar hk s6.size;exact (hs.block k (ar jA hW.size) (fun x=>x.elim e b)).trans ((hW.block k jA).trans (s6.block k hk c))
 have HTI:Hid (∀ (w:World) (fb fg:Nat) (F:Nat→Prop) (d:S.V.bq) (T1:Nat→Bool) (wv:Value) (root tx:Nat),Os base A w0 w ob db tb fb fg F d R T1 wv root tx l→Calls prog 64 #[.pointer (some ⟨ob,0,none⟩)] w fun e w'=>e = .returned (.bool true)∧∃ LC MU L,L.Perm (eD R)∧Os base A w0 w' ob db tb LC MU F d R (ja (Q.T0 4000) L) wv root tx l∧Fr F tb ob w w'):=fun w fb fg F d T1 wv root tx ho=>Og ho (by rw [hR,S9.2];omega)
 have p3:=h.c.1;have p6:=h.c.2.2.2.2.2.2;have y6:=h.row.free 6;have q6:=UY.out.c.2.2.2.2.2.2;have q3:=UY.out.c.1;have q2:=UY.out.c.2.2.2.2.1;rw [fZ,kE] at q6 q3 q2;rw [fZ,kE] at o9;rw [← hR] at HPT;have HR:=ab hR;obtain ⟨N,hN⟩ : ∃ N,N=eG r:=⟨_,rfl⟩;rw [← hN] at Xa hlZ Tg;have hNI:(Z.length:Int)=(N:Int):=by rw [hlZ]
 have ajc:=ab h.lE;clear h hn Ex uL PQ hpe MM YK hlen vu Lp S9 Uy hZ hR hpd hN;obtain ⟨Q0,PW⟩ : ∃ Q0:Ending→World→Prop,Q0=fun e w'=>e = .returned (.bool true)∧H8 base A w0 w' ob db tb r T wv tx l F fg w:=⟨_,rfl⟩
 rw [← PW];have HQ:=ab PW;clear PW;have htb:(tx:Int)+1<18446744073709551616:=by omega
 go_enter func26,ntmps26;go_wp2_with fail;refine Xa.out.mono ?_
 rintro e w1' ⟨rfl,rfl⟩;go_wp2_with fail;go_region_held3 (fun w'=>w'.cell? ⟨ob,3,none⟩=some (.pointer (some ⟨tb,0,none⟩))∧w'.cell? ⟨ob,2,none⟩=some (.pointer (some ⟨fb,0,none⟩))∧w'.cell? ⟨ob,6,none⟩=some (.int .u64 ((tx:Int)+1))) (go_keep)
  (first
   | (go_at_call 35;refine (o9.out _ ?_).mono ?_;(first | exact (Below.refl _ _).drew | exact aB (Below.refl _ _) _);rintro e w2 ⟨sv,rfl,⟨gC,Po⟩,aO,G8⟩;have HFS:=ab G8;obtain ⟨sa,sc,rfl⟩:=gC.form;rw [hlZ] at gC Po ⊢;have im:=ab gC;have HNG:=ab Po;have bJ:=ab aO;have m3:=aO.c.1;have m2:=aO.c.2.2.2.1;have m6:=aO.c.2.2.2.2;rw [fZ,kE] at m6;clear gC aO Po G8))
 all_goals
  clear p3 p6 y6 q6 q3 q2 o9 Xa UY m2 m6;go_wp2_with fail;refine (B2 R bJ.out.tr).mono ?_
  rintro e w3 ⟨rfl,rfl⟩;clear m3;go_wp2;go_loopw [7] (fun iv wr=>∃ (k:Nat) (F1:Nat→Prop),k≤N∧iv = .int .i64 (k:Int)∧Ob base A w0 wr ob db tb fb fg F1 (eI d (Z.take k)) (kL R) (Q.kP T (Q.fk T 4000 (eG r))) wv root (tx+1) l∧sS wr base (.slice sa N sc) Z∧(∀ g,(Value.slice sa N sc).ownBlock=some g→¬ F1 g)∧Fs F tb ob fg w F1 wr) (fun iv _=>N - (intOf iv).toNat)
  case atStart=>exact ⟨0,F,aD _,rfl,bJ.out,im.out,HNG.out,HFS.out⟩
  case round =>
   obtain ⟨k,F1,hk,rfl,sg,FD,Po,hfs⟩:=hrel;by_cases bP:k<N
   ·have dm:k<Z.length:=by omega
    obtain ⟨g,rfl,xZ,h0,h1,h2,h3,h4⟩:=FD.cells k dm;have gY:Hid (∀ W,Below wr.heap.size wr W→Calls prog 62 #[.pointer (some ⟨db,0,none⟩),.agg #[.int .i64 Z[k].kind,.int .i64 Z[k].id,.int .u64 (Z[k].te:Int),.int .i64 Z[k].count,.string Z[k].body]] W fun e w'=>e = .returned .nilIface∧∃ F2,Ob base A w0 w' ob db tb fb fg F2 (eI d (Z.take (k+1))) (kL R) (Q.kP T (Q.fk T 4000 (eG r))) wv root (tx+1) l∧sS w' base (.slice (some ⟨g,0,none⟩) N sc) Z∧(∀ k,(Value.slice (some ⟨g,0,none⟩) N sc).ownBlock=some k→¬ F2 k)∧(∀ o u,wr.cell? ⟨g,o,none⟩=some u→w'.cell? ⟨g,o,none⟩=some u)∧Fs F tb ob fg w F2 w'):=fun W hW=>by
     have YV:=sg.step (S.V.Step.bA hW) (sg.dv.below hW);have fs:=aet.out Z[k] (aH dm);have GZ:=U4.out k;refine (NG Z[k] YV.dv fs.1 fs.2.1 (by rw [GZ.2.2];exact fs.2.2) GZ.1 GZ.2.1).mono ?_
     rintro e w' ⟨rfl,F2,iG,jy⟩;have hgn:¬ F1 g:=Po g rfl;have hgW:g<W.heap.size:=ar xZ.2 hW.size;have iA:w'.heap[g]?=wr.heap[g]?:=(jy.block g hgW hgn).trans (hW.block g xZ.2);refine ⟨rfl,F2,?_,?_,?_,fun o u hu=>bV iA hu,(hfs.step (S.V.Step.bA hW)).step jy⟩
     ·rw [az dm,qB];exact YV.step jy iG
     ·refine FD.same fun j hj=>?_
      have hj:g=j:=by simpa [Value.ownBlock] using hj
      subst hj;exact iA
     ·intro j hj;have hj:g=j:=by simpa [Value.ownBlock] using hj
      subst hj;exact fun e=>(jy.sub g e).elim hgn (by omega)
    have p1:=sg.c.2.1;have dS:(k:Int)<(N:Int):=by omega
    have j0:(0:Int)≤(k:Int):=by omega
    obtain ⟨x,hx⟩ : ∃ x,x=Z[k]:=⟨_,rfl⟩;rw [← hx] at h0 h1 h2 h3 h4 gY;obtain ⟨xk,xi,xt,xc,xb⟩:=x;simp only at h0 h1 h2 h3 h4 gY;clear hx FD sg Po hfs;go_wp2_with fail;go_region_held3 (fun w'=>w'.cell? ⟨ob,1,none⟩=some (.pointer (some ⟨db,0,none⟩))∧w'.cell? ⟨g,k*5,none⟩=some (.int .i64 xk)∧w'.cell? ⟨g,k*5+1,none⟩=some (.int .i64 xi)∧w'.cell? ⟨g,k*5+2,none⟩=some (.int .u64 (xt:Int))∧w'.cell? ⟨g,k*5+3,none⟩=some (.int .i64 xc)∧w'.cell? ⟨g,k*5+4,none⟩=some (.string xb)) (go_keep)
     (first
      | (go_at_call 62;refine (gY.out _ ?_).mono ?_;(first | exact (Below.refl _ _).drew | exact aB (Below.refl _ _) _);rintro e w4 ⟨rfl,F2,VT,YG,Y2,FI,G8⟩;have aei:=ab G8;have n0:=FI _ _ h0;have n1:=FI _ _ h1;have n2:=FI _ _ h2;have n3:=FI _ _ h3;have n4:=FI _ _ h4;have sI:=ab VT;have FN:=ab YG;have adZ:=ab Y2;have m1:=VT.c.2.1;clear VT YG Y2 FI G8))
    all_goals
     clear h0 h1 h2 h3 h4 n0 n1 n2 n3 n4 m1 p1 gY;go_wp2;go_roundw
     case rel=>exact ⟨k+1,F2,by omega,by go_num,sI.out,FN.out,adZ.out,aei.out⟩
     case measure=>simp [intOf];omega
   ·have dS:¬ (k:Int)<(N:Int):=by omega
    have hT:Z.take k=Z:=aq (by omega)
    have GZ:=U4.out k;rw [hT] at sg GZ;have HSY:=ab (RZ sg.dv GZ.1 GZ.2.1);have sI:=ab sg;have p1:=sg.c.2.1;have aeh:=ab hfs;clear sg FD Po GZ hfs;go_wp2_with fail;refine HSY.out.mono ?_
    rintro e w5 ⟨rfl,F3,yS,zy⟩;have pU:=sI.out.step zy yS;have z5:=pU.c.2.2.1;have y5:=pU.row.free 5;have Xt:=(pU.R9 (gO R)).os (MW.out _) aan.out.1 aan.out.2.2 (fun i hi=>(HPT.out i hi).1) (fun i hi=>(HPT.out i hi).2) adL.out
    have aeg:=ab ((aeh.out.step zy).set 5 (.int .i64 (gO R:Int)));have HTD:=ab (HTI.out _ _ _ _ _ _ _ _ _ Xt);clear pU Xt yS zy HSY p1;go_wp2_with fail;refine HTD.out.mono ?_
    rintro e w6 ⟨rfl,LC,MU,L,hL,ho,Ex⟩;have HE:Hid (H8 base A w0 w6 ob db tb r T wv tx l F fg w):=by
     have acQ:=aeg.out.fr Ex;have e:=HR.out;have h9:=MW.out;rw [e] at hL ho h9;exact ⟨LC,MU,F3,_,L,hL,ho,h9,acQ⟩
    clear hL ho HTD z5 y5 Ex;go_wp2;rw [HQ.out];exact ⟨rfl,HE.out⟩
end
end T
end Go.Proofs.YtihmgigfkmofnaaGreatDoor
