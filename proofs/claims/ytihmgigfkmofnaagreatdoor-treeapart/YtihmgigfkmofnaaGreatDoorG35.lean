import Derived.Test.YtihmgigfkmofnaaGreatDoorG34
set_option maxHeartbeats 8000000
set_option maxRecDepth 100000
open Go.Proofs.Tryz
namespace Go.Proofs.YtihmgigfkmofnaaGreatDoor
namespace T
open Go.RowKit
def jq(db fb tb:Nat)(wv:Value)(root tx:Nat):Array Value:=#[.int .i64 4000,.pointer (some ⟨db,0,none⟩),.pointer (some ⟨fb,0,none⟩),.pointer (some ⟨tb,0,none⟩),wv,.int .i64 (root:Int),.int .u64 (tx:Int)]
structure Os(base:Nat)(A:Nat→Addr)(w0 w:World)(ob db tb fb fg:Nat)(F:Nat→Prop)(d:S.V.bq)(r:ch)(T:Nat→Bool)(wv:Value)(root tx:Nat)(l:List Pr):Prop where
 row:B.au w ob (jq db fb tb wv root tx) 65
 ts:Ts base A db F d w w tb r
 mp:Mp base F tb w fb fg 4000 T
 env:Q.Env base A w
 want:ij w base wv l
 nd:(eB r).Nodup
 pt:∀ i ∈ eB r,T i=true
 pr:∀ i ∈ eB r,2≤i∧i<4000
 kG:d.eO=[]∧d.aV=[]∧d.size=32000
 ew:Below base w0 w
 ap:base≤ob∧¬ F ob∧ob≠tb∧ob≠fb∧ob≠fg
 wn:∀ k,wv.ownBlock=some k→¬ F k∧k≠tb∧k≠ob∧k≠fb∧k≠fg
theorem _root_.Go.Proofs.YtihmgigfkmofnaaGreatDoor.ij.same{w w':World}{base:Nat}{v:Value}{l:List Pr}(h:ij w base v l)(hb:∀ k,v.ownBlock=some k→w'.heap[k]?=w.heap[k]?):ij w' base v l:=by
 refine ⟨h.1,?_⟩;rcases h.2 with h' | ⟨g,cap,cur,rfl,h1,h2,hr⟩
 ·exact .inl h'
 ·exact .inr ⟨g,cap,cur,rfl,h1,(hb g rfl).trans h2,hr⟩
theorem et{v:Value}{w:World}{base:Nat}{l:List Pr}(h:ij w base v l):∃ a n c,v = .slice a n c:=by
 obtain ⟨a,c,h⟩:=h.form;exact ⟨a,_,c,h⟩
section
variable {base:Nat} {A:Nat→Addr} {w0:World} {ob db tb fb fg:Nat} {F:Nat→Prop} {d:S.V.bq} {r:ch} {T:Nat→Bool} {wv:Value} {root tx:Nat} {l:List Pr}
theorem Os.tree{w w1:World}{r1:ch}(h:Os base A w0 w ob db tb fb fg F d r T wv root tx l)(h1:Ts base A db F d w w1 tb r1)(hs:(eB r1).Sublist (eB r)):Os base A w0 w1 ob db tb fb fg F d r1 T wv root tx l:=by
 have st:=h1.st;have hb:∀ k,k<w.heap.size→¬ F k→k≠tb→w1.heap[k]?=w.heap[k]?:=fun k hk hf ht=>st.block k hk (fun e=>e.elim (fun e=>hf (e▸h1.dv.own)) ht)
 have jt:Below base w w1:=⟨st.os,st.tape,st.output,st.size,fun k hk=>hb k (aq hk h.env.size) (fun e=>by have:=h.ts.dv.up k e;omega) (by have:=h.ts.lo.1;omega)⟩
 have m:=h.mp;refine ⟨(hb ob h.row.lt h.ap.2.1 h.ap.2.2.1).trans h.row,⟨h1.dv,h1.tr,h1.ok,S.V.Step.refl _ _,h1.lo⟩,⟨iP m.map (hb _ m.map.Q3 m.nf.2 m.nt.2) (hb _ m.map.Q2 m.nf.1 m.nt.1),m.ok,m.lo,m.nf,m.nt⟩,h.env.keep jt,h.want.same fun k hk=>hb k (h.want.dr k hk).2 (h.wn k hk).1 (h.wn k hk).2.1,h.nd.sublist hs,fun i hi=>h.pt i (hs.subset hi),fun i hi=>h.pr i (hs.subset hi),h.kG,⟨jt.os.trans h.ew.os,jt.tape.trans h.ew.tape,jt.output.trans h.ew.output,ar h.ew.size jt.size,fun k hk=>(jt.block k hk).trans (h.ew.block k hk)⟩,h.ap,h.wn⟩
theorem Os.below{w w1:World}(h:Os base A w0 w ob db tb fb fg F d r T wv root tx l)(hb:Below w.heap.size w w1):Os base A w0 w1 ob db tb fb fg F d r T wv root tx l:=h.tree (h.ts.below hb) (List.Sublist.refl _)
theorem Bd{w:World}{db fb tb ob:Nat}{wv:Value}{root tx:Nat}(h:B.au w ob (jq db fb tb wv root tx) 65)(hv:∃ a n c,wv = .slice a n c):QF w ob:=by
 obtain ⟨a,n,c,rfl⟩:=hv;refine ⟨fun j u hc=>?_,fun cs fr e=>?_,fun cs fr e=>?_⟩
 ·rw [cell_of_row w _ j _ _ _ h] at hc;obtain ⟨h3,h4⟩:=Array.getElem?_eq_some_iff.1 hc;have hu:u ∈ (jq db fb tb (.slice a n c) root tx).toList:=by rw [← h4];exact gE h3
  simp only [jq,dK,dx,or_false] at hu;rcases hu with rfl | rfl | rfl | rfl | rfl | rfl | rfl <;> exact ⟨(fun s e=>by cases e),(fun t x e=>by cases e)⟩
 ·have h':w.heap[ob]?=_:=h;rw [h'] at e;simp at e
 ·have h':w.heap[ob]?=_:=h;rw [h'] at e;simp at e
theorem Os.set{w:World}{Lw MN wi X5:Nat}{T':Nat→Bool}{nj u:Value}{l':List Pr}(j:Nat)(h:Os base A w0 w ob db tb fb fg F d r T wv root tx l)(bE:B.au (w.setCell ⟨ob,j,none⟩ u) ob (jq db Lw tb nj wi X5) 65)(hm:Mp base F tb w Lw MN 4000 T')(ho:ob≠Lw∧ob≠MN)(Ff:∀ i ∈ eB r,T' i=true)(hw:ij w base nj l')(GB:∀ k,nj.ownBlock=some k→¬ F k∧k≠tb∧k≠ob∧k≠Lw∧k≠MN):Os base A w0 (w.setCell ⟨ob,j,none⟩ u) ob db tb Lw MN F d r T' nj wi X5 l':=by
 have hs:=bJ.set ob j w u;have ha:cP w (w.setCell ⟨ob,j,none⟩ u):=⟨hs.size,fun k hk=>by
  by_cases e:k=ob
  ·exact .inr (e▸Bd h.row (et h.want))
  ·exact .inl (hs.block k hk e)⟩
 obtain ⟨rv,t1,t2⟩:=h.ts.tr;have jt:Below base w (w.setCell ⟨ob,j,none⟩ u):=⟨hs.os,hs.tape,hs.output,hs.size,fun k hk=>hs.block k (aq hk h.env.size) (by have:=h.ap.1;omega)⟩
 refine ⟨bE,⟨h.ts.dv.tree h.ap.1 h.ap.2.1 j u,⟨rv,dU ha t1,t2.cC ha⟩,h.ts.ok,S.V.Step.refl _ _,h.ts.lo⟩,⟨iP hm.map (hs.block _ hm.map.Q3 ho.1.symm) (hs.block _ hm.map.Q2 ho.2.symm),hm.ok,hm.lo,hm.nf,hm.nt⟩,h.env.keep jt,hw.same fun k hk=>hs.block k (hw.dr k hk).2 (GB k hk).2.2.1,h.nd,Ff,h.pr,h.kG,⟨jt.os.trans h.ew.os,jt.tape.trans h.ew.tape,jt.output.trans h.ew.output,ar h.ew.size jt.size,fun k hk=>(jt.block k hk).trans (h.ew.block k hk)⟩,⟨h.ap.1,h.ap.2.1,h.ap.2.2.1,ho.1,ho.2⟩,GB⟩
theorem Os.Ix{w:World}{u:Value}{l':List Pr}(h:Os base A w0 w ob db tb fb fg F d r T wv root tx l)(hw:ij w base u l')(GB:∀ k,u.ownBlock=some k→¬ F k∧k≠tb∧k≠ob∧k≠fb∧k≠fg):Os base A w0 (w.setCell ⟨ob,4,none⟩ u) ob db tb fb fg F d r T u root tx l' :=
 h.set 4 (heap_setCell_same _ _ 4 _ _ _ h.row) h.mp h.ap.2.2.2 h.pt hw GB
theorem Os.new{w:World}{k:Nat}(h:Os base A w0 w ob db tb fb fg F d r T wv root tx l)(hk:w.heap.size≤k):¬ F k∧k≠tb∧k≠ob∧k≠fb∧k≠fg:=by
 obtain ⟨rv,t1,_⟩:=h.ts.tr;obtain ⟨d',_,hd⟩:=h.ts.dv.dev;have:=t1.lt;have:=h.row.lt;have:=h.mp.map.Q3;have:=h.mp.map.Q2;exact ⟨fun e=>by have:=hd.lt k e;omega,by omega,by omega,by omega,by omega⟩
theorem Os.c{w:World}(h:Os base A w0 w ob db tb fb fg F d r T wv root tx l):w.cell? ⟨ob,3,none⟩=some (.pointer (some ⟨tb,0,none⟩))∧w.cell? ⟨ob,4,none⟩=some wv∧w.cell? ⟨ob,0,none⟩=some (.int .i64 4000)∧w.cell? ⟨ob,1,none⟩=some (.pointer (some ⟨db,0,none⟩))∧w.cell? ⟨ob,2,none⟩=some (.pointer (some ⟨fb,0,none⟩))∧w.cell? ⟨ob,5,none⟩=some (.int .i64 (root:Int))∧w.cell? ⟨ob,6,none⟩=some (.int .u64 (tx:Int)) :=
 ⟨h.row.cell 3 (by simp [jq]),h.row.cell 4 (by simp [jq]),h.row.cell 0 (by simp [jq]),h.row.cell 1 (by simp [jq]),h.row.cell 2 (by simp [jq]),h.row.cell 5 (by simp [jq]),h.row.cell 6 (by simp [jq])⟩
theorem od(l:List Pr)(key value:ByteArray):(fl l key value).length≤l.length+1:=by
 have:=eN l key;have:=cD l key;unfold fl;rw [ae,ag,List.length_cons,ao];omega
theorem LM(l:List Pr)(key:ByteArray):(fQ l key).length≤l.length:=by
 have:=eN l key;have:=cD l key;unfold fQ;rw [ae,ag,ao];omega
def Fr(db tb ob:Nat)(w w':World):Prop:=w.heap.size≤w'.heap.size∧∀ k,k<w.heap.size→k≠db→k≠tb→k≠ob→w'.heap[k]?=w.heap[k]?
theorem o9{db tb ob:Nat}{w w1:World}(h:S.V.Step (fun k=>k=db∨k=tb) (fun k=>k=db∨k=tb) w w1):Fr db tb ob w w1:=⟨h.size,fun k hk h1 h2 _=>h.block k hk (fun e=>e.elim h1 h2)⟩
theorem Fr.set{db tb ob:Nat}{w w1 w2:World}(h:Fr db tb ob w w1)(hb:Below w1.heap.size w1 w2)(j:Nat)(u:Value):Fr db tb ob w (w2.setCell ⟨ob,j,none⟩ u):=⟨ar h.1 (ar hb.size (bJ.set ob j w2 u).size),fun k hk h1 h2 h3=>((bJ.set ob j w2 u).block k (aq (aq hk h.1) hb.size) h3).trans ((hb.block k (aq hk h.1)).trans (h.2 k hk h1 h2 h3))⟩
theorem Fr.trans{db tb ob:Nat}{w w1 w2:World}(h:Fr db tb ob w w1)(k:Fr db tb ob w1 w2):Fr db tb ob w w2:=⟨ar h.1 k.1,fun i hi a b c=>(k.2 i (aq hi h.1) a b c).trans (h.2 i hi a b c)⟩
theorem cV{db tb ob:Nat}{w w1:World}(h:Below w.heap.size w w1):Fr db tb ob w w1:=⟨h.size,fun i hi _ _ _=>h.block i hi⟩
theorem rM{db:Nat}{F:Nat→Prop}{tb ob:Nat}{w w1:World}(h:Mv db F w w1):Fr db tb ob w w1:=⟨h.size,fun i hi a _ _=>h.one.block i hi a⟩
theorem IQ{w:World}(key value:ByteArray)(h:Os base A w0 w ob db tb fb fg F d r T wv root tx (aB r))(hn:(aB r).length≤1000000)(cL:key.size≤140737488355328)(se:value.size≤140737488355328):Calls prog 10 #[.pointer (some ⟨ob,0,none⟩),.string key,.string value] w fun e w'=>e = .returned (.bool true)∧∃ r' nj,((cO (key,value)=true∧tu key (fun l=>fl l key value) r r')∨(¬ cO (key,value)=true∧r'=r))∧Os base A w0 w' ob db tb fb fg F d r' T nj root tx (aB r')∧Fr db tb ob w w':=by
 have HP:=ab (Kf key value h.ts (by omega) cL se)
 have yB:=ab (xQ key value w cL se);have p3:=h.c.1;have H:=ab h;have HN:=ab hn;clear h hn;by_cases hm:cO (key,value)=true
 ·rw [hm] at yB;have HM:=ab hm;clear hm;go_enter func10,ntmps10;go_wp2_with fail;refine yB.out.mono ?_
  rintro e w' ⟨rfl,rfl⟩;go_wp2_with fail;refine HP.out.mono ?_
  rintro e w1 (⟨_,rfl,r',hu,ht⟩ | ⟨hm,_⟩)
  rotate_left
  ·exact absurd HM.out hm
  have h1:=H.out.tree ht (C5 hu);have iH:=(oO (vB HM.out) H.out.ts.ok hu).2;obtain ⟨a,c,kL⟩:=h1.want.form;have p4:=h1.c.2.1;have HW:=ab (KU wv (aB r) key value w1 (by have:=HN.out;omega) h1.want.at)
  have H1:=ab h1;have HU:=ab hu;have MT:=ab iH;have gS:=ab ht.st;subst kL;clear ht h1 hu iH p3 HP yB;go_wp2_with fail;refine HW.out.mono ?_
  rintro e w2 ⟨u,rfl,ho,hb⟩;have h2:=H1.out.below hb;have hfm:=et ho;have z4:=h2.c.2.1;have y4:=h2.row.free 4;have H3:Hid (Os base A w0 (w2.setCell ⟨ob,4,none⟩ u) ob db tb fb fg F d r' T u root tx (aB r')):=by
   rw [MT.out];exact h2.Ix (ho.mono (H1.out.env.size)) fun k hk=>H1.out.new (ho.dr k hk).1
  have T2:=ab ((o9 (ob:=ob) gS.out).set hb 4 u);clear h2 ho hb p4 HW;obtain ⟨ua,un,uc,rfl⟩:=hfm;go_wp2;go_ret;exact ⟨rfl,r',_,.inl ⟨HM.out,HU.out⟩,H3.out,T2.out⟩
 ·have K3:cO (key,value)=false:=by simpa using hm
  rw [K3] at yB;have HM:=ab hm;clear hm K3;go_enter func10,ntmps10;go_wp2_with fail;refine yB.out.mono ?_
  rintro e w' ⟨rfl,rfl⟩;go_wp2_with fail;refine HP.out.mono ?_
  rintro e w1 (⟨hm,_⟩ | ⟨_,rfl,ht⟩)
  ·exact absurd hm HM.out
  have h1:=H.out.tree ht (List.Sublist.refl _);have WJ:=ab (vl A w1 h1.ts.dv.errs);have H1:=ab h1;have T2:=ab (o9 (ob:=ob) ht.st);clear ht h1 p3 HP yB;go_wp2_with fail;refine WJ.out.mono ?_
  rintro e w2 ⟨rfl,rfl⟩;go_wp2;go_ret;exact ⟨rfl,r,_,.inr ⟨HM.out,rfl⟩,H1.out,T2.out⟩
end
section
variable {base:Nat} {A:Nat→Addr} {w0:World} {ob db tb fb fg:Nat} {F:Nat→Prop} {d:S.V.bq} {r:ch} {T:Nat→Bool} {wv:Value} {root tx:Nat} {l:List Pr}
theorem Oc{w:World}(key:ByteArray)(h:Os base A w0 w ob db tb fb fg F d r T wv root tx (aB r))(hn:(aB r).length≤1000000)(cL:key.size≤140737488355328):Calls prog 22 #[.pointer (some ⟨ob,0,none⟩),.string key] w fun e w'=>e = .returned (.bool true)∧∃ r' nj,((cO (key,⟨#[]⟩)=true∧bf (aB r) key=true∧tu key (fun l=>fQ l key) r r')∨(¬ (cO (key,⟨#[]⟩)=true∧bf (aB r) key=true)∧r'=r))∧Os base A w0 w' ob db tb fb fg F d r' T nj root tx (aB r')∧Fr db tb ob w w':=by
 have HP:=ab (LO key h.ts (by omega) cL)
 have yB:=ab (fun W=>xQ key ⟨#[]⟩ W cL (by simp [ByteArray.size]))
 have p3:=h.c.1;have H:=ab h;have HN:=ab hn;clear h hn;by_cases hm:cO (key,⟨#[]⟩)=true
 ·rw [hm] at yB;have HM:=ab hm;clear hm;go_enter func22,ntmps22;go_wp2_with fail;refine HP.out.mono ?_
  rintro e w1 (⟨_,rfl,hcase⟩ | ⟨hm,_⟩)
  rotate_left
  ·exact absurd HM.out hm
  have h1:∃ r',((bf (aB r) key=true∧tu key (fun l=>fQ l key) r r')∨(bf (aB r) key=false∧r'=r))∧aB r'=fQ (aB r) key∧Os base A w0 w1 ob db tb fb fg F d r' T wv root tx (aB r)∧S.V.Step (fun k=>k=db∨k=tb) (fun k=>k=db∨k=tb) w w1:=by
   rcases hcase with ⟨hf,r',hu,ht⟩ | ⟨hf,ht⟩
   ·exact ⟨r',.inl ⟨hf,hu⟩,(oO (fit_drop key) H.out.ts.ok hu).2,H.out.tree ht (C5 hu),ht.st⟩
   ·exact ⟨r,.inr ⟨hf,rfl⟩,(xS hf).symm,H.out.tree ht (List.Sublist.refl _),ht.st⟩
  obtain ⟨r',fH,iH,h1,YJ⟩:=h1;have gS:=ab YJ;obtain ⟨a,c,kL⟩:=h1.want.form;have p4:=h1.c.2.1;have rW:=ab (lZ wv (aB r) key w1 (by have:=HN.out;omega) h1.want.at)
  have Fv:=ab fH;have MT:=ab iH;have H1:=ab h1;have XS:=ab (yB.out w1);subst kL;clear hcase fH iH h1 p3 HP yB YJ;go_wp2_with fail;refine XS.out.mono ?_
  rintro e w1' ⟨rfl,rfl⟩;go_wp2_with fail;refine rW.out.mono ?_
  rintro e w1' ⟨rfl,k,rfl⟩;have h2:=H1.out.below (aA (Below.refl _ _) k);have q4:=h2.c.2.1;have HW:=ab (Bn (.slice a (aB r).length c) (aB r) key (w1.drewN k) (by have:=HN.out;omega) h2.want.at)
  have H2:=ab h2;clear h2 p4 rW XS;go_wp2_with fail;refine HW.out.mono ?_
  rintro e w2 ⟨hcase,hb⟩;have h3:=H2.out.below hb;have z4:=h3.c.2.1;have y4:=h3.row.free 4;have O3:∃ ua un uc,e = .returned (.slice ua un uc)∧ij w2 base (.slice ua un uc) (aB r')∧∀ k,(Value.slice ua un uc).ownBlock=some k→¬ F k∧k≠tb∧k≠ob∧k≠fb∧k≠fg:=by
   rcases hcase with ⟨hf,rfl⟩ | ⟨hf,u,rfl,ho⟩
   ·refine ⟨_,_,_,rfl,?_,h3.wn⟩;rw [MT.out,xS hf];exact h3.want
   ·obtain ⟨ua,un,uc,rfl⟩:=et ho;refine ⟨_,_,_,rfl,?_,fun k hk=>H2.out.new (ho.dr k hk).1⟩
    rw [MT.out];exact ho.mono H2.out.env.size
  obtain ⟨ua,un,uc,rfl,ho,GB⟩:=O3;have H3:Hid (Os base A w0 (w2.setCell ⟨ob,4,none⟩ (.slice ua un uc)) ob db tb fb fg F d r' T (.slice ua un uc) root tx (aB r')):=h3.Ix ho GB;have T2:=ab ((o9 (ob:=ob) gS.out).set (Below.next (aA (Below.refl _ _) k) hb) 4 (.slice ua un uc));have HR:Hid ((cO (key,⟨#[]⟩)=true∧bf (aB r) key=true∧tu key (fun l=>fQ l key) r r')∨(¬ (cO (key,⟨#[]⟩)=true∧bf (aB r) key=true)∧r'=r)):=by
   rcases Fv.out with ⟨hf,hu⟩ | ⟨hf,hu⟩
   ·exact .inl ⟨HM.out,hf,hu⟩
   ·exact .inr ⟨fun h=>(by rw [hf] at h;cases h.2),hu⟩
  clear h3 hcase ho GB hb q4 HW;generalize bf (aB r) key=fd;cases fd
  all_goals
   go_wp2;go_ret;exact ⟨rfl,r',_,HR.out,H3.out,T2.out⟩
 ·have K3:cO (key,⟨#[]⟩)=false:=by simpa using hm
  rw [K3] at yB;have HM:=ab hm;clear hm K3;go_enter func22,ntmps22;go_wp2_with fail;refine HP.out.mono ?_
  rintro e w1 (⟨hm,_⟩ | ⟨_,rfl,ht⟩)
  ·exact absurd hm HM.out
  have h1:=H.out.tree ht (List.Sublist.refl _);have WJ:=ab (vl A w1 h1.ts.dv.errs);have XS:=ab (yB.out w1);have H1:=ab h1;have T2:=ab (o9 (ob:=ob) ht.st);clear ht h1 p3 HP yB;go_wp2_with fail;refine XS.out.mono ?_
  rintro e w1' ⟨rfl,rfl⟩;go_wp2_with fail;refine WJ.out.mono ?_
  rintro e w2 ⟨rfl,rfl⟩;go_wp2;go_ret;exact ⟨rfl,r,_,.inr ⟨fun h=>HM.out h.1,rfl⟩,H1.out,T2.out⟩
end
theorem RR(l:List Nat):∃ L:List Nat,uL l=L.map (fun n:Nat=>(n:Int))∧L.Perm l:=by
 have hp:=J3 l;refine ⟨(uL l).map Int.toNat,?_,?_⟩
 ·rw [eF];have:∀ x ∈ uL l,((fun n:Nat=>(n:Int)) ∘ Int.toNat) x=x:=fun x hx=>by
   obtain ⟨n,_,rfl⟩:=List.mem_map.1 (hp.mem_iff.1 hx);simp
  conv=>lhs;rw [← List.map_id (uL l)]
  exact gI fun x hx=>(this x hx).symm
 ·have:=hp.map Int.toNat;rw [eF] at this;have e:l.map (Int.toNat ∘ fun n:Nat=>(n:Int))=l:=by
   conv=>rhs;rw [← List.map_id l]
   exact gI fun x _=>by simp
  rw [e] at this;exact this
theorem Gp(T:Nat→Bool)(L:List Nat)(i:Nat):iO T (L++[i])=Q.nJ (iO T L) i true:=by
 unfold iO;rw [gq];rfl
theorem Gk{L:List Nat}(h:L.Nodup){k:Nat}(hk:k<L.length):¬ L[k] ∈ L.take k:=fun hm=>by
 obtain ⟨j,hj,he⟩:=aQ hm;rw [ag] at hj;rw [bK] at he;exact List.pairwise_iff_getElem.1 h j k (by omega) hk (by omega) he
theorem X7{i:Nat}(h1:2≤i)(h2:i<4000):Q.T0 4000 i=false:=by
 unfold Q.T0;rw [decide_eq_false (by omega),decide_eq_false (by omega)]
 rfl
section
variable {base:Nat} {A:Nat→Addr} {w0:World} {ob db tb fb fg:Nat} {F:Nat→Prop} {d:S.V.bq} {r:ch} {T:Nat→Bool} {wv:Value} {root tx:Nat} {l:List Pr}
theorem N5{w:World}(h:Os base A w0 w ob db tb fb fg F d r T wv root tx l)(hn:(aB r).length≤1000000):Calls prog 64 #[.pointer (some ⟨ob,0,none⟩)] w fun e w'=>e = .returned (.bool true)∧∃ Lw MN L,L.Perm (eB r)∧Os base A w0 w' ob db tb Lw MN F d r (iO (Q.T0 4000) L) wv root tx l∧Fr db tb ob w w':=by
 have uU:=ld h.ts.ok;obtain ⟨L,hL,Li⟩:=RR (eB r);have Je:L.Nodup:=Li.nodup_iff.2 h.nd;have hLr:∀ i ∈ L,2≤i∧i<4000:=fun i hi=>h.pr i (Li.mem_iff.1 hi)
 have TU:=ab (C9 h.ts (by omega) h.nd (by omega))
 rw [hL] at TU;obtain ⟨n,D6⟩ : ∃ n,n=L.length:=⟨_,rfl⟩;rw [← Li.length_eq,← D6] at TU;have nL:n≤1000000000:=by rw [D6,Li.length_eq];omega
 have p3:=h.c.1;have H:=ab h;have yq:=ab Je;have WR:=ab hLr;have zo:=ab Li;have Ry:=ab D6;clear h hn uU hL Je hLr Li D6;obtain ⟨Q0,GY⟩ : ∃ Q0:Ending→World→Prop,Q0=fun e w'=>e = .returned (.bool true)∧∃ Lw MN L,L.Perm (eB r)∧Os base A w0 w' ob db tb Lw MN F d r (iO (Q.T0 4000) L) wv root tx l∧Fr db tb ob w w':=⟨_,rfl⟩
 rw [← GY];have HQ:=ab GY;clear GY;go_enter func64,ntmps64;go_wp2_with fail;refine TU.out.mono ?_
 rintro e w1 ⟨⟨v,rfl,aE⟩,fI,fK⟩;have h1:=H.out.tree (H.out.ts.mv fK fI) (List.Sublist.refl _);have kL:∃ a c,v = .slice a n c:=by
  rcases aE.2 with ⟨h',h0⟩ | ⟨g,cap,cur,h',_⟩
  ·exact ⟨none,0,by rw [h',h0]⟩
  ·exact ⟨_,_,h'⟩
 obtain ⟨a,c,kL⟩:=kL;have yt:Hid (∀ j (hj:j<n),∃ gb,a=some ⟨gb,0,none⟩∧w1.cell? ⟨gb,j,none⟩=some (.int .i64 ((L[j]'(by have:=Ry.out;omega):Nat):Int))):=fun j hj=>by
  have hlen:j<L.length:=by have:=Ry.out;omega
  rcases aE.2 with ⟨h',h0⟩ | ⟨g,cap,cur,h',hb,hg,_⟩
  ·omega
  ·rw [kL] at h';simp only [Value.slice.injEq] at h';refine ⟨g,h'.1,?_⟩;have Ak:v = .slice (some ⟨g,0,none⟩) n cap:=by rw [kL,h'.1,h'.2.2]
   rw [Ak] at aE;have:=aE.cellAt j (by omega)
   rw [this,aM,aM,af hlen];rfl
 have p0:=h1.c.2.2.1;have H1:=ab h1;have XQ:=ab (Q.vo 4000 w1 (by decide) (by decide))
 have XS:Hid (Fr db tb ob w w1):=rM fK;subst kL;clear aE fI fK h1 TU p3;go_wp2_with fail;refine XQ.out.mono ?_
 rintro e w2 ⟨mb,mg,rfl,I7,Zm,hmap,aU⟩;have h2:=H1.out.below aU;have HMB:=ab I7;have U6:=ab Zm;have QQ:=ab hmap;have bH:=ab aU;have aa0:=ab h2.env;clear h2 I7 Zm hmap aU XQ p0;go_wp2;go_loopw [7] (fun iv wr=>∃ k:Nat,k≤n∧iv = .int .i64 (k:Int)∧Q.eT wr mb mg 4000 (iO (Q.T0 4000) (L.take k))∧Q.gl (fun k=>k=mg) w2 wr) (fun iv _=>n - (intOf iv).toNat)
 case atStart=>exact ⟨0,aD _,rfl,by rw [List.take_zero];exact QQ.out,Q.gl.refl _ _⟩
 case round =>
  obtain ⟨k,hk,rfl,Zj,D3⟩:=hrel;by_cases bN:k<n
  ·have cL:k<L.length:=by have:=Ry.out;omega
   obtain ⟨gb,rfl,c1⟩:=yt.out k bN;have xH:=World.block_lt_of_cell? w1 _ c1;have c2:wr.cell? ⟨gb,k,none⟩=some (.int .i64 ((L[k] : Nat):Int)):=D3.cell (a:=⟨gb,k,none⟩) ((bH.out.cell (p:=⟨gb,k,none⟩) xH).trans c1) (by have:=U6.out;have h9:gb<w1.heap.size:=xH;show ¬ gb=mg;omega)
   have ZJ:Q.Env base A wr:=aa0.out.keep ⟨D3.os,D3.tape,D3.output,D3.size,fun k hk=>D3.block k (aq hk aa0.out.size) (by have h8:=U6.out;have h9:=H1.out.env.size;show ¬ k=mg;omega)⟩
   have HMK:=ab (Q.Oo base A mb mg 4000 _ ((L[k] : Nat):Int) wr Zj ZJ);have Uv:=WR.out L[k] (aG cL);have UI:iO (Q.T0 4000) (L.take k) L[k]=false:=by
    rw [oq];have h1:Q.T0 4000 L[k]=false:=X7 Uv.1 Uv.2;have h2:=Gk yq.out cL;rw [h1,decide_eq_false h2];rfl
   have hmd:Q.Ds 4000 (iO (Q.T0 4000) (L.take k)) ((L[k] : Nat):Int)=(none,iO (Q.T0 4000) (L.take (k+1))):=by
    have ht:Q.nT 4000 ((L[k] : Nat):Int)=true:=by
     unfold Q.nT;rw [decide_eq_true (by omega:(2:Int)≤((L[k] : Nat):Int)),decide_eq_true (by omega:((L[k] : Nat):Int)<((4000:Nat):Int))];rfl
    unfold Q.Ds;rw [if_pos ht,bm,UI,ay cL,Gp];rfl
   rw [hmd] at HMK;have dP:(k:Int)<(n:Int):=by omega
   have j0:(0:Int)≤(k:Int):=by omega
   have WI:=ab D3;generalize ((L[k] : Nat):Int)=x at *;clear hmd UI Uv ZJ Zj D3 c1 xH yt;go_wp2_with fail;refine HMK.out.mono ?_
   rintro e w3 ⟨rfl,yx,lJ⟩;have Ft:=ab yx;have BY:=ab (WI.out.trans lJ);rw [show ig A none = .nilIface from rfl]
   clear yx lJ HMK c2;go_wp2;go_roundw
   case rel=>exact ⟨k+1,by omega,by go_num,Ft.out,BY.out⟩
   case measure=>simp [intOf];omega
  ·have dP:¬ (k:Int)<(n:Int):=by omega
   have nM:k=n:=by omega
   have bO:Below w1.heap.size w1 wr:=⟨D3.os.trans bH.out.os,D3.tape.trans bH.out.tape,D3.output.trans bH.out.output,ar bH.out.size D3.size,fun k hk=>(D3.block k (aq hk bH.out.size) (by have h8:=U6.out;show ¬ k=mg;omega)).trans (bH.out.block k hk)⟩
   have h3:Os base A w0 wr ob db tb fb fg F d r T wv root tx l:=H1.out.below bO;have T2:=ab (XS.out.set bO 2 (.pointer (some ⟨mb,0,none⟩)));have z2:=h3.c.2.2.2.2.1;have y2:=h3.row.free 2;have H3:Hid (Os base A w0 (wr.setCell ⟨ob,2,none⟩ (.pointer (some ⟨mb,0,none⟩))) ob db tb mb mg F d r (iO (Q.T0 4000) L) wv root tx l):=by
    have nL:=H1.out.new HMB.out;have Pb:=H1.out.new U6.out;have b7:=H1.out.env.size;have hT:L.take k=L:=al (by have:=Ry.out;omega)
    rw [hT] at Zj;refine h3.set 2 (heap_setCell_same _ _ 2 _ _ _ h3.row) ⟨Zj,Oq (Q.Ub (by decide) (by decide)) L,⟨by have:=U6.out;omega,by have:=HMB.out;omega⟩,⟨Pb.1,nL.1⟩,⟨Pb.2.1,nL.2.1⟩⟩ ⟨nL.2.2.1.symm,Pb.2.2.1.symm⟩ (fun i hi=>?_) h3.want fun k hk=>?_
    ·rw [oq,decide_eq_true (zo.out.mem_iff.2 hi),Bool.or_true]
    ·have h7:=h3.wn k hk;have h8:=(H1.out.want.dr k hk).2;exact ⟨h7.1,h7.2.1,h7.2.2.1,by have:=HMB.out;omega,by have:=U6.out;omega⟩
   clear Zj D3 h3 yt bO;go_wp2;rw [HQ.out];exact ⟨rfl,_,_,L,zo.out,H3.out,T2.out⟩
end
structure Ob(base:Nat)(A:Nat→Addr)(w0 w:World)(ob db tb fb fg:Nat)(F:Nat→Prop)(d:S.V.bq)(rv:Value)(T:Nat→Bool)(wv:Value)(root tx:Nat)(l:List Pr):Prop where
 row:B.au w ob (jq db fb tb wv root tx) 65
 dv:Dv base A db F d w
 tr:B.au w tb #[.pointer (some ⟨db,0,none⟩),rv] 100
 mp:Mp base F tb w fb fg 4000 T
 env:Q.Env base A w
 want:ij w base wv l
 ew:Below base w0 w
 ap:base≤ob∧¬ F ob∧ob≠tb∧ob≠fb∧ob≠fg
 wn:∀ k,wv.ownBlock=some k→¬ F k∧k≠tb∧k≠ob∧k≠fb∧k≠fg
 lo:base≤tb∧¬ F tb
theorem ng{base:Nat}{a b c:World}(h:Below base a b)(k:Below base b c):Below base a c:=⟨k.os.trans h.os,k.tape.trans h.tape,k.output.trans h.output,ar h.size k.size,fun i hi=>(k.block i hi).trans (h.block i hi)⟩
section
variable {base:Nat} {A:Nat→Addr} {w0:World} {ob db tb fb fg:Nat} {F:Nat→Prop} {d:S.V.bq} {r:ch} {T:Nat→Bool} {wv rv:Value} {root tx:Nat} {l:List Pr}
theorem Ob.os{w:World}(h:Ob base A w0 w ob db tb fb fg F d rv T wv root tx l)(hr:ez (cM d) w rv r)(cN:eP r)(jo:(eB r).Nodup)(Ff:∀ i ∈ eB r,T i=true)(hpr:∀ i ∈ eB r,2≤i∧i<4000)(hd:d.eO=[]∧d.aV=[]∧d.size=32000):Os base A w0 w ob db tb fb fg F d r T wv root tx l :=
 ⟨h.row,⟨h.dv,⟨rv,h.tr,hr⟩,cN,S.V.Step.refl _ _,h.lo⟩,h.mp,h.env,h.want,jo,Ff,hpr,hd,h.ew,h.ap,h.wn⟩
theorem Ob.step{w w1:World}{F1:Nat→Prop}{d1:S.V.bq}(h:Ob base A w0 w ob db tb fb fg F d rv T wv root tx l)(hs:S.V.Step F F1 w w1)(hv:Dv base A db F1 d1 w1):Ob base A w0 w1 ob db tb fb fg F1 d1 rv T wv root tx l:=by
 have hb:∀ k,k<w.heap.size→¬ F k→w1.heap[k]?=w.heap[k]?:=hs.block;have SS:∀ k,k<w.heap.size→¬ F k→¬ F1 k:=fun k hk hf e=>(hs.sub k e).elim hf (by omega)
 have jt:Below base w w1:=(sG hs h.env.size h.dv.up).1;have m:=h.mp;have c1:=m.map.Q3;have c2:=m.map.Q2;refine ⟨(hb ob h.row.lt h.ap.2.1).trans h.row,hv,(hb tb h.tr.lt h.lo.2).trans h.tr,⟨iP m.map (hb _ c1 m.nf.2) (hb _ c2 m.nf.1),m.ok,m.lo,⟨SS _ c2 m.nf.1,SS _ c1 m.nf.2⟩,m.nt⟩,h.env.keep jt,h.want.same fun k hk=>hb k (h.want.dr k hk).2 (h.wn k hk).1,ng h.ew jt,⟨h.ap.1,SS _ h.row.lt h.ap.2.1,h.ap.2.2⟩,fun k hk=>⟨SS k (h.want.dr k hk).2 (h.wn k hk).1,(h.wn k hk).2⟩,h.lo.1,SS _ h.tr.lt h.lo.2⟩
theorem Ob.RW{w:World}(h:Ob base A w0 w ob db tb fb fg F d rv T wv root tx l)(wi:Nat):Ob base A w0 (w.setCell ⟨ob,5,none⟩ (.int .i64 (wi:Int))) ob db tb fb fg F d rv T wv wi tx l:=by
 have hs:=bJ.set ob 5 w (.int .i64 (wi:Int));have jt:Below base w (w.setCell ⟨ob,5,none⟩ (.int .i64 (wi:Int))):=⟨hs.os,hs.tape,hs.output,hs.size,fun k hk=>hs.block k (aq hk h.env.size) (by have:=h.ap.1;omega)⟩
 have m:=h.mp;refine ⟨heap_setCell_same _ _ 5 _ _ _ h.row,h.dv.tree h.ap.1 h.ap.2.1 5 _,(hs.block tb h.tr.lt h.ap.2.2.1.symm).trans h.tr,⟨iP m.map (hs.block _ m.map.Q3 h.ap.2.2.2.1.symm) (hs.block _ m.map.Q2 h.ap.2.2.2.2.symm),m.ok,m.lo,m.nf,m.nt⟩,h.env.keep jt,h.want.same fun k hk=>hs.block k (h.want.dr k hk).2 (h.wn k hk).2.2.1,ng h.ew jt,h.ap,h.wn,h.lo⟩
theorem Ob.c{w:World}(h:Ob base A w0 w ob db tb fb fg F d rv T wv root tx l):w.cell? ⟨ob,3,none⟩=some (.pointer (some ⟨tb,0,none⟩))∧w.cell? ⟨ob,1,none⟩=some (.pointer (some ⟨db,0,none⟩))∧w.cell? ⟨ob,5,none⟩=some (.int .i64 (root:Int))∧w.cell? ⟨ob,2,none⟩=some (.pointer (some ⟨fb,0,none⟩))∧w.cell? ⟨ob,6,none⟩=some (.int .u64 (tx:Int)) :=
 ⟨h.row.cell 3 (by simp [jq]),h.row.cell 1 (by simp [jq]),h.row.cell 5 (by simp [jq]),h.row.cell 2 (by simp [jq]),h.row.cell 6 (by simp [jq])⟩
theorem Os.Yc{w:World}(h:Os base A w0 w ob db tb fb fg F d r T wv root tx l)(X5:Nat):Os base A w0 (w.setCell ⟨ob,6,none⟩ (.int .u64 (X5:Int))) ob db tb fb fg F d r T wv root X5 l :=
 h.set 6 (heap_setCell_same _ _ 6 _ _ _ h.row) h.mp h.ap.2.2.2 h.pt h.want h.wn
theorem BJ{w:World}{tb:Nat}{q:Value}(r:ch)(ht:B.au w tb #[q,kt r] 100):Calls prog 20 #[.pointer (some ⟨tb,0,none⟩)] w fun e w'=>e = .returned (.int .i64 0)∧w=w':=by
 have c1:=ht.c1;clear ht;cases r with
 | none =>
  have UQ:w.cell? ⟨tb,1,none⟩=some .nilIface:=c1;have hq:=fun W=>oE W
  clear c1;go_enter func20,ntmps20;go_wp2;go_ret;exact ⟨rfl,rfl⟩
 | some x =>
  have UQ:w.cell? ⟨tb,1,none⟩=some (.iface 146 (.int .i64 (ft x.1 x.2:Int))):=c1;have hq:=fun W=>mW 146 (.int .i64 (ft x.1 x.2:Int)) W
  clear c1;go_enter func20,ntmps20;go_wp2_with fail;refine (wI _ w).mono ?_
  rintro e w1 ⟨rfl,rfl⟩;go_wp2;go_ret;exact ⟨rfl,rfl⟩
theorem Os.Sc{w w1:World}{rv:Value}{T1:Nat→Bool}(h:Os base A w0 w ob db tb fb fg F d r T wv root tx l)(hm:Mp base F tb w1 fb fg 4000 T1)(ht:B.au w1 tb #[.pointer (some ⟨db,0,none⟩),rv] 100)(hv:Dv base A db F d w1)(hs:S.V.Step (fun k=>k=fg∨k=tb) (fun k=>k=fg∨k=tb) w w1):Ob base A w0 w1 ob db tb fb fg F d rv T1 wv root tx l:=by
 have hb:∀ k,k<w.heap.size→k≠fg→k≠tb→w1.heap[k]?=w.heap[k]?:=fun k hk h1 h2=>hs.block k hk (fun e=>e.elim h1 h2)
 have jt:Below base w w1:=(sG hs h.env.size (fun k hk=>by
  rcases hk with rfl | rfl
  ·exact h.mp.lo.1
  ·exact h.ts.lo.1)).1
 exact ⟨(hb ob h.row.lt h.ap.2.2.2.2 h.ap.2.2.1).trans h.row,hv,ht,hm,h.env.keep jt,h.want.same fun k hk=>hb k (h.want.dr k hk).2 (h.wn k hk).2.2.2.2 (h.wn k hk).2.1,ng h.ew jt,h.ap,h.wn,h.ts.lo⟩
end
theorem oQ:∀ (l:List S.Sh) (j:Nat) (h:j<l.length) (q:Nat),q<5→(J7 l)[j*5+q]?=(l[j]).cells[q]?
 | [],_,h,_,_=>absurd h (by simp)
 | x::r,0,_,q,hq=>by
  show (x.cells++J7 r)[0*5+q]?=x.cells[q]?
  rw [Nat.zero_mul,Nat.zero_add,bA (by simpa [S.Sh.cells] using hq)]
 | x::r,j+1,h,q,hq=>by
  show (x.cells++J7 r)[(j+1)*5+q]?=_
  have hl:x.cells.length=5:=rfl;rw [a6 (by rw [hl];omega),hl,show (j+1)*5+q - 5=j*5+q by omega,oQ r j (by simpa using h) q hq]
  rfl
theorem sj.cells{w:World}{base:Nat}{a:Option Addr}{n c:Nat}{L:List S.Sh}(h:sj w base (.slice a n c) L)(j:Nat)(hj:j<L.length):∃ g,a=some ⟨g,0,none⟩∧(base≤g∧g<w.heap.size)∧w.cell? ⟨g,j*5,none⟩=some (.int .i64 L[j].kind)∧w.cell? ⟨g,j*5+1,none⟩=some (.int .i64 L[j].id)∧w.cell? ⟨g,j*5+2,none⟩=some (.int .u64 (L[j].sE:Int))∧w.cell? ⟨g,j*5+3,none⟩=some (.int .i64 L[j].count)∧w.cell? ⟨g,j*5+4,none⟩=some (.string L[j].body):=by
 rcases h.2 with ⟨_,h0⟩ | ⟨g,cap,cur,h',hb,hg,_⟩
 ·omega
 ·simp only [Value.slice.injEq] at h';obtain ⟨rfl,rfl,rfl⟩:=h';have h:w.ownsRow base 87 5 (.slice (some ⟨g,0,none⟩) L.length c) L.length (J7 L):=h;refine ⟨g,rfl,⟨hb,(Array.getElem?_eq_some_iff.1 hg).1⟩,?_,?_,?_,?_,?_⟩
  ·rw [h.cellAt (j*5) (by omega)];exact oQ L j hj 0 (by decide)
  ·rw [h.cellAt (j*5+1) (by omega)];exact oQ L j hj 1 (by decide)
  ·rw [h.cellAt (j*5+2) (by omega)];exact oQ L j hj 2 (by decide)
  ·rw [h.cellAt (j*5+3) (by omega)];exact oQ L j hj 3 (by decide)
  ·rw [h.cellAt (j*5+4) (by omega)];exact oQ L j hj 4 (by decide)
section
variable {base:Nat} {A:Nat→Addr} {w0:World} {ob db tb fb fg:Nat} {F:Nat→Prop} {d:S.V.bq} {r:ch} {T:Nat→Bool} {wv:Value} {root tx:Nat} {l:List Pr}
abbrev laid(T:Nat→Bool)(r:ch):ch:=(jr (fe (Q.fh T 4000 (eE r))) r).1
abbrev Uj(T:Nat→Bool)(r:ch)(tx:Nat):List S.Sh:=(jr (fe (Q.fh T 4000 (eE r))) r).2.map (jT tx)
def Fs(F:Nat→Prop)(tb ob fg:Nat)(w:World)(F1:Nat→Prop)(w':World):Prop:=w.heap.size≤w'.heap.size∧∀ k,k<w.heap.size→¬ F k→k≠tb→k≠ob→k≠fg→w'.heap[k]?=w.heap[k]?∧¬ F1 k
theorem Fs.step{F F1 F2:Nat→Prop}{tb ob fg:Nat}{w w1 w2:World}(h:Fs F tb ob fg w F1 w1)(hs:S.V.Step F1 F2 w1 w2):Fs F tb ob fg w F2 w2:=⟨ar h.1 hs.size,fun k hk a b c e=>by
 obtain ⟨h1,h2⟩:=h.2 k hk a b c e;exact ⟨(hs.block k (aq hk h.1) h2).trans h1,fun g=>(hs.sub k g).elim h2 (by have:=h.1;omega)⟩⟩
theorem Fs.fr{F F1:Nat→Prop}{db tb ob fg:Nat}{w w1 w2:World}(h:Fs F tb ob fg w F1 w1)(hd:F1 db)(hs:Fr db tb ob w1 w2):Fs F tb ob fg w F1 w2:=⟨ar h.1 hs.1,fun k hk a b c e=>by
 obtain ⟨h1,h2⟩:=h.2 k hk a b c e;exact ⟨(hs.2 k (aq hk h.1) (fun e=>h2 (e▸hd)) b c).trans h1,h2⟩⟩
theorem Fs.set{F F1:Nat→Prop}{tb ob fg:Nat}{w w1:World}(h:Fs F tb ob fg w F1 w1)(j:Nat)(u:Value):Fs F tb ob fg w F1 (w1.setCell ⟨ob,j,none⟩ u):=⟨ar h.1 (bJ.set ob j w1 u).size,fun k hk a b c e=>by
 obtain ⟨h1,h2⟩:=h.2 k hk a b c e;exact ⟨((bJ.set ob j w1 u).block k (aq hk h.1) c).trans h1,h2⟩⟩
structure Ho(base:Nat)(A:Nat→Addr)(w0 w:World)(ob db tb:Nat)(r:ch)(T:Nat→Bool)(wv:Value)(tx:Nat)(l:List Pr)(F0:Nat→Prop)(fg0:Nat)(wS:World):Prop where
 out:∃ (fb fg:Nat) (F:Nat→Prop) (d:S.V.bq) (L:List Nat),L.Perm (eB (laid T r))∧Os base A w0 w ob db tb fb fg F d (laid T r) (iO (Q.T0 4000) L) wv (gK (laid T r)) (tx+1) l∧(∀ W,ez (cM d) W (kt (laid T r)) (laid T r))∧Fs F0 tb ob fg0 wS F w
theorem KQ:(jr (fe (Q.fh T 4000 (eE r))) r).2.length=eE r:=by
 cases r with
 | none=>rfl
 | some x=>exact oX x.1 x.2 0
theorem zX{w:World}(h:Os base A w0 w ob db tb fb fg F d r T wv root tx l)(hn:(aB r).length≤50000)(Eb:eE r≤(Q.gv T 4000).length)(Q7:tx<1099511627776):Calls prog 26 #[.pointer (some ⟨ob,0,none⟩)] w fun e w'=>e = .returned (.bool true)∧Ho base A w0 w' ob db tb r T wv tx l F fg w:=by
 have uU:=ld h.ts.ok;have W6:=ab (pT h.ts (by omega))
 have S3:eE r≤100000:=by omega
 obtain ⟨rv0,_,YT⟩:=h.ts.tr;obtain ⟨PA,hpe,ME⟩:=CD (tx:=tx+1) YT h.ts.ok h.mp.ok Eb h.nd h.pt (by rw [h.kG.2.1];intro x hx;simp at hx) h.kG.2.2 (by omega)
 have hlen:(Uj T r (tx+1)).length=eE r:=by rw [az];exact KQ
 obtain ⟨uR,Lj⟩:=qm h.mp.ok Eb h.nd h.pt;have SW:=Bj (P:=fe (Q.fh T 4000 (eE r))) h.ts.ok;have Uw:=Ad Lj (fun j=>by have:=mS (n:=eE r) h.mp.ok j;omega)
 have HPT:Hid (∀ i ∈ eB (laid T r),Q.kC T (Q.fh T 4000 (eE r)) i=true∧2≤i∧i<4000):=fun i hi=>by
  have hi:=Uw.mem_iff.1 hi;have hk:=h.mp.ok;rcases List.mem_append.1 hi with hi | hi
  ·exact ⟨by simp [Q.kC,h.pt i hi],h.pr i hi⟩
  ·have h1:=Q.rr hi;refine ⟨by simp [Q.kC,hi],?_,h1.1⟩
   rcases bg i 2 with hx | hx
   ·have:i=0∨i=1:=by omega
    rcases this with rfl | rfl
    ·rw [hk.t0] at h1;cases h1.2
    ·rw [hk.t1] at h1;cases h1.2
   ·exact hx
 obtain ⟨Z,hZ⟩ : ∃ Z,Z=Uj T r (tx+1):=⟨_,rfl⟩;obtain ⟨R,hR⟩ : ∃ R,R=laid T r:=⟨_,rfl⟩;have hpd:=fun (n:Nat)=>lz (d:=d) (Z.take n).length (Z.take n) rfl
 have aeX:Hid (∀ s ∈ Z,Qo d.size s):=by rw [hZ];exact PA
 have U5:Hid (∀ k,(eH d (Z.take k)).aV.length≤1000000∧(eH d (Z.take k)).eO=[]∧(eH d (Z.take k)).size=d.size):=fun k=>by
  obtain ⟨a1,a2,a3,a4,a5⟩:=hpd k;have:(Z.take k).length≤eE r:=by rw [ag,← hlen,hZ];omega
  exact ⟨by rw [a4,h.kG.2.1];simp only [List.length_nil];omega,by rw [a2];exact h.kG.1,a1⟩
 have aed:Hid ((nu (eH d Z)).eO=[]∧(nu (eH d Z)).aV=[]∧(nu (eH d Z)).size=32000):=by
  obtain ⟨a1,a2,a3,a4,a5⟩:=lz (d:=d) Z.length Z rfl;exact ⟨by show (eH d Z).eO=[];rw [a2];exact h.kG.1,rfl,by show (eH d Z).size=32000;rw [a1];exact h.kG.2.2⟩
 have MP:Hid (∀ W,ez (cM (nu (eH d Z))) W (kt R) R):=by rw [hZ,hR];exact ME
 have hlZ:Z.length=eE r:=by rw [hZ];exact hlen
 have aaA:Hid (eP R∧aB R=aB r∧(eB R).Nodup):=by rw [hR];exact ⟨SW.1,SW.2,uR⟩
 have UY:=ab (h.Yc (tx+1));have rW:Hid (∀ W,Below (w.setCell ⟨ob,6,none⟩ (.int .u64 ((tx+1:Nat):Int))).heap.size (w.setCell ⟨ob,6,none⟩ (.int .u64 ((tx+1:Nat):Int))) W→Calls prog 35 #[.pointer (some ⟨tb,0,none⟩),.pointer (some ⟨fb,0,none⟩),.int .u64 ((tx:Int)+1)] W fun e w'=>∃ sv,e = .returned (.tuple #[sv,.int .i64 (gK R:Int),.nilIface])∧(sj w' base sv Z∧∀ g,sv.ownBlock=some g→¬ F g)∧Ob base A w0 w' ob db tb fb fg F d (kt R) (Q.kC T (Q.fh T 4000 (eE r))) wv root (tx+1) l∧Fs F tb ob fg w F w'):=fun W hW=>by
  have h1:=UY.out.below hW;have hp:=FZ (tx:=tx+1) h1.ts h1.env h1.mp Eb (by omega) h1.nd h1.pt
  rw [fZ,j9] at hp;refine hp.mono ?_
  rintro e w' ⟨sv,rfl,ho,hm,ht,hv,hs⟩;rw [hZ,hR];refine ⟨sv,rfl,⟨ho.lower h1.env.size,fun g hg=>(h1.new (ho.dr hg).1).1⟩,h1.Sc hm ht hv hs,?_⟩
  have s6:=bJ.set ob 6 w (.int .u64 ((tx+1:Nat):Int));refine ⟨ar s6.size (ar hW.size hs.size),fun k hk a b c e=>⟨?_,a⟩⟩
  have jv:=aq hk s6.size;exact (hs.block k (aq jv hW.size) (fun x=>x.elim e b)).trans ((hW.block k jv).trans (s6.block k hk c))
 have HTI:Hid (∀ (w:World) (fb fg:Nat) (F:Nat→Prop) (d:S.V.bq) (T1:Nat→Bool) (wv:Value) (root tx:Nat),Os base A w0 w ob db tb fb fg F d R T1 wv root tx l→Calls prog 64 #[.pointer (some ⟨ob,0,none⟩)] w fun e w'=>e = .returned (.bool true)∧∃ Lw MN L,L.Perm (eB R)∧Os base A w0 w' ob db tb Lw MN F d R (iO (Q.T0 4000) L) wv root tx l∧Fr db tb ob w w'):=fun w fb fg F d T1 wv root tx ho=>N5 ho (by rw [hR,SW.2];omega)
 have p3:=h.c.1;have p6:=h.c.2.2.2.2.2.2;have y6:=h.row.free 6;have q6:=UY.out.c.2.2.2.2.2.2;have q3:=UY.out.c.1;have q2:=UY.out.c.2.2.2.2.1;rw [fZ,j9] at q6 q3 q2;rw [fZ,j9] at rW;rw [← hR] at HPT;have HR:=ab hR;obtain ⟨N,hN⟩ : ∃ N,N=eE r:=⟨_,rfl⟩;rw [← hN] at W6 hlZ S3;have hNI:(Z.length:Int)=(N:Int):=by rw [hlZ]
 have ajK:=ab h.kG;clear h hn Eb uU PA hpe ME YT hlen uR Lj SW Uw hZ hR hpd hN;obtain ⟨Q0,GY⟩ : ∃ Q0:Ending→World→Prop,Q0=fun e w'=>e = .returned (.bool true)∧Ho base A w0 w' ob db tb r T wv tx l F fg w:=⟨_,rfl⟩
 rw [← GY];have HQ:=ab GY;clear GY;have htb:(tx:Int)+1<18446744073709551616:=by omega
 go_enter func26,ntmps26;go_wp2_with fail;refine W6.out.mono ?_
 rintro e w1' ⟨rfl,rfl⟩;go_wp2_with fail;go_region_held3 (fun w'=>w'.cell? ⟨ob,3,none⟩=some (.pointer (some ⟨tb,0,none⟩))∧w'.cell? ⟨ob,2,none⟩=some (.pointer (some ⟨fb,0,none⟩))∧w'.cell? ⟨ob,6,none⟩=some (.int .u64 ((tx:Int)+1))) (go_keep)
  (first
   | (go_at_call 35;refine (rW.out _ ?_).mono ?_;(first | exact (Below.refl _ _).drew | exact aA (Below.refl _ _) _);rintro e w2 ⟨sv,rfl,⟨jE,Pb⟩,aU,GS⟩;have HFS:=ab GS;obtain ⟨sa,sc,rfl⟩:=jE.form;rw [hlZ] at jE Pb ⊢;have jP:=ab jE;have HNG:=ab Pb;have bH:=ab aU;have m3:=aU.c.1;have m2:=aU.c.2.2.2.1;have m6:=aU.c.2.2.2.2;rw [fZ,j9] at m6;clear jE aU Pb GS))
 all_goals
  clear p3 p6 y6 q6 q3 q2 rW W6 UY m2 m6;go_wp2_with fail;refine (BJ R bH.out.tr).mono ?_
  rintro e w3 ⟨rfl,rfl⟩;clear m3;go_wp2;go_loopw [7] (fun iv wr=>∃ (k:Nat) (F1:Nat→Prop),k≤N∧iv = .int .i64 (k:Int)∧Ob base A w0 wr ob db tb fb fg F1 (eH d (Z.take k)) (kt R) (Q.kC T (Q.fh T 4000 (eE r))) wv root (tx+1) l∧sj wr base (.slice sa N sc) Z∧(∀ g,(Value.slice sa N sc).ownBlock=some g→¬ F1 g)∧Fs F tb ob fg w F1 wr) (fun iv _=>N - (intOf iv).toNat)
  case atStart=>exact ⟨0,F,aD _,rfl,bH.out,jP.out,HNG.out,HFS.out⟩
  case round =>
   obtain ⟨k,F1,hk,rfl,yX,Fe,Pb,hfs⟩:=hrel;by_cases bN:k<N
   ·have cL:k<Z.length:=by omega
    obtain ⟨g,rfl,xH,h0,h1,h2,h3,h4⟩:=Fe.cells k cL;have gS:Hid (∀ W,Below wr.heap.size wr W→Calls prog 62 #[.pointer (some ⟨db,0,none⟩),.agg #[.int .i64 Z[k].kind,.int .i64 Z[k].id,.int .u64 (Z[k].sE:Int),.int .i64 Z[k].count,.string Z[k].body]] W fun e w'=>e = .returned .nilIface∧∃ F2,Ob base A w0 w' ob db tb fb fg F2 (eH d (Z.take (k+1))) (kt R) (Q.kC T (Q.fh T 4000 (eE r))) wv root (tx+1) l∧sj w' base (.slice (some ⟨g,0,none⟩) N sc) Z∧(∀ k,(Value.slice (some ⟨g,0,none⟩) N sc).ownBlock=some k→¬ F2 k)∧(∀ o u,wr.cell? ⟨g,o,none⟩=some u→w'.cell? ⟨g,o,none⟩=some u)∧Fs F tb ob fg w F2 w'):=fun W hW=>by
     have Y6:=yX.step (S.V.Step.bw hW) (yX.dv.below hW);have fH:=aeX.out Z[k] (aG cL);have GK:=U5.out k;refine (Nw Z[k] Y6.dv fH.1 fH.2.1 (by rw [GK.2.2];exact fH.2.2) GK.1 GK.2.1).mono ?_
     rintro e w' ⟨rfl,F2,km,jm⟩;have hgn:¬ F1 g:=Pb g rfl;have hgW:g<W.heap.size:=aq xH.2 hW.size;have ib:w'.heap[g]?=wr.heap[g]?:=(jm.block g hgW hgn).trans (hW.block g xH.2);refine ⟨rfl,F2,?_,?_,?_,fun o u hu=>bB ib hu,(hfs.step (S.V.Step.bw hW)).step jm⟩
     ·rw [ay cL,qf];exact Y6.step jm km
     ·refine Fe.same fun j hj=>?_
      have hj:g=j:=by simpa [Value.ownBlock] using hj
      subst hj;exact ib
     ·intro j hj;have hj:g=j:=by simpa [Value.ownBlock] using hj
      subst hj;exact fun e=>(jm.sub g e).elim hgn (by omega)
    have p1:=yX.c.2.1;have dP:(k:Int)<(N:Int):=by omega
    have j0:(0:Int)≤(k:Int):=by omega
    obtain ⟨x,hx⟩ : ∃ x,x=Z[k]:=⟨_,rfl⟩;rw [← hx] at h0 h1 h2 h3 h4 gS;obtain ⟨xk,xi,xt,xc,xb⟩:=x;simp only at h0 h1 h2 h3 h4 gS;clear hx Fe yX Pb hfs;go_wp2_with fail;go_region_held3 (fun w'=>w'.cell? ⟨ob,1,none⟩=some (.pointer (some ⟨db,0,none⟩))∧w'.cell? ⟨g,k*5,none⟩=some (.int .i64 xk)∧w'.cell? ⟨g,k*5+1,none⟩=some (.int .i64 xi)∧w'.cell? ⟨g,k*5+2,none⟩=some (.int .u64 (xt:Int))∧w'.cell? ⟨g,k*5+3,none⟩=some (.int .i64 xc)∧w'.cell? ⟨g,k*5+4,none⟩=some (.string xb)) (go_keep)
     (first
      | (go_at_call 62;refine (gS.out _ ?_).mono ?_;(first | exact (Below.refl _ _).drew | exact aA (Below.refl _ _) _);rintro e w4 ⟨rfl,F2,VX,YN,Ze,Fj,GS⟩;have aeJ:=ab GS;have n0:=Fj _ _ h0;have n1:=Fj _ _ h1;have n2:=Fj _ _ h2;have n3:=Fj _ _ h3;have n4:=Fj _ _ h4;have zm:=ab VX;have E1:=ab YN;have aeq:=ab Ze;have m1:=VX.c.2.1;clear VX YN Ze Fj GS))
    all_goals
     clear h0 h1 h2 h3 h4 n0 n1 n2 n3 n4 m1 p1 gS;go_wp2;go_roundw
     case rel=>exact ⟨k+1,F2,by omega,by go_num,zm.out,E1.out,aeq.out,aeJ.out⟩
     case measure=>simp [intOf];omega
   ·have dP:¬ (k:Int)<(N:Int):=by omega
    have hT:Z.take k=Z:=al (by omega)
    have GK:=U5.out k;rw [hT] at yX GK;have HSY:=ab (RP yX.dv GK.1 GK.2.1);have zm:=ab yX;have p1:=yX.c.2.1;have aeI:=ab hfs;clear yX Fe Pb GK hfs;go_wp2_with fail;refine HSY.out.mono ?_
    rintro e w5 ⟨rfl,F3,yw,O0⟩;have D5:=zm.out.step O0 yw;have z5:=D5.c.2.2.1;have y5:=D5.row.free 5;have Xt:=(D5.RW (gK R)).os (MP.out _) aaA.out.1 aaA.out.2.2 (fun i hi=>(HPT.out i hi).1) (fun i hi=>(HPT.out i hi).2) aed.out
    have aeH:=ab ((aeI.out.step O0).set 5 (.int .i64 (gK R:Int)));have HTD:=ab (HTI.out _ _ _ _ _ _ _ _ _ Xt);clear D5 Xt yw O0 HSY p1;go_wp2_with fail;refine HTD.out.mono ?_
    rintro e w6 ⟨rfl,Lw,MN,L,hL,ho,Eb⟩;have HE:Hid (Ho base A w0 w6 ob db tb r T wv tx l F fg w):=by
     have ade:=aeH.out.fr ho.ts.dv.own Eb;have e:=HR.out;have h9:=MP.out;rw [e] at hL ho h9;exact ⟨Lw,MN,F3,_,L,hL,ho,h9,ade⟩
    clear hL ho HTD z5 y5 Eb;go_wp2;rw [HQ.out];exact ⟨rfl,HE.out⟩
end
end T
end Go.Proofs.YtihmgigfkmofnaaGreatDoor
