import Derived.Test.YtihmgigfkmofnaaGreatDoorG37
set_option maxHeartbeats 4000000
set_option maxRecDepth 100000
open Go.Proofs.Tryz
namespace Go.Proofs.YtihmgigfkmofnaaGreatDoor
open Go.RowKit
theorem NK:prog.underlying 52=some (.struct (prog.fieldsOf 52)):=by kernel_rfl
theorem RP:prog.stoodInHeld 52=false:=by kernel_rfl
theorem XO(w:World)(a b a' b':ByteArray):(binOp .eql 52 (.agg #[.string a,.string b]) (.agg #[.string a',.string b'])).run prog w = .ok (.bool (a.toList == a'.toList && b.toList == b'.toList)) w:=by
 rw [run_eql_struct,run_equalIn_agg w 9999 52 _ _ NK RP];simp [go_sem]
 by_cases h1:a.toList=a'.toList
 ·by_cases h2:b.toList=b'.toList
  ·simp [h1,h2]
  ·simp [h1,h2]
 ·simp [h1]
theorem RO(w:World)(a b:ByteArray):(binOp .eql 52 (.agg #[.string a,.string b]) (.agg #[.string a,.string b])).run prog w = .ok (.bool true) w:=by
 rw [XO];simp
theorem UY(w:World)(x y:Array Value)(bb:Bool)(h:(binOp .eql 52 (.agg x) (.agg y)).run prog w = .ok (.bool bb) w):(binOp .neq 52 (.agg x) (.agg y)).run prog w = .ok (.bool (!bb)) w:=by
 rw [run_eql_struct] at h;rw [run_neq_struct];revert h
 generalize (Op.equalIn 10000 52 (.agg x) (.agg y)).run prog w=r;cases r with
 | ok v w'=>intro h;simp [Result.andThen] at h ⊢;obtain ⟨rfl,rfl⟩:=h;simp
 | halt v w'=>intro h;simp [Result.andThen] at h
theorem NL(w:World)(a b:ByteArray):(binOp .neq 52 (.agg #[.string a,.string b]) (.agg #[.string a,.string b])).run prog w = .ok (.bool false) w:=UY w _ _ true (RO w a b)
theorem F9(v1 v2:Value)(l:List Pr)(w:World)(hm:l.length≤140737488355328)(r1:gZ w v1 l)(r2:gZ w v2 l):Calls prog 60 #[v1,v2] w fun e w'=>e = .returned (.bool true)∧Below w.heap.size w w':=by
 obtain ⟨a1,c1,rfl,_,_,h1⟩:=r1;obtain ⟨a2,c2,rfl,_,_,h2⟩:=r2;obtain ⟨n,hn⟩ : ∃ n,n=l.length:=⟨_,rfl⟩;rw [← hn] at hm ⊢;have H1:=ab h1;have H2:=ab h2;have HN:=ab hn;have G3:((n:Int) != (n:Int))=false:=by simp
 obtain ⟨Q,hQ⟩ : ∃ Q:Ending→World→Prop,Q=fun e w'=>e = .returned (.bool true)∧Below w.heap.size w w':=⟨_,rfl⟩
 rw [← hQ];have HQ:=ab hQ;clear h1 h2 hn hQ;go_enter func60,ntmps60;go_wp2;go_loopw [5] (fun i wr=>∃ k nq:Nat,k≤n∧i = .int .i64 k∧wr=w.drewN nq) (fun i _=>n - (intOf i).toNat)
 case atStart=>exact ⟨0,0,aC _,rfl,rfl⟩
 case round =>
  obtain ⟨k,nq,hk,rfl,rfl⟩:=hrel;by_cases bX:k<n
  ·have jm:k<l.length:=by have:=HN.out;omega
   obtain ⟨g1,o1,rfl,f1,f1'⟩:=H1.out k jm;obtain ⟨g2,o2,rfl,f2,f2'⟩:=H2.out k jm;have j0:(0:Int)≤(k:Int):=dK k;have j1:(k:Int)<(n:Int):=by omega
   generalize l[k].1=x1 at *;generalize l[k].2=x2 at *;have ey:=fun w=>NL w x1 x2
   clear H1 H2;go_wp2;go_quiet (fail)
   go_wp2;go_roundw
   case rel=>exact ⟨k+1,_,by omega,by go_num,rfl⟩
   case measure=>simp [intOf];omega
  ·have j1:¬ (k:Int)<(n:Int):=by omega
   clear H1 H2;go_wp2;rw [HQ.out];exact ⟨rfl,aB (Below.refl _ _) _⟩
namespace T
theorem OG(l:List Pr):l.filter (nE ⟨#[]⟩ ⟨#[]⟩)=l:=by
 rw [List.filter_eq_self];intro p _;have h0:(⟨#[]⟩ : ByteArray).toList=[]:=by rw [ByteArray.toList_eq]
 have h1:df p.1 ⟨#[]⟩=false:=by
  unfold df;rw [h0];cases p.1.toList <;> rfl
 simp [nE,h1]
section
variable {base:Nat} {A:Nat→Addr} {w0:World} {ob db tb fb fg:Nat} {F:Nat→Prop} {d:S.V.bD} {r:cT} {T:Nat→Bool} {wv:Value} {root tx:Nat} {l:List Pr}
theorem Os.mv{w w1:World}(h:Os base A w0 w ob db tb fb fg F d r T wv root tx l)(hv:Dv base A db F d w1)(hm:Mv db F w w1):Os base A w0 w1 ob db tb fb fg F d r T wv root tx l:=h.tree (h.ts.mv hm hv) (List.Sublist.refl _)
theorem RW{w:World}{v:Value}(h:Os base A w0 w ob db tb fb fg F d r T wv root tx l)(hn:(aP r).length≤1000000)(hv:v=wv∧l=aP r∨v = .slice none 0 0∧aP r=[]):Calls prog 23 #[.pointer (some ⟨tb,0,none⟩),v] w fun e w'=>e = .returned (.bool true)∧Os base A w0 w' ob db tb fb fg F d r T wv root tx l:=by
 have zK:=gl h.ts.ok;have HP:=ab (Gk (fr:=⟨#[]⟩) (en:=⟨#[]⟩) (lim:=1099511627776) h.ts (by omega) h.nd (by omega) (by decide))
 rw [OG,ar (by omega)] at HP
 have mQ:∃ a n c,v = .slice a n c:=by
  rcases hv with ⟨rfl,_⟩ | ⟨rfl,_⟩
  ·exact iZ h.want
  ·exact ⟨_,_,_,rfl⟩
 have H:=ab h;have HN:=ab hn;have HV:=ab hv;obtain ⟨a,n,c,mQ⟩:=mQ;subst mQ;clear h hn hv zK;go_enter func23,ntmps23;go_wp2_with fail;refine HP.out.mono ?_
 rintro e w1 ⟨⟨u,rfl,hu⟩,eH,fI⟩;have h1:=H.out.mv eH fI;have hr:gZ w1 (.slice a n c) (aP r):=by
  rcases HV.out with ⟨e1,e2⟩ | ⟨e1,e2⟩
  ·rw [e1,← e2];exact h1.want.at
  ·rw [e1,e2];exact gZ.nil _
 have HS:=ab (F9 u (.slice a n c) (aP r) w1 (by have:=HN.out;omega) hu.1.at hr)
 obtain ⟨ua,uc,ON⟩:=hu.1.form;have H1:=ab h1;subst ON;clear h1 hr hu eH fI HP;go_wp2_with fail;refine HS.out.mono ?_
 rintro e w2 ⟨rfl,aY⟩;have H2:=ab (H1.out.below aY);clear aY HS;go_wp2;go_ret;exact ⟨rfl,H2.out⟩
end
section
variable {base:Nat} {A:Nat→Addr}
theorem Ku(w:World)(VQ:Q.Env base A w)(hE:S.Env base A w)(hG:dk 13 fl A w)(tG:∀ i,i<13→fl i<base∧(A i).block<base):Calls prog 9 #[] w fun e w'=>∃ (ob db tb fb fg:Nat) (F:Nat→Prop) (d:S.V.bD),e = .returned (.tuple #[.pointer (some ⟨ob,0,none⟩),.bool true])∧Os base A w w' ob db tb fb fg F d none (Q.T0 4000) (.slice none 0 0) 0 0 []:=by
 have HQE:=ab VQ;have HE:=ab hE;have HG:=ab hG;have Z8:=ab tG;have HN:=ab (S.V.vO 32000 w);clear hE hG tG VQ;go_enter func9,ntmps9;go_wp2_with fail;refine HN.out.mono ?_
 rintro e w1 ⟨db,F,rfl,hd,aN,hF⟩;have eH:Dv base A db F (S.V.iJ 32000) w1:=⟨⟨_,Nr.refl _,hd⟩,HE.out.up aN,HG.out.keep aN,fun k hk=>aq HE.out.errs.size (hF k hk),rfl,Z8.out⟩
 have Y3:=eH.LC;have Zr:=hd.lt;have q1:=ai w1 (.cells #[.int .i64 4000,.pointer (some ⟨db,0,none⟩),.pointer none,.pointer none,.slice none 0 0,.int .i64 0,.int .u64 0] 65);have x1:=B.au.new w1 #[.int .i64 4000,.pointer (some ⟨db,0,none⟩),.pointer none,.pointer none,.slice none 0 0,.int .i64 0,.int .u64 0] 65;have qY:=ab eH;have bN:=ab aN;have HF:=ab hF;have MI:=ab Zr;have HDL:=ab Y3;have tX:=ab q1;have zj:=ab x1;have Fk:=ab (Q.vO 4000 (w1.alloc (.cells #[.int .i64 4000,.pointer (some ⟨db,0,none⟩),.pointer none,.pointer none,.slice none 0 0,.int .i64 0,.int .u64 0] 65)) (by decide) (by decide))
 clear hd aN hF eH Y3 Zr q1 x1 HN;go_wp2_with fail;refine Fk.out.mono ?_
 rintro e w3 ⟨mb,mg,rfl,Ek,YJ,hmap,b6⟩;have Z5:=ab Ek;have UF:=ab YJ;have QH:=ab hmap;have Mh:=ab b6;clear Ek YJ hmap;have GN:=zj.out.below b6;have L8:=ab GN;have dH:=ab (Below.next tX.out b6);have k1:=GN.cell 1 (by simp)
 have k2:=GN.cell 2 (by simp)
 simp only [aG,List.getElem_cons_zero,List.getElem_cons_succ] at k1 k2;have y2:=GN.free 2;have OJ:B.au (w3.setCell ⟨w1.heap.size,2,none⟩ (.pointer (some ⟨mb,0,none⟩))) w1.heap.size #[.int .i64 4000,.pointer (some ⟨db,0,none⟩),.pointer (some ⟨mb,0,none⟩),.pointer none,.slice none 0 0,.int .i64 0,.int .u64 0] 65:=heap_setCell_same _ _ 2 _ _ _ GN;have vT:w.heap.size≤w1.heap.size:=bN.out.size;have Sy:¬ F w1.heap.size:=fun h=>by have:=MI.out _ h;omega
 have Jb:Dv base A db F (S.V.iJ 32000) (w3.setCell ⟨w1.heap.size,2,none⟩ (.pointer (some ⟨mb,0,none⟩))):=(qY.out.below dH.out).tree (aq HE.out.errs.size vT) Sy 2 _;have gH:Below w.heap.size w (w3.setCell ⟨w1.heap.size,2,none⟩ (.pointer (some ⟨mb,0,none⟩))):=(Below.next bN.out dH.out).setCell (p:=⟨w1.heap.size,2,none⟩) vT _;have k3:=OJ.cell 1 (by simp)
 simp only [aG,List.getElem_cons_zero,List.getElem_cons_succ] at k3;generalize Up:w3.setCell ⟨w1.heap.size,2,none⟩ (.pointer (some ⟨mb,0,none⟩))=W4 at *;have HTO:=ab (J0 (W0:=W4) 4000 0 (.int .u64 0) Jb (S.V.Step.refl _ _));have Cz:=ab OJ;have gY:=ab gH;have Tw:=ab Sy;have L9:=ab vT;clear b6 GN Fk OJ Jb gH Sy vT;go_wp2_with fail;refine HTO.out.mono ?_
 rintro e w5 ⟨tb,rfl,htc,X9⟩;have hx5:B.au w5 w1.heap.size #[.int .i64 4000,.pointer (some ⟨db,0,none⟩),.pointer (some ⟨mb,0,none⟩),.pointer none,.slice none 0 0,.int .i64 0,.int .u64 0] 65:=(htc.st.block _ Cz.out.lt Tw.out).trans Cz.out;have hot:w1.heap.size≠tb:=by have:=Cz.out.lt;have:=htc.lo.2.1;omega
 have hx6:B.au (w5.setCell ⟨w1.heap.size,3,none⟩ (.pointer (some ⟨tb,0,none⟩))) w1.heap.size #[.int .i64 4000,.pointer (some ⟨db,0,none⟩),.pointer (some ⟨mb,0,none⟩),.pointer (some ⟨tb,0,none⟩),.slice none 0 0,.int .i64 0,.int .u64 0] 65:=heap_setCell_same _ _ 3 _ _ _ hx5;have X8:B.au (w5.setCell ⟨w1.heap.size,3,none⟩ (.pointer (some ⟨tb,0,none⟩))) tb #[.pointer (some ⟨db,0,none⟩),.nilIface] 100:=(X9 (by first | trivial | rfl)).other hot.symm _
 have m3:=hx5.cell 3 (by simp)
 have f3:=hx5.free 3;have n3:=hx6.cell 3 (by simp)
 simp only [aG,List.getElem_cons_zero,List.getElem_cons_succ] at m3 n3;have b8:Hid (∀ k,Os base A w ((w5.setCell ⟨w1.heap.size,3,none⟩ (.pointer (some ⟨tb,0,none⟩))).drewN k) w1.heap.size db tb mb mg F (S.V.iJ 32000) none (Q.T0 4000) (.slice none 0 0) 0 0 []):=fun k=>by
  have hd:=aB (Below.refl (w5.setCell ⟨w1.heap.size,3,none⟩ (.pointer (some ⟨tb,0,none⟩))).heap.size (w5.setCell ⟨w1.heap.size,3,none⟩ (.pointer (some ⟨tb,0,none⟩)))) k;have hs:=bK.set w1.heap.size 3 w5 (.pointer (some ⟨tb,0,none⟩));have Ps:=HQE.out.size;have vT:=L9.out;have hnw:∀ k,w1.heap.size≤k→¬ F k:=fun k hk h=>by have:=MI.out _ h;omega
  have OQ:w1.heap.size+1≤mb∧w1.heap.size+1≤mg:=by
   have h1:=Z5.out;have h2:=UF.out;simp at h1 h2
   omega
  have YK:mb<w3.heap.size∧mg<w3.heap.size:=⟨QH.out.TR,QH.out.TQ⟩;have agq:W4.heap.size=w3.heap.size:=by rw [← Up];simp
  have htb:=htc.lo.2.1;have Ug:∀ k,k<w3.heap.size→w1.heap.size<k→(w5.setCell ⟨w1.heap.size,3,none⟩ (.pointer (some ⟨tb,0,none⟩))).heap[k]?=w3.heap[k]?:=fun k hk pC=>by
   have s4:=bK.set w1.heap.size 2 w3 (.pointer (some ⟨mb,0,none⟩));rw [Up] at s4;have e1:=s4.block k hk (by omega)
   have e2:=htc.st.block k (by omega) (hnw k (by omega))
   have e3:=hs.block k (by have:=htc.st.size;omega) (by omega)
   exact e3.trans (e2.trans e1)
  have oG:Below base w (w5.setCell ⟨w1.heap.size,3,none⟩ (.pointer (some ⟨tb,0,none⟩))):=by
   have h1:S.V.Step F F w w5:=(S.V.Step.bx gY.out).trans htc.st;exact ⟨hs.os.trans h1.os,hs.tape.trans h1.tape,hs.output.trans h1.output,aq h1.size hs.size,fun k hk=>(hs.block k (by have:=h1.size;omega) (by omega)).trans (h1.block k (by omega) (fun e=>by have:=HF.out k e;omega))⟩
  have QX:Os base A w (w5.setCell ⟨w1.heap.size,3,none⟩ (.pointer (some ⟨tb,0,none⟩))) w1.heap.size db tb mb mg F (S.V.iJ 32000) none (Q.T0 4000) (.slice none 0 0) 0 0 []:=by
   refine ⟨hx6,⟨htc.dv.tree (by omega) Tw.out 3 _,⟨_,X8,.inl ⟨rfl,rfl⟩⟩,trivial,S.V.Step.refl _ _,htc.lo.1,htc.lo.2.2⟩,⟨kB QH.out (Ug _ YK.1 (by omega)) (Ug _ YK.2 (by omega)),Q.TM (by decide) (by decide),⟨by omega,by omega⟩,⟨hnw _ (by omega),hnw _ (by omega)⟩,⟨by omega,by omega⟩⟩,HQE.out.keep oG,iU.nil _ _,List.nodup_nil,fun i hi=>by simp [bz] at hi,fun i hi=>by simp [bz] at hi,⟨rfl,rfl,rfl⟩,oG,⟨by omega,Tw.out,hot,by omega,by omega⟩,fun k hk=>by simp [Value.ownBlock] at hk⟩
  exact QX.below hd
 clear htc X9 hx5 hot hx6 X8 HTO k1 k2 k3 y2;go_wp2_with fail;go_quiet (fail)
 go_wp2;go_ret2;exact ⟨_,_,_,_,_,F,S.V.iJ 32000,rfl,b8.out _⟩
end
def oM:(h:Nat)→Nd h→Nat
 | 0,_=>0
 | h+1,t=>(t.2.2.map (fA h)).sum
def Un:(h:Nat)→Nd h→Prop
 | 0,t=>t.1≠0
 | h+1,t=>t.1≠0∧∀ c ∈ t.2.2,Un h c
theorem tT{h:Nat}{t:Nd h}(hu:Un h t):fA h t=0:=by
 cases h with
 | zero=>exact if_neg hu
 | succ h=>exact if_neg hu.1
theorem lJ{α:Type}(f:α→Nat):∀ l:List α,(∀ c ∈ l,f c=0)→(l.map f).sum=0
 | [],_=>rfl
 | c::l,h=>by
  have h1:=h c (by simp)
  have h2:=lJ f l fun x hx=>h x (by simp [hx])
  simp only [List.map_cons,gD];omega
theorem Jv{h:Nat}{t:Nd h}(hu:Un h t):oM h t=0:=by
 cases h with
 | zero=>rfl
 | succ h=>exact lJ _ _ fun c hc=>tT (hu.2 c hc)
theorem mi{h:Nat}{t:Nd h}(h0:eX h t=0):fA h t=oM h t+1:=by
 cases h with
 | zero=>exact if_pos h0
 | succ h=>exact if_pos h0
theorem FU{key:ByteArray}{f:List Pr→List Pr}{h:Nat}{t t':Nd h}(hu:Q9 key f h t t'):eX h t'=0:=by
 cases h with
 | zero =>
  have hu:t'=(0,f t.2):=hu;rw [hu];rfl
 | succ h =>
  obtain ⟨A,B,C1,c,C2,_,_,_,_,_,c',ks,cs,_,_,rfl⟩:=hu;rfl
theorem I7(h:Nat)(a b:Nd h)(k:ByteArray):eX h (gQ h a k b)=0∧oM h (gQ h a k b)=oM h a+oM h b:=by
 cases h with
 | zero=>exact ⟨rfl,rfl⟩
 | succ h =>
  refine ⟨rfl,?_⟩;show ((a.2.2++b.2.2).map (fA h)).sum=_
  rw [aW,jV];rfl
theorem P0{h:Nat}{x a b:Nd h}{k:ByteArray}(hc:Cut h x a k b):eX h a=0∧eX h b=0∧oM h a+oM h b=oM h x:=by
 obtain ⟨i,_,hc⟩:=hc;cases h with
 | zero =>
  obtain ⟨rfl,rfl,_⟩:=hc;exact ⟨rfl,rfl,rfl⟩
 | succ h =>
  obtain ⟨rfl,rfl,_⟩:=hc;refine ⟨rfl,rfl,?_⟩;show ((x.2.2.take (i+1)).map (fA h)).sum+((x.2.2.drop (i+1)).map (fA h)).sum=(x.2.2.map (fA h)).sum
  rw [← jV,← aW,aE]
def BB{h:Nat}(cs:List (Nd h)):Nat:=(cs.flatMap (cD h)).length
theorem vJ{h:Nat}(a b:List (Nd h)):BB (a++b)=BB a+BB b:=by unfold BB;rw [bh,ae]
theorem lO{h:Nat}(a:Nd h)(b:List (Nd h)):BB (a::b)=(cD h a).length+BB b:=by unfold BB;rw [List.flatMap_cons,ae]
theorem vK(h:Nat)(t:Nd h):(cD h t).length≤(rJ h t).length+1:=by
 have h1:∀ n,(cJ n).length≤1:=fun n=>by unfold cJ;split <;> simp
 cases h with
 | zero=>exact h1 t.1
 | succ h =>
  have:=h1 t.1;show (cJ t.1++t.2.2.flatMap (cD h)).length≤(t.2.2.flatMap (cD h)).length+1
  rw [ae];omega
theorem lP{h:Nat}{t:Nd h}(h0:eX h t=0):(rJ h t).length=(cD h t).length:=by
 cases h with
 | zero =>
  have h0:t.1=0:=h0;show 0=(cJ t.1).length
  rw [h0];rfl
 | succ h =>
  have h0:t.1=0:=h0;show (t.2.2.flatMap (cD h)).length=(cJ t.1++t.2.2.flatMap (cD h)).length
  rw [h0];rfl
theorem wB{h:Nat}{A B:List ByteArray}{C1 C2:List (Nd h)}{x:Nd h}{ks:List ByteArray}{cs:List (Nd h)}(hw:E6 h A B C1 x C2 ks cs)(hx:eX h x=0)(h1:(C1.map (fA h)).sum=0)(h2:(C2.map (fA h)).sum=0):(cs.map (fA h)).sum≤oM h x+2∧1≤(cs.map (fA h)).sum∧BB cs=BB C1+(cD h x).length+BB C2:=by
 rcases hw with ⟨_,_,rfl⟩ | ⟨_,a,k,b,hc,_,rfl⟩
 ·rw [aW,jV,List.map_cons,gD,mi hx,vJ,lO];omega
 ·obtain ⟨ha,hb,zh⟩:=P0 hc;have hp:(cD h a).length+(cD h b).length=(cD h x).length:=by
   rw [← ae,vI hc,lP hx]
  rw [aW,jV,List.map_cons,gD,List.map_cons,gD,mi ha,mi hb,vJ,lO,lO];omega
theorem wN{h:Nat}{A B:List ByteArray}{C1 C2:List (Nd h)}{x:Nd h}{ks:List ByteArray}{cs:List (Nd h)}(hs:yH h A B C1 x C2 ks cs)(hx:eX h x=0)(h1:∀ c ∈ C1,Un h c)(h2:∀ c ∈ C2,Un h c):(cs.map (fA h)).sum≤oM h x+2∧1≤(cs.map (fA h)).sum∧BB C1+(cD h x).length+BB C2≤BB cs+1:=by
 have z1:=lJ (fA h) C1 fun c hc=>tT (h1 c hc)
 have z2:=lJ (fA h) C2 fun c hc=>tT (h2 c hc)
 rcases hs with ⟨_,hw⟩ | ⟨_,rfl,rfl,k,B',b,WL,rfl,rfl,hw⟩ | ⟨_,A',k,WM,a,rfl,rfl,hw⟩
 ·have:=wB hw hx z1 z2;omega
 ·have hb:=h2 b (by simp)
  have hj:=I7 h x b k;have z3:=lJ (fA h) WL fun c hc=>tT (h2 c (by simp [hc]))
  have:=wB hw hj.1 rfl z3;have e1:=Jv hb;have e2:=vK h b;have e3:=lP hx;have e4:(cD h (gQ h x k b)).length=(rJ h x).length+(rJ h b).length:=by rw [rI,ae]
  rw [hj.2,e1] at this;rw [lO];have e5:BB ([] : List (Nd h))=0:=rfl;omega
 ·have ha:=h1 a (by simp)
  have hj:=I7 h a x k;have z3:=lJ (fA h) WM fun c hc=>tT (h1 c (by simp [hc]))
  have:=wB hw hj.1 z3 z2;have e1:=Jv ha;have e2:=vK h a;have e3:=lP hx;have e4:(cD h (gQ h a k x)).length=(rJ h a).length+(rJ h x).length:=by rw [rI,ae]
  rw [hj.2,e1] at this;rw [vJ,lO];have e5:BB ([] : List (Nd h))=0:=rfl;omega
theorem Ip{key:ByteArray}{f:List Pr→List Pr}:∀ (h:Nat) {t t':Nd h},Un h t→Q9 key f h t t'→oM h t'≤2*h∧(cD h t).length≤(cD h t').length+2*h+1
 | 0,t,t',_,hu=>by
  have hu:t'=(0,f t.2):=hu;subst hu;refine ⟨aj _,?_⟩;have:=vK 0 t;have e:(rJ 0 t).length=0:=rfl;omega
 | h+1,t,t',hn,hu=>by
  obtain ⟨A,B,C1,c,C2,_,e2,_,_,_,c',ks,cs,hc,hs,rfl⟩:=hu;have hk:=hn.2;rw [e2] at hk;obtain ⟨g1,g2⟩:=Ip h (hk c (by simp)) hc
  have g3:=wN hs (FU hc) (fun x hx=>hk x (by simp [hx])) (fun x hx=>hk x (by simp [hx]))
  have e3:oM (h+1) (0,ks,cs)=(cs.map (fA h)).sum:=rfl;have e4:(cD (h+1) (0,ks,cs)).length=BB cs:=by
   show (cJ 0++cs.flatMap (cD h)).length=_
   rfl
  have e5:=vK (h+1) t;have e6:(rJ (h+1) t).length=BB C1+(cD h c).length+BB C2:=by
   show BB t.2.2=_
   rw [e2,vJ,lO];omega
  rw [e3,e4];omega
def V9:cT→Prop
 | none=>True
 | some x=>Un x.1 x.2
theorem wQ{h:Nat}{t:Nd h}{r:cT}(h0:eX h t=0)(h1:h≠0→1≤oM h t)(hr:ni h t r):bY r≤oM h t+3∧(r≠none→1≤bY r)∧(cD h t).length=(bz r).length∧(¬ Hq h t→bY r≤oM h t+1):=by
 rcases hr with ⟨hb,a,k,b,hc,rfl⟩ | ⟨_,_,rfl⟩ | ⟨_,_,hr⟩
 ·obtain ⟨ha,Mz,zh⟩:=P0 hc;have e1:bY (some ⟨h+1,(0,[k],[a,b])⟩)=fA h a+(fA h b+0)+1:=rfl;have e2:bz (some ⟨h+1,(0,[k],[a,b])⟩)=cD h a++(cD h b++[]):=rfl;rw [e1,e2,mi ha,mi Mz,List.append_nil,vI hc,lP h0];exact ⟨by omega,fun _=>by omega,rfl,fun h=>absurd hb h⟩
 ·have e1:bY (some ⟨h,t⟩)=fA h t:=rfl;rw [e1,mi h0];exact ⟨by omega,fun _=>by omega,rfl,fun _=>by omega⟩
 ·cases h with
  | zero =>
   have hr:r=none:=hr;subst hr;refine ⟨aC _,fun h=>absurd rfl h,?_,fun _=>aC _⟩
   have:=lP h0;exact this.symm
  | succ h =>
   obtain ⟨c,e,rfl⟩:=hr;have e1:bY (some ⟨h,c⟩)=fA h c:=rfl;have e2:oM (h+1) t=fA h c:=by
    show (t.2.2.map (fA h)).sum=_
    rw [e];simp
   have e3:=lP h0;have e4:rJ (h+1) t=cD h c:=by
    show t.2.2.flatMap (cD h)=_
    rw [e];simp
   have:=h1 (by omega)
   rw [e1,← e2];exact ⟨by omega,fun _=>this,by rw [← e3,e4];rfl,fun _=>by omega⟩
theorem Ro{key:ByteArray}{f:List Pr→List Pr}{h:Nat}{t t':Nd h}(hn:Un h t)(hu:Q9 key f h t t')(h0:h≠0):1≤oM h t':=by
 cases h with
 | zero=>exact absurd rfl h0
 | succ h =>
  obtain ⟨A,B,C1,c,C2,_,e2,_,_,_,c',ks,cs,hc,hs,rfl⟩:=hu;have hk:=hn.2;rw [e2] at hk;exact (wN hs (FU hc) (fun x hx=>hk x (by simp [hx])) (fun x hx=>hk x (by simp [hx]))).2.1
theorem wD{key:ByteArray}{f:List Pr→List Pr}{r r':cT}(hf:fQ (f [])≤4072)(hn:V9 r)(hu:pQ key f r r'):bY r'≤2*jo r+1∧(r'≠none→1≤bY r')∧(bz r).length≤(bz r').length+2*jo r+1:=by
 cases r with
 | none =>
  have hu:ni 0 (0,f []) r':=hu;obtain ⟨g1,g2,g3,g4⟩:=wQ (h:=0) (t:=(0,f [])) rfl (fun h=>absurd rfl h) hu
  refine ⟨g4 (by unfold Hq;show ¬ 4072<fQ (f []);omega),g2,aC _⟩
 | some x =>
  obtain ⟨h,t⟩:=x;obtain ⟨t',h1,h2⟩:=hu;have h1:Q9 key f h t t':=h1;have h2:ni h t' r':=h2;have hn:Un h t:=hn;obtain ⟨g1,g2⟩:=Ip h hn h1;obtain ⟨k1,k2,k3,_⟩:=wQ (FU h1) (Ro hn h1) h2;have e:jo (some ⟨h,t⟩)=h+1:=rfl;have e2:bz (some ⟨h,t⟩)=cD h t:=rfl;rw [e,e2];exact ⟨by omega,k2,by omega⟩
theorem Ir{PG:Int→Option PD}:∀ (h:Nat) {id:Int} {t:Nd h},gC PG h id t→Un h t
 | 0,id,t,hp=>by
  have h1:=hp.1;have h2:=hp.2.1;show t.1≠0
  omega
 | h+1,id,t,hp=>by
  obtain ⟨h1,h2,f,lk,_,_,hl,hk⟩:=hp;refine ⟨by omega,fun c hc=>?_⟩
  obtain ⟨i,hi,rfl⟩:=aI hc;have ep:(B.kids f lk).length=lk.length+1:=by simp [B.kids]
  exact Ir h (hk i _ ((B.kids f lk)[i]'(by omega)) (af hi) (af (by omega)))
theorem vA{PG:Int→Option PD}{w:World}{r:cT}(h:gA PG w (lL r) r):V9 r:=by
 rcases h with ⟨_,rfl⟩ | ⟨p,h,t,e,rfl,hk⟩
 ·trivial
 ·cases p with
  | pg id=>exact Ir h hk
  | nd b=>exact absurd e (by simp [lL,C.Ch.val])
def zR(w:World)(v:Value)(l:List Int):Prop:=∃ a cap,v = .slice a l.length cap∧∀ j (h:j<l.length),∃ g,a=some ⟨g,0,none⟩∧w.cell? ⟨g,j,none⟩=some (.int .i64 l[j])
theorem fw{w:World}{base n:Nat}{v:Value}{l:List Int}(h:w.ownsRow base 3 1 v n (l.map (Value.int .i64))):zR w v l:=by
 have hl:=h.1;rw [az,Nat.mul_one] at hl;rcases h.2 with ⟨h',h0⟩ | ⟨g,cap,cur,h',_⟩
 ·have:l=[]:=List.length_eq_zero_iff.1 (by omega)
  subst this;exact ⟨none,0,by rw [h'];rfl,fun j hj=>by simp at hj⟩
 ·refine ⟨some ⟨g,0,none⟩,cap,by rw [h',hl],fun j hj=>⟨g,rfl,?_⟩⟩
  rw [h'] at h;rw [h.cellAt j (by omega),aL,af hj]
  rfl
theorem zR.same{w w':World}{v:Value}{l:List Int}(h:zR w v l)(hb:∀ k,v.ownBlock=some k→w'.heap[k]?=w.heap[k]?):zR w' v l:=by
 obtain ⟨a,cap,rfl,hc⟩:=h;refine ⟨a,cap,rfl,fun j hj=>?_⟩
 obtain ⟨g,rfl,h1⟩:=hc j hj;exact ⟨g,rfl,b9 (hb g rfl) h1⟩
theorem mH(u v:Value)(l m:List Int)(w:World)(hl:zR w u l)(hm:zR w v m)(sl:l.Pairwise (· < ·))(sm:m.Pairwise (· < ·))(mR:∀ x ∈ l,x ∈ m)(bl:l.length≤1099511627776)(bm:m.length≤1099511627776):Calls prog 30 #[u,v] w fun e w'=>e = .returned (.bool true)∧∃ k,w'=w.drewN k:=by
 obtain ⟨a,ca,rfl,hca⟩:=hl;obtain ⟨b,cb,rfl,My⟩:=hm;have HA:=ab hca;have HB:=ab My;have SL:=ab sl;have SM:=ab sm;have HS:=ab mR;obtain ⟨N,hN⟩ : ∃ N,N=l.length:=⟨_,rfl⟩;obtain ⟨M,hM⟩ : ∃ M,M=m.length:=⟨_,rfl⟩;rw [← hN] at bl;rw [← hM] at bm;rw [← hN,← hM];have HN:=ab hN;have HM:=ab hM;have acY:Hid (∀ (i k:Nat) (hi:i<l.length),(∀ j (h:j<m.length),j<k→m[j]<l[i])→∃ hk:k<m.length,l[i]≤m[k]→m[k]=l[i]):=fun i k hi hb=>by
  obtain ⟨p,hp,he⟩:=aI (HS.out l[i] (aH hi));have ze:k≤p:=by
   rcases aZ p k with h | h
   ·have:=hb p hp h;omega
   ·exact h
  refine ⟨by omega,fun hle=>?_⟩
  rcases aZ k p with h | h
  ·have:=List.pairwise_iff_getElem.1 SM.out k p (by omega) hp h
   omega
  ·have:k=p:=by omega
   subst this;exact he
 have ac0:Hid (∀ (i k:Nat) (hi:i<l.length),(∀ j (h:j<m.length),j<k→m[j]<l[i])→∀ (sj:i+1<l.length),∀ j (h:j<m.length),j<k→m[j]<l[i+1]):=fun i k hi hb sj j h hj=>by
  have h1:=hb j h hj;have h2:=List.pairwise_iff_getElem.1 SL.out i (i+1) hi sj (by omega)
  omega
 obtain ⟨Q0,G6⟩ : ∃ Q0:Ending→World→Prop,Q0=fun e w'=>e = .returned (.bool true)∧∃ k,w'=w.drewN k:=⟨_,rfl⟩
 rw [← G6];have HQ:=ab G6;clear hca My sl sm mR hN hM G6;go_enter func30,ntmps30;go_wp2;go_loopw [5,6] (fun kv iv wr=>∃ (k i:Nat),kv = .int .i64 (k:Int)∧iv = .int .i64 (i:Int)∧i≤N∧k≤M∧(∀ (hi:i<l.length),∀ j (h:j<m.length),j<k→m[j]<l[i])∧∃ q,wr=w.drewN q) (fun _ iv _=>N - (intOf iv).toNat)
 case atStart=>exact ⟨0,0,rfl,rfl,aC _,aC _,fun _ j _ h=>absurd h (fZ _),0,rfl⟩
 case round =>
  obtain ⟨k,i,rfl,rfl,hi,hk,hinv,q,rfl⟩:=hrel;by_cases bX:i<N
  ·have Mw:i<l.length:=by have:=HN.out;omega
   have dO:(i:Int)<(N:Int):=by omega
   have adB:=ab (hinv Mw);obtain ⟨g1,rfl,c1⟩:=HA.out i Mw;have HX:Hid (w.cell? ⟨g1,i,none⟩=some (.int .i64 l[i])):=c1;clear hinv c1;go_wp2;go_loopw [5] (fun kv wr=>∃ (k:Nat),kv = .int .i64 (k:Int)∧k≤M∧(∀ j (h:j<m.length),j<k→m[j]<l[i])∧∃ q,wr=w.drewN q) (fun kv _=>M - (intOf kv).toNat)
   case atStart=>exact ⟨k,rfl,hk,adB.out,q,rfl⟩
   case round =>
    obtain ⟨k2,rfl,pC,En,q2,rfl⟩:=hrel;obtain ⟨GY,eS⟩:=acY.out i k2 Mw En;obtain ⟨g2,rfl,d2⟩:=HB.out k2 GY;have x1:w.cell? ⟨g1,i,none⟩=some (.int .i64 l[i]):=HX.out;have x2:w.cell? ⟨g2,k2,none⟩=some (.int .i64 m[k2]):=d2;have hkM:k2<M:=by have:=HM.out;omega
    have hkI:(k2:Int)<(M:Int):=by omega
    have hki:¬ (k2:Int)≥(M:Int):=by omega
    have e0:(0:Int)≤(k2:Int):=by omega
    have e1:(0:Int)≤(i:Int):=by omega
    have afz:=ab En;have gN:=ab eS;have NX:Hid (m[k2]<l[i]→∀ j (h:j<m.length),j<k2+1→m[j]<l[i]):=fun bX j h hj=>by
     rcases aZ j k2 with h' | h'
     ·exact En j h h'
     ·have:j=k2:=by omega
      subst this;exact bX
    have NI:Hid (∀ (sj:i+1<l.length),∀ j (h:j<m.length),j<k2→m[j]<l[i+1]):=ac0.out i k2 Mw En;clear En eS d2;obtain ⟨X,hX⟩ : ∃ X,X=l[i]:=⟨_,rfl⟩;obtain ⟨Y,hY⟩ : ∃ Y,Y=m[k2]:=⟨_,rfl⟩;rw [← hX,← hY] at gN;rw [← hX] at x1;rw [← hY] at x2;have NX2:Hid (Y<X→∀ j (h:j<m.length),j<k2+1→m[j]<l[i]):=by rw [hX,hY];exact NX.out
    clear hX hY NX;by_cases hc:Y<X
    ·have oS:=ab (NX2.out hc);clear NX2 gN;go_wp2;go_quiet (fail)
     go_wp2;go_roundw
     case rel=>exact ⟨k2+1,by go_num,by omega,oS.out,_,rfl⟩
     case measure=>simp [intOf];omega
    ·have he:Y=X:=gN.out (by omega)
     subst he;clear NX2 gN;go_wp2;go_quiet (fail)
     go_wp2;go_quiet (fail)
     go_wp2;go_roundw
     case rel=>exact ⟨k2,i+1,rfl,by go_num,by omega,pC,NI.out,_,rfl⟩
     case measure=>simp [intOf];omega
  ·have dO:¬ (i:Int)<(N:Int):=by omega
   clear hinv;go_wp2;rw [HQ.out];exact ⟨rfl,q,rfl⟩
section
variable {base:Nat} {A:Nat→Addr} {w0:World} {ob db tb fb fg:Nat} {F:Nat→Prop} {d:S.V.bD} {r:cT} {T:Nat→Bool} {wv:Value} {root tx:Nat} {l:List Pr}
def E8(kind:Int)(key value:ByteArray)(r r':cT):Prop :=
 (kind=1∧((cF (key,value)=true∧pQ key (fun l=>eT l key value) r r')∨(¬ cF (key,value)=true∧r'=r))) ∨
 (kind=2∧((cF (key,⟨#[]⟩)=true∧bq (aP r) key=true∧pQ key (fun l=>cX l key) r r')∨(¬ (cF (key,⟨#[]⟩)=true∧bq (aP r) key=true)∧r'=r)))
theorem lR{w:World}(kind at' n:Int)(key value vg:ByteArray)(hk:kind=1∨kind=2)(h:Os base A w0 w ob db tb fb fg F d r T wv root tx (aP r))(hn:(aP r).length≤1000000)(ep:key.size≤140737488355328)(TX:value.size≤140737488355328):Calls prog 24 #[.pointer (some ⟨ob,0,none⟩),.agg #[.int .i64 kind,.int .i64 at',.int .i64 n,.string key,.string value,.string vg]] w fun e w'=>e = .returned (.bool true)∧∃ r' Cq,E8 kind key value r r'∧Os base A w0 w' ob db tb fb fg F d r' T Cq root tx (aP r')∧Fr F tb ob w w':=by
 have q0:=ai w (.cells #[.int .i64 kind,.int .i64 at',.int .i64 n,.string key,.string value,.string vg] 44);have x0:=B.au.new w #[.int .i64 kind,.int .i64 at',.int .i64 n,.string key,.string value,.string vg] 44;have k0:=x0.cell 0 (by simp)
 have k3:=x0.cell 3 (by simp)
 have k4:=x0.cell 4 (by simp)
 simp only [aG,List.getElem_cons_zero,List.getElem_cons_succ] at k0 k3 k4;have h1:=h.below q0;have ZU:=ab q0;rcases hk with rfl | rfl
 ·have HP:=ab (IW key value h1 hn ep TX);clear h h1 hn x0 q0;go_enter func24,ntmps24;go_wp2_with fail;refine HP.out.mono ?_
  rintro e w1 ⟨rfl,r',Cq,fG,ho,Jf⟩;have HR:Hid (∃ r' Cq,E8 1 key value r r'∧Os base A w0 w1 ob db tb fb fg F d r' T Cq root tx (aP r')∧Fr F tb ob w w1):=⟨r',Cq,.inl ⟨rfl,fG⟩,ho,(Ex ZU.out).trans Jf⟩;clear fG ho Jf HP k0 k3 k4;go_wp2;go_ret;exact ⟨rfl,HR.out⟩
 ·have HP:=ab (N3 key h1 hn ep);clear h h1 hn x0 q0;go_enter func24,ntmps24;go_wp2_with fail;refine HP.out.mono ?_
  rintro e w1 ⟨rfl,r',Cq,fG,ho,Jf⟩;have HR:Hid (∃ r' Cq,E8 2 key value r r'∧Os base A w0 w1 ob db tb fb fg F d r' T Cq root tx (aP r')∧Fr F tb ob w w1):=⟨r',Cq,.inr ⟨rfl,fG⟩,ho,(Ex ZU.out).trans Jf⟩;clear fG ho Jf HP k0 k3 k4;go_wp2;go_ret;exact ⟨rfl,HR.out⟩
theorem kA{kind:Int}{key value:ByteArray}{r r':cT}(h:E8 kind key value r r')(cC:dU r):(aP r').length≤(aP r).length+1:=by
 rcases h with ⟨_,⟨hm,hu⟩ | ⟨_,rfl⟩⟩ | ⟨_,⟨_,_,hu⟩ | ⟨_,rfl⟩⟩
 ·rw [(km (ll hm) cC hu).2];exact oe _ _ _
 ·omega
 ·rw [(km (fit_drop key) cC hu).2];have:=tR (aP r) key;show (cX (aP r) key).length≤_
  omega
 ·omega
theorem IY:∀ (h:Nat) {t:Nd h},MC h t→∀ p ∈ flat h t,cF p=true
 | 0,t,ho,p,hp=>by
  obtain ⟨⟨lo,hi,cC⟩,_⟩:=ho;exact (cC.2 p hp).1
 | h+1,t,ho,p,hp=>by
  have hp:p ∈ t.2.2.flatMap (flat h):=hp;obtain ⟨c,hc,FB⟩:=List.mem_flatMap.1 hp;obtain ⟨i,hi,rfl⟩:=aI hc;exact IY h (rO ho (af hi)) p FB
theorem PK{r:cT}(cC:dU r):∀ p ∈ aP r,cF p=true:=by
 cases r with
 | none=>intro p hp;simp [aP] at hp
 | some x=>exact IY x.1 (t:=x.2) ⟨⟨none,none,cC.1⟩,cC.2.1,cC.2.2⟩
theorem La{l:List Pr}{key:ByteArray}(h:bq l key=true):∃ p ∈ l,p.1=key:=by
 have hl:=l7 h;rw [l8 hl] at h;exact ⟨_,aH hl,of_decide_eq_true h⟩
theorem Lb{r:cT}(cC:dU r){key:ByteArray}(h:bq (aP r) key=true):cF (key,⟨#[]⟩)=true:=by
 obtain ⟨p,hp,rfl⟩:=La h;have:=eu (PK cC p hp);unfold cF;rw [decide_eq_true_eq];exact ⟨this.1,this.2.1,by simp [ByteArray.size]⟩
theorem AS{r:cT}(cC:dU r):(aP r=[])↔r=none:=by
 constructor
 ·intro h;cases r with
  | none=>rfl
  | some x =>
   have:=Ad (h:=x.1) (t:=x.2) cC;have h1:(flat x.1 x.2).length=0:=by
    have:flat x.1 x.2=[]:=h;rw [this];rfl
   have h2:=Nat.two_pow_pos x.1;omega
 ·rintro rfl;rfl
theorem sB{kind:Int}{key value:ByteArray}{r r':cT}(hs:E8 kind key value r r')(cC:dU r)(zE:V9 r):bY r'≤2*jo r+1∧(bz r).length≤(bz r').length+2*jo r+1∧(bz r').Sublist (bz r)∧(bY r'=0↔((kind=2∧bq (aP r) key=false)∨(cF (key,value)=false∧kind=1))∨(aP r'=[]∧bz r'=[])):=by
 have hz:bY r=0:=by
  cases r with
  | none=>rfl
  | some x=>exact tT zE
 have fy:dU r'→∀ hu:r'≠none→1≤bY r',(bY r'=0↔(aP r'=[]∧bz r'=[])):=fun abU hu=>by
  constructor
  ·intro h0;have:r'=none:=Classical.byContradiction fun ey=>by have:=hu ey;omega
   subst this;exact ⟨rfl,rfl⟩
  ·rintro ⟨h1,_⟩;have:=(AS abU).1 h1;subst this;rfl
 rcases hs with ⟨rfl,⟨hm,hu⟩ | ⟨hm,rfl⟩⟩ | ⟨rfl,⟨hm,hf,hu⟩ | ⟨hm,rfl⟩⟩
 ·have cp:=(ll hm).size [];rw [kW] at cp;obtain ⟨g1,g2,g3⟩:=wD (f:=fun l=>eT l key value) (by omega) zE hu
  refine ⟨g1,g3,rG hu,?_⟩;rw [fy (km (ll hm) cC hu).1 g2,hm];simp
 ·refine ⟨by omega,by omega,List.Sublist.refl _,?_⟩
  have hm':cF (key,value)=false:=by simpa using hm
  simp [hz,hm']
 ·have cp:=(fit_drop key).size [];rw [kW] at cp;obtain ⟨g1,g2,g3⟩:=wD (f:=fun l=>cX l key) (by omega) zE hu
  refine ⟨g1,g3,rG hu,?_⟩;rw [fy (km (fit_drop key) cC hu).1 g2,hf];simp
 ·refine ⟨by omega,by omega,List.Sublist.refl _,?_⟩
  have hf:bq (aP r') key=false:=by
   cases hb:bq (aP r') key with
   | false=>rfl
   | true=>exact absurd ⟨Lb cC hb,hb⟩ hm
  simp [hz,hf]
end
structure LS where
 kind:Int
 at':Int
 n:Int
 key:ByteArray
 value:ByteArray
 vg:ByteArray
def L5(w:World)(v:Value)(l:List LS):Prop:=∃ a c,v = .slice a l.length c∧∀ j (h:j<l.length),∃ g o,a=some ⟨g,o,none⟩∧w.cell? ⟨g,o+j*6,none⟩=some (.int .i64 l[j].kind)∧w.cell? ⟨g,o+j*6+1,none⟩=some (.int .i64 l[j].at')∧w.cell? ⟨g,o+j*6+2,none⟩=some (.int .i64 l[j].n)∧w.cell? ⟨g,o+j*6+3,none⟩=some (.string l[j].key)∧w.cell? ⟨g,o+j*6+4,none⟩=some (.string l[j].value)∧w.cell? ⟨g,o+j*6+5,none⟩=some (.string l[j].vg)
theorem L5.below{w w':World}{v:Value}{l:List LS}(h:L5 w v l)(hb:Below w.heap.size w w'):L5 w' v l:=by
 obtain ⟨a,c,hv,hc⟩:=h;refine ⟨a,c,hv,fun j hj=>?_⟩
 obtain ⟨g,o,ha,h0,h1,h2,h3,h4,h5⟩:=hc j hj;have f:∀ {m:Nat} {u:Value},w.cell? ⟨g,m,none⟩=some u→w'.cell? ⟨g,m,none⟩=some u:=fun {m u} hu=>(hb.cell (p:=⟨g,m,none⟩) (World.block_lt_of_cell? w _ hu)).trans hu
 exact ⟨g,o,ha,f h0,f h1,f h2,f h3,f h4,f h5⟩
end T
end Go.Proofs.YtihmgigfkmofnaaGreatDoor
