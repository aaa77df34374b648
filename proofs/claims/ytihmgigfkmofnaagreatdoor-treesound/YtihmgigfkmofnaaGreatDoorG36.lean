import Derived.Test.YtihmgigfkmofnaaGreatDoorG35
set_option maxHeartbeats 8000000
set_option maxRecDepth 100000
open Go.Proofs.Tryz
namespace Go.Proofs.YtihmgigfkmofnaaGreatDoor
open Go.RowKit
theorem Pd:prog.underlying 52=some (.struct (prog.fieldsOf 52)):=by kernel_rfl
theorem Tx:prog.stoodInHeld 52=false:=by kernel_rfl
theorem Z9(w:World)(a b a' b':ByteArray):(binOp .eql 52 (.agg #[.string a,.string b]) (.agg #[.string a',.string b'])).run prog w = .ok (.bool (a.toList == a'.toList && b.toList == b'.toList)) w:=by
 rw [run_eql_struct,run_equalIn_agg w 9999 52 _ _ Pd Tx];simp [go_sem]
 by_cases h1:a.toList=a'.toList
 ·by_cases h2:b.toList=b'.toList
  ·simp [h1,h2]
  ·simp [h1,h2]
 ·simp [h1]
theorem Tw(w:World)(a b:ByteArray):(binOp .eql 52 (.agg #[.string a,.string b]) (.agg #[.string a,.string b])).run prog w = .ok (.bool true) w:=by
 rw [Z9];simp
theorem WZ(w:World)(x y:Array Value)(bb:Bool)(h:(binOp .eql 52 (.agg x) (.agg y)).run prog w = .ok (.bool bb) w):(binOp .neq 52 (.agg x) (.agg y)).run prog w = .ok (.bool (!bb)) w:=by
 rw [run_eql_struct] at h;rw [run_neq_struct];revert h
 generalize (Op.equalIn 10000 52 (.agg x) (.agg y)).run prog w=r;cases r with
 | ok v w'=>intro h;simp [Result.andThen] at h ⊢;obtain ⟨rfl,rfl⟩:=h;simp
 | halt v w'=>intro h;simp [Result.andThen] at h
theorem Pe(w:World)(a b:ByteArray):(binOp .neq 52 (.agg #[.string a,.string b]) (.agg #[.string a,.string b])).run prog w = .ok (.bool false) w:=WZ w _ _ true (Tw w a b)
theorem xy(v1 v2:Value)(l:List Pr)(w:World)(hm:l.length≤140737488355328)(r1:gM w v1 l)(r2:gM w v2 l):Calls prog 60 #[v1,v2] w fun e w'=>e = .returned (.bool true)∧Below w.heap.size w w':=by
 obtain ⟨a1,c1,rfl,_,_,h1⟩:=r1;obtain ⟨a2,c2,rfl,_,_,h2⟩:=r2;obtain ⟨n,hn⟩ : ∃ n,n=l.length:=⟨_,rfl⟩;rw [← hn] at hm ⊢;have H1:=ab h1;have H2:=ab h2;have HN:=ab hn;have Gi:((n:Int) != (n:Int))=false:=by simp
 obtain ⟨Q,hQ⟩ : ∃ Q:Ending→World→Prop,Q=fun e w'=>e = .returned (.bool true)∧Below w.heap.size w w':=⟨_,rfl⟩
 rw [← hQ];have HQ:=ab hQ;clear h1 h2 hn hQ;go_enter func60,ntmps60;go_wp2;go_loopw [5] (fun i wr=>∃ k nq:Nat,k≤n∧i = .int .i64 k∧wr=w.drewN nq) (fun i _=>n - (intOf i).toNat)
 case atStart=>exact ⟨0,0,aB _,rfl,rfl⟩
 case round =>
  obtain ⟨k,nq,hk,rfl,rfl⟩:=hrel;by_cases bO:k<n
  ·have iV:k<l.length:=by have:=HN.out;omega
   obtain ⟨g1,o1,rfl,f1,f1'⟩:=H1.out k iV;obtain ⟨g2,o2,rfl,f2,f2'⟩:=H2.out k iV;have j0:(0:Int)≤(k:Int):=du k;have j1:(k:Int)<(n:Int):=by omega
   generalize l[k].1=x1 at *;generalize l[k].2=x2 at *;have cY:=fun w=>Pe w x1 x2
   clear H1 H2;go_wp2;go_quiet (fail)
   go_wp2;go_roundw
   case rel=>exact ⟨k+1,_,by omega,by go_num,rfl⟩
   case measure=>simp [intOf];omega
  ·have j1:¬ (k:Int)<(n:Int):=by omega
   clear H1 H2;go_wp2;rw [HQ.out];exact ⟨rfl,aA (Below.refl _ _) _⟩
namespace T
section
variable {base:Nat} {A:Nat→Addr} {w0:World} {ob db tb fb fg:Nat} {F:Nat→Prop} {d:S.V.bE} {r:cT} {T:Nat→Bool} {wv:Value} {root tx:Nat} {l:List Pr}
theorem Os.mv{w w1:World}(h:Os base A w0 w ob db tb fb fg F d r T wv root tx l)(hv:Dv base A db F d w1)(hm:Mv db F w w1):Os base A w0 w1 ob db tb fb fg F d r T wv root tx l:=h.tree (h.ts.mv hm hv) (List.Sublist.refl _)
end
section
variable {base:Nat} {A:Nat→Addr}
theorem Lw(w:World)(Uy:Q.Env base A w)(hE:S.Env base A w)(hG:dI 13 fe A w)(n7:∀ i,i<13→fe i<base∧(A i).block<base):Calls prog 9 #[] w fun e w'=>∃ (ob db tb fb fg:Nat) (F:Nat→Prop) (d:S.V.bE),e = .returned (.tuple #[.pointer (some ⟨ob,0,none⟩),.bool true])∧Os base A w w' ob db tb fb fg F d none (Q.T0 4000) (.slice none 0 0) 0 0 []:=by
 have HQE:=ab Uy;have HE:=ab hE;have HG:=ab hG;have HLO:=ab n7;have HN:=ab (S.V.wA 32000 w);clear hE hG n7 Uy;go_enter func9,ntmps9;go_wp2_with fail;refine HN.out.mono ?_
 rintro e w1 ⟨db,F,rfl,hd,aO,hF⟩;have fD:Dv base A db F (S.V.iJ 32000) w1:=⟨⟨_,Nr.refl _,hd⟩,HE.out.up aO,HG.out.keep aO,fun k hk=>ar HE.out.errs.size (hF k hk),rfl,HLO.out⟩
 have abE:=fD.Ct;have QY:=hd.lt;have q1:=ai w1 (.cells #[.int .i64 4000,.pointer (some ⟨db,0,none⟩),.pointer none,.pointer none,.slice none 0 0,.int .i64 0,.int .u64 0] 65);have x1:=B.au.new w1 #[.int .i64 4000,.pointer (some ⟨db,0,none⟩),.pointer none,.pointer none,.slice none 0 0,.int .i64 0,.int .u64 0] 65;have uK:=ab fD;have bT:=ab aO;have HF:=ab hF;have IZ:=ab QY;have HDL:=ab abE;have zg:=ab q1;have Ad:=ab x1;have ZE:=ab (Q.wA 4000 (w1.alloc (.cells #[.int .i64 4000,.pointer (some ⟨db,0,none⟩),.pointer none,.pointer none,.slice none 0 0,.int .i64 0,.int .u64 0] 65)) (by decide) (by decide))
 clear hd aO hF fD abE QY q1 x1 HN;go_wp2_with fail;refine ZE.out.mono ?_
 rintro e w3 ⟨mb,mg,rfl,J5,hmg,hmap,bW⟩;have HMB:=ab J5;have Ws:=ab hmg;have Sj:=ab hmap;have NC:=ab bW;clear J5 hmg hmap;have vP:=Ad.out.below bW;have zu:=ab vP;have eH:=ab (Below.next zg.out bW);have k1:=vP.cell 1 (by simp)
 have k2:=vP.cell 2 (by simp)
 simp only [a8,List.getElem_cons_zero,List.getElem_cons_succ] at k1 k2;have y2:=vP.free 2;have Qg:B.au (w3.setCell ⟨w1.heap.size,2,none⟩ (.pointer (some ⟨mb,0,none⟩))) w1.heap.size #[.int .i64 4000,.pointer (some ⟨db,0,none⟩),.pointer (some ⟨mb,0,none⟩),.pointer none,.slice none 0 0,.int .i64 0,.int .u64 0] 65:=heap_setCell_same _ _ 2 _ _ _ vP;have sS:w.heap.size≤w1.heap.size:=bT.out.size;have Uk:¬ F w1.heap.size:=fun h=>by have:=IZ.out _ h;omega
 have Qh:Dv base A db F (S.V.iJ 32000) (w3.setCell ⟨w1.heap.size,2,none⟩ (.pointer (some ⟨mb,0,none⟩))):=(uK.out.below eH.out).tree (ar HE.out.errs.size sS) Uk 2 _;have fS:Below w.heap.size w (w3.setCell ⟨w1.heap.size,2,none⟩ (.pointer (some ⟨mb,0,none⟩))):=(Below.next bT.out eH.out).setCell (p:=⟨w1.heap.size,2,none⟩) sS _;have k3:=Qg.cell 1 (by simp)
 simp only [a8,List.getElem_cons_zero,List.getElem_cons_succ] at k3;generalize SK:w3.setCell ⟨w1.heap.size,2,none⟩ (.pointer (some ⟨mb,0,none⟩))=W4 at *;have HTO:=ab (KS (W0:=W4) 4000 0 (.int .u64 0) Qh (S.V.Step.refl _ _));have wO:=ab Qg;have iY:=ab fS;have Vj:=ab Uk;have CH:=ab sS;clear bW vP ZE Qg Qh fS Uk sS;go_wp2_with fail;refine HTO.out.mono ?_
 rintro e w5 ⟨tb,rfl,htc,htr⟩;have hx5:B.au w5 w1.heap.size #[.int .i64 4000,.pointer (some ⟨db,0,none⟩),.pointer (some ⟨mb,0,none⟩),.pointer none,.slice none 0 0,.int .i64 0,.int .u64 0] 65:=(htc.st.block _ wO.out.lt Vj.out).trans wO.out;have hot:w1.heap.size≠tb:=by have:=wO.out.lt;have:=htc.lo.2.1;omega
 have hx6:B.au (w5.setCell ⟨w1.heap.size,3,none⟩ (.pointer (some ⟨tb,0,none⟩))) w1.heap.size #[.int .i64 4000,.pointer (some ⟨db,0,none⟩),.pointer (some ⟨mb,0,none⟩),.pointer (some ⟨tb,0,none⟩),.slice none 0 0,.int .i64 0,.int .u64 0] 65:=heap_setCell_same _ _ 3 _ _ _ hx5;have aat:B.au (w5.setCell ⟨w1.heap.size,3,none⟩ (.pointer (some ⟨tb,0,none⟩))) tb #[.pointer (some ⟨db,0,none⟩),.nilIface] 100:=(htr (by first | trivial | rfl)).other hot.symm _
 have m3:=hx5.cell 3 (by simp)
 have f3:=hx5.free 3;have n3:=hx6.cell 3 (by simp)
 simp only [a8,List.getElem_cons_zero,List.getElem_cons_succ] at m3 n3;have cz:Hid (∀ k,Os base A w ((w5.setCell ⟨w1.heap.size,3,none⟩ (.pointer (some ⟨tb,0,none⟩))).drewN k) w1.heap.size db tb mb mg F (S.V.iJ 32000) none (Q.T0 4000) (.slice none 0 0) 0 0 []):=fun k=>by
  have hd:=aA (Below.refl (w5.setCell ⟨w1.heap.size,3,none⟩ (.pointer (some ⟨tb,0,none⟩))).heap.size (w5.setCell ⟨w1.heap.size,3,none⟩ (.pointer (some ⟨tb,0,none⟩)))) k;have hs:=bG.set w1.heap.size 3 w5 (.pointer (some ⟨tb,0,none⟩));have QS:=HQE.out.size;have sS:=CH.out;have Y7:∀ k,w1.heap.size≤k→¬ F k:=fun k hk h=>by have:=IZ.out _ h;omega
  have Qk:w1.heap.size+1≤mb∧w1.heap.size+1≤mg:=by
   have h1:=HMB.out;have h2:=Ws.out;simp at h1 h2
   omega
  have abc:mb<w3.heap.size∧mg<w3.heap.size:=⟨Sj.out.TO,Sj.out.TN⟩;have aj0:W4.heap.size=w3.heap.size:=by rw [← SK];simp
  have htb:=htc.lo.2.1;have VY:∀ k,k<w3.heap.size→w1.heap.size<k→(w5.setCell ⟨w1.heap.size,3,none⟩ (.pointer (some ⟨tb,0,none⟩))).heap[k]?=w3.heap[k]?:=fun k hk qk=>by
   have s4:=bG.set w1.heap.size 2 w3 (.pointer (some ⟨mb,0,none⟩));rw [SK] at s4;have e1:=s4.block k hk (by omega)
   have e2:=htc.st.block k (by omega) (Y7 k (by omega))
   have e3:=hs.block k (by have:=htc.st.size;omega) (by omega)
   exact e3.trans (e2.trans e1)
  have km:Below base w (w5.setCell ⟨w1.heap.size,3,none⟩ (.pointer (some ⟨tb,0,none⟩))):=by
   have h1:S.V.Step F F w w5:=(S.V.Step.bD iY.out).trans htc.st;exact ⟨hs.os.trans h1.os,hs.tape.trans h1.tape,hs.output.trans h1.output,ar h1.size hs.size,fun k hk=>(hs.block k (by have:=h1.size;omega) (by omega)).trans (h1.block k (by omega) (fun e=>by have:=HF.out k e;omega))⟩
  have Y6:Os base A w (w5.setCell ⟨w1.heap.size,3,none⟩ (.pointer (some ⟨tb,0,none⟩))) w1.heap.size db tb mb mg F (S.V.iJ 32000) none (Q.T0 4000) (.slice none 0 0) 0 0 []:=by
   refine ⟨hx6,⟨htc.dv.tree (by omega) Vj.out 3 _,⟨_,aat,.inl ⟨rfl,rfl⟩⟩,trivial,S.V.Step.refl _ _,htc.lo.1,htc.lo.2.2⟩,⟨jO Sj.out (VY _ abc.1 (by omega)) (VY _ abc.2 (by omega)),Q.Vz (by decide) (by decide),⟨by omega,by omega⟩,⟨Y7 _ (by omega),Y7 _ (by omega)⟩,⟨by omega,by omega⟩⟩,HQE.out.keep km,fJ.nil _ _,List.nodup_nil,fun i hi=>by simp [eh] at hi,fun i hi=>by simp [eh] at hi,⟨rfl,rfl,rfl⟩,km,⟨by omega,Vj.out,hot,by omega,by omega⟩,fun k hk=>by simp [Value.ownBlock] at hk⟩
  exact Y6.below hd
 clear htc htr hx5 hot hx6 aat HTO k1 k2 k3 y2;go_wp2_with fail;go_quiet (fail)
 go_wp2;go_ret2;exact ⟨_,_,_,_,_,F,S.V.iJ 32000,rfl,cz.out _⟩
end
def Nw(w:World)(v:Value)(l:List Int):Prop:=∃ a cap,v = .slice a l.length cap∧∀ j (h:j<l.length),∃ g,a=some ⟨g,0,none⟩∧w.cell? ⟨g,j,none⟩=some (.int .i64 l[j])
theorem rY{w:World}{base n:Nat}{v:Value}{l:List Int}(h:w.ownsRow base 3 1 v n (l.map (Value.int .i64))):Nw w v l:=by
 have hl:=h.1;rw [az,Nat.mul_one] at hl;rcases h.2 with ⟨h',h0⟩ | ⟨g,cap,cur,h',_⟩
 ·have:l=[]:=List.length_eq_zero_iff.1 (by omega)
  subst this;exact ⟨none,0,by rw [h'];rfl,fun j hj=>by simp at hj⟩
 ·refine ⟨some ⟨g,0,none⟩,cap,by rw [h',hl],fun j hj=>⟨g,rfl,?_⟩⟩
  rw [h'] at h;rw [h.cellAt j (by omega),aG,af hj]
  rfl
section
variable {base:Nat} {A:Nat→Addr} {w0:World} {ob db tb fb fg:Nat} {F:Nat→Prop} {d:S.V.bE} {r:cT} {T:Nat→Bool} {wv:Value} {root tx:Nat} {l:List Pr}
def Ko(kind:Int)(key value:ByteArray)(r r':cT):Prop :=
 (kind=1∧((cQ (key,value)=true∧uE key (fun l=>fx l key value) r r')∨(¬ cQ (key,value)=true∧r'=r))) ∨
 (kind=2∧((cQ (key,⟨#[]⟩)=true∧bm (aD r) key=true∧uE key (fun l=>fT l key) r r')∨(¬ (cQ (key,⟨#[]⟩)=true∧bm (aD r) key=true)∧r'=r)))
theorem Pq{w:World}(kind at' n:Int)(key value iO:ByteArray)(hk:kind=1∨kind=2)(h:Os base A w0 w ob db tb fb fg F d r T wv root tx (aD r))(hn:(aD r).length≤1000000)(cZ:key.size≤140737488355328)(Cg:value.size≤140737488355328):Calls prog 24 #[.pointer (some ⟨ob,0,none⟩),.agg #[.int .i64 kind,.int .i64 at',.int .i64 n,.string key,.string value,.string iO]] w fun e w'=>e = .returned (.bool true)∧∃ r' vZ,Ko kind key value r r'∧Os base A w0 w' ob db tb fb fg F d r' T vZ root tx (aD r')∧Fr F tb ob w w':=by
 have q0:=ai w (.cells #[.int .i64 kind,.int .i64 at',.int .i64 n,.string key,.string value,.string iO] 44);have x0:=B.au.new w #[.int .i64 kind,.int .i64 at',.int .i64 n,.string key,.string value,.string iO] 44;have k0:=x0.cell 0 (by simp)
 have k3:=x0.cell 3 (by simp)
 have k4:=x0.cell 4 (by simp)
 simp only [a8,List.getElem_cons_zero,List.getElem_cons_succ] at k0 k3 k4;have h1:=h.below q0;have Vi:=ab q0;rcases hk with rfl | rfl
 ·have HP:=ab (JI key value h1 hn cZ Cg);clear h h1 hn x0 q0;go_enter func24,ntmps24;go_wp2_with fail;refine HP.out.mono ?_
  rintro e w1 ⟨rfl,r',vZ,fI,ho,E2⟩;have HR:Hid (∃ r' vZ,Ko 1 key value r r'∧Os base A w0 w1 ob db tb fb fg F d r' T vZ root tx (aD r')∧Fr F tb ob w w1):=⟨r',vZ,.inl ⟨rfl,fI⟩,ho,(dM Vi.out).trans E2⟩;clear fI ho E2 HP k0 k3 k4;go_wp2;go_ret;exact ⟨rfl,HR.out⟩
 ·have HP:=ab (Ea key h1 hn cZ);clear h h1 hn x0 q0;go_enter func24,ntmps24;go_wp2_with fail;refine HP.out.mono ?_
  rintro e w1 ⟨rfl,r',vZ,fI,ho,E2⟩;have HR:Hid (∃ r' vZ,Ko 2 key value r r'∧Os base A w0 w1 ob db tb fb fg F d r' T vZ root tx (aD r')∧Fr F tb ob w w1):=⟨r',vZ,.inr ⟨rfl,fI⟩,ho,(dM Vi.out).trans E2⟩;clear fI ho E2 HP k0 k3 k4;go_wp2;go_ret;exact ⟨rfl,HR.out⟩
theorem tD{kind:Int}{key value:ByteArray}{r r':cT}(h:Ko kind key value r r')(cM:eD r):(aD r').length≤(aD r).length+1:=by
 rcases h with ⟨_,⟨hm,hu⟩ | ⟨_,rfl⟩⟩ | ⟨_,⟨_,_,hu⟩ | ⟨_,rfl⟩⟩
 ·rw [(pw (wJ hm) cM hu).2];exact oz _ _ _
 ·omega
 ·rw [(pw (fit_drop key) cM hu).2];have:=MS (aD r) key;show (fT (aD r) key).length≤_
  omega
 ·omega
end
theorem KR(db:Nat)(m0:Int)(r:cT)(m2:Value)(w:World)(hr:r=none∨gm r≠0):Calls prog 13 #[.pointer (some ⟨db,0,none⟩),.agg #[.int .i64 m0,.int .i64 (gm r:Int),m2]] w fun e w'=>∃ tb,e = .returned (.pointer (some ⟨tb,0,none⟩))∧w.heap.size≤tb∧B.au w' tb #[.pointer (some ⟨db,0,none⟩),j9 r] 100∧Below w.heap.size w w':=by
 have q0:=ai w (.cells #[.int .i64 m0,.int .i64 (gm r:Int),m2] 42);have x0:=B.au.new w #[.int .i64 m0,.int .i64 (gm r:Int),m2] 42;have k1:=x0.cell 1 (by simp)
 simp only [a8,List.getElem_cons_zero,List.getElem_cons_succ] at k1;generalize hW:w.alloc (.cells #[.int .i64 m0,.int .i64 (gm r:Int),m2] 42)=W at *;have s1:w.heap.size≤W.heap.size:=q0.size;have HN:Hid (∀ rv,w.heap.size≤W.heap.size∧B.au (W.alloc (.cells #[.pointer (some ⟨db,0,none⟩),rv] 100)) W.heap.size #[.pointer (some ⟨db,0,none⟩),rv] 100∧Below w.heap.size w (W.alloc (.cells #[.pointer (some ⟨db,0,none⟩),rv] 100))):=fun rv=>⟨s1,B.au.new W #[.pointer (some ⟨db,0,none⟩),rv] 100,Below.next q0 (ai W _)⟩
 clear q0 x0 s1;cases r with
 | none =>
  have k1':W.cell? ⟨w.heap.size,1,none⟩=some (.int .i64 0):=k1;clear k1;go_enter func13,ntmps13;go_wp2_with fail;refine (oA _).mono ?_
  rintro e w1 ⟨rfl,rfl⟩;go_wp2;go_ret;exact ⟨_,rfl,HN.out _⟩
 | some x =>
  have h0:((gm (some x):Nat):Int)≠0:=by
   rcases hr with h | h
   ·cases h
   ·omega
  have Y0:j9 (some x) = .iface 146 (.int .i64 (gm (some x):Int)):=rfl;have HVA:=ab Y0;generalize ((gm (some x):Nat):Int)=root at *;have H0:=ab h0;clear h0 hr Y0;go_enter func13,ntmps13;go_wp2_with fail;refine (oB root _ H0.out).mono ?_
  rintro e w1 ⟨rfl,rfl⟩;have Y0:(C.Ch.pg root).val = .iface 146 (.int .i64 root):=rfl;rw [Y0];go_wp2;go_ret;exact ⟨_,rfl,by rw [HVA.out];exact HN.out _⟩
theorem Az{PG:Int→Option PD}{w:World}{r:cT}(h:ft PG w (j9 r) r):r=none∨gm r≠0:=by
 cases r with
 | none=>exact .inl rfl
 | some x =>
  right
  rcases h with ⟨h,_⟩ | ⟨p,hh,t,hv,hx,hk⟩
  ·cases h
  ·cases hx;have hv:Value.iface 146 (.int .i64 ((fh hh t:Nat):Int))=p.val:=hv;cases p with
   | pg id =>
    have hv:Value.iface 146 (.int .i64 ((fh hh t:Nat):Int)) = .iface 146 (.int .i64 id):=hv;simp only [Value.iface.injEq,Value.int.injEq,true_and] at hv;have hk:fu PG hh id t:=hk;have h2:2≤id:=by
     cases hh with
     | zero=>exact hk.1.1
     | succ hh=>exact hk.1.1
    show fh hh t≠0
    omega
   | nd b =>
    exact absurd hv (by intro e;unfold C.Ch.val at e;simp only [Value.iface.injEq] at e;exact absurd e.1 (by decide))
section
variable {base:Nat} {A:Nat→Addr} {w0:World} {ob db tb fb fg:Nat} {F:Nat→Prop} {d:S.V.bE} {r:cT} {T:Nat→Bool} {wv:Value} {root tx:Nat} {l:List Pr}
theorem Os.WW{w:World}{qA:Nat}{rv:Value}(h:Os base A w0 w ob db tb fb fg F d r T wv root tx l)(ht:B.au w qA #[.pointer (some ⟨db,0,none⟩),rv] 100)(hr:ft (cF d) w rv r)(hn:base≤qA∧¬ F qA∧qA≠ob∧qA≠fb∧qA≠fg)(Hu:∀ k,wv.ownBlock=some k→k≠qA):Os base A w0 (w.setCell ⟨ob,3,none⟩ (.pointer (some ⟨qA,0,none⟩))) ob db qA fb fg F d r T wv root tx l:=by
 have hs:=bG.set ob 3 w (.pointer (some ⟨qA,0,none⟩));have ha:df w (w.setCell ⟨ob,3,none⟩ (.pointer (some ⟨qA,0,none⟩))):=⟨hs.size,fun k hk=>by
  by_cases e:k=ob
  ·exact .inr (e▸JN h.row (jl h.want))
  ·exact .inl (hs.block k hk e)⟩
 have jB:Below base w (w.setCell ⟨ob,3,none⟩ (.pointer (some ⟨qA,0,none⟩))):=⟨hs.os,hs.tape,hs.output,hs.size,fun k hk=>hs.block k (aq hk h.env.size) (by have:=h.ap.1;omega)⟩
 have m:=h.mp;refine ⟨heap_setCell_same _ _ 3 _ _ _ h.row,⟨h.ts.dv.tree h.ap.1 h.ap.2.1 3 _,⟨rv,dX ha ht,hr.cN ha⟩,h.ts.ok,S.V.Step.refl _ _,hn.1,hn.2.1⟩,⟨jO m.map (hs.block _ m.map.TO h.ap.2.2.2.1.symm) (hs.block _ m.map.TN h.ap.2.2.2.2.symm),m.ok,m.lo,m.nf,hn.2.2.2.2.symm,hn.2.2.2.1.symm⟩,h.env.keep jB,h.want.same fun k hk=>hs.block k (h.want.dx k hk).2 (h.wn k hk).2.2.1,h.nd,h.pt,h.pr,h.lx,nB h.eT jB,⟨h.ap.1,h.ap.2.1,hn.2.2.1.symm,h.ap.2.2.2⟩,fun k hk=>⟨(h.wn k hk).1,Hu k hk,(h.wn k hk).2.2⟩⟩
theorem GK{w:World}{qA:Nat}(h:B.au w ob (kM db fb tb wv root tx) 65):(w.setCell ⟨ob,3,none⟩ (.pointer (some ⟨qA,0,none⟩))).cell? ⟨ob,0,none⟩=some (.int .i64 4000)∧(w.setCell ⟨ob,3,none⟩ (.pointer (some ⟨qA,0,none⟩))).cell? ⟨ob,1,none⟩=some (.pointer (some ⟨db,0,none⟩))∧(w.setCell ⟨ob,3,none⟩ (.pointer (some ⟨qA,0,none⟩))).cell? ⟨ob,5,none⟩=some (.int .i64 (root:Int))∧(w.setCell ⟨ob,3,none⟩ (.pointer (some ⟨qA,0,none⟩))).cell? ⟨ob,3,none⟩=some (.pointer (some ⟨qA,0,none⟩)):=by
 have r:B.au (w.setCell ⟨ob,3,none⟩ (.pointer (some ⟨qA,0,none⟩))) ob (kM db fb qA wv root tx) 65:=heap_setCell_same _ _ 3 _ _ _ h;exact ⟨r.cell 0 (by simp [kM]),r.cell 1 (by simp [kM]),r.cell 5 (by simp [kM]),r.cell 3 (by simp [kM])⟩
structure afV(base:Nat)(A:Nat→Addr)(w0 w:World)(ob db:Nat)(r:cT)(T:Nat→Bool)(wv:Value)(tx:Nat)(l:List Pr):Prop where
 out:∃ (tb fb fg:Nat) (F:Nat→Prop) (d:S.V.bE) (L:List Nat),L.Perm (eh (laid T r))∧Os base A w0 w ob db tb fb fg F d (laid T r) (iu (Q.T0 4000) L) wv (gm (laid T r)) (tx+1) l∧(∀ W,ft (cF d) W (j9 (laid T r)) (laid T r))
theorem G7{w:World}(h:Os base A w0 w ob db tb fb fg F d r T wv root tx l)(hn:(aD r).length≤50000)(E2:eA r≤(Q.gB T 4000).length)(Sx:tx<1099511627776):Calls prog 25 #[.pointer (some ⟨ob,0,none⟩)] w fun e w'=>e = .returned (.bool true)∧afV base A w0 w' ob db r T wv tx l:=by
 have HS:=ab (tK h hn E2 Sx);clear h hn E2 Sx;go_enter func25,ntmps25;go_wp2_with fail;refine HS.out.mono ?_
 rintro e w1 ⟨rfl,eZ⟩;obtain ⟨X6,X5,F2,d2,L,E6,ho,NN,_⟩:=eZ.out;have p0:=ho.c.2.2.1;have p1:=ho.c.2.2.2.1;have p5:=ho.c.2.2.2.2.2.1;have p3:=ho.c.1;have y3:=ho.row.free 3;have HO:=ab ho;have Ah:=ab E6;have N6:=ab NN;have HTO:Hid (∀ W,Below w1.heap.size w1 W→Calls prog 13 #[.pointer (some ⟨db,0,none⟩),.agg #[.int .i64 4000,.int .i64 (gm (laid T r):Int),.int .u64 0]] W fun e w'=>∃ qA,e = .returned (.pointer (some ⟨qA,0,none⟩))∧(w1.heap.size≤qA∧B.au w' qA #[.pointer (some ⟨db,0,none⟩),j9 (laid T r)] 100∧Below w1.heap.size w1 w')):=fun W hW=>(KR db 4000 (laid T r) (.int .u64 0) W (Az (NN w1))).mono fun e w' ⟨qA,h1,h2,h3,h4⟩=>⟨qA,h1,ar hW.size h2,h3,Below.next hW h4⟩
 clear eZ E6 ho NN HS;go_wp2_with fail;go_region_held3 (fun w'=>w'.cell? ⟨ob,0,none⟩=some (.int .i64 4000)∧w'.cell? ⟨ob,1,none⟩=some (.pointer (some ⟨db,0,none⟩))∧w'.cell? ⟨ob,5,none⟩=some (.int .i64 (gm (laid T r):Int))) (go_keep)
  (first | (go_at_call 13;refine (HTO.out _ ?_).mono ?_;(first | exact (Below.refl _ _).drew | exact aA (Below.refl _ _) _ | exact Below.refl _ _);rintro e w2 ⟨qA,rfl,hg⟩;have HG:=ab hg;have n0:=(HO.out.below hg.2.2).c.2.2.1;have n1:=(HO.out.below hg.2.2).c.2.2.2.1;have n5:=(HO.out.below hg.2.2).c.2.2.2.2.2.1;have n3:=(HO.out.below hg.2.2).c.1;have f3:=(HO.out.below hg.2.2).row.free 3;obtain ⟨s0,s1,s5,s3⟩:=GK (qA:=qA) (HO.out.below hg.2.2).row;clear hg))
 all_goals
  have h2:=HO.out.below HG.out.2.2;have cY:=HO.out.new HG.out.1;have HR:=ab (h2.WW HG.out.2.1 (N6.out w2) ⟨ar (ar HO.out.env.size (aj _)) HG.out.1,cY.1,cY.2.2.1,cY.2.2.2.1,cY.2.2.2.2⟩ (fun k hk e=>by have h9:=(HO.out.want.dx k hk).2;have:=HG.out.1;omega))
  clear h2 cY p0 p1 p5 p3 n0 n1 n5 n3 f3 y3;go_wp2;go_ret;exact ⟨rfl,_,_,_,_,_,L,Ah.out,HR.out,N6.out⟩
end
def PZ(s:gF XT):List Pr:=match s.x with
 | ⟨0,_⟩=>[]
 | ⟨h+1,t⟩=>(t.2.2.take s.at').flatMap (flat h)
def aed(s:gF XT):List Pr:=match s.x with
 | ⟨0,_⟩=>[]
 | ⟨h+1,t⟩=>(t.2.2.drop (s.at'+1)).flatMap (flat h)
def fQ(ss:List (gF XT)):List Pr:=ss.flatMap PZ
def oC:List (gF XT)→List Pr
 | []=>[]
 | s::ss=>oC ss++aed s
theorem C9{d:S.V.bE}{key:ByteArray}{w:World}:∀ {ss:List (gF XT)} {x:XT} {t0:Nd 0} {lo hi:Option ByteArray},Way (dh d) (fun n q=>B.fK n.lk key q) w x ss ⟨0,t0⟩→Ok x.1 x.2 lo hi →
  flat x.1 x.2=fQ ss++(t0.2++oC ss)∧(∀ p ∈ fQ ss,cR p.1 key=true)∧(∀ p ∈ oC ss,cR key p.1=true)
 | [],x,t0,lo,hi,h,_=>by
  have h:x=⟨0,t0⟩:=h;subst h;exact ⟨by simp [fQ,oC,flat],(fun _ h=>by simp [fQ] at h),(fun _ h=>by simp [oC] at h)⟩
 | s::ss,x,t0,lo,hi,⟨h1,h2,h3,h4,h5,z,h6,h7⟩,ho=>by
  subst h1;obtain ⟨b,n,i,⟨hh,t⟩⟩:=s;cases hh with
  | zero=>exact h6.elim
  | succ h =>
   obtain ⟨c,hc,rfl⟩:=h6;obtain ⟨_,hn,hg⟩:=h2;have hn:aW (cF d) w (h+1) n t:=hn;have hc:t.2.2[i]?=some c:=hc;have jg:t.2.1=n.lk.map (·.1):=hn.2.2.2.1;have ry:t.2.2.length=t.2.1.length+1:=by rw [← hn.1,hn.len,jg,az]
   have NQ:=(eS h t lo hi).1 ho;have oO:=jM NQ;rw [jg] at oO;obtain ⟨SB,SA⟩:=ng h4 oO;simp only at SB SA;rw [← jg] at SB SA;obtain ⟨e1,e2,el,ei⟩:=ml ry hc;have Ib:gi (kG h) lo hi (t.2.1.take i++t.2.1.drop i) (t.2.2.take i++c::t.2.2.drop (i+1)):=by rw [← e1,← e2];exact NQ
   obtain ⟨hp,uf⟩:=(pF el).1 Ib;obtain ⟨f1,f2,f3⟩:=C9 h7 (rW uf).1;refine ⟨?_,fun p Ia=>?_,fun p Ia=>?_⟩
   ·show t.2.2.flatMap (flat h)=_
    have e3:t.2.2.flatMap (flat h)=(t.2.2.take i).flatMap (flat h)++(flat h c++(t.2.2.drop (i+1)).flatMap (flat h)):=by
     conv=>lhs;rw [e2]
     rw [aN,List.flatMap_cons]
    rw [e3,show flat h c=fQ ss++(t0.2++oC ss) from f1]
    show _=((t.2.2.take i).flatMap (flat h)++fQ ss)++(t0.2++(oC ss++(t.2.2.drop (i+1)).flatMap (flat h)))
    simp [List.append_assoc]
   ·have Ia:p ∈ (t.2.2.take i).flatMap (flat h)++fQ ss:=Ia;rcases List.mem_append.1 Ia with h' | h'
    ·exact rS (P:=kG h) (fun _ _ _ hc=>qh h hc.1) hp SB p h'
    ·exact f2 p h'
   ·have Ia:p ∈ oC ss++(t.2.2.drop (i+1)).flatMap (flat h):=Ia;rcases List.mem_append.1 Ia with h' | h'
    ·exact f3 p h'
    ·exact uC (P:=kG h) (fun _ _ _ hc=>qh h hc.1) uf SA p h'
theorem uz{d:S.V.bE}{w:World}:∀ {ss:List (gF XT)} {x y:XT},Way (dh d) (fun n q=>q=n.lk.length) w x ss y→(∃ lo hi,kG x.1 x.2 lo hi)→(∃ Y,flat x.1 x.2=Y++flat y.1 y.2)∧∃ lo hi,kG y.1 y.2 lo hi
 | [],x,y,h,ho=>by
  have h:x=y:=h;subst h;exact ⟨⟨[],rfl⟩,ho⟩
 | s::ss,x,y,⟨h1,h2,h3,h4,h5,z,h6,h7⟩,ho=>by
  subst h1;obtain ⟨b,n,i,⟨hh,t⟩⟩:=s;cases hh with
  | zero=>exact h6.elim
  | succ h =>
   obtain ⟨c,hc,rfl⟩:=h6;obtain ⟨_,hn,hg⟩:=h2;have hn:aW (cF d) w (h+1) n t:=hn;have hc:t.2.2[i]?=some c:=hc;have jg:t.2.1=n.lk.map (·.1):=hn.2.2.2.1;have ry:t.2.2.length=t.2.1.length+1:=by rw [← hn.1,hn.len,jg,az]
   have Bb:i=n.lk.length:=h4;obtain ⟨lo,hi,cM⟩:=ho;obtain ⟨pT,mc,hf⟩:=kN ((eS h t lo hi).1 cM.1) i c hc;obtain ⟨⟨Y,hY⟩,hz⟩:=uz h7 ⟨pT,mc,hf⟩;obtain ⟨e1,e2,el,ei⟩:=ml ry hc;refine ⟨⟨(t.2.2.take i).flatMap (flat h)++Y,?_⟩,hz⟩;have QK:t.2.2.drop (i+1)=[]:=dC (by rw [ry,jg,az,Bb];exact aj _)
   show t.2.2.flatMap (flat h)=_
   conv=>lhs;rw [e2]
   rw [QK,aN,List.flatMap_cons,show flat h c=Y++flat y.1 y.2 from hY]
   simp
theorem JU{t:Nd 0}(h:∃ lo hi,kG 0 t lo hi):t.2≠[]:=by
 obtain ⟨lo,hi,h⟩:=h;have:=rV 0 h;have h1:1≤t.2.length:=this;intro e;rw [e] at h1;simp at h1
theorem Ld{d:S.V.bE}{w:World}{ss:List (gF XT)}{x:XT}{t:Nd 0}(h:Way (dh d) (fun n q=>q=n.lk.length) w x ss ⟨0,t⟩)(cM:eD (some x)):(∃ Y,flat x.1 x.2=Y++t.2)∧t.2≠[]:=by
 cases ss with
 | nil =>
  have h:x=⟨0,t⟩:=h;subst h;have:=tG cM;have h1:1≤t.2.length:=this;exact ⟨⟨[],rfl⟩,fun e=>by rw [e] at h1;simp at h1⟩
 | cons s ss =>
  obtain ⟨h1,h2,h3,h4,h5,z,h6,h7⟩:=h;subst h1;obtain ⟨b,n,i,⟨hh,tt⟩⟩:=s;cases hh with
  | zero=>exact h6.elim
  | succ h =>
   obtain ⟨c,hc,rfl⟩:=h6;obtain ⟨_,hn,hg⟩:=h2;have hn:aW (cF d) w (h+1) n tt:=hn;have hc:tt.2.2[i]?=some c:=hc;have jg:tt.2.1=n.lk.map (·.1):=hn.2.2.2.1;have ry:tt.2.2.length=tt.2.1.length+1:=by rw [← hn.1,hn.len,jg,az]
   have Bb:i=n.lk.length:=h4;obtain ⟨pT,mc,hf⟩:=kN ((eS h tt none none).1 cM.1) i c hc;obtain ⟨⟨Y,hY⟩,hz⟩:=uz h7 ⟨pT,mc,hf⟩;obtain ⟨e1,e2,el,ei⟩:=ml ry hc;refine ⟨⟨(tt.2.2.take i).flatMap (flat h)++Y,?_⟩,JU hz⟩;have QK:tt.2.2.drop (i+1)=[]:=dC (by rw [ry,jg,az,Bb];exact aj _)
   show tt.2.2.flatMap (flat h)=_
   conv=>lhs;rw [e2]
   rw [QK,aN,List.flatMap_cons,show flat h c=Y++t.2 from hY]
   simp
def iy(l:List Pr):Pr:=l.getLast?.getD (⟨#[]⟩,⟨#[]⟩)
def sL(l:List Pr)(key:ByteArray):List Pr:=if key=⟨#[]⟩ then l else l.take (aS l key)
theorem AY{Y l:List Pr}(h:l≠[]):iy (Y++l)=iy l:=by
 unfold iy;rw [List.getLast?_append];cases hl:l.getLast? with
 | none=>rw [List.getLast?_eq_none_iff] at hl;exact absurd hl h
 | some p=>rfl
theorem pJ{l:List Pr}{j:Nat}(h:j+1=l.length):iy l=l[j]:=by
 unfold iy;rw [List.getLast?_eq_getElem?,show l.length - 1=j by omega,af (by omega)]
 rfl
theorem RN{X Y Z:List Pr}{key:ByteArray}(hk:key≠⟨#[]⟩)(hX:∀ p ∈ X,cR p.1 key=true)(hZ:∀ p ∈ Z,cR key p.1=true):sL (X++(Y++Z)) key=X++Y.take (aS Y key):=by
 unfold sL;have:=cH Y key;rw [if_neg hk,kW hX hZ,List.take_append,ao (by omega),show X.length+aS Y key - X.length=aS Y key by omega,aH this]
def Ss(ss:List (gF XT))(e:Ending)(w':World):Prop :=
 (e = .returned (.tuple #[.slice none 0 0,.nilIface])∧fQ ss=[]) ∨
 ∃ (m:Nat) (a:Option Addr) (c:Nat) (l:List W.Lk) (q:W.Lk) (n:SN) (pv lv cv:Value),e = .returned (.tuple #[.slice a (m+1) c,.nilIface])∧m=l.length∧m≤100000∧W.dm w' (.slice a (m+1) c) (l++[q])∧dP w' q.1 n pv lv cv∧n.ps≠[]∧∃ Y,fQ ss=Y++n.ps
theorem C8{d:S.V.bE}{Pk:SN→Nat→Prop}{w:World}:∀ {ss:List (gF XT)} {x y:XT},Way (dh d) Pk w x ss y→∀ (k:Nat) (h:k<ss.length),ss[k].x.1+k=x.1
 | s::ss,x,y,⟨h1,_,_,_,_,z,h6,h7⟩,0,_=>by subst h1;rfl
 | s::ss,x,y,⟨h1,_,_,_,_,z,h6,h7⟩,k+1,h=>by
  have cZ:k<ss.length:=by simpa using h
  have ih:=C8 h7 k cZ;subst h1;obtain ⟨b,n,i,⟨hh,t⟩⟩:=s;cases hh with
  | zero=>exact h6.elim
  | succ hh =>
   obtain ⟨c,_,rfl⟩:=h6;show (ss[k]'cZ).x.1+(k+1)=hh+1
   have:(ss[k]'cZ).x.1+k=hh:=ih;omega
theorem PY{d:S.V.bE}{w:World}{t:gF XT}{q:Nat}{y:XT}{LW:List Pr}(hn:(dh d).N w t.n t.x)(hq:t.at'=q+1)(hs:(dh d).sub t.x q y):∃ (h:Nat) (c:Nd h),y=⟨h,c⟩∧(∃ lo hi,kG h c lo hi)∧∃ Y,LW++PZ t=Y++flat h c:=by
 obtain ⟨b,n,i,⟨hh,tt⟩⟩:=t;cases hh with
 | zero=>exact hs.elim
 | succ h =>
  obtain ⟨c,hc,rfl⟩:=hs;have hc:tt.2.2[q]?=some c:=hc;obtain ⟨_,⟨⟨lo,hi,ho⟩,_⟩⟩:=hn;obtain ⟨pT,mc,hf⟩:=kN ((eS h tt lo hi).1 ho) q c hc;refine ⟨h,c,rfl,⟨pT,mc,hf⟩,LW++(tt.2.2.take q).flatMap (flat h),?_⟩;have hi:i=q+1:=hq;subst hi;obtain ⟨hql,hqv⟩:=List.getElem?_eq_some_iff.1 hc;show LW++(tt.2.2.take (q+1)).flatMap (flat h)=_
  rw [ax hql,hqv,aN,ay];simp
theorem LR{ss:List (gF XT)}{s:gF XT}{k:Nat}{P9:Int}{hk:k<(ss.map gF.lk++[s.lk]).length}(hl:P9=(ss.map gF.lk++[s.lk])[k].2)(hp:¬ 0<P9):fQ (ss.take (k+1))=fQ (ss.take k):=by
 by_cases jg:k<ss.length
 ·have e2:(ss.map gF.lk++[s.lk])[k]=ss[k].lk:=by rw [aL (by rw [az];exact jg),ch]
  rw [e2] at hl;have hl:P9=(ss[k].at':Int):=hl;have h0:ss[k].at'=0:=by omega
  rw [ax jg];unfold fQ;rw [aN];have:PZ ss[k]=[]:=by
   unfold PZ;split
   ·rfl
   ·rw [h0];rfl
  simp [this]
 ·rw [ao (by omega),ao (by omega)]
section
variable {base:Nat} {A:Nat→Addr} {db:Nat} {F:Nat→Prop} {d:S.V.bE}
theorem xf{w0 w:World}{tb:Nat}{rv:Value}{Pk:SN→Nat→Prop}(a:Option Addr)(c:Nat)(ss:List (gF XT))(s:gF XT)(iK:Dv base A db F d w0)(hm:Mv db F w0 w)(hv:Dv base A db F d w)(ht:B.au w tb #[.pointer (some ⟨db,0,none⟩),rv] 100)(ho:W.dm w (.slice a (ss.length+1) c) (ss.map gF.lk++[s.lk]))(x:XT)(jr:Way (dh d) Pk w x ss s.x)(vT:x.1+1≤64)(sB:s.at'=0)(hl:ss.length≤63):Calls prog 56 #[.pointer (some ⟨tb,0,none⟩),.slice a (ss.length+1) c] w fun e w'=>Ss ss e w'∧Dv base A db F d w'∧Mv db F w0 w':=by
 obtain ⟨M,hM⟩ : ∃ M,M=ss.length+1:=⟨_,rfl⟩;rw [← hM] at ho ⊢;have HO:=ab ho;have HW:=ab jr;have HV:=ab hv;have Sb:=ab iK;have HMV:=ab hm;have HT:=ab ht;have HM:=ab hM;have HL:=ab hl;have zB:=ab sB;have hMs:(M:Int)≤64:=by omega
 have hM0:(0:Int)≤(M:Int):=by omega
 clear iK hm hv ht ho jr sB hl hM;go_enter func56,ntmps56;go_wp2;go_loopw [6] (fun iv wr=>∃ j:Nat,iv = .int .i64 ((j:Int) - 1)∧j≤M∧Hid (fQ ss=fQ (ss.take j))∧Below w.heap.size w wr) (fun iv _=>(intOf iv+1).toNat)
 case atStart=>exact ⟨M,rfl,aj _,by show _=_;rw [ao (by have:=HM.out;omega)],Below.refl _ _⟩
 case round =>
  obtain ⟨j,rfl,hj,pW,hb⟩:=hrel;cases j with
  | zero =>
   have HB:=ab hb;have Qw:¬ (0:Int)≤((0:Nat):Int) - 1:=by omega
   clear hb;go_wp2;go_ret2;exact ⟨.inl ⟨rfl,pW.out⟩,HV.out.below HB.out,HMV.out.trans (Mv.of HB.out)⟩
  | succ k =>
   have e0:((k+1:Nat):Int) - 1=(k:Int):=by omega
   rw [e0];have Mg:(0:Int)≤(k:Int):=by omega
   have iV:(k:Int)<(M:Int):=by omega
   have cZ:k<(ss.map gF.lk++[s.lk]).length:=by rw [ae,az];simp;have:=HM.out;omega
   obtain ⟨g,o,rfl,c1,c2⟩:=W.dm.spot HO.out k cZ;have f1:wr.cell? ⟨g,o+k*2,none⟩=some (.pointer (some ⟨(ss.map gF.lk++[s.lk])[k].1,0,none⟩)):=(hb.cell (p:=⟨g,o+k*2,none⟩) (World.block_lt_of_cell? w _ c1)).trans c1;have f2:wr.cell? ⟨g,o+k*2+1,none⟩=some (.int .i64 (ss.map gF.lk++[s.lk])[k].2):=(hb.cell (p:=⟨g,o+k*2+1,none⟩) (World.block_lt_of_cell? w _ c2)).trans c2;obtain ⟨lb,VW⟩ : ∃ x,x=(ss.map gF.lk++[s.lk])[k].1:=⟨_,rfl⟩;obtain ⟨P9,Cl⟩ : ∃ x,x=(ss.map gF.lk++[s.lk])[k].2:=⟨_,rfl⟩;rw [← VW] at f1;rw [← Cl] at f2;have q0:=ai wr (.cells #[.pointer (some ⟨lb,0,none⟩),.int .i64 P9] 159);have x0:=B.au.new wr #[.pointer (some ⟨lb,0,none⟩),.int .i64 P9] 159;have k0:=x0.c0;have k1:=x0.c1;have HB:=ab (Below.next hb q0);by_cases H9:0<P9
   ·have jg:k<ss.length:=by
     rcases a6 k ss.length with h | h
     ·exact h
     ·have e:k=ss.length:=by have:=HM.out;omega
      have e2:(ss.map gF.lk++[s.lk])[k]=s.lk:=by
       subst e;simp
      rw [e2] at Cl;have:P9=(s.at':Int):=Cl;rw [zB.out] at this;omega
    have e2:(ss.map gF.lk++[s.lk])[k]=ss[k].lk:=by rw [aL (by rw [az];exact jg),ch]
    rw [e2] at VW Cl;obtain ⟨⟨⟨pv,lv,cv,hs⟩,hn⟩,yu,bO⟩:=HW.out.get k jg;have lP:fQ ss=fQ (ss.take k)++PZ ss[k]:=by
     rw [pW.out,ax jg];unfold fQ;rw [aN];simp
    have hrk:ss[k].x.1+k=x.1:=C8 HW.out k jg;have Yq:Hid (fQ (ss.take k)=fQ (ss.take k)):=rfl;obtain ⟨LW,hLW⟩ : ∃ LW,LW=fQ (ss.take k):=⟨_,rfl⟩;rw [← hLW] at lP;clear hLW Yq;generalize ss[k]=t at *;change lb=t.b at VW
    change P9=(t.at':Int) at Cl
    subst VW;obtain ⟨q,hq⟩ : ∃ q,t.at'=q+1:=⟨t.at' - 1,by omega⟩
    have abf:P9=(q:Int)+1:=by rw [Cl,hq];omega
    clear Cl;subst abf;rw [hq] at bO;obtain ⟨p,hp⟩ : ∃ p,t.n.us[q]?=some p:=⟨_,af (by omega)⟩
    obtain ⟨y,oN,Qr⟩:=(dh d).qi hn hp;have Xl:y.1+1≤t.x.1:=by
     rcases (dh d).Z0 with h | h
     ·exact h.elim
     ·exact h _ _ _ oN
    have zv:Hid (∃ (h:Nat) (c:Nd h),y=⟨h,c⟩∧(∃ lo hi,kG h c lo hi)∧∃ Y,fQ ss=Y++flat h c):=by
     rw [lP];exact PY hn hq oN
    generalize hWb:wr.alloc (.cells #[.pointer (some ⟨t.b,0,none⟩),.int .i64 ((q:Int)+1)] 159)=Wb at *;have XW:Below w.heap.size w Wb.drew:=B.aP HB.out;obtain ⟨c',w3,bw,Xs,bW⟩:=Pb g o k M c _ (t.b,(q:Int)) Wb.drew (W.dm.below HO.out XW) (by omega) (by omega)
    have Cn:Below w.heap.size w w3.drew:=B.aP (Below.next XW bW);have NS:((ss.map gF.lk++[s.lk]).take k++[(t.b,(q:Int))]).length=k+1:=by
     rw [ae,ag];simp;omega
    have aaz:uF w3.drew w0.heap.size (.slice (some ⟨Wb.drew.heap.size+1,0,none⟩) (k+1) c') ((ss.map gF.lk++[s.lk]).take k++[(t.b,(q:Int))]):=⟨W.b9.mono (b:=Wb.drew.heap.size) Xs.1 (ar HMV.out.size XW.size),Xs.2⟩;have HG:=ab (yC (dh d) (fun n q=>q=n.lk.length) (fun _=>True) (fun _ _ _ h=>h) _ _ p y tb rv 55 #[] Tryz.call55 w0 w3.drew ((dh d).ka (df.of Cn) Qr) (HT.out.below Cn) (HV.out.below Cn) (HMV.out.trans (Mv.of Cn)) Sb.out aaz trivial (by rw [NS];have:=HL.out;have:=HM.out;omega) (.inr (by rw [NS];show y.1+(k+1)+1≤64;omega)) (fun W b n pv lv cv y _ hs hn yu=>by
     have hk:=((dh d).fit hn).1.resolve_left yu;exact (Ap n lv W hs.bn).mono fun e w' ⟨he,hb⟩=>⟨n.lk.length,he,rfl,by omega,hb⟩))
    obtain ⟨pre,js⟩ : ∃ pre,pre=(ss.map gF.lk++[s.lk]).take k++[(t.b,(q:Int))]:=⟨_,rfl⟩;rw [← js] at HG NS;have b8:Wb.drew.heap.size=wr.heap.size+1:=by rw [← hWb];simp [World.drew]
    rw [show (Wb.drew).alloc (.cells #[.pointer (some ⟨t.b,0,none⟩),.int .i64 (q:Int)] 159)=(Wb.alloc (.cells #[.pointer (some ⟨t.b,0,none⟩),.int .i64 (q:Int)] 159)).drew from rfl,b8] at bw
    rw [b8] at HG;have sN:=ab bw;have Ah:=ab NS;have N5:=ab (hs.below (Below.next XW bW));have p3:=(hs.below (Below.next XW bW)).c3;obtain ⟨ca,cc,sU,-,-,bq⟩:=hs.kids;rw [C.aU,Nat.mul_one] at sU;subst sU;obtain ⟨g2,o2,rfl,Zn⟩:=bq q p.val (by unfold C.bn;rw [aG,hp];rfl)
    have cq:w3.cell? ⟨g2,o2+q,none⟩=some p.val:=((Below.next XW bW).cell (p:=⟨g2,o2+q,none⟩) (World.block_lt_of_cell? w _ Zn)).trans Zn;have HNE:Hid ((wr.heap.size<w3.heap.size∧wr.heap.size≠db)∧(t.b<wr.heap.size∧t.b≠db)∧g2<wr.heap.size∧g2≠db):=by
     obtain ⟨d',_,hd⟩:=HV.out.dev;have hdb:=HV.out.Ct;have s1:=hb.size;have s2:=(B.dy bW).size;have s3:wr.heap.size<Wb.heap.size:=by rw [← hWb];simp
     refine ⟨⟨by omega,by omega⟩,⟨aq hs.row.lt s1,fun e=>?_⟩,aq (World.block_lt_of_cell? w _ Zn) s1,fun e=>?_⟩
     ·have h1:=hs.row;rw [e] at h1;obtain ⟨mb,nb,Li,av,Dn,NY⟩:=hd;unfold B.au at h1;rw [NY.dx] at h1;simp at h1
     ·obtain ⟨tt,xx,ir⟩:=bU p;rw [ir] at Zn;subst e;exact (kX hd Zn).2 tt xx rfl
    obtain ⟨pt,px,ir⟩:=bU p;rw [ir] at cq HG;have m0:=(x0.below (B.dy bW)).c0;have m1:=(x0.below (B.dy bW)).c1;have hsc:=fun W=>ZX W (some ⟨g,o,none⟩) M c k (by
     obtain ⟨_,_,e,hle,_⟩:=HO.out;simp only [Value.slice.injEq] at e;rw [ae,az] at hle;simp at hle
     obtain ⟨_,_,rfl⟩:=e;have:=HM.out;omega)
    have agK:Hid (∀ w4,Kept db (.slice (some ⟨wr.heap.size+1+1,0,none⟩) (k+1) c') w3.drew w4→w4.cell? ⟨wr.heap.size,0,none⟩=some (.pointer (some ⟨t.b,0,none⟩))∧w4.cell? ⟨wr.heap.size,1,none⟩=some (.int .i64 ((q:Int)+1))∧w4.cell? ⟨t.b,3,none⟩=some (.slice (some ⟨g2,o2,none⟩) t.n.us.length cc)∧w4.cell? ⟨g2,o2+q,none⟩=some (.iface pt px)):=fun w4 hk=>by
     have cY:=HNE.out;have e1:=hk.2 wr.heap.size (by show wr.heap.size<w3.heap.size;omega) (by omega) (by simp [Value.ownBlock];omega)
     have e2:=hk.2 t.b (by show t.b<w3.heap.size;omega) (by omega) (by simp [Value.ownBlock];omega)
     have e3:=hk.2 g2 (by show g2<w3.heap.size;omega) (by omega) (by simp [Value.ownBlock];omega)
     exact ⟨bP e1 m0,bP e1 m1,bP e2 p3,bP e3 cq⟩
    have Sy:(0:Int)≤(q:Int):=by omega
    have Qq:(q:Int)<(t.n.us.length:Int):=by omega
    have H7:(t.n.us.length:Int)≤4001:=by have:=hs.fine.2.2.2.2;omega
    have hqp:(q:Int)+1 > 0:=by omega
    have hwq:IntKind.i64.wrap (q:Int)=(q:Int):=by rw [IntKind.wrap_i64];omega
    clear bq Zn ir aaz Xs Cn bW bw js Qr hn hs yu bO hp NS XW x0 q0 hb c1 c2 H9 hq e2 b8 pW lP hrk Xl oN;subst hWb;go_wp2_with fail;go_region_held3 (fun w'=>w'.cell? ⟨wr.heap.size,0,none⟩=some (.pointer (some ⟨t.b,0,none⟩))∧w'.cell? ⟨wr.heap.size,1,none⟩=some (.int .i64 ((q:Int)+1))) (go_keep)
     (first | (refine kE 101 rfl (.tmp 26) (.tmp 33) rfl rfl _ _ rfl rfl _ _ sN.out ?_))
    all_goals
     clear sN hsc k0 k1 f1 f2;go_wp2_with fail;go_region_held3 (fun w'=>w'.cell? ⟨wr.heap.size,0,none⟩=some (.pointer (some ⟨t.b,0,none⟩))∧w'.cell? ⟨wr.heap.size,1,none⟩=some (.int .i64 ((q:Int)+1))∧w'.cell? ⟨t.b,3,none⟩=some (.slice (some ⟨g2,o2,none⟩) t.n.us.length cc)∧w'.cell? ⟨g2,o2+q,none⟩=some (.iface pt px)) (go_keep)
      (first | (go_at_call 89;refine HG.out.mono ?_;rintro e w4 ⟨hdn,Qh,EX,abl⟩;have n0:=agK.out w4 abl;obtain ⟨n0,n1,n2,n3⟩:=n0;clear abl;obtain ⟨a4,n4,c4,v4,he4,A2⟩:=hdn.form;subst he4;have HD4:=ab hdn;have HV4:=ab Qh;have Wt:=ab EX;have HVV:=ab A2;clear hdn Qh EX A2))
     all_goals
      have cz:Hid (Ss ss (.returned (.tuple #[.slice a4 n4 c4,v4])) w4):=by
       rcases HD4.out with ⟨hE,_⟩ | ⟨ss',s',a',Wd,he,Ib,hw',⟨⟨Li,TM,cv',VK⟩,hn'⟩,Ms,_,Up⟩
       ·exact hE.elim
       ·obtain ⟨hh,cc',hy,aeL,Y,hY⟩:=zv.out;subst hy;obtain ⟨b',n',i',⟨hz,tz⟩⟩:=s';cases hz with
        | succ hz=>exact absurd (List.length_eq_zero_iff.1 Ms) hn'.1.2.1
        | zero =>
         obtain ⟨⟨Y',hY'⟩,cY⟩:=uz hw' aeL;have kt:n'.ps=tz.2:=hn'.1.2;refine .inr ⟨pre.length+ss'.length,a',Wd,pre++ss'.map gF.lk,(b',(i':Int)),n',Li,TM,cv',he,by rw [ae,az],by omega,Ib.1.at,VK,by rw [kt];exact JU cY,Y++Y',?_⟩
         rw [hY,kt,ay];exact congrArg (Y++·) hY'
      clear HD4 HG m0 m1 p3 cq n0 n1 n2 n3;obtain ⟨vv,A2⟩ : ∃ vv,vv=v4:=⟨_,rfl⟩;rw [← A2] at cz HVV ⊢;rcases HVV.out with h | h
      ·subst h;clear A2 HVV;go_wp2;go_ret2;exact ⟨cz.out,HV4.out,Wt.out⟩
      ·subst h;clear A2 HVV;go_wp2;go_ret2;exact ⟨cz.out,HV4.out,Wt.out⟩
   ·have SC:¬ P9 > 0:=H9;have HLF:Hid (fQ ss=fQ (ss.take k)):=by
     show _=_
     rw [pW.out];exact LR Cl H9
    clear c1 c2 hb x0 q0 VW Cl H9 pW;go_wp2;go_roundw
    case rel=>exact ⟨k,rfl,by omega,HLF,HB.out⟩
    case measure=>simp [intOf]
end
end T
end Go.Proofs.YtihmgigfkmofnaaGreatDoor
