import Derived.Test.YtihmgigfkmofnaaGreatDoorG28
import Derived.Maps.OwnOps
set_option maxHeartbeats 4000000
set_option maxRecDepth 100000
open Go.Proofs.Tryz
namespace Go.Proofs.YtihmgigfkmofnaaGreatDoor
namespace T
open Go.RowKit
section
variable {base:Nat} {A:Nat→Addr} {db:Nat} {F:Nat→Prop} {d:S.V.bD} {W0:World} {r:cT}
theorem LA{w:World}{tb:Nat}(key:ByteArray)(hc:Ts base A db F d W0 w tb r)(hn:(aP r).length≤4611686018427387904)(ep:key.size≤140737488355328):Calls prog 16 #[.pointer (some ⟨tb,0,none⟩),.string key] w fun e w'=>(cF (key,⟨#[]⟩)=true∧e = .returned (.tuple #[.bool (bq (aP r) key),.nilIface])∧((bq (aP r) key=true∧∃ r',pQ key (fun l=>cX l key) r r'∧Ts base A db F d W0 w' tb r')∨(bq (aP r) key=false∧Ts base A db F d W0 w' tb r)))∨(¬ cF (key,⟨#[]⟩)=true∧e = .returned (.tuple #[.bool false,.iface 360 (.pointer (some (A 0)))])∧Ts base A db F d W0 w' tb r):=by
 have Md:=ab (xj A key ⟨#[]⟩ w ep (by simp [ByteArray.size]) hc.dv.B0)
 have HC:=ab hc;have HN:=ab hn;clear hc hn;by_cases hm:cF (key,⟨#[]⟩)=true
 ·rw [if_pos hm] at Md;have HM:=ab hm;clear ep hm;go_enter func16,ntmps16;go_wp2_with fail;refine Md.out.mono ?_
  rintro e w1 ⟨rfl,aN⟩;have Wc:=ab (ud key HC.out HN.out aN);clear aN Md;go_wp2_with fail;refine Wc.out.mono ?_
  rintro e w2 ⟨hwa,nF,qJ⟩;have wi:=ab nF;have JE:=ab qJ;have Qx:=ab (HC.out.mv qJ nF);obtain ⟨rv,ht,Vi⟩:=Qx.out.tr;have Ba:=ab ht;have HRF:=ab Vi;rcases hwa with ⟨hrn,rfl⟩ | ⟨x,ss,s,a,c,pv,lv,cv,t0,hrx,rfl,ho,kt,hs,nG,cp,hl,Ve⟩
  ·subst hrn;clear nF qJ Wc ht Vi;go_wp2_with fail;refine (rM w2).mono ?_
   rintro e w2' ⟨rfl,rfl⟩;go_wp2_with fail;refine (Aw (.slice none 0 0) [] key w2 (by simp) (gZ.nil _)).mono ?_
   rintro e w5 ⟨u,rfl,hu,fk⟩;rw [show bq [] key=false from rfl]
   have Qy:=ab (Qx.out.below fk);obtain ⟨ua,uc,ON⟩:=hu.form;subst ON;clear hu fk;go_wp2;go_ret2;exact .inl ⟨HM.out,rfl,.inr ⟨rfl,Qy.out⟩⟩
  ·subst hrx;obtain ⟨X,Z,kU,hX,hZ⟩:=MQ x.1 HC.out.ok.1 Ve;have hfd:bq (aP (some x)) key=bq s.n.ps key:=by
    show bq (flat x.1 x.2) key=_
    rw [kU,yn hX hZ,nG]
   have QN:=ab hfd;have Re:Hid (rv = .nilIface∨∃ t x,rv = .iface t x):=HRF.out.form;have HO:=ab ho;have HW:=ab kt;have yP:=ab nG;have gM:=ab cp;have HL:=ab hl;have JC:=ab (rL a ss.length c (ss.map kT.lk) s.lk s.n pv lv cv w2 (by rw [az]) (by omega) ho.1.at hs)
   have Xp:=ab hs.jj;have HPM:=ab hs.fine.1;obtain ⟨m,O5⟩ : ∃ m,m=ss.length:=⟨_,rfl⟩;have Fi:=ab O5;rw [← O5] at JC HO HL ⊢;obtain ⟨xa,xc,KR⟩:=hs.jj.form;subst KR;clear ho kt hs nG cp hl nF qJ Wc O5 ht Vi Ve kU hX hZ hfd;go_wp2_with fail;refine JC.out.mono ?_
   rintro e w2' ⟨rfl,rfl⟩;go_wp2_with fail;refine (Aw _ s.n.ps key w2 (by have:=ko s.n.ps;have:=gM.out;rw [← yP.out] at this;omega) Xp.out).mono ?_
   rintro e w5 ⟨u,rfl,hu,fk⟩;have gu:=ab fk;have uJ:=sE (s:=s) (t0:=t0) key (fun l=>cX l key) (fit_drop key) HC.out (JE.out.trans (Mv.of gu.out)) (wi.out.below gu.out) (Ba.out.below gu.out) Re.out (by have:=HL.out;have:=Fi.out;omega) (by rw [← Fi.out];exact HO.out.below gu.out) (HW.out.cx (dd.of gu.out)) gM.out (by rw [← yP.out];exact HPM.out) (by rw [← yP.out];exact hu.at)
   rw [← Fi.out] at uJ;have Rh:=ab uJ;have Qy:=ab (Qx.out.below fk);obtain ⟨ua,uc,ON⟩:=hu.form;subst ON;clear hu fk uJ;cases Pj:bq s.n.ps key with
   | false =>
    have HF:Hid (bq (aP (some x)) key=false):=QN.out.trans Pj;go_wp2;go_ret2;exact .inl ⟨HM.out,by rw [HF.out];rfl,.inr ⟨HF.out,Qy.out⟩⟩
   | true =>
    have HF:Hid (bq (aP (some x)) key=true):=QN.out.trans Pj;go_wp2_with fail;refine Rh.out.mono ?_
    rintro e w6 ⟨rfl,htc⟩;have ade:=ab htc;clear htc Rh;go_wp2;go_ret2;exact .inl ⟨HM.out,by rw [HF.out];rfl,.inl ⟨HF.out,ade.out⟩⟩
 ·rw [if_neg hm] at Md;have HM:=ab hm;clear ep hm;go_enter func16,ntmps16;go_wp2_with fail;refine Md.out.mono ?_
  rintro e w1 ⟨rfl,aN⟩;have Qy:=ab (HC.out.below aN);clear aN Md;go_wp2;go_ret2;exact .inr ⟨HM.out,rfl,Qy.out⟩
end
theorem RN{w:World}{a:Option Addr}{n m k cap:Nat}{l:List Pr}(h:gZ w (.slice a n cap) l)(hm:m≤k)(hk:k≤n):∃ a',gZ w (.slice a' (k - m) (cap - m)) ((l.take k).drop m)∧∀ w',(Instr.sliceAt 63 (.slice a n cap) (some (.int .i64 (m:Int))) (some (.int .i64 (k:Int))) none).run prog w' = .ok (.slice a' (k - m) (cap - m)) w':=by
 have h:=h.take hk;obtain ⟨a',eO,he,hle,hn,hc⟩:=h;simp only [Value.slice.injEq] at he;obtain ⟨rfl,oC,rfl⟩:=he;have oC:=oC.symm;refine ⟨if cap=m then a else a.map (·.add (m*2)),⟨_,_,by rw [ao,oC],by rw [ao];omega,fun ha=>?_,fun j hj=>?_⟩,fun w'=>?_⟩
 ·split at ha
  ·omega
  ·cases a with
   | none=>have:=hn rfl;omega
   | some x=>cases ha
 ·rw [ao] at hj;obtain ⟨g,o,ha,h1,h2⟩:=hc (m+j) (by omega)
  subst ha;refine ⟨g,o+m*2,?_,?_,?_⟩
  ·rw [if_neg (by omega)];simp [bA]
  ·rw [cY,show o+m*2+j*2=o+(m+j)*2 by omega];exact h1
  ·rw [cY,show o+m*2+j*2+1=o+(m+j)*2+1 by omega];exact h2
 ·rw [run_sliceAt_slice (h:=underlying63),run_slice_lh (ht:=underlying63) (h0:=by omega) (h1:=by omega) (h2:=by omega)]
  have hz:(sizeOf (prog.elem 63)).run prog w' = .ok 2 w':=by kernel_rfl
  rw [hz];simp [Result.andThen,sliced]
def sC(l:List Pr)(en:ByteArray):Nat:=if en=⟨#[]⟩ then l.length else aQ l en
def dX(l:List Pr)(fr en:ByteArray):List Pr:=(l.take (max (aQ l fr) (sC l en))).drop (aQ l fr)
theorem Jr(l:List Pr)(en:ByteArray):sC l en≤l.length:=by
 unfold sC;split
 ·exact aj _
 ·exact cW l en
theorem zX{s:ByteArray}(h:¬ s=⟨#[]⟩):s.toList.isEmpty=false:=by
 cases hs:s.toList with
 | cons _ _=>rfl
 | nil =>
  have h1:=oN s ⟨#[]⟩;have h0:(⟨#[]⟩ : ByteArray).toList=[]:=by rw [ByteArray.toList_eq]
  rw [hs,h0,decide_eq_false h] at h1;simp at h1
theorem FM(v:Value)(l:List Pr)(fr en:ByteArray)(w:World)(hm:l.length≤140737488355328)(hr:gZ w v l):Calls prog 94 #[v,.string fr,.string en] w fun e w'=>∃ a c,e = .returned (.slice a (dX l fr en).length c)∧gZ w' (.slice a (dX l fr en).length c) (dX l fr en)∧Below w.heap.size w w':=by
 have HF:=ab (py v l fr w hm hr);have HM:=ab hm;have HR:=ab hr;obtain ⟨a,cap,hv⟩:=hr.form;subst hv;have hql:=cW l fr;have hel:=Jr l en;obtain ⟨q,hq⟩ : ∃ q,q=aQ l fr:=⟨_,rfl⟩;obtain ⟨E,hE⟩ : ∃ E,E=sC l en:=⟨_,rfl⟩;rw [← hq] at HF hql;rw [← hE] at hel;obtain ⟨K,hK⟩ : ∃ K,K=max q E:=⟨_,rfl⟩;obtain ⟨a2,iK,qE⟩:=RN hr (m:=q) (k:=K) (by omega) (by omega)
 have hW:dX l fr en=(l.take K).drop q:=by unfold dX;rw [← hq,← hE,hK]
 have hWl:(dX l fr en).length=K - q:=by
  rw [hW,ao,ag];omega
 have HW:=ab hW;have HWl:=ab hWl;have oR:=ab iK;have HE:=ab hE;have Ub:max (q:Int) (E:Int)=(K:Int):=by omega
 clear hr iK hq hE hW hWl hm;by_cases ht:en=⟨#[]⟩
 ·have HEE:Hid (E=l.length):=by show E=_;rw [HE.out];unfold sC;rw [if_pos ht]
  subst ht;obtain ⟨m,mS⟩ : ∃ m,m=l.length:=⟨_,rfl⟩;have hmE:E=m:=by rw [mS];exact HEE.out
  subst hmE;have Rf:=ab mS;rw [← mS] at HF HR qE hql ⊢;clear mS;clear hK;go_enter func94,ntmps94;go_wp2_with fail;refine HF.out.mono ?_
  rintro e w1 ⟨rfl,aN⟩;have bN:=ab aN;clear aN HF;go_wp2;go_ret;exact ⟨a2,cap - q,by rw [HWl.out];rfl,by rw [HWl.out,HW.out];exact oR.out.below bN.out,bN.out⟩
 ·have HEE:Hid (E=aQ l en):=by show E=_;rw [HE.out];unfold sC;rw [if_neg ht]
  have ey:=zX ht;clear hK ht;go_enter func94,ntmps94;go_wp2_with fail;refine HF.out.mono ?_
  rintro e w1 ⟨rfl,aN⟩;have bN:=ab aN;have QO:=ab (py _ l en w1 HM.out (HR.out.below aN));rw [← HEE.out] at QO;clear aN HF;go_wp2_with fail;refine QO.out.mono ?_
  rintro e w2 ⟨rfl,aY⟩;have bH:=ab (Below.next bN.out aY);clear aY QO;go_wp2;go_ret;exact ⟨a2,cap - q,by rw [HWl.out];rfl,by rw [HWl.out,HW.out];exact oR.out.below bH.out,bH.out⟩
def AD(lk:List B.Lk)(i:Nat)(en:ByteArray):Bool :=
 match i with
 | 0=>false
 | j+1=>if en=⟨#[]⟩ then false else match lk[j]? with | some p=>!df p.1 en | none=>false
theorem E0(f:Int)(lv:Value)(lk:List B.Lk)(en:ByteArray)(w:World)(hl:B.dm w lv lk):Calls prog 95 #[.agg #[.int .i64 f,lv],.int .i64 0,.string en] w fun e w'=>e = .returned (.bool false)∧Below w.heap.size w w':=by
 have q0:=ai w (.cells #[.int .i64 f,lv] 150);have HQ:=ab q0;obtain ⟨la,lc,tH⟩:=hl.form;subst tH;clear q0 hl;go_enter func95,ntmps95;go_wp2;go_ret;exact ⟨rfl,HQ.out⟩
theorem Cb(f:Int)(lv:Value)(lk:List B.Lk)(i:Nat)(w:World)(hl:B.dm w lv lk):Calls prog 95 #[.agg #[.int .i64 f,lv],.int .i64 (i:Int),.string ⟨#[]⟩] w fun e w'=>e = .returned (.bool false)∧Below w.heap.size w w':=by
 have q0:=ai w (.cells #[.int .i64 f,lv] 150);have HQ:=ab q0;obtain ⟨la,lc,tH⟩:=hl.form;subst tH;clear q0 hl;by_cases h0:(0:Int)<(i:Int)
 ·go_enter func95,ntmps95;go_wp2;go_ret;exact ⟨rfl,HQ.out⟩
 ·go_enter func95,ntmps95;go_wp2;go_ret;exact ⟨rfl,HQ.out⟩
theorem E1(f:Int)(lv:Value)(lk:List B.Lk)(j:Nat)(en:ByteArray)(w:World)(hl:B.dm w lv lk)(hj:j<lk.length)(hm:lk.length≤4000)(Xe:¬ en=⟨#[]⟩):Calls prog 95 #[.agg #[.int .i64 f,lv],.int .i64 ((j:Int)+1),.string en] w fun e w'=>e = .returned (.bool (!df lk[j].1 en))∧Below w.heap.size w w':=by
 have q0:=ai w (.cells #[.int .i64 f,lv] 150);have x0:=B.au.new w #[.int .i64 f,lv] 150;have k1:=x0.c1;have SC:=hl.below q0;obtain ⟨la,lc,tH⟩:=hl.form;subst tH;obtain ⟨_,_,mQ,_,_,hc⟩:=SC;simp only [Value.slice.injEq] at mQ;obtain ⟨rfl,-,rfl⟩:=mQ;obtain ⟨g,o,rfl,c1,-⟩:=hc j hj;have HQ:=ab q0;have ey:=zX Xe;have h0:(0:Int)≤(j:Int):=by omega
 have h1:(j:Int)<(lk.length:Int):=by omega
 have h2:((j:Int)+1) - 1=(j:Int):=by omega
 generalize (lk[j]).1=kk at c1 ⊢;clear q0 hl hc x0 Xe hj;go_enter func95,ntmps95;go_wp2;go_ret;exact ⟨rfl,HQ.out⟩
theorem BL(f:Int)(lv:Value)(lk:List B.Lk)(i:Nat)(en:ByteArray)(w:World)(hl:B.dm w lv lk)(hi:i≤lk.length)(hm:lk.length≤4000):Calls prog 95 #[.agg #[.int .i64 f,lv],.int .i64 (i:Int),.string en] w fun e w'=>e = .returned (.bool (AD lk i en))∧Below w.heap.size w w':=by
 by_cases Xe:en=⟨#[]⟩
 ·subst Xe;have e:AD lk i ⟨#[]⟩=false:=by
   unfold AD;cases i with
   | zero=>rfl
   | succ j=>simp
  rw [e];exact Cb f lv lk i w hl
 ·cases i with
  | zero=>exact E0 f lv lk en w hl
  | succ j =>
   have e:AD lk (j+1) en=!df lk[j].1 en:=by
    unfold AD;simp only;rw [if_neg Xe,af (by omega)]
   rw [e,show ((j+1:Nat):Int)=(j:Int)+1 by omega]
   exact E1 f lv lk j en w hl (by omega) hm Xe
theorem IE:∀ {l:List Pr},gB l→l.Pairwise fun a b=>df a.1 b.1=true
 | [],_=>List.Pairwise.nil
 | p::l,h=>by
  have:=qn (a:=[p]) (b:=l) h;exact List.Pairwise.cons (fun q hq=>this.2.2 p (by simp) q hq) (IE this.2.1)
theorem uP{α:Type}{R:α→α→Prop}{Q:α→Bool}(hR:∀ a b,R a b→Q a=true→Q b=true):∀ {l:List α},l.Pairwise R→l.filter Q=l.drop (l.findIdx Q)
 | [],_=>rfl
 | a::l,h=>by
  cases h with
  | cons h1 h2 =>
   cases hq:Q a
   ·rw [List.filter_cons_of_neg (by rw [hq];simp),kQ,hq,uP hR h2];simp
   ·rw [List.filter_cons_of_pos hq,kQ,hq];simp only [cond_true,List.drop_zero];rw [List.filter_eq_self.2 (fun b hb=>hR a b (h1 b hb) hq)]
theorem uO{α:Type}{R:α→α→Prop}{P:α→Bool}(hR:∀ a b,R a b→P b=true→P a=true):∀ {l:List α},l.Pairwise R→l.filter P=l.take (l.findIdx fun a=>!P a)
 | [],_=>rfl
 | a::l,h=>by
  cases h with
  | cons h1 h2 =>
   cases hp:P a
   ·rw [List.filter_cons_of_neg (by rw [hp];simp),kQ,hp]
    simp only [Bool.not_false,cond_true,List.take_zero];rw [List.filter_eq_nil_iff.2 (fun b hb FC=>by rw [hR a b (h1 b hb) FC] at hp;cases hp)]
   ·rw [List.filter_cons_of_pos hp,kQ,hp,uO hR h2];simp
def nE(fr en:ByteArray)(p:Pr):Bool:=!df p.1 fr && (decide (en=⟨#[]⟩) || df p.1 en)
theorem JP{l:List Pr}(hr:gB l)(fr en:ByteArray):dX l fr en=l.filter (nE fr en):=by
 have hp:=IE hr;have e1:l.filter (fun p=>decide (en=⟨#[]⟩) || df p.1 en)=l.take (sC l en):=by
  unfold sC;split
  ·rename_i h
   rw [List.take_length,List.filter_eq_self.2 (fun p _=>by simp [h])]
  ·rename_i h
   have:=uO (P:=fun p:Pr=>df p.1 en) (fun a b zh hb=>de zh hb) hp
   simp only [decide_eq_false h,Bool.false_or];rw [this];rfl
 have e2:l.filter (nE fr en)=(l.take (sC l en)).filter (fun p=>!df p.1 fr):=by
  rw [← e1,List.filter_filter];rfl
 have Xa:(l.take (sC l en)).Pairwise fun a b=>df a.1 b.1=true:=hp.sublist (List.take_sublist _ _)
 rw [e2,uP (Q:=fun p:Pr=>!df p.1 fr) (fun a b zh ha=>by
  cases h:df b.1 fr
  ·rfl
  ·rw [de zh h] at ha;simp at ha) Xa]
 unfold dX;have hE:=Jr l en;have hq:(l.take (sC l en)).findIdx (fun p=>!df p.1 fr)=min (aQ l fr) (sC l en):=by
  rw [List.findIdx_take];show min (sC l en) (aQ l fr)=_
  omega
 rw [hq];by_cases h:aQ l fr≤sC l en
 ·rw [Nat.max_eq_right h,a8 h]
 ·rw [Nat.max_eq_left (by omega),Nat.min_eq_right (by omega)]
  rw [fq (by rw [ag];omega),fq (by rw [ag];omega)]
def yC(en:ByteArray):Option ByteArray→Bool
 | none=>false
 | some k=>!decide (en=⟨#[]⟩) && !df k en
def lh{α:Type}(g:α→List Pr→List Pr × Bool)(en:ByteArray):Option ByteArray→List ByteArray→List α→List Pr→List Pr × Bool
 | _,_,[],acc=>(acc,true)
 | ah,ks,c::cs,acc=>if yC en ah=true then (acc,false) else if (g c acc).2=true then lh g en ks.head? ks.tail cs (g c acc).1 else ((g c acc).1,false)
def ft(fr en:ByteArray)(lim:Nat):(h:Nat)→Nd h→List Pr→List Pr × Bool
 | 0,t,acc=>(acc++(dX t.2 fr en).take (lim - acc.length),decide ((acc++(dX t.2 fr en).take (lim - acc.length)).length<lim))
 | h+1,t,acc=>lh (ft fr en lim h) en (iV none (t.2.1.take (t.2.1.findIdx fun k=>df fr k))) (t.2.1.drop (t.2.1.findIdx fun k=>df fr k)) (t.2.2.drop (t.2.1.findIdx fun k=>df fr k)) acc
def Nl(en:ByteArray)(hi:Option ByteArray):Prop:=∀ u,hi=some u→¬ en=⟨#[]⟩∧df u en=false
theorem Iw{en k:ByteArray}{hi:Option ByteArray}(hs:¬ en=⟨#[]⟩∧df k en=false)(hk:ltB k hi):Nl en hi:=fun u hu=>⟨hs.1,by
 cases h:df u en
 ·rfl
 ·rw [de (hk u hu) h] at hs;cases hs.2⟩
theorem IF{fr en:ByteArray}{l:List Pr}{lo:Option ByteArray}(hl:∀ p ∈ l,geB lo p.1)(k:ByteArray)(hk:lo=some k)(hs:¬ en=⟨#[]⟩∧df k en=false):l.filter (nE fr en)=[] :=
 List.filter_eq_nil_iff.2 fun p hp h=>by
  have h1:=hl p hp k hk;unfold nE at h;rw [decide_eq_false hs.1,Bool.false_or,cA] at h;have h2:df k en=true:=by
   cases Mt:df k p.1
   ·have:=lT Mt h1;rw [this];exact h.2
   ·exact de Mt h.2
  rw [h2] at hs;cases hs.2
def Ih(fr en:ByteArray)(lim:Nat)(l acc:List Pr)(hi:Option ByteArray)(r:List Pr × Bool):Prop :=
 r.1=acc++(l.filter (nE fr en)).take (lim - acc.length)∧(r.2=false→lim≤r.1.length∨Nl en hi)
theorem M8{α:Type}(n:Nat)(X Y:List α):(X++Y).take n=X.take n++Y.take (n - (X.take n).length):=by
 rw [List.take_append,ag];congr 2
 omega
theorem Ew{fr en:ByteArray}{lim h:Nat}(ih:∀ {t:Nd h} {lo hi:Option ByteArray} {acc:List Pr},mF h t lo hi→acc.length≤lim→Ih fr en lim (flat h t) acc hi (ft fr en lim h t acc)):∀ (cs:List (Nd h)) {ks:List ByteArray} {lo hi ah:Option ByteArray} {acc:List Pr},ig (mF h) lo hi ks cs→(∀ k,ah=some k→lo=some k)→acc.length≤lim→Ih fr en lim (cs.flatMap (flat h)) acc hi (lh (ft fr en lim h) en ah ks cs acc)
 | [],ks,_,_,_,_,ho,_,_=>by cases ks <;> simp [ig] at ho
 | c::cs,ks,lo,hi,ah,acc,ho,hah,hacc=>by
  have Q3:=xy (F:=flat h) (fun _ _ _ hc=>uy h hc.1) ho
  unfold lh;by_cases hb:yC en ah=true
  ·rw [if_pos hb];cases ah with
   | none=>simp [yC] at hb
   | some k =>
    have tG:=hah k rfl;have hs:¬ en=⟨#[]⟩∧df k en=false:=by
     simp only [yC,cA,Bool.not_eq_true',decide_eq_false_iff_not] at hb;exact hb
    refine ⟨by rw [IF (fun p hp=>(Q3 p hp).1) k tG hs];simp,fun _=>.inr ?_⟩
    obtain ⟨p,hp⟩ : ∃ p,p ∈ flat h c:=by
     have:=xu h (vL ho);have h1:1≤2 ^ h:=Nat.one_le_two_pow;exact List.exists_mem_of_length_pos (by omega)
    have hpi:=Q3 p (by rw [List.flatMap_cons];exact dQ _ hp)
    exact Iw hs fun u hu=>TT (hpi.1 k tG) (hpi.2 u hu)
  ·rw [if_neg hb];cases ks with
   | nil =>
    cases cs with
    | cons _ _=>simp [ig] at ho
    | nil =>
     have hc:mF h c lo hi:=ho;obtain ⟨g1,g2⟩:=ih (acc:=acc) hc hacc;have e:([c] : List (Nd h)).flatMap (flat h)=flat h c:=by simp
     rw [e];by_cases hr:(ft fr en lim h c acc).2=true
     ·rw [if_pos hr];refine ⟨?_,fun h=>?_⟩
      ·show (ft fr en lim h c acc).1=_
       exact g1
      ·exact absurd h (by show ¬ true=false;simp)
     ·rw [if_neg hr];exact ⟨g1,fun _=>g2 (by simpa using hr)⟩
   | cons k ks =>
    obtain ⟨hk,hm,hc,Jd⟩:=ho;obtain ⟨g1,g2⟩:=ih (acc:=acc) hc hacc;have abL:=xy (F:=flat h) (fun _ _ _ hc=>uy h hc.1) Jd
    have hlen:(ft fr en lim h c acc).1.length≤lim:=by
     rw [g1,ae,ag];omega
    have hle:(ft fr en lim h c acc).1.length=acc.length+(((flat h c).filter (nE fr en)).take (lim - acc.length)).length:=by rw [g1,ae]
    have key:∀ Y:List Pr,acc++(((flat h c).filter (nE fr en))++Y).take (lim - acc.length)=(ft fr en lim h c acc).1++Y.take (lim - (ft fr en lim h c acc).1.length):=fun Y=>by
     rw [M8,← ax,← g1,hle];congr 2
     omega
    rw [List.flatMap_cons];by_cases hr:(ft fr en lim h c acc).2=true
    ·rw [if_pos hr];obtain ⟨r1,r2⟩:=Ew ih cs (ah:=some k) Jd (fun k' Q2=>Q2) hlen
     refine ⟨?_,r2⟩;show (lh (ft fr en lim h) en (some k) ks cs (ft fr en lim h c acc).1).1=_
     rw [r1,List.filter_append,key]
    ·rw [if_neg hr];refine ⟨?_,fun _=>?_⟩
     ·show (ft fr en lim h c acc).1=_
      rw [List.filter_append,key];rcases g2 (by simpa using hr) with h1 | h1
      ·rw [show lim - (ft fr en lim h c acc).1.length=0 by omega];simp
      ·rw [IF (fun p hp=>(abL p hp).1) k rfl (h1 k rfl)];simp
     ·rcases g2 (by simpa using hr) with h1 | h1
      ·exact .inl h1
      ·exact .inr (Iw (h1 k rfl) hk.2)
theorem BY{fr en:ByteArray}{lim:Nat}:∀ (h:Nat) {t:Nd h} {lo hi:Option ByteArray} {acc:List Pr},Ok h t lo hi→acc.length≤lim→Ih fr en lim (flat h t) acc hi (ft fr en lim h t acc)
 | 0,t,lo,hi,acc,ho,hacc=>by
  refine ⟨?_,fun hf=>.inl ?_⟩
  ·show acc++(dX t.2 fr en).take _=acc++(t.2.filter (nE fr en)).take _
   rw [JP ho.1]
  ·have hf:decide ((acc++(dX t.2 fr en).take (lim - acc.length)).length<lim)=false:=hf;have:=of_decide_eq_false hf;show lim≤(acc++(dX t.2 fr en).take (lim - acc.length)).length
   omega
 | h+1,t,lo,hi,acc,ho,hacc=>by
  have hc:=(iA h t lo hi).1 ho;have hl:=jI hc;obtain ⟨q,hq⟩ : ∃ q,q=t.2.1.findIdx fun k=>df fr k:=⟨_,rfl⟩
  have hql:q≤t.2.1.length:=by rw [hq];exact List.findIdx_le_length
  obtain ⟨c,hcq⟩ : ∃ c,t.2.2[q]?=some c:=⟨_,af (by omega)⟩
  obtain ⟨e1,e2,el,ei⟩:=wL hl hcq;have uK:=hc;rw [e1,e2] at uK;obtain ⟨iW,Jd⟩:=(rP el).1 uK;have hA:∀ k ∈ t.2.1.take q,df fr k=false:=fun k hk=>by
   obtain ⟨i,oE,rfl⟩:=aI hk;rw [ag] at oE;rw [bZ];have bX:i<t.2.1.findIdx fun k=>df fr k:=by rw [← hq];omega
   have:=List.not_of_lt_findIdx bX;simpa using this
  have Yz:((t.2.2.take q).flatMap (flat h)).filter (nE fr en)=[]:=List.filter_eq_nil_iff.2 fun p hp hr=>by
   have:=vG (P:=mF h) (fun _ _ _ hc=>uy h hc.1) iW hA p hp
   unfold nE at hr;rw [this] at hr;simp at hr
  have Y2:t.2.2.drop q=c::t.2.2.drop (q+1):=by
   obtain ⟨Su,hv⟩:=List.getElem?_eq_some_iff.1 hcq;have:=bf Su;rw [hv] at this;exact this
  have hr:=Ew (fr:=fr) (en:=en) (lim:=lim) (fun ho ha=>BY h ho.1 ha) (c::t.2.2.drop (q+1)) (ah:=iV none (t.2.1.take q)) Jd (fun k hk=>by
   cases hA2:t.2.1.take q with
   | nil=>rw [hA2] at hk;simp [iV] at hk
   | cons a A=>rw [hA2] at hk;exact hk) hacc
  have ef:(flat (h+1) t).filter (nE fr en)=((c::t.2.2.drop (q+1)).flatMap (flat h)).filter (nE fr en):=by
   show (t.2.2.flatMap (flat h)).filter _=_
   rw [e2,bh,List.filter_append];rw [← e2,Yz,List.nil_append]
  have eg:ft fr en lim (h+1) t acc=lh (ft fr en lim h) en (iV none (t.2.1.take q)) (t.2.1.drop q) (c::t.2.2.drop (q+1)) acc:=by
   rw [← Y2,hq];rfl
  rw [eg];exact ⟨by rw [ef];exact hr.1,hr.2⟩
theorem K6{fr en:ByteArray}{lim h:Nat}{t:Nd h}(ho:Ok h t none none):(ft fr en lim h t []).1=((flat h t).filter (nE fr en)).take lim:=(BY h ho (by simp)).1
theorem dd.refl(w:World):dd w w:=⟨aj _,fun _ _=>.inl rfl⟩
theorem Tp.same{w w':World}{k:Nat}(h:Tp w' k)(he:w'.heap[k]?=w.heap[k]?):Tp w k:=by
 refine ⟨fun j v hc=>h.1 j v ((World.cell?_of_block (a:=⟨k,j,none⟩) he).trans hc),fun cs fr h1=>h.2.1 cs fr (he.trans h1),fun cs fr h1=>h.2.2 cs fr (he.trans h1)⟩
theorem dd.trans{w w1 w2:World}(h1:dd w w1)(h2:dd w1 w2):dd w w2:=⟨aq h1.size h2.size,fun k hk=>by
 rcases h1.block k hk with e | e
 ·rcases h2.block k (al hk h1.size) with e2 | e2
  ·exact .inl (e2.trans e)
  ·exact .inr (e2.same e)
 ·exact .inr e⟩
theorem No(p:PD):∀ q ∈ p.sn.us,∃ id,q = .pg id:=fun q hq=>by
 cases p with
 | leaf l=>simp [PD.sn] at hq
 | br f lk =>
  obtain ⟨i,hi,rfl⟩:=aI hq;obtain ⟨x,_,h2⟩:=II f lk i _ (af hi);exact ⟨x,h2⟩
def oZ(d:S.V.bD)(w0:World):Sys d XT where
 K:=fun w p x=>(eo (cU d) w0 x.1 p x.2∧jt x)∧(dd w0 w∨∃ id,p = .pg id)
 N:=fun w n x=>(aU (cU d) w0 x.1 n x.2∧jt x)∧(dd w0 w∨∀ q ∈ n.us,∃ id,q = .pg id)
 E:=False
 sub:=XJ
 rk:=fun x=>x.1
 ka:=fun ha h=>⟨h.1,h.2.imp (fun g=>g.trans ha) id⟩
 na:=fun ha h=>⟨h.1,h.2.imp (fun g=>g.trans ha) id⟩
 rh:=fun {w n x i p} hn hp=>by
  obtain ⟨y,h1,h2⟩:=(iH d).rh (w:=w0) (n:=n) (x:=x) hn.1 hp;exact ⟨y,h1,h2,hn.2.imp id fun g=>g p (cH hp)⟩
 fit:=fun h=>kI h.1.1 h.1.2
 hU:=fun h=>by
  obtain ⟨p,h1,h2⟩:=IT h.1.1;exact .inr ⟨p,h1,fun w'=>⟨⟨h2 w0,h.1.2⟩,.inr (No p)⟩⟩
 node:=fun h=>by
  obtain ⟨⟨⟨_,m,pv,lv,cv,hs,hm⟩,hg⟩,ha⟩:=h;rcases ha with ha | ⟨id,he⟩
  ·exact ⟨m,pv,lv,cv,hs.cx ha,⟨hm,hg⟩,.inl ha⟩
  ·cases he
 rks:=.inr fun x i y hs=>by
  obtain ⟨h,t⟩:=x;cases h with
  | zero=>exact hs.elim
  | succ h =>
   obtain ⟨c,_,rfl⟩:=hs;exact aj _
def yJ(w:World)(base:Nat)(v:Value)(l:List Pr):Prop :=
 iU w base v l∧∀ g,v.ownBlock=some g→∃ cur,w.heap[g]?=some (.cells cur 52 (0,0))∧∀ u ∈ cur.toList,∃ s,u = .string s
theorem yJ.nil(w:World)(base:Nat):yJ w base (.slice none 0 0) []:=⟨iU.nil w base,fun g h=>by simp [Value.ownBlock] at h⟩
theorem rE(l:List Pr):∀ u ∈ jj l,∃ s,u = .string s:=by
 intro u hu;simp only [jj,lC] at hu;obtain ⟨p,_,h⟩:=hu;simp at h
 rcases h with rfl | rfl
 ·exact ⟨_,rfl⟩
 ·exact ⟨_,rfl⟩
theorem CJ(n:Nat):∀ u ∈ (Builtin.zeroCells (Value.agg #[.string ByteArray.empty,.string ByteArray.empty]).cells n).toList,∃ s,u = .string s:=by
 intro u hu;simp only [Builtin.zeroCells,Value.cells] at hu;simp at hu
 obtain ⟨i,_,rfl⟩:=hu;rcases cy i with h | h
 ·rw [h];exact ⟨_,rfl⟩
 ·rw [h];exact ⟨_,rfl⟩
theorem yJ.app(base:Nat)(v s:Value)(xs us:List Pr)(w:World)(h:yJ w base v xs)(hs:gZ w s us)(hb:(xs.length+us.length)*32≤140737488355328)(dr:base≤w.heap.size):∃ a' eO w',(Builtin.append_ #[63,63] 63 #[v,s]).run prog w = .ok (.slice a' (xs.length+us.length) eO) w'∧yJ w' base (.slice a' (xs.length+us.length) eO) (xs++us)∧w.grownBy w' v.ownBlock∧∀ g,(Value.slice a' (xs.length+us.length) eO).ownBlock=some g→v.ownBlock=some g∨w.heap.size≤g:=by
 obtain ⟨i0,hi,hz,cp,kL⟩:=info_parts I9;obtain ⟨a',c',w',hr,aD,hg⟩:=gT base v s xs us w h.1 hs hb dr;suffices hh:(∀ g,(Value.slice a' (xs.length+us.length) c').ownBlock=some g→v.ownBlock=some g∨w.heap.size≤g)∧∀ g,(Value.slice a' (xs.length+us.length) c').ownBlock=some g→∃ cur,w'.heap[g]?=some (.cells cur 52 (0,0))∧∀ u ∈ cur.toList,∃ s,u = .string s from ⟨a',c',w',hr,⟨aD,hh.2⟩,hg,hh.1⟩
 have SG:∃ a' c',v = .slice a' xs.length c':=h.1.form;obtain ⟨a,Qf,rfl,hle,qH,hc⟩:=hs;cases a with
 | none =>
  have h0:us=[]:=by
   cases us with
   | nil=>rfl
   | cons u r=>obtain ⟨g,o,he,_⟩:=hc 0 (by simp);cases he
  subst h0;have iK:=run_append_owned_none (P:=prog) w base 63 63 52 i0 2 underlying63 hi v xs.length (jj xs) h.1;rw [qH rfl] at hr;rw [List.length_nil] at hr aD ⊢;rw [iK] at hr;simp only [Result.ok.injEq] at hr;obtain ⟨hv,rfl⟩:=hr;rw [← hv];exact ⟨fun g iq=>.inl iq,h.2⟩
 | some ad =>
  have iR:∀ j u,(jj us)[j]?=some u→w.cell? (ad.add j)=some u:=fun j u hj=>by
   have lW:=(List.getElem?_eq_some_iff.1 hj).1;rw [eJ] at lW;obtain ⟨g,o,he,c1,c2⟩:=hc (j / 2) (by omega)
   cases he;have hg:=vF us (j / 2) (by omega)
   rw [bA];rcases cy j with hm | hm
   ·have e:j / 2*2=j:=by omega
    rw [e] at hg c1;rw [hg.1] at hj;cases hj;exact c1
   ·have e:j / 2*2+1=j:=by omega
    rw [ed,e] at c2;rw [e] at hg;rw [hg.2] at hj;cases hj;exact c2
  rcases h.1.2 with ⟨rfl,h0⟩ | ⟨g0,cap,cur,rfl,mE,pZ,Cs,sO,fG,mC⟩
  ·by_cases hu0:us.length=0
   ·have Ms:us=[]:=List.length_eq_zero_iff.1 hu0;have hxs:xs=[]:=by
     have:=h0;cases xs with
     | nil=>rfl
     | cons _ _=>simp at this
    subst Ms hxs;obtain ⟨v',w2,iK,_,_,acg⟩:=run_append_own (P:=prog) w base 63 63 52 i0 _ 2 32 underlying63 hi hz cp kL rfl (by decide) (.slice none 0 0) 0 [] (World.ownsRow_nil _ _ _ _) ad 0 Qf [] rfl (fun j u hj=>by simp at hj) (fun u hu=>by simp at hu) (by unfold maxLen;omega) (by omega) dr
    have hv:=acg.2 ⟨rfl,rfl⟩;subst hv;have hr:(Builtin.append_ #[63,63] 63 #[.slice none 0 0,.slice (some ad) 0 Qf]).run prog w = .ok (.slice a' 0 c') w':=hr;rw [iK] at hr;simp only [Result.ok.injEq,Value.slice.injEq] at hr;obtain ⟨⟨rfl,-,-⟩,-⟩:=hr;exact ⟨fun g iq=>by simp [Value.ownBlock] at iq,fun g iq=>by simp [Value.ownBlock] at iq⟩
   ·have hq:=run_append_nil (P:=prog) w 63 63 52 i0 _ underlying63 hi hz ad us.length Qf (jj us) (by rw [cp];exact eJ us) iR (by omega) (by omega) (by rw [kL];omega)
    rw [hq] at hr;simp only [Result.ok.injEq,Value.slice.injEq] at hr;obtain ⟨⟨rfl,-,-⟩,rfl⟩:=hr;refine ⟨fun g iq=>?_,fun g iq=>?_⟩
    ·simp only [Value.ownBlock,Option.some.injEq] at iq;right;subst iq;simp
    simp only [Value.ownBlock,Option.some.injEq] at iq;subst iq;refine ⟨_,heap_alloc_new (World.drew _) _,fun u hu=>?_⟩
    simp only [cP,cN] at hu;rcases hu with hu | hu
    ·exact rE us u (by simpa using hu)
    ·exact CJ _ u hu
  ·have zf:∀ u ∈ cur.toList,∃ s,u = .string s:=by
    obtain ⟨fK,h1,h2⟩:=h.2 g0 rfl;rw [pZ] at h1;simp only [Option.some.injEq,Obj.cells.injEq,and_true] at h1;subst h1;exact h2
   by_cases dV:xs.length+us.length≤cap
   ·have hq:=run_append_room (P:=prog) w 63 63 52 i0 underlying63 hi g0 xs.length cap cur pZ ad us.length Qf (jj us) (by rw [cp];exact eJ us) iR (by intro u hu;obtain ⟨s,rfl⟩:=rE us u hu;rfl) dV (by rw [cp,fG,eJ];omega)
    rw [hq] at hr;simp only [Result.ok.injEq,Value.slice.injEq] at hr;obtain ⟨⟨rfl,-,-⟩,rfl⟩:=hr;refine ⟨fun g iq=>?_,fun g iq=>?_⟩
    ·simp only [Value.ownBlock,Option.some.injEq] at iq;left;subst iq;rfl
    simp only [Value.ownBlock,Option.some.injEq] at iq;subst iq;refine ⟨_,setRow_heap _ g0 cur _ _ _ pZ,fun u hu=>?_⟩
    simp only [cN] at hu;rcases hu with (hu | hu) | hu
    ·exact zf u (bF hu)
    ·exact rE us u hu
    ·exact zf u (bG hu)
   ·have tG:(jj xs).length=xs.length*i0.size:=by rw [cp];exact eJ xs
    have holds:∀ j u,(jj xs)[j]?=some u→w.cell? ((⟨g0,0,none⟩ : Addr).add j)=some u:=World.ownsRow.cells h.1 (g:=g0) rfl;have hq:=run_append_grow (P:=prog) w 63 63 52 i0 _ underlying63 hi hz ⟨g0,0,none⟩ xs.length cap (jj xs) tG holds ad us.length Qf (jj us) (by rw [cp];exact eJ us) iR (by omega) (by omega) (growslice_fits (by omega) (by rw [kL];omega))
    rw [hq] at hr;simp only [Result.ok.injEq,Value.slice.injEq] at hr;obtain ⟨⟨rfl,-,-⟩,rfl⟩:=hr;refine ⟨fun g iq=>?_,fun g iq=>?_⟩
    ·simp only [Value.ownBlock,Option.some.injEq] at iq;right;subst iq;simp
    simp only [Value.ownBlock,Option.some.injEq] at iq;subst iq;refine ⟨_,heap_alloc_new (World.drew _) _,fun u hu=>?_⟩
    simp only [cP,cN] at hu;rcases hu with (hu | hu) | hu
    ·exact rE xs u (by simpa using hu)
    ·exact rE us u (by simpa using hu)
    ·exact CJ _ u hu
open Go.Maps
def Sf:C.Ch→Int
 | .pg id=>id
 | .nd _=>0
theorem xm(p:C.Ch)(w:World):Calls prog 67 #[p.val] w fun e w'=>e = .returned (.int .i64 (Sf p))∧w=w':=by
 cases p with
 | pg id =>
  have a1:=fun W=>Qn (.int .i64 id) W
  show Calls prog 67 #[.iface 146 (.int .i64 id)] w fun e w'=>e = .returned (.int .i64 id)∧w=w'
  go_enter func67,ntmps67;go_wp2;go_ret;exact ⟨rfl,rfl⟩
 | nd b =>
  have a1:=fun W=>Jy (.pointer (some ⟨b,0,none⟩)) W
  show Calls prog 67 #[.iface 152 (.pointer (some ⟨b,0,none⟩))] w fun e w'=>e = .returned (.int .i64 0)∧w=w'
  go_enter func67,ntmps67;go_wp2;go_ret;exact ⟨rfl,rfl⟩
theorem OB:Keyed prog 3:=int_keyed underlying3
theorem TJ(w:World):(zeroValue 208).run prog w = .ok (.agg #[]) w:=by kernel_rfl
theorem abu(i:Nat)(h:i<1048576):keyOf prog 3 (.int .i64 (i:Int))=some (.int .i64 (i:Int)):=keyOf_int_mk underlying3 (WalkArith.wf_i64 (by omega))
def Kz(l:List Nat):DataW Unit:=setOf (.agg []) (l.map fun i:Nat=>Lit.int .i64 (i:Int))
structure Met(w:World)(b:Nat)(l:List Nat):Prop where
 ok:∀ i ∈ l,1≤i∧i<1048576
 map:w.ownsMap prog 3 (unitElem (H:=Unit)) b l.length (Kz l)
theorem R0(l:List Nat)(j:Nat):Maps.has (Kz l) (.int .i64 (j:Int))=decide (j ∈ l):=by
 unfold Kz;rw [has_setOf _ _ _ (fun x hx=>by
  obtain ⟨i,hi,rfl⟩:=List.mem_map.1 hx;exact trivial)]
 rw [jZ];simp only [List.any_map,List.any_eq_true,decide_eq_true_eq,Function.comp,Lit.sameKey];constructor
 ·rintro ⟨x,hx,he⟩;have h9:(x:Int)=(j:Int):=by simpa using he
  have:x=j:=by omega
  exact this▸hx
 ·intro hj;exact ⟨j,hj,by simp⟩
theorem Met.put{l:List Nat}(i:Nat):(Kz l).put (.int .i64 (i:Int)) (.agg [])=Kz (l++[i]):=by
 unfold Kz;rw [aW,List.map_singleton,setOf_snoc]
theorem Met.same{w w':World}{b:Nat}{l:List Nat}(h:Met w b l)(hb:w'.heap[b]?=w.heap[b]?):Met w' b l:=by
 refine ⟨h.ok,?_⟩;have:=h.map;obtain ⟨es,clock,h1,h2⟩:=this;exact ⟨es,clock,hb.trans h1,h2⟩
theorem Met.lt{w:World}{b:Nat}{l:List Nat}(h:Met w b l):b<w.heap.size:=by
 obtain ⟨es,clock,h1,_⟩:=h.map;exact (Array.getElem?_eq_some_iff.1 h1).1
theorem Met.ne{w:World}{b:Nat}{l:List Nat}(h:Met w b l){g o:Nat}{u:Value}(hc:w.cell? ⟨g,o,none⟩=some u):g≠b:=fun e=>by
 subst e;obtain ⟨es,clock,h1,_⟩:=h.map;simp [World.cell?,h1] at hc
theorem rR(p:C.Ch)(i:Nat)(hi:Sf p=(i:Int))(bX:i<1048576)(b:Nat)(l:List Nat)(w:World)(h:Met w b l)(hn:l.length<1099511627776):Calls prog 91 #[.map (some b),p.val] w fun e w'=>e = .returned (.bool (decide (i ∈ l)))∧Met w' b (if i=0 then l else l++[i])∧w.grownBy w' (some b):=by
 have HP:=ab (xm p w);have HK:=ab (abu i bX);have HM:=ab h;have HH:=ab (R0 l i);have aD:=h.map;obtain ⟨pt,px,iB⟩:=bJ p;rw [hi] at HP;rw [iB] at HP ⊢;clear h iB hi;go_enter func91,ntmps91;go_wp2_with fail;refine HP.out.mono ?_
 rintro e w1 ⟨rfl,rfl⟩;by_cases h0:i=0
 ·subst h0;go_wp2_with (first
   | (at_lookup;refine wpList_lookup_own_unit _ rfl _ _ 166 rfl 3 208 OB underlying166 (TJ _) b l.length _ rfl aD _ _ rfl HK.out ?_;rw [HH.out])
   | go_in)
  go_ret;exact ⟨rfl,⟨HM.out.ok,HM.out.map.alloc _⟩,(World.grownBy_alloc _ _ _)⟩
 ·have AM:¬ (i:Int)=0:=by omega
  go_wp2_with (first
   | (at_lookup;refine wpList_lookup_own_unit _ rfl _ _ 166 rfl 3 208 OB underlying166 (TJ _) b l.length _ rfl aD _ _ rfl HK.out ?_;rw [HH.out])
   | (at_mapUpdate;refine wpList_mapUpdate_own _ rfl _ _ _ 166 rfl 3 208 OB underlying166 (unitElem (H:=Unit)) b l.length _ rfl (aD.alloc _) (by unfold maxLen;omega) _ _ _ rfl rfl HK.out _ [] unitElem_mk ?_;intro w2 eV yd)
   | go_in)
  go_ret;refine ⟨rfl,⟨?_,?_⟩,(World.grownBy_alloc _ _ _).trans yd⟩
  ·intro j hj;rcases List.mem_append.1 hj with hj | hj
   ·exact HM.out.ok j hj
   ·have:j=i:=by simpa using hj
    omega
  ·rw [← Met.put,ae];exact eV
theorem I2(i:Nat)(l:List Nat):(if i=0 then l else l++[i])=l++cJ i:=by
 unfold cJ;split <;> simp
end T
end Go.Proofs.YtihmgigfkmofnaaGreatDoor
namespace Go.Proofs.YtihmgigfkmofnaaGreatDoor
namespace T
open Go.RowKit
structure wq(db bp mb:Nat)(w:World)(v:Value)(w':World)(v':Value):Prop where
 size:w.heap.size≤w'.heap.size
 block:∀ k,k<w.heap.size→k≠db→k≠bp→k≠mb→v.ownBlock≠some k→w'.heap[k]?=w.heap[k]?
 own:∀ g,v'.ownBlock=some g→v.ownBlock=some g∨w.heap.size≤g
theorem wq.trans{db bp mb:Nat}{w w1 w2:World}{v v1 v2:Value}(h:wq db bp mb w v w1 v1)(k:wq db bp mb w1 v1 w2 v2):wq db bp mb w v w2 v2:=by
 refine ⟨aq h.size k.size,fun i hi h1 h2 hm h3=>?_,fun g hg=>?_⟩
 ·rw [k.block i (al hi h.size) h1 h2 hm (fun e=>by
   rcases h.own i e with e' | e'
   ·exact h3 e'
   ·omega)]
  exact h.block i hi h1 h2 hm h3
 ·rcases k.own g hg with e | e
  ·exact h.own g e
  ·exact .inr (aq h.size e)
theorem wq.mv{db bp mb:Nat}{F:Nat→Prop}{w w':World}(v:Value)(h:Mv db F w w'):wq db bp mb w v w' v:=⟨h.size,fun k hk h1 _ _ _=>h.one.block k hk h1,fun _ h=>.inl h⟩
theorem wq.below{db bp mb:Nat}{w w':World}(v:Value)(h:Below w.heap.size w w'):wq db bp mb w v w' v:=⟨h.size,fun k hk _ _ _ _=>h.block k hk,fun _ h=>.inl h⟩
structure Br(w:World)(b:Nat)(n:SN)(pv lv cv:Value):Prop where
 row:B.au w b #[pv,.int .i64 n.f,lv,cv] 155
 bg:B.dm w lv n.lk
 kids:C.dm w cv n.us
theorem dM.br{w:World}{b:Nat}{n:SN}{pv lv cv:Value}(h:dM w b n pv lv cv):Br w b n pv lv cv:=⟨h.row,h.bg,h.kids⟩
theorem Br.Zw{base:Nat}{A:Nat→Addr}{db bp mb:Nat}{F:Nat→Prop}{d:S.V.bD}{w w':World}{v v':Value}{acc:List Pr}{lo:Nat}{T:TypeId}{b:Nat}{n:SN}{pv lv cv:Value}(h:Br w b n pv lv cv)(hg:wq db bp mb w v w' v')(hv:Dv base A db F d w)(hp:B.au w bp #[v] T)(hT:T≠155)(hs:yJ w lo v acc){M:List Nat}(YF:Met w mb M):Br w' b n pv lv cv:=by
 have lx:∀ {g o:Nat} {u:Value},w.cell? ⟨g,o,none⟩=some u→g≠mb:=fun {g o u} hc e=>by
  subst e;obtain ⟨es,clock,h1,_⟩:=YF.map;simp [World.cell?,h1] at hc
 obtain ⟨d',_,hd⟩:=hv.dev;obtain ⟨va,vc,mQ⟩:=hs.1.form;have Za:∀ {g o:Nat} {u:Value},w.cell? ⟨g,o,none⟩=some u→(∀ a n c,u≠.slice a n c)→g≠bp:=fun {g o u} hc hu e=>by
  subst e;unfold B.au at hp;rw [cell_of_row w g o _ _ _ hp] at hc;have ho:o<1:=by have:=(Array.getElem?_eq_some_iff.1 hc).1;simpa using this
  have ho:o=0:=by omega
  subst ho;cases hc;exact hu _ _ _ mQ
 have aD:∀ {g o:Nat} {u:Value},w.cell? ⟨g,o,none⟩=some u→(∀ s,u≠.string s)→v.ownBlock≠some g:=fun {g o u} hc hu e=>by
  obtain ⟨cur,h1,h2⟩:=hs.2 g e;rw [cell_of_row w g o cur _ _ h1] at hc;obtain ⟨h3,h4⟩:=Array.getElem?_eq_some_iff.1 hc;obtain ⟨s,hs⟩:=h2 u (by rw [← h4];exact gG h3)
  exact hu s hs
 refine ⟨?_,?_,?_⟩
 ·refine (hg.block b h.row.lt ?_ ?_ (lx (h.row.cell 0 (by simp))) ?_).trans h.row
  ·intro e;subst e;obtain ⟨mb,nb,QS,av,Dn,hb⟩:=hd;have h1:=h.row;unfold B.au at h1;rw [hb.dy] at h1;simp at h1
  ·intro e;subst e;have h1:=h.row;unfold B.au at h1 hp;rw [hp] at h1;simp only [Option.some.injEq,Obj.cells.injEq] at h1;exact hT h1.2.1
  ·intro e;obtain ⟨cur,h1,h2⟩:=hs.2 b e;have h3:=h.row;unfold B.au at h3;rw [h1] at h3;simp at h3
 ·obtain ⟨a,cap,rfl,hle,hn,hc⟩:=h.bg;refine ⟨a,cap,rfl,hle,hn,fun j hj=>?_⟩
  obtain ⟨g,o,ha,h1,h2⟩:=hc j hj;have he:=hg.block g (World.block_lt_of_cell? w _ h1) (fun e=>by subst e;exact (mh hd h1).1 _ rfl) (Za h1 (fun _ _ _ e=>by cases e)) (lx h1) (aD h2 (fun _ e=>by cases e))
  exact ⟨g,o,ha,b9 he h1,b9 he h2⟩
 ·obtain ⟨a,cap,rfl,hle,hn,hc⟩:=h.kids;refine ⟨a,cap,rfl,hle,hn,fun j u hj=>?_⟩
  obtain ⟨g,o,ha,h1⟩:=hc j u hj;obtain ⟨p,_,rfl⟩ : ∃ p ∈ n.us,p.val=u:=by
   have:=cH hj;simpa [C.bg] using this
  obtain ⟨t,x,Xa⟩:=bJ p;have Jm:=h1;rw [Xa] at Jm;have he:=hg.block g (World.block_lt_of_cell? w _ h1) (fun e=>by subst e;exact (mh hd Jm).2 _ _ rfl) (Za Jm (fun _ _ _ e=>by cases e)) (lx h1) (aD Jm (fun _ e=>by cases e))
  exact ⟨g,o,ha,b9 he h1⟩
structure Bx where
 m:Nat
 mb:Nat
 t:Nat
 f:Nat
 fr:Nat
 en:Nat
 p:Nat
 l:Nat
 g:Nat
def ptr(b:Nat):Value:=.pointer (some ⟨b,0,none⟩)
def Bx.acU(x:Bx):Array Value:=#[ptr x.m,ptr x.f,ptr x.t,ptr x.fr,ptr x.en,ptr x.p,ptr x.l,ptr x.g]
structure Gs(base:Nat)(A:Nat→Addr)(db:Nat)(F:Nat→Prop)(d:S.V.bD)(w0:World)(tb:Nat)(x:Bx)(fr en:ByteArray)(lim lo:Nat)(w:World)(v:Value)(acc:List Pr)(M:List Nat):Prop where
 dv:Dv base A db F d w
 mv:Mv db F w0 w
 cm:w.cell? ⟨x.m,0,none⟩=some (.map (some x.mb))
 ct:w.cell? ⟨x.t,0,none⟩=some (ptr tb)
 cf:w.cell? ⟨x.f,0,none⟩=some .nilIface
 cfr:w.cell? ⟨x.fr,0,none⟩=some (.string fr)
 ZE:w.cell? ⟨x.en,0,none⟩=some (.string en)
 cl:w.cell? ⟨x.l,0,none⟩=some (.int .i64 (lim:Int))
 cg:w.cell? ⟨x.g,0,none⟩=some (.func (.func 90) #[] x.acU)
 row:B.au w x.p #[v] 63
 ps:yJ w lo v acc
 len:acc.length≤lim
 met:Met w x.mb M
 DH:M.length<1099511627776
 ord:∀ b ∈ [x.m,x.t,x.f,x.fr,x.en,x.l,x.g,x.p,x.mb],w0.heap.size≤b∧b<lo
 no:∀ b ∈ [x.m,x.t,x.f,x.fr,x.en,x.l,x.g],b≠x.p
 S3:db<w0.heap.size
 lo:lo≤w.heap.size
section
variable {base:Nat} {A:Nat→Addr} {db:Nat} {F:Nat→Prop} {d:S.V.bD} {w0:World} {tb:Nat} {x:Bx} {fr en:ByteArray} {lim lo:Nat} {w w':World} {v v':Value} {acc L3:List Pr} {M M':List Nat}
theorem Gs.keep(h:Gs base A db F d w0 tb x fr en lim lo w v acc M)(hv:Dv base A db F d w')(hm:Mv db F w0 w')(hg:wq db x.p x.mb w v w' v')(hr:B.au w' x.p #[v'] 63)(hp:yJ w' lo v' L3)(hl:L3.length≤lim)(YF:Met w' x.mb M')(mS:M'.length<1099511627776):Gs base A db F d w0 tb x fr en lim lo w' v' L3 M':=by
 have hb:∀ b ∈ [x.m,x.t,x.f,x.fr,x.en,x.l,x.g],∀ u,w.cell? ⟨b,0,none⟩=some u→w'.cell? ⟨b,0,none⟩=some u:=fun b hb u hc=>by
  have ho:=h.ord b (by simp only [dG,dx,or_false] at hb ⊢;rcases hb with rfl | rfl | rfl | rfl | rfl | rfl | rfl <;> simp)
  refine b9 (hg.block b (World.block_lt_of_cell? w _ hc) (by have:=h.S3;omega) (h.no b hb) (h.met.ne hc) fun e=>?_) hc
  have:=(h.ps.1.dy b e).1;omega
 exact ⟨hv,hm,hb _ (by simp) _ h.cm,hb _ (by simp) _ h.ct,hb _ (by simp) _ h.cf,hb _ (by simp) _ h.cfr,hb _ (by simp) _ h.ZE,hb _ (by simp) _ h.cl,hb _ (by simp) _ h.cg,hr,hp,hl,YF,mS,h.ord,h.no,h.S3,aq h.lo hg.size⟩
theorem yJ.mv{w w':World}(h:yJ w lo v acc)(hm:Mv db F w w')(hdb:db<lo):yJ w' lo v acc:=by
 have hb:∀ g,v.ownBlock=some g→w'.heap[g]?=w.heap[g]?:=fun g hg=>by
  have:=h.1.dy g hg;exact hm.one.block g this.2 (by omega)
 refine ⟨⟨h.1.1,?_⟩,fun g hg=>?_⟩
 ·rcases h.1.2 with h' | ⟨g,cap,cur,h',h1,h2,hr⟩
  ·exact .inl h'
  ·exact .inr ⟨g,cap,cur,h',h1,(hb g (by rw [h'];rfl)).trans h2,hr⟩
 ·obtain ⟨cur,h1,h2⟩:=h.2 g hg;exact ⟨cur,(hb g hg).trans h1,h2⟩
theorem Gs.go(h:Gs base A db F d w0 tb x fr en lim lo w v acc M)(hm:Mv db F w w')(hv:Dv base A db F d w'):Gs base A db F d w0 tb x fr en lim lo w' v acc M:=by
 have OY:=h.ord x.p (by simp)
 refine h.keep hv (h.mv.trans hm) (wq.mv v hm) ?_ (h.ps.mv hm (by have:=h.S3;omega)) h.len (h.met.same (hm.one.block x.mb h.met.lt (by have:=h.ord x.mb (by simp);have:=h.S3;omega))) h.DH
 exact (hm.one.block x.p h.row.lt (by have:=h.S3;omega)).trans h.row
theorem Gs.below(h:Gs base A db F d w0 tb x fr en lim lo w v acc M)(hb:Below w.heap.size w w'):Gs base A db F d w0 tb x fr en lim lo w' v acc M:=h.go (Mv.of hb) (h.dv.below hb)
end
end T
end Go.Proofs.YtihmgigfkmofnaaGreatDoor
