import Derived.Test.YtihmgigfkmofnaaGreatDoorG12
import Derived.Shelf.Sort.Plain
import Derived.Shelf.Slices.CompactI
import Derived.Sort.OwnSortedInts
set_option maxHeartbeats 4000000
set_option maxRecDepth 20000
open Go.Proofs.Tryz
namespace Go.Proofs.YtihmgigfkmofnaaGreatDoor
namespace B
def fF(c:ByteArray):Lk:=(c.extract 1 (c.size - 4),(et (c.data.toList.drop (c.size - 4)):Int))
def uz(c:ByteArray):Bool:=decide (5≤c.size∧(c.data.toList.getD 0 0).toNat=c.size - 5)
theorem tO(s:ByteArray)(a b:Nat):(s.extract a b).data.toList=(s.data.toList.drop a).take (b - a):=by
 rw [ByteArray.data_extract,Array.toList_extract]
theorem KH(c:ByteArray)(h:5≤c.size):(fF c).1.size=c.size - 5:=by
 simp only [fF,ByteArray.size_extract];omega
theorem GH(c:ByteArray)(h:5≤c.size):c.data.toList=[c.data.toList.getD 0 0]++((fF c).1.data.toList++bI (fF c).2.toNat 4):=by
 have hl:(c.data.toList.drop (c.size - 4)).length=4:=by rw [ao,bsize];omega
 have e1:bI (fF c).2.toNat 4=c.data.toList.drop (c.size - 4):=by
  simp only [fF,bn];exact yF 4 _ hl (by decide)
 rw [e1];simp only [fF,tO];have e2:c.data.toList.drop (c.size - 4)=(c.data.toList.drop 1).drop (c.size - 4 - 1):=by rw [List.drop_drop,show 1+(c.size - 4 - 1)=c.size - 4 by omega]
 rw [e2,aE];cases hc:c.data.toList with
 | nil =>
  have h0:=bsize c;rw [hc,List.length_nil] at h0;omega
 | cons x r=>simp
theorem Hl{c:ByteArray}(h:uz c=true):mj (fF c)=c:=by
 obtain ⟨h1,h2⟩:=of_decide_eq_true h;refine jf ?_
 rw [jD,KH c h1];conv=>rhs;rw [GH c h1]
 congr 2
 apply UInt8.toNat_inj.1
 rw [h2];have:=(c.data.toList.getD 0 0).toNat_lt;simp;omega
theorem PU(a b:List UInt8)(n:Nat)(h:n=a.length):(a++b).drop n=b:=by rw [h,fH]
theorem xG(p:Lk)(h:gz p=true):fF (mj p)=p∧uz (mj p)=true:=by
 obtain ⟨h1,h2,h3,h4⟩:=kJ h;have hs:=yz p;refine ⟨?_,decide_eq_true ⟨by omega,?_⟩⟩
 ·refine Prod.ext ?_ ?_
  ·refine jf ?_
   simp only [fF,tO];rw [hs,jD,List.singleton_append,List.drop_succ_cons,List.drop_zero,show 5+p.1.size - 4 - 1=p.1.data.toList.length by rw [bsize];omega,ej]
  ·simp only [fF];rw [hs,jD,← ax,PU _ _ _ (by rw [ae,bsize];simp;omega),ml 4 _ (by decide) (by omega)]
   omega
 ·rw [jD,hs];simp;omega
theorem EY{c:ByteArray}(h:c.size=4):jS (et c.data.toList)=c:=by
 refine jf ?_
 rw [qU,yF 4 _ (by rw [bsize,h]) (by decide)]
def FG(L:List ByteArray):Int:=match L with
 | []=>0
 | c::_=>(et c.data.toList:Int)
def B7(L:List ByteArray):List Lk:=(L.drop 1).map fF
def zy(L:List ByteArray):Bool:=match L with
 | []=>false
 | c::cs=>decide (c.size=4) && cs.all uz
def vz(n:Nat)(b:List UInt8):Prop:=L7 b n∧zy (bT b n)=true∧mX (FG (bT b n)) (B7 (bT b n)) true=none
theorem U1{L:List ByteArray}(h:zy L=true):dw (FG L) (B7 L)=L:=by
 cases L with
 | nil=>cases h
 | cons c cs =>
  simp only [zy,cA,decide_eq_true_eq,lE] at h;unfold dw FG B7;simp only [bn,List.drop_succ_cons,List.drop_zero];rw [EY h.1,eG];congr 1
  conv=>rhs;rw [← List.map_id cs]
  exact gL (fun d hd=>Hl (h.2 d hd))
theorem LM{f:Int}{l:List Lk}(h:mX f l true=none):zy (dw f l)=true∧FG (dw f l)=f∧B7 (dw f l)=l:=by
 obtain ⟨h1,h2,h3,h4,h5,h6,h7⟩:=kD h;have hf:2≤f∧f<1048576:=of_decide_eq_true h2;refine ⟨?_,?_,?_⟩
 ·simp only [zy,dw,cA,decide_eq_true_eq,lE];refine ⟨qT _,fun c hc=>?_⟩
  obtain ⟨p,hp,rfl⟩:=List.mem_map.1 hc;exact (xG p (h3 p hp)).2
 ·simp only [FG,dw,qU];rw [ml 4 _ (by decide) (by omega)]
  omega
 ·simp only [B7,dw,List.drop_succ_cons,List.drop_zero,eG];conv=>rhs;rw [← List.map_id l]
  exact gL (fun p hp=>(xG p (h3 p hp)).1)
theorem PO{f:Int}{l:List Lk}(h:mX f l true=none):vz (l.length+1) (jl (dw f l))∧FG (bT (jl (dw f l)) (l.length+1))=f∧B7 (bT (jl (dw f l)) (l.length+1))=l:=by
 have hs:dN (dw f l)≤4072:=by rw [oc];exact (kD h).2.2.2.2.2.1
 have hc:=A0 (dw f l) hs;have ho:=qy (dw f l) hs;rw [mY] at hc ho;obtain ⟨h1,h2,h3⟩:=LM h;refine ⟨⟨ho,by rw [hc];exact h1,by rw [hc,h2,h3];exact h⟩,by rw [hc];exact h2,by rw [hc];exact h3⟩
open Go.RowKit
def zC(c:ByteArray):Int:=if c.size=4 then (et c.data.toList:Int) else 0
theorem uT(c:ByteArray)(w:World):Calls prog 192 #[.string c] w fun e w'=>e = .returned (.tuple #[.int .i64 (zC c),.bool (decide (c.size=4))])∧Below w.heap.size w w':=by
 by_cases h4:c.size=4
 ·have hv:zC c=(et c.data.toList:Int):=by unfold zC;rw [if_pos h4]
  have bX:=yD c.data.toList;have hl:c.data.toList.length=4:=by rw [bsize,h4]
  rw [hl] at bX;have yh:=run_bytes_of_string (P:=prog) w 9 145 5 c underlying9 underlying145 underlying5;generalize grownCap w c.size 0 5=cap at yh;have oB:=heap_alloc_new w.drew (.cells (bytesRow c cap) 5 ((bytesRow c cap).size,(bytesRow c cap).size+1));have fh:Below w.heap.size w (w.drew.alloc (.cells (bytesRow c cap) 5 ((bytesRow c cap).size,(bytesRow c cap).size+1))):=((Below.refl _ _).drew).alloc (aj _) _;have cp:w.heap.size<(w.drew.alloc (.cells (bytesRow c cap) 5 ((bytesRow c cap).size,(bytesRow c cap).size+1))).heap.size:=by
   simp
  generalize w.drew.alloc (.cells (bytesRow c cap) 5 ((bytesRow c cap).size,(bytesRow c cap).size+1))=W1 at *;have HG:=ab (PF w.heap.size 0 cap c.data.toList W1 (by omega) (by omega) cp (fun j hj=>by
   rw [Nat.zero_add,cell_of_row W1 w.heap.size j _ _ _ oB,bytesRow_at c cap j (by simpa using hj)]
   simp))
  rw [hl] at HG;rw [h4] at yh;obtain ⟨m,hm⟩ : ∃ m,m=et c.data.toList:=⟨_,rfl⟩;rw [← hm] at HG bX hv;have hw:IntKind.i64.wrap (m:Int)=(m:Int):=by rw [IntKind.wrap_i64];omega
  have hd:decide (c.size=4)=true:=decide_eq_true h4;have h4I:(c.size:Int)=4:=by omega
  have vY:((c.size:Int) != 4)=false:=by simp [h4I]
  have HV:=ab hv;have HD:=ab hd;have HB:=ab fh;clear hm bX hv hd oB fh cp hl h4 h4I;go_enter func192,ntmps192;go_wp2_with fail;refine HG.out.mono ?_
  rintro e w2 ⟨rfl,aY⟩;have bH:=ab (Below.next HB.out aY);clear aY HG yh;go_wp2;go_quiet (fail)
  go_wp2;go_ret2;exact ⟨by rw [HV.out,HD.out];rfl,aB bH.out _⟩
 ·have hv:zC c=0:=by unfold zC;rw [if_neg h4]
  have hd:decide (c.size=4)=false:=decide_eq_false h4;have vY:((c.size:Int) != 4)=true:=by rw [bne_iff_ne];omega
  have HV:=ab hv;have HD:=ab hd;clear hv hd h4;go_enter func192,ntmps192;go_wp2;go_ret2;exact ⟨by rw [HV.out,HD.out];rfl,Below.refl _ _⟩
theorem GG(c:ByteArray)(w:World)(hc:c.size≤4072):Calls prog 229 #[.string c] w fun e w'=>∃ (k:ByteArray) (x:Int),e = .returned (.tuple #[.agg #[.string k,.int .i64 x],.bool (uz c)])∧(uz c=true→(k,x)=fF c)∧Below w.heap.size w w':=by
 have q0:=ai w (.cells #[.string ⟨#[]⟩,.int .i64 0] 179);have x0:=au.new w #[.string ⟨#[]⟩,.int .i64 0] 179;by_cases h5:c.size<5
 ·have fy:uz c=false:=decide_eq_false (fun h=>by omega)
  have kh:=ab fy;have HQ:=ab q0;have HX:=ab x0;have h5I:(c.size:Int)<5:=by omega
  clear fy q0 x0 h5;go_enter func229,ntmps229;go_wp2;refine bodyPost_ret (aK rfl _ _ w.heap.size 179 _ (0,0) _ rfl HX.out underlying179 rfl (by kernel_rfl)) rfl ⟨_,_,by rw [kh.out];rfl,fun h=>(by rw [kh.out] at h;cases h),HQ.out⟩
 ·have h5':5≤c.size:=by omega
  obtain ⟨e,he⟩ : ∃ e,e=c.size - 4:=⟨_,rfl⟩;have hw:IntKind.i64.wrap ((c.size:Int) - 4)=(e:Int):=by rw [IntKind.wrap_i64];omega
  have h5I:¬ (c.size:Int)<5:=by omega
  have i1:(1:Int)≤(e:Int):=by omega
  have i2:(e:Int)≤(c.size:Int):=by omega
  have i3:(0:Int)≤(e:Int):=by omega
  have zF:(c.extract e c.size).size=4:=by rw [ByteArray.size_extract];omega
  have ep:(c.extract 1 e).size=c.size - 5:=by rw [ByteArray.size_extract];omega
  have Ya:(c.extract e c.size).data.toList=c.data.toList.drop (c.size - 4):=by
   rw [tO,ar (by rw [ao,bsize];exact aj _),he]
  have UL:=ab (fun W=>uT (c.extract e c.size) W)
  have FE:zC (c.extract e c.size)=(fF c).2:=by unfold zC;rw [if_pos zF,Ya];rfl
  rw [FE,decide_eq_true zF] at UL;have JF:Hid ((c.extract 1 e,(fF c).2)=fF c):=by show _=_;rw [he];rfl
  have h0:0<c.size:=by omega
  have mE:c.data.toList.getD 0 0=c[0]:=by
   rw [aJ,af (by rw [bsize];exact h0)];rfl
  have qZ:Hid (uz c=decide ((c[0].toNat:Int)=((c.extract 1 e).size:Int))):=by
   show _=_
   unfold uz;rw [mE,ep];congr 1
   apply propext
   constructor
   ·rintro ⟨_,h⟩;omega
   ·intro h;exact ⟨h5',by omega⟩
  obtain ⟨kk,Q1⟩ : ∃ kk,kk=c.extract 1 e:=⟨_,rfl⟩;obtain ⟨tt,htt⟩ : ∃ tt,tt=c.extract e c.size:=⟨_,rfl⟩;obtain ⟨x2,vS⟩ : ∃ x,x=(fF c).2:=⟨_,rfl⟩;have HKK:=ab Q1;have vf:=ab vS;have ag3:c.extract 1 e=kk:=Q1.symm;have ag2:c.extract e c.size=tt:=htt.symm;rw [← Q1] at JF qZ;rw [← htt,← vS] at UL;rw [← vS] at JF;have HQ:=ab q0;have HX:=ab x0;clear h5 h5' he zF ep Ya FE mE q0 x0 Q1 htt vS;go_enter func229,ntmps229;go_wp2_with fail;refine (UL.out _).mono ?_
  rintro e w1 ⟨rfl,aN⟩;have bN:=ab (Below.next HQ.out aN);have hx:=HX.out.below aN;have r0:=hx.c0;have r1:=hx.c1;have z0:=hx.free 0;have z1:=hx.free 1;have JB:=ab hx;obtain ⟨y,hy⟩ : ∃ y:Int,y=(c[0].toNat:Int):=⟨_,rfl⟩;have hy':(c[0].toNat:Int)=y:=hy.symm;rw [← hy] at qZ;obtain ⟨ok,cC⟩ : ∃ ok,ok=uz c:=⟨_,rfl⟩;have HOV:=ab cC;have vY:(y == (kk.size:Int))=ok:=by rw [cC,qZ.out];rfl
  have h0I:(0:Int)<(c.size:Int):=by omega
  have hyb:0≤y∧y<256:=by have:=c[0].toNat_lt;omega
  have hwy:IntKind.i64.wrap y=y:=by rw [IntKind.wrap_i64];omega
  clear aN hx UL cC hy hyb;go_wp2_with fail;go_region_held3 (fun _=>True) (go_keep) (fail)
  all_goals
   clear r0 r1 z0 z1 vY hwy hy';go_wp2_with fail;exact bodyPost_ret (aK rfl _ _ w.heap.size 179 _ (0,0) _ rfl (JB.out.two _ _).drew underlying179 rfl (by kernel_rfl)) rfl ⟨kk,x2,by rw [← HOV.out];rfl,fun _=>JF.out,aR (bP bN.out (aj _))⟩
def xF(cs:List ByteArray)(k:Nat):List Lk:=(cs.take k).map fF++List.replicate (cs.length - k) (⟨#[]⟩,0)
theorem DP(cs:List ByteArray)(k:Nat)(h:k≤cs.length):(xF cs k).length=cs.length:=by
 unfold xF;rw [ae,az,ag,bw];omega
theorem Oo(cs:List ByteArray)(k:Nat)(h:k<cs.length):(xF cs k).set k (fF cs[k])=xF cs (k+1):=by
 have hl:((cs.take k).map fF).length=k:=by rw [az,ag];omega
 unfold xF;rw [bO _ _ (by omega),hl,dI,ay h,aW,show cs.length - k=cs.length - (k+1)+1 by omega,List.replicate_succ,List.set_cons_zero,ax]
 rfl
theorem Oq(cs:List ByteArray):xF cs cs.length=cs.map fF:=by simp [xF]
theorem R7:∀ n:Nat,bg (List.replicate n ((⟨#[]⟩ : ByteArray),(0:Int)))=(madeCells (Value.agg #[.string ByteArray.empty,.int .i64 0]).cells (n*2)).toList:=by
 intro n;apply lD
 ·rw [a7,bw,Array.length_toList,size_madeCells]
 ·intro j h1 h2;rw [a7,bw] at h1;have hg:=ib (List.replicate n ((⟨#[]⟩ : ByteArray),(0:Int))) (j / 2) (by rw [bw];omega)
  rw [List.getElem_replicate] at hg;have e2:(madeCells (Value.agg #[.string ByteArray.empty,.int .i64 0]).cells (n*2)).toList[j]=(#[Value.string ByteArray.empty,Value.int .i64 0])[j % 2]!:=by
   simp [madeCells,Value.cells]
  rw [e2];rcases cy j with hm | hm
  ·have e:j / 2*2=j:=by omega
   rw [e] at hg;rw [hm];exact (List.getElem?_eq_some_iff.1 hg.1).2
  ·have e:j / 2*2+1=j:=by omega
   rw [e] at hg;rw [hm];exact (List.getElem?_eq_some_iff.1 hg.2).2
theorem DQ(ga:Nat)(oo n cap:Nat)(cs:List ByteArray)(w:World)(hn:n=cs.length)(xW:n≤2036)(fG:∀ c ∈ cs,c.size≤4072)(hc:∀ j (h:j<cs.length),w.cell? ⟨ga,oo+j,none⟩=some (.string cs[j]))(a:Option Addr)(ha:0<n→a=some ⟨ga,oo,none⟩):Calls prog 193 #[.slice a n cap] w fun e w'=>((cs.all uz=true∧∃ u,e = .returned (.tuple #[u,.bool true])∧bQ w' w.heap.size u (cs.map fF))∨(cs.all uz=false∧e = .returned (.tuple #[.slice none 0 0,.bool false])))∧Below w.heap.size w w':=by
 obtain ⟨i0,hi,hz,cp,kL⟩:=info_parts lV;obtain ⟨wm,pM,fP,pZ⟩:=run_make_full (P:=prog) w w.heap.size 148 179 i0 _ 2 underlying148 hi hz cp .i64 .i64 n (by rw [kL];omega) (by unfold maxLen;omega) (aj _)
 rw [← R7 n] at fP;have QZ:xF cs 0=List.replicate n ((⟨#[]⟩ : ByteArray),(0:Int)):=by simp [xF,hn]
 rw [← QZ] at fP;have aD:bQ wm w.heap.size (.slice (some ⟨w.heap.size,0,none⟩) n n) (xF cs 0):=by
  unfold bQ;rw [DP cs 0 (aC _),← hn];exact fP
 have Cw:Below w.heap.size w wm:=(Below.refl _ _).grown pZ (aj _) (fun j hj=>by cases hj)
 obtain ⟨b,hb⟩ : ∃ b,b=w.heap.size:=⟨_,rfl⟩;rw [← hb] at pM aD;have HB:=ab hb;have HO:=ab aD;have JH:=ab Cw;have HC:=ab hc;have HN:=ab hn;have FI:=ab fG;have HA:=ab ha;obtain ⟨Q,hQ⟩ : ∃ Q:Ending→World→Prop,Q=fun e w'=>((cs.all uz=true∧∃ u,e = .returned (.tuple #[u,.bool true])∧bQ w' w.heap.size u (cs.map fF))∨(cs.all uz=false∧e = .returned (.tuple #[.slice none 0 0,.bool false])))∧Below w.heap.size w w':=⟨_,rfl⟩
 rw [← hQ];have HQQ:=ab hQ;clear hQ hb aD Cw hc hn fG ha fP pZ hi hz cp kL QZ;go_enter func193,ntmps193;go_wp2;clear pM;go_loopw [14] (fun i wr=>∃ k:Nat,k≤n∧i = .int .i64 k∧bQ wr b (.slice (some ⟨b,0,none⟩) n n) (xF cs k)∧(∀ j (h:j<cs.length),j<k→uz cs[j]=true)∧Below w.heap.size w wr) (fun i _=>n - (intOf i).toNat)
 case atStart=>exact ⟨0,aC _,rfl,HO.out,fun j _ h=>absurd h (fZ _),JH.out⟩
 case round =>
  obtain ⟨k,hk,rfl,aD,iW,bL⟩:=hrel;clear HO JH;have HP:=ab iW;clear iW;by_cases bX:k<n
  ·have ep:k<cs.length:=by have:=HN.out;omega
   have ha:=HA.out (by omega)
   subst ha;have f1:=HC.out k ep;have c1:wr.cell? ⟨ga,oo+k,none⟩=some (.string cs[k]):=(bL.cell (p:=⟨ga,oo+k,none⟩) (World.block_lt_of_cell? w _ f1)).trans f1;have Z8:=ab (GG cs[k] wr (FI.out cs[k] (aH _)));have gN:=ab (Oo cs k ep);have oS:Hid (uz cs[k]=true→∀ j (h:j<cs.length),j<k+1→uz cs[j]=true):=fun hl j h hj=>by
    by_cases he:j=k
    ·subst he;exact hl
    ·exact HP.out j h (by omega)
   have kh:Hid (uz cs[k]=false→cs.all uz=false):=fun hl=>by rw [List.all_eq_false];exact ⟨cs[k],aH _,by simp [hl]⟩
   have kj:=ab (DP cs k (by omega))
   have dO:(k:Int)<(n:Int):=by omega
   have j0:(0:Int)≤(k:Int):=by omega
   have HO:=ab aD;have jY:=ab bL;obtain ⟨ck,kV⟩ : ∃ ck,ck=cs[k]:=⟨_,rfl⟩;rw [← kV] at c1 Z8 gN oS kh;clear aD bL f1 kV;go_wp2_with fail;refine Z8.out.mono ?_
   rintro e w1 ⟨kk,xx,rfl,oC,aN⟩;have q1:=ai w1 (.cells #[.string kk,.int .i64 xx] 179);have x1:=au.new w1 #[.string kk,.int .i64 xx] 179;have zT:=ab (Below.next jY.out (Below.next aN q1));have ho:=(HO.out.below aN).below q1;have r0:=x1.c0;have r1:=x1.c1;clear aN q1 Z8;cases cC:uz ck with
   | false =>
    have QG:=ab (kh.out cC);clear oS kh cC oC ho x1 c1;go_wp2;rw [HQQ.out];exact ⟨.inr ⟨QG.out,rfl⟩,zT.out⟩
   | true =>
    have Vu:=oC cC;have tY:=ab (oS.out cC);obtain ⟨⟨t1,s1⟩,⟨t2,s2⟩,z1,z2⟩:=ho.spot k (by rw [kj.out];exact ep)
    have hw:=ho.wrote k (kk,xx);rw [Vu,gN.out,← Vu] at hw;dsimp only at hw;have rl:=ab hw;have Zf:w.heap.size≤b:=by rw [HB.out];exact aj _
    have nN:=ab ((zT.out.setCell (p:=⟨b,k*2,none⟩) Zf (.string kk)).setCell (p:=⟨b,k*2+1,none⟩) Zf (.int .i64 xx));clear oC Vu oS kh cC ho hw x1 c1;go_wp2;go_roundw
    case rel=>exact ⟨k+1,by omega,by go_num,rl.out,tY.out,nN.out⟩
    case measure=>simp [intOf];omega
  ·have oD:k=cs.length:=by have:=HN.out;omega
   rw [oD,Oq] at aD;have HO:=ab aD;have jY:=ab bL;have Ie:Hid (cs.all uz=true):=List.all_eq_true.2 (fun c hc=>by
    obtain ⟨i,hi,rfl⟩:=aI hc;exact HP.out i hi (by omega))
   have dO:¬ (k:Int)<(n:Int):=by have:=HN.out;omega
   clear aD bL HP oD;go_wp2;rw [HQQ.out];refine ⟨.inl ⟨Ie.out,_,rfl,?_⟩,jY.out⟩;rw [← HB.out];exact HO.out
theorem wU{l:List Lk}{k:Nat}(hk:k<l.length)(h:∀ i (hi:i+1<l.length),i+1<k→df l[i].1 l[i+1].1=true)(hl:∀ (h0:0<k),df (l[k - 1]'(by omega)).1 l[k].1=true):∀ i (hi:i+1<l.length),i+1<k+1→df l[i].1 l[i+1].1=true:=fun i hi Q4=>by
 by_cases he:i+1=k
 ·have:=hl (by omega)
  simp only [show k=i+1 by omega] at this
  exact this
 ·exact h i hi (by omega)
theorem Ge(v:Value)(l:List Lk)(w:World)(hm:l.length≤140737488355328)(hr:dm w v l):Calls prog 158 #[v] w fun e w'=>e = .returned (.bool (decide (nA l)))∧Below w.heap.size w w':=by
 obtain ⟨a,cap,hv⟩:=hr.form;subst hv;obtain ⟨n,hn⟩ : ∃ n,n=l.length:=⟨_,rfl⟩;rw [← hn] at hr hm ⊢;have HR:=ab hr;have HN:=ab hn;obtain ⟨Q,hQ⟩ : ∃ Q:Ending→World→Prop,Q=fun e w'=>e = .returned (.bool (decide (nA l)))∧Below w.heap.size w w':=⟨_,rfl⟩
 rw [← hQ];have HQ:=ab hQ;clear hn hr hQ;go_enter func158,ntmps158;go_wp2;go_loopw [7] (fun i wr=>∃ k:Nat,k≤n∧i = .int .i64 k∧(∀ i (hi:i+1<l.length),i+1<k→df l[i].1 l[i+1].1=true)∧Below w.heap.size w wr) (fun i _=>n - (intOf i).toNat)
 case atStart=>exact ⟨0,aC _,rfl,fun j _ h=>absurd h (fZ _),Below.refl _ _⟩
 case round =>
  obtain ⟨k,hk,rfl,iW,bL⟩:=hrel;have HP:=ab iW;clear iW;by_cases bX:k<n
  ·have ep:k<l.length:=by have:=HN.out;omega
   obtain ⟨g,o,ha,c1,c2⟩:=(HR.out.below bL).spot k ep;have dO:(k:Int)<(n:Int):=by omega
   have j0:(0:Int)≤(k:Int):=by omega
   have fh:=ai wr (.cells #[.string l[k].1,.int .i64 l[k].2] 179);have HB:=ab (Below.next bL fh);have hx:=au.new wr #[.string l[k].1,.int .i64 l[k].2] 179;have b0:=hx.c0;by_cases h0:k=0
   ·have gN:=ab (wU ep HP.out (fun h=>by omega))
    generalize l[k].1=x1 at *;generalize l[k].2=x2 at *;subst ha;have hz:decide ((0:Int)<(k:Int))=false:=decide_eq_false (by omega)
    have pB:decide (0<k)=false:=decide_eq_false (by omega)
    have Mf:=ab h0;clear bL fh hx h0;go_wp2;go_quiet (fail)
    go_wp2;go_roundw
    case rel=>exact ⟨k+1,by omega,by go_num,gN.out,aB HB.out _⟩
    case measure=>simp [intOf];omega
   ·have yb:k - 1<l.length:=by omega
    obtain ⟨g',o',Zl,d1,d2⟩:=(HR.out.below bL).spot (k - 1) yb;rw [ha] at Zl;cases Zl;subst ha;have gN:Hid (df (l[k - 1]'yb).1 l[k].1=true→∀ i (hi:i+1<l.length),i+1<k+1→df l[i].1 l[i+1].1=true):=fun h=>wU ep HP.out (fun _=>h)
    have kh:Hid (df (l[k - 1]'yb).1 l[k].1=false→¬ nA l):=fun h hr=>by
     have:=hr (k - 1) (by omega)
     simp only [show k - 1+1=k by omega] at this
     rw [h] at this;cases this
    obtain ⟨k1,jm⟩ : ∃ k1,k1=k - 1:=⟨_,rfl⟩;have vT:IntKind.i64.wrap ((k:Int) - 1)=(k1:Int):=by rw [IntKind.wrap_i64];omega
    have hz:(0:Int)<(k:Int):=by omega
    have pB:0<k:=by omega
    have j1:(k1:Int)<(n:Int):=by omega
    have j2:(0:Int)≤(k1:Int):=by omega
    generalize (l[k - 1]'yb).1=y1 at *;rw [← jm] at d1;have e1:=(fh.cell (p:=⟨g,o+k1*2,none⟩) (World.block_lt_of_cell? wr _ d1)).trans d1;generalize l[k].1=x1 at *;generalize l[k].2=x2 at *;clear bL fh hx h0 jm d1 d2 yb;cases hb:df y1 x1 with
    | true =>
     have jJ:Op.bytesLess y1.toList x1.toList=true:=hb;have nJ:=ab (gN.out hb);clear hb gN kh;go_wp2;go_quiet (fail)
     go_wp2;go_roundw
     case rel=>exact ⟨k+1,by omega,by go_num,nJ.out,aB HB.out _⟩
     case measure=>simp [intOf];omega
    | false =>
     have jJ:Op.bytesLess y1.toList x1.toList=false:=hb;have nJ:=ab (kh.out hb);clear hb gN kh;go_wp2;go_quiet (fail)
     go_wp2;rw [HQ.out];exact ⟨by rw [decide_eq_false nJ.out];rfl,aB HB.out _⟩
  ·have dO:¬ (k:Int)<(n:Int):=by omega
   have Ie:Hid (nA l):=fun i hi=>HP.out i hi (by have:=HN.out;omega)
   have HB:=ab bL;clear bL HP;go_wp2;rw [HQ.out];exact ⟨by rw [decide_eq_true Ie.out],HB.out⟩
end B
end Go.Proofs.YtihmgigfkmofnaaGreatDoor
def Tryz.DV:Go.Shelf.Ren:=⟨fun | 125=>106 | 128=>145 | 129=>146 | 189=>68 | 215=>181 | 216=>142 | 257=>105 | 294=>136 | 295=>137 | 296=>138 | 297=>139 | 298=>140 | 299=>141 | 300=>143 | 301=>144 | 328=>176 | 329=>177 | 330=>178 | 331=>179 | 332=>180 | 343=>221 | n=>n,fun | 0=>0 | 3=>3 | 4=>4 | 5=>5 | 9=>9 | 28=>69 | 46=>183 | 51=>225 | 53=>40 | 131=>72 | 182=>218 | 183=>219 | 218=>260 | 222=>264 | 228=>306 | 229=>307 | n=>n,fun | n=>n⟩
theorem Tryz.Sa:Go.Proofs.Lays.n189 prog Tryz.DV:={
 mixed:=by kernel_rfl
 f125:=func106.trans (congrArg some (by kernel_rfl))
 f128:=func145.trans (congrArg some (by kernel_rfl))
 f129:=func146.trans (congrArg some (by kernel_rfl))
 f189:=func68.trans (congrArg some (by kernel_rfl))
 f215:=func181.trans (congrArg some (by kernel_rfl))
 f216:=func142.trans (congrArg some (by kernel_rfl))
 f257:=func105.trans (congrArg some (by kernel_rfl))
 f294:=func136.trans (congrArg some (by kernel_rfl))
 f295:=func137.trans (congrArg some (by kernel_rfl))
 f296:=func138.trans (congrArg some (by kernel_rfl))
 f297:=func139.trans (congrArg some (by kernel_rfl))
 f298:=func140.trans (congrArg some (by kernel_rfl))
 f299:=func141.trans (congrArg some (by kernel_rfl))
 f300:=func143.trans (congrArg some (by kernel_rfl))
 f301:=func144.trans (congrArg some (by kernel_rfl))
 f328:=func176.trans (congrArg some (by kernel_rfl))
 f329:=func177.trans (congrArg some (by kernel_rfl))
 f330:=func178.trans (congrArg some (by kernel_rfl))
 f331:=func179.trans (congrArg some (by kernel_rfl))
 f332:=func180.trans (congrArg some (by kernel_rfl))
 f343:=func221.trans (congrArg some (by kernel_rfl))
 t0:=underlying0
 a0:=isAgg0
 z0:=sizeOf0
 v0:=zeroValue0
 t3:=underlying3
 a3:=isAgg3
 z3:=sizeOf3
 v3:=zeroValue3
 t4:=underlying4
 a4:=isAgg4
 z4:=sizeOf4
 v4:=zeroValue4
 t5:=underlying5
 a5:=isAgg5
 z5:=sizeOf5
 v5:=zeroValue5
 t9:=underlying9
 a9:=isAgg9
 z9:=sizeOf9
 v9:=zeroValue9
 t28:=underlying69
 a28:=isAgg69
 z28:=sizeOf69
 v28:=zeroValue69
 t46:=underlying183
 a46:=isAgg183
 z46:=sizeOf183
 v46:=zeroValue183
 t51:=underlying225
 a51:=isAgg225
 z51:=sizeOf225
 v51:=zeroValue225
 t53:=underlying40
 a53:=isAgg40
 z53:=sizeOf40
 v53:=zeroValue40
 t131:=underlying72
 a131:=isAgg72
 z131:=sizeOf72
 v131:=zeroValue72
 t182:=underlying218
 a182:=isAgg218
 z182:=sizeOf218
 v182:=zeroValue218
 t183:=underlying219
 a183:=isAgg219
 z183:=sizeOf219
 v183:=zeroValue219
 t218:=underlying260
 a218:=isAgg260
 z218:=sizeOf260
 v218:=zeroValue260
 t222:=underlying264
 a222:=isAgg264
 z222:=sizeOf264
 v222:=zeroValue264
 t228:=underlying306
 a228:=isAgg306
 z228:=sizeOf306
 v228:=zeroValue306
 t229:=underlying307
 a229:=isAgg307
 z229:=sizeOf307
 v229:=zeroValue307 }
def Tryz.GI:Go.Shelf.Ren:=⟨fun | 20=>200 | n=>n,fun | 0=>0 | 3=>3 | 4=>4 | 22=>69 | n=>n,fun | n=>n⟩
theorem Tryz.U5:Go.Proofs.Lays2.n20 prog Tryz.GI:={
 mixed:=by kernel_rfl
 f20:=func200.trans (congrArg some (by kernel_rfl))
 t0:=underlying0
 a0:=isAgg0
 z0:=sizeOf0
 v0:=zeroValue0
 t3:=underlying3
 a3:=isAgg3
 z3:=sizeOf3
 v3:=zeroValue3
 t4:=underlying4
 a4:=isAgg4
 z4:=sizeOf4
 v4:=zeroValue4
 t22:=underlying69
 a22:=isAgg69
 z22:=sizeOf69
 v22:=zeroValue69
 i3:=by kernel_rfl }
namespace Go.Proofs.YtihmgigfkmofnaaGreatDoor
namespace B
open Go.RowKit
theorem Kk(base:Nat)(v:Value)(xs:List Int)(x:Int)(t:TypeId)(w w0:World)(B n:Nat)(hn:xs.length=n)(aD:w.ownsRow base 3 1 v n (ints xs))(hb:(n+1)*8≤140737488355328)(dr:base≤w.heap.size)(hB:B≤base)(h0:Below B w0 w):∃ a' eO w',(Builtin.append_ #[69,69] 69 #[v,.slice (some ⟨w.heap.size,0,none⟩) 1 1]).run prog (w.alloc (.cells #[.int .i64 x] t)) = .ok (.slice a' (n+1) eO) w'∧w'.ownsRow base 3 1 (.slice a' (n+1) eO) (n+1) (ints (xs++[x]))∧Below B w0 w'∧w.heap.size≤w'.heap.size:=by
 subst hn;have hr:nh (w.alloc (.cells #[.int .i64 x] t)) (.slice (some ⟨w.heap.size,0,none⟩) 1 1) [.int .i64 x]:=by
  have pO:=bM w #[.int .i64 x] t;refine ⟨_,_,rfl,aj _,fun h=>(by cases h),fun j u hj=>⟨_,_,rfl,?_⟩⟩
  have Mu:j=0:=by
   have:=(List.getElem?_eq_some_iff.1 hj).1;simpa using this
  subst Mu;cases hj;exact pO.2 0 (by simp)
 obtain ⟨a',eO,w',bo,gk,hg⟩:=ng 69 3 _ 8 info3 underlying69 rfl base xs.length v (ints xs) _ (World.ownsRow.alloc aD _) _ _ hr (fun u hu=>by simp at hu;subst hu;rfl) (by simpa using hb) (by decide) (by simp;omega)
 refine ⟨a',eO,w',bo,by rw [ox];exact gk,?_,?_⟩
 ·exact (h0.alloc (aq hB dr) _).grown hg (by simp;omega) (fun k hk=>aq hB (World.ownsRow.lt aD k hk).1)
 ·have:=hg.size;simp at this
  omega
theorem xJ(f:Int)(l:List Lk)(k:Nat)(h:k<l.length):kids f (l.take (k+1))=kids f (l.take k)++[l[k].2]:=by
 unfold kids;rw [ay h,aW];rfl
theorem Kt{w:World}{base e n:Nat}{v:Value}{xs:List Value}(h:w.ownsRow base e 1 v n xs):∃ a c,v = .slice a n c:=by
 rcases h.2 with ⟨rfl,rfl⟩ | ⟨g,cap,cur,rfl,_⟩
 ·exact ⟨_,_,rfl⟩
 ·exact ⟨_,_,rfl⟩
theorem NR{w:World}{b b2 e n:Nat}{v:Value}{xs:List Value}(h:w.ownsRow b e 1 v n xs)(hb:b2≤b):w.ownsRow b2 e 1 v n xs:=by
 refine ⟨h.1,?_⟩;rcases h.2 with h' | ⟨g,cap,cur,h',h1,hr⟩
 ·exact .inl h'
 ·exact .inr ⟨g,cap,cur,h',aq hb h1,hr⟩
theorem OC(f:Int)(v:Value)(l:List Lk)(w:World)(hm:l.length≤5864062014805)(hr:dm w v l):Calls prog 199 #[.agg #[.int .i64 f,v]] w fun e w'=>∃ u,e = .returned u∧w'.ownsRow w.heap.size 3 1 u (l.length+1) (ints (kids f l))∧Below w.heap.size w w':=by
 obtain ⟨a,cap,hv⟩:=hr.form;subst hv;obtain ⟨n,hn⟩ : ∃ n,n=l.length:=⟨_,rfl⟩;rw [← hn] at hr hm ⊢;have q0:=ai w (.cells #[.int .i64 f,.slice a n cap] 150);have x0:=au.new w #[.int .i64 f,.slice a n cap] 150;generalize Cy:w.alloc (.cells #[.int .i64 f,.slice a n cap] 150)=W0 at *;have q1:=ai W0 (.cells #[.int .i64 f] 3);have o1:(W0.alloc (.cells #[.int .i64 f] 3)).ownsRow W0.heap.size 3 1 (.slice (some ⟨W0.heap.size,0,none⟩) 1 1) 1 (ints [f]):=World.ownsRow_lit W0 #[.int .i64 f] 1 (aj _) (by decide) rfl
 generalize lf:W0.alloc (.cells #[.int .i64 f] 3)=W1 at *;have p0:=x0.c0;have p1:=(x0.below q1).c1;have HR:=ab (hr.below q0);have HN:=ab hn;have HQ:=ab (Below.next q0 q1);have ZU:=ab q0;have tX:=ab q1;have pH:=ab o1;clear hn hr q0 x0 q1 o1;go_enter func199,ntmps199;go_wp2;clear p0 p1;go_loopw [3,12] (fun u i wr=>∃ k:Nat,k≤n∧i = .int .i64 k∧wr.ownsRow W0.heap.size 3 1 u (k+1) (ints (kids f (l.take k)))∧Below W0.heap.size W0 wr) (fun _ i _=>n - (intOf i).toNat)
 case atStart=>exact ⟨0,aC _,rfl,by simpa [kids] using pH.out,tX.out⟩
 case round =>
  obtain ⟨k,hk,rfl,aD,bL⟩:=hrel;have mC:(kids f (l.take k)).length=k+1:=by rw [sf,ag];have:=HN.out;omega
  obtain ⟨ua,uc,hu⟩:=Kt aD;subst hu;by_cases bX:k<n
  ·have ep:k<l.length:=by have:=HN.out;omega
   obtain ⟨g,o,rfl,c1,c2⟩:=(HR.out.below bL).spot k ep;have HS:=ab (xJ f l k ep);have q2:=ai wr (.cells #[.string l[k].1,.int .i64 l[k].2] 179);have hx:=au.new wr #[.string l[k].1,.int .i64 l[k].2] 179;obtain ⟨a3,cp3,w2,bo,dq,aN,_⟩:=Kk W0.heap.size _ _ l[k].2 3 _ W0 W0.heap.size (k+1) mC (iP aD q2) (by omega) (aq bL.size q2.size) (aj _) (Below.next bL q2)
   rw [← HS.out] at dq;generalize l[k].1=s1 at *;generalize l[k].2=s2 at *;have b1:=hx.c1;have HO:=ab dq;have HB:=ab aN;have dO:(k:Int)<(n:Int):=by omega
   have hz:(wr.alloc (.cells #[.string s1,.int .i64 s2] 179)).heap.size=wr.heap.size+1:=by simp
   rw [hz] at bo;clear aD dq aN bL HS mC q2 hx hz;go_wp2_with (first | (at_builtin;have h0:=bo;clear bo;refine wpList_append_run 69 rfl (.tmp 16) (.tmp 19) rfl rfl _ _ rfl rfl _ _ h0 ?_;clear h0))
   go_wp2;go_roundw
   case rel=>exact ⟨k+1,by omega,by go_num,HO.out,HB.out⟩
   case measure=>simp [intOf];omega
  ·have oD:k=n:=by omega
   have cZ:l.take k=l:=by rw [ar];have:=HN.out;omega
   rw [cZ] at aD;have HO:=ab aD;have HB:=ab (Below.next ZU.out bL);have dO:¬ (k:Int)<(n:Int):=by omega
   clear aD bL cZ mC;go_wp2;go_ret;refine ⟨_,rfl,?_,HB.out⟩;rw [← oD];exact NR HO.out ZU.out.size
open Go.Sort
theorem qP{α:Type}(p:α→Bool):∀ l:List α,(l.filter p).length≤l.length∧((l.filter p).length=l.length↔∀ x ∈ l,p x=true)
 | []=>by simp
 | x::r=>by
  obtain ⟨h1,h2⟩:=qP p r;cases hx:p x with
  | true =>
   rw [List.filter_cons_of_pos hx];refine ⟨by simp;omega,?_⟩
   simp only [List.length_cons,dG,forall_eq_or_imp,hx,true_and];rw [← h2];omega
  | false =>
   rw [List.filter_cons_of_neg (by simp [hx])]
   refine ⟨by simp;omega,?_⟩
   simp only [List.length_cons,dG,forall_eq_or_imp,hx];constructor
   ·intro h;omega
   ·rintro ⟨h,_⟩;cases h
theorem EN(zs:List Int)(hs:zs.Pairwise (·≤·)):(Lib.compact zs).length=zs.length↔zs.Nodup:=by
 unfold Lib.compact Lib.compactUpTo;rw [az];have h:=(qP (Lib.keeps zs.toArray) (List.range zs.length)).2;rw [List.length_range] at h;rw [h];constructor
 ·intro hk;rw [List.nodup_iff_pairwise_ne];rw [List.pairwise_iff_getElem] at hs ⊢;intro i j hi hj SE he;have hj1:=hk j (List.mem_range.2 hj);unfold Lib.keeps at hj1;rcases of_decide_eq_true hj1 with h0 | h0
  ·omega
  ·apply h0
   have e1:zs.toArray[j]! = zs[j]:=by simp [hj]
   have lW:j - 1<zs.length:=by omega
   have e2:zs.toArray[j - 1]! = zs[j - 1]:=by simp [lW]
   rw [e1,e2];have agJ:zs[j - 1]≤zs[j]:=hs (j - 1) j lW hj (by omega)
   have GX:zs[i]≤zs[j - 1]:=by
    by_cases hij':i=j - 1
    ·subst hij';exact Int.le_refl _
    ·exact hs i (j - 1) hi lW (by omega)
   omega
 ·intro hn j hj;have hj:=List.mem_range.1 hj;unfold Lib.keeps;apply decide_eq_true
  by_cases h0:j=0
  ·exact .inl h0
  ·refine .inr (fun he=>?_)
   have lW:j - 1<zs.length:=by omega
   have e1:zs.toArray[j]! = zs[j]:=by simp [hj]
   have e2:zs.toArray[j - 1]! = zs[j - 1]:=by simp [lW]
   rw [e1,e2] at he;rw [List.nodup_iff_pairwise_ne,List.pairwise_iff_getElem] at hn;exact hn (j - 1) j lW hj (by omega) he.symm
theorem yu(zs:List Int):(Lib.compact zs).length≤zs.length:=by
 unfold Lib.compact Lib.compactUpTo;rw [az];have:=(qP (Lib.keeps zs.toArray) (List.range zs.length)).1;rwa [List.length_range] at this
def pK(f:Int)(l:List Lk):List Int:=(kids f l).mergeSort fun x y=>decide (x≤y)
theorem D5(f:Int)(l:List Lk):(pK f l).length=l.length+1:=by unfold pK;rw [List.length_mergeSort,sf]
theorem BJ(f:Int)(l:List Lk):decide ((Lib.compact (pK f l)).length≤l.length)=decide (¬ (kids f l).Nodup):=by
 have hs:(pK f l).Pairwise (·≤·):=by
  have:=List.pairwise_mergeSort (le:=fun x y:Int=>decide (x≤y)) (fun a b c h1 h2=>by simp at *;omega) (fun a b=>by simp;omega) (kids f l)
  exact this.imp (fun h=>by simpa using h)
 have hp:(pK f l).Perm (kids f l):=List.mergeSort_perm _ _;have h1:=EN (pK f l) hs;have h2:=yu (pK f l);rw [D5] at h1 h2;have ji:(pK f l).Nodup↔(kids f l).Nodup:=hp.nodup_iff;congr 1
 apply propext
 rw [← ji,← h1];omega
theorem z7(g cap:Nat)(zs:List Int)(w:World)(hH:Holds (Value.int .i64) w g 0 zs.toArray)(hg:g<w.heap.size)(hz:zs.length<4611686018427387904):Calls prog 68 #[.slice (some ⟨g,0,none⟩) zs.length cap] w fun e w'=>e = .returned (.tuple #[])∧∃ n os,w'=grow (putRow (Value.int .i64) (Sort.ahead w n) g 0 (zs.mergeSort fun x y=>decide (x≤y)).toArray) os :=
 Any.slices_Sort_int Tryz.Sa g 0 cap zs w hH hg hz
theorem LH(g cap:Nat)(zs:List Int)(w:World)(hH:Holds (Value.int .i64) w g 0 zs.toArray)(hz:zs.length≤9223372036854775807)(hc:zs.length≤cap):Calls prog 200 #[.slice (some ⟨g,0,none⟩) zs.length cap] w fun e w'=>e = .returned (.slice (some ⟨g,0,none⟩) (Lib.compact zs).length cap)∧∃ q,w'=putRow (Value.int .i64) (Sort.ahead w q) g 0 (Lib.compact zs++List.replicate (zs.length - (Lib.compact zs).length) 0).toArray :=
 Any.slices_Compact_int Tryz.U5 g 0 cap zs w hH hz hc
theorem BU{w:World}{g n:Nat}(d:Array Int):w.grownBy (putRow (Value.int .i64) (Sort.ahead w n) g 0 d) (some g):=by
 refine ⟨rfl,rfl,rfl,by simp,fun k hk ey=>?_⟩
 have:g≠k:=fun e=>ey (by rw [e])
 simp [putRow,mapBlock,Sort.ahead,Array.getElem?_modify,this]
theorem JW(f:Int)(v:Value)(l:List Lk)(w:World)(hm:l.length≤5864062014805)(hr:dm w v l):Calls prog 159 #[.agg #[.int .i64 f,v]] w fun e w'=>e = .returned (.bool (decide (¬ (kids f l).Nodup)))∧Below w.heap.size w w':=by
 rw [← BJ];obtain ⟨cl,zg⟩ : ∃ c,c=(Lib.compact (pK f l)).length:=⟨_,rfl⟩;rw [← zg];have aaj:=ab zg;clear zg;obtain ⟨a,cap,hv⟩:=hr.form;subst hv;obtain ⟨n,hn⟩ : ∃ n,n=l.length:=⟨_,rfl⟩;rw [← hn] at hr hm ⊢;have q0:=ai w (.cells #[.int .i64 f,.slice a n cap] 150);have x0:=au.new w #[.int .i64 f,.slice a n cap] 150;have s0:(w.alloc (.cells #[.int .i64 f,.slice a n cap] 150)).heap.size=w.heap.size+1:=by simp
 generalize Cy:w.alloc (.cells #[.int .i64 f,.slice a n cap] 150)=W0 at *;have p0:=x0.c0;have p1:=x0.c1;have HK:=ab (OC f _ l W0 (by omega) (hr.below q0))
 have HN:=ab hn;have HX:=ab x0;have HQ:=ab q0;have Fb:=ab s0;have QA:=ab (D5 f l);clear hn hr q0 x0 s0;go_enter func159,ntmps159;go_wp2_with fail;refine HK.out.mono ?_
 rintro e w1 ⟨u,rfl,aD,aN⟩;rw [← HN.out] at aD;obtain ⟨g,gc,cur,si,dr,hb,h1,h2,h3,h4⟩ : ∃ g gc cur,u=Value.slice (some ⟨g,0,none⟩) (n+1) gc∧W0.heap.size≤g∧w1.heap[g]?=some (.cells cur 3 (0,0))∧n+1≤gc∧gc≤maxLen∧cur.size=gc*1∧cur.toList.take ((n+1)*1)=(kids f l).map (Value.int .i64):=by
  rcases aD.2 with ⟨_,h0⟩ | h
  ·omega
  ·exact h
 subst si;have ep:(kids f l).length=n+1:=by rw [sf,← HN.out]
 have hH:Holds (Value.int .i64) w1 g 0 (kids f l).toArray:=holds_of_blockI hb (by rw [ep];simpa using h4)
 have ye:g<w1.heap.size:=(Array.getElem?_eq_some_iff.1 hb).1;have QB:Hid (Calls prog 68 #[.slice (some ⟨g,0,none⟩) (n+1) gc] w1 fun e w'=>e = .returned (.tuple #[])∧w'.ownsRow W0.heap.size 3 1 (.slice (some ⟨g,0,none⟩) (n+1) gc) (n+1) ((pK f l).map (Value.int .i64))∧Below W0.heap.size W0 w'):=by
  have hc:=z7 g gc (kids f l) w1 hH ye (by omega)
  rw [ep] at hc;refine hc.mono ?_
  rintro e w' ⟨rfl,q,os,rfl⟩;refine ⟨rfl,?_,aN.grown (grownBy_sortedI _) aN.size (fun j hj=>by cases hj;exact dr)⟩
  have:=ownsRow_sortedI (w:=w1) (base:=W0.heap.size) (n:=q) (os:=os) (ss:=kids f l) (ts:=pK f l) (by rw [QA.out,sf]) dr hb (by omega) h2 h3
  rwa [ep] at this
 clear aD hb h1 h3 h4 ep hH ye HK aN p0 p1;go_wp2_with fail;refine QB.out.mono ?_
 rintro e w2 ⟨rfl,dW,aY⟩;have p1:=(HX.out.below aY).c1;have zm:Hid (∀ W,Below w2.heap.size w2 W→Calls prog 200 #[.slice (some ⟨g,0,none⟩) (n+1) gc] W fun e w'=>e = .returned (.slice (some ⟨g,0,none⟩) cl gc)∧Below W0.heap.size W0 w'):=fun W hW=>by
  rw [aaj.out];obtain ⟨g',Zx,cur,si,acw,hb,h1,h2,h3,h4⟩ : ∃ g' Zx cur,Value.slice (some ⟨g,0,none⟩) (n+1) gc=Value.slice (some ⟨g',0,none⟩) (n+1) Zx∧W0.heap.size≤g'∧w2.heap[g']?=some (.cells cur 3 (0,0))∧n+1≤Zx∧Zx≤maxLen∧cur.size=Zx*1∧cur.toList.take ((n+1)*1)=(pK f l).map (Value.int .i64):=by
   rcases dW.2 with ⟨_,h0⟩ | h
   ·omega
   ·exact h
  cases si;have qE:(pK f l).length=n+1:=by rw [QA.out,← HN.out]
  have ye:g<w2.heap.size:=(Array.getElem?_eq_some_iff.1 hb).1;have Jh:W.heap[g]?=some (.cells cur 3 (0,0)):=by rw [hW.block g ye];exact hb
  have hH:Holds (Value.int .i64) W g 0 (pK f l).toArray:=holds_of_blockI Jh (by rw [qE];simpa using h4)
  have hc:=LH g gc (pK f l) W hH (by omega) (by omega)
  rw [qE] at hc;refine hc.mono ?_
  rintro e w' ⟨rfl,q,rfl⟩;exact ⟨rfl,(Below.next aY hW).grown (BU _) (aq aY.size hW.size) (fun j hj=>by cases hj;exact dr)⟩
 have zl:Hid (cl≤n+1):=by
  have:=yu (pK f l);rw [QA.out,← HN.out,← aaj.out] at this;exact this
 have bH:=ab aY;clear dW aY QB h2 dr;have ag8:cl≤140737488355328:=by have:cl≤n+1:=zl.out;omega
 go_wp2_with fail;go_region_held3 (fun w'=>w'.cell? ⟨w.heap.size,1,none⟩=some (.slice a n cap)) (go_keep)
  (first
   | (go_at_call 200;refine (zm.out _ ?_).mono ?_;(exact (Below.refl _ _).drew);rintro e w3 ⟨rfl,b6⟩;have dH:=ab b6;have m1:w3.cell? ⟨w.heap.size,1,none⟩=some (.slice a n cap):=(HX.out.below b6).c1;clear b6))
 all_goals
  clear zm p1 m1;go_wp2;go_ret;exact ⟨by simp,Below.next HQ.out dH.out⟩
end B
end Go.Proofs.YtihmgigfkmofnaaGreatDoor
namespace Go.Proofs.YtihmgigfkmofnaaGreatDoor
namespace B
open Go.RowKit
def pT(A:Nat→Addr)(w:World):Prop:=dk 5 fl A w∧w.cell? ⟨11,0,none⟩=some (.iface 360 (.pointer (some (A 11))))
theorem pT.below{A:Nat→Addr}{w w':World}(h:pT A w)(hb:Below w.heap.size w w'):pT A w' :=
 ⟨h.1.keep hb,(hb.cell (p:=⟨11,0,none⟩) (World.block_lt_of_cell? w _ h.2)).trans h.2⟩
theorem EF{A:Nat→Addr}{w:World}(h:dk 13 fl A w):pT A w:=⟨h.JQ (by decide),(h.1 11 (by decide)).1⟩
theorem pT.c{A:Nat→Addr}{w:World}(h:pT A w):jG A w:=⟨h.1.JQ (by decide),h.2⟩
def ES(n:Nat)(b1 b2 b3 root:Bool)(x:Int):Option Nat :=
 if n=0 then some 3 else if b1=false then some 0 else if b2=false then some 11 else if b3=true then some 4 else if (4072:Int)<x then some 2 else if root=false∧x<1777 then some 3 else none
theorem Tb(f:Int)(l:List Lk)(root:Bool)(hm:l.length≤5864062014805):ES l.length (fV f && l.all gz) (decide (nA l)) (decide (¬ (kids f l).Nodup)) root (pU (jw l))=mX f l root:=by
 unfold ES mX;by_cases h0:l=[]
 ·subst h0;rfl
 ·rw [if_neg (by simpa using h0),if_neg h0]
  cases h1:(fV f && l.all gz) with
  | false=>simp
  | true =>
   simp only [oU,if_false];have ha:l.all gz=true:=by
    rw [cA] at h1;exact h1.2
   have hs:=Rt ha;have hw:pU (jw l)=(jw l:Int):=ky (by omega)
   rw [hw];by_cases h2:nA l
   ·simp only [h2,decide_true,oU,if_false,not_true_eq_false];by_cases h3:(kids f l).Nodup
    ·simp only [h3,not_true_eq_false,decide_false,oV,if_false];by_cases h4:4072<jw l
     ·rw [if_pos (by omega),if_pos h4]
     ·rw [if_neg (by omega),if_neg h4]
      by_cases h5:root=false∧jw l<1777
      ·rw [if_pos ⟨h5.1,by omega⟩,if_pos h5]
      ·rw [if_neg (fun h=>h5 ⟨h.1,by omega⟩),if_neg h5]
    ·simp [h3]
   ·simp [h2]
theorem yE(A:Nat→Addr)(f:Int)(v:Value)(l:List Lk)(root:Bool)(w:World)(cC:Uz l)(hm:l.length≤5864062014805)(hr:dm w v l)(hE:pT A w):Calls prog 117 #[.agg #[.int .i64 f,v],.bool root] w fun e w'=>e = .returned (im A (mX f l root))∧Below w.heap.size w w':=by
 rw [← Tb f l root hm];obtain ⟨a,cap,hv⟩:=hr.form;subst hv;obtain ⟨n,hn⟩ : ∃ n,n=l.length:=⟨_,rfl⟩;rw [← hn] at hr hm ⊢;have q0:=ai w (.cells #[.int .i64 f,.slice a n cap] 150);have x0:=au.new w #[.int .i64 f,.slice a n cap] 150;generalize Cy:w.alloc (.cells #[.int .i64 f,.slice a n cap] 150)=W0 at *;have p0:=x0.c0;have p1:=x0.c1;have HQ:=ab q0;have HX:=ab x0;have HE:=ab (hE.below q0);have HR:=ab (hr.below q0);have H1:=ab (A2 f _ l W0 cC (by omega) HR.out)
 have H2:Hid (∀ W,Below W0.heap.size W0 W→Calls prog 157 #[.agg #[.int .i64 f,.slice a n cap]] W fun e w'=>e = .returned (.bool (fV f && l.all gz))∧Below W.heap.size W w'):=fun W h=>Hu f _ l W (by omega) (HR.out.below h)
 have H3:Hid (∀ W,Below W0.heap.size W0 W→Calls prog 158 #[.slice a n cap] W fun e w'=>e = .returned (.bool (decide (nA l)))∧Below W.heap.size W w'):=fun W h=>Ge _ l W (by omega) (HR.out.below h)
 have H4:Hid (∀ W,Below W0.heap.size W0 W→Calls prog 159 #[.agg #[.int .i64 f,.slice a n cap]] W fun e w'=>e = .returned (.bool (decide (¬ (kids f l).Nodup)))∧Below W.heap.size W w'):=fun W h=>JW f _ l W (by omega) (HR.out.below h)
 obtain ⟨b1,aN⟩ : ∃ b,b=(fV f && l.all gz):=⟨_,rfl⟩;obtain ⟨b2,aY⟩ : ∃ b,b=decide (nA l):=⟨_,rfl⟩;obtain ⟨b3,b6⟩ : ∃ b,b=decide (¬ (kids f l).Nodup):=⟨_,rfl⟩;obtain ⟨x,hx⟩ : ∃ x,x=pU (jw l):=⟨_,rfl⟩;rw [← aN] at H2 ⊢;rw [← aY] at H3 ⊢;rw [← b6] at H4 ⊢;rw [← hx] at H1 ⊢;clear hn hr hE cC q0 x0 aN aY b6 hx HR;have HC:Hid (∀ W k,Below W0.heap.size W0 W→k<5→W.cell? ⟨fl k,0,none⟩=some (.iface 360 (.pointer (some (A k))))):=fun W k h hk=>((HE.out.below h).1.1 k hk).1
 go_enter func117,ntmps117;go_wp2_with fail;refine H1.out.mono ?_
 rintro e w1 ⟨rfl,aN⟩;have bN:=ab aN;have o0:=(HX.out.below aN).c0;have o1:=(HX.out.below aN).c1;clear aN H1 p0 p1;by_cases h0:n=0
 ·subst h0;have c3:w1.cell? ⟨3,0,none⟩=some (.iface 360 (.pointer (some (A 3)))):=HC.out w1 3 bN.out (by decide)
  have HB:=ab (Below.next HQ.out bN.out);clear H2 H3 H4;go_wp2;go_ret;exact ⟨rfl,HB.out⟩
 ·have G3:((n:Int) == 0)=false:=by rw [beq_eq_false_iff_ne];omega
  have qY:Hid (ES n b1 b2 b3 root x=if b1=false then some 0 else if b2=false then some 11 else if b3=true then some 4 else if (4072:Int)<x then some 2 else if root=false∧x<1777 then some 3 else none):=by show _=_;unfold ES;rw [if_neg h0]
  go_wp2_with fail;refine (H2.out _ bN.out).mono ?_
  rintro e w2 ⟨rfl,aY⟩;have bH:=ab (Below.next bN.out aY);clear aY H2 o0 o1 bN;have o0:=(HX.out.below bH.out).c0;have o1:=(HX.out.below bH.out).c1;cases b1 with
  | false =>
   have c0:w2.cell? ⟨0,0,none⟩=some (.iface 360 (.pointer (some (A 0)))):=HC.out w2 0 bH.out (by decide)
   have HB:=ab (Below.next HQ.out bH.out);clear H3 H4;go_wp2;go_ret;exact ⟨by rw [qY.out];rfl,HB.out⟩
  | true =>
   go_wp2_with fail;refine (H3.out _ bH.out).mono ?_
   rintro e w3 ⟨rfl,b6⟩;have dH:=ab (Below.next bH.out b6);clear b6 H3 o0 o1 bH;have o0:=(HX.out.below dH.out).c0;have o1:=(HX.out.below dH.out).c1;cases b2 with
   | false =>
    have c11:w3.cell? ⟨11,0,none⟩=some (.iface 360 (.pointer (some (A 11)))):=(HE.out.below dH.out).2;have HB:=ab (Below.next HQ.out dH.out);clear H4;go_wp2;go_ret;exact ⟨by rw [qY.out];rfl,HB.out⟩
   | true =>
    go_wp2_with fail;refine (H4.out _ dH.out).mono ?_
    rintro e w4 ⟨rfl,gH⟩;have gY:=ab (Below.next dH.out gH);clear gH H4 o0 o1 dH;cases b3 with
    | true =>
     have c4:w4.cell? ⟨4,0,none⟩=some (.iface 360 (.pointer (some (A 4)))):=HC.out w4 4 gY.out (by decide)
     have HB:=ab (Below.next HQ.out gY.out);go_wp2;go_ret;exact ⟨by rw [qY.out];rfl,HB.out⟩
    | false =>
     have HB:=ab (Below.next HQ.out gY.out);by_cases h4:(4072:Int)<x
     ·have c2:w4.cell? ⟨2,0,none⟩=some (.iface 360 (.pointer (some (A 2)))):=HC.out w4 2 gY.out (by decide)
      have nF:ES n true true false root x=some 2:=by rw [qY.out];simp [h4]
      have wi:=ab nF;clear nF;go_wp2;go_ret;exact ⟨by rw [wi.out];rfl,HB.out⟩
     ·cases root with
      | true =>
       have nF:ES n true true false true x=none:=by rw [qY.out];simp [h4]
       have wi:=ab nF;clear nF;go_wp2;go_ret;exact ⟨by rw [wi.out];rfl,HB.out⟩
      | false =>
       by_cases h5:x<1777
       ·have c3:w4.cell? ⟨3,0,none⟩=some (.iface 360 (.pointer (some (A 3)))):=HC.out w4 3 gY.out (by decide)
        have nF:ES n true true false false x=some 3:=by rw [qY.out];simp [h4,h5]
        have wi:=ab nF;clear nF;go_wp2;go_ret;exact ⟨by rw [wi.out];rfl,HB.out⟩
       ·have nF:ES n true true false false x=none:=by rw [qY.out];simp [h4,h5]
        have wi:=ab nF;clear nF;go_wp2;go_ret;exact ⟨by rw [wi.out];rfl,HB.out⟩
end B
end Go.Proofs.YtihmgigfkmofnaaGreatDoor
