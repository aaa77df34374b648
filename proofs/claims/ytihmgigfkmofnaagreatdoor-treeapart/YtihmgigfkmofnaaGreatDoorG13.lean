import Derived.Test.YtihmgigfkmofnaaGreatDoorG12
import Derived.Shelf.Sort.Plain
import Derived.Shelf.Slices.CompactI
import Derived.Sort.OwnSortedInts
set_option maxHeartbeats 4000000
set_option maxRecDepth 20000
open Go.Proofs.Tryz
namespace Go.Proofs.YtihmgigfkmofnaaGreatDoor
namespace B
def fD(c:ByteArray):Lk:=(c.extract 1 (c.size - 4),(eo (c.data.toList.drop (c.size - 4)):Int))
def tQ(c:ByteArray):Bool:=decide (5≤c.size∧(c.data.toList.getD 0 0).toNat=c.size - 5)
theorem ti(s:ByteArray)(a b:Nat):(s.extract a b).data.toList=(s.data.toList.drop a).take (b - a):=by
 rw [ByteArray.data_extract,Array.toList_extract]
theorem KK(c:ByteArray)(h:5≤c.size):(fD c).1.size=c.size - 5:=by
 simp only [fD,ByteArray.size_extract];omega
theorem Gv(c:ByteArray)(h:5≤c.size):c.data.toList=[c.data.toList.getD 0 0]++((fD c).1.data.toList++bI (fD c).2.toNat 4):=by
 have hl:(c.data.toList.drop (c.size - 4)).length=4:=by rw [ao,bsize];omega
 have e1:bI (fD c).2.toNat 4=c.data.toList.drop (c.size - 4):=by
  simp only [fD,bm];exact yh 4 _ hl (by decide)
 rw [e1];simp only [fD,ti];have e2:c.data.toList.drop (c.size - 4)=(c.data.toList.drop 1).drop (c.size - 4 - 1):=by rw [List.drop_drop,show 1+(c.size - 4 - 1)=c.size - 4 by omega]
 rw [e2,aH];cases hc:c.data.toList with
 | nil =>
  have h0:=bsize c;rw [hc,List.length_nil] at h0;omega
 | cons x r=>simp
theorem Hf{c:ByteArray}(h:tQ c=true):mq (fD c)=c:=by
 obtain ⟨h1,h2⟩:=of_decide_eq_true h;refine hO ?_
 rw [jH,KK c h1];conv=>rhs;rw [Gv c h1]
 congr 2
 apply UInt8.toNat_inj.1
 rw [h2];have:=(c.data.toList.getD 0 0).toNat_lt;simp;omega
theorem P2(a b:List UInt8)(n:Nat)(h:n=a.length):(a++b).drop n=b:=by rw [h,fF]
theorem xj(p:Lk)(h:gy p=true):fD (mq p)=p∧tQ (mq p)=true:=by
 obtain ⟨h1,h2,h3,h4⟩:=kV h;have hs:=xZ p;refine ⟨?_,decide_eq_true ⟨by omega,?_⟩⟩
 ·refine Prod.ext ?_ ?_
  ·refine hO ?_
   simp only [fD,ti];rw [hs,jH,List.singleton_append,List.drop_succ_cons,List.drop_zero,show 5+p.1.size - 4 - 1=p.1.data.toList.length by rw [bsize];omega,ee]
  ·simp only [fD];rw [hs,jH,← ax,P2 _ _ _ (by rw [ae,bsize];simp;omega),mr 4 _ (by decide) (by omega)]
   omega
 ·rw [jH,hs];simp;omega
theorem EK{c:ByteArray}(h:c.size=4):jY (eo c.data.toList)=c:=by
 refine hO ?_
 rw [qE,yh 4 _ (by rw [bsize,h]) (by decide)]
def Fp(L:List ByteArray):Int:=match L with
 | []=>0
 | c::_=>(eo c.data.toList:Int)
def BL(L:List ByteArray):List Lk:=(L.drop 1).map fD
def yN(L:List ByteArray):Bool:=match L with
 | []=>false
 | c::cs=>decide (c.size=4) && cs.all tQ
def uZ(n:Nat)(b:List UInt8):Prop:=Mn b n∧yN (bX b n)=true∧mX (Fp (bX b n)) (BL (bX b n)) true=none
theorem Vy{L:List ByteArray}(h:yN L=true):dw (Fp L) (BL L)=L:=by
 cases L with
 | nil=>cases h
 | cons c cs =>
  simp only [yN,cz,decide_eq_true_eq,lS] at h;unfold dw Fp BL;simp only [bm,List.drop_succ_cons,List.drop_zero];rw [EK h.1,eF];congr 1
  conv=>rhs;rw [← List.map_id cs]
  exact gI (fun d hd=>Hf (h.2 d hd))
theorem L0{f:Int}{l:List Lk}(h:mX f l true=none):yN (dw f l)=true∧Fp (dw f l)=f∧BL (dw f l)=l:=by
 obtain ⟨h1,h2,h3,h4,h5,h6,h7⟩:=kN h;have hf:2≤f∧f<1048576:=of_decide_eq_true h2;refine ⟨?_,?_,?_⟩
 ·simp only [yN,dw,cz,decide_eq_true_eq,lS];refine ⟨qD _,fun c hc=>?_⟩
  obtain ⟨p,hp,rfl⟩:=List.mem_map.1 hc;exact (xj p (h3 p hp)).2
 ·simp only [Fp,dw,qE];rw [mr 4 _ (by decide) (by omega)]
  omega
 ·simp only [BL,dw,List.drop_succ_cons,List.drop_zero,eF];conv=>rhs;rw [← List.map_id l]
  exact gI (fun p hp=>(xj p (h3 p hp)).1)
theorem PX{f:Int}{l:List Lk}(h:mX f l true=none):uZ (l.length+1) (js (dw f l))∧Fp (bX (js (dw f l)) (l.length+1))=f∧BL (bX (js (dw f l)) (l.length+1))=l:=by
 have hs:dO (dw f l)≤4072:=by rw [n9];exact (kN h).2.2.2.2.2.1
 have hc:=AE (dw f l) hs;have ho:=ql (dw f l) hs;rw [mY] at hc ho;obtain ⟨h1,h2,h3⟩:=L0 h;refine ⟨⟨ho,by rw [hc];exact h1,by rw [hc,h2,h3];exact h⟩,by rw [hc];exact h2,by rw [hc];exact h3⟩
open Go.RowKit
def yQ(c:ByteArray):Int:=if c.size=4 then (eo c.data.toList:Int) else 0
theorem uy(c:ByteArray)(w:World):Calls prog 192 #[.string c] w fun e w'=>e = .returned (.tuple #[.int .i64 (yQ c),.bool (decide (c.size=4))])∧Below w.heap.size w w':=by
 by_cases h4:c.size=4
 ·have hv:yQ c=(eo c.data.toList:Int):=by unfold yQ;rw [if_pos h4]
  have bN:=yf c.data.toList;have hl:c.data.toList.length=4:=by rw [bsize,h4]
  rw [hl] at bN;have xJ:=run_bytes_of_string (P:=prog) w 9 145 5 c underlying9 underlying145 underlying5;generalize grownCap w c.size 0 5=cap at xJ;have me:=heap_alloc_new w.drew (.cells (bytesRow c cap) 5 ((bytesRow c cap).size,(bytesRow c cap).size+1));have eU:Below w.heap.size w (w.drew.alloc (.cells (bytesRow c cap) 5 ((bytesRow c cap).size,(bytesRow c cap).size+1))):=((Below.refl _ _).drew).alloc (aj _) _;have b7:w.heap.size<(w.drew.alloc (.cells (bytesRow c cap) 5 ((bytesRow c cap).size,(bytesRow c cap).size+1))).heap.size:=by
   simp
  generalize w.drew.alloc (.cells (bytesRow c cap) 5 ((bytesRow c cap).size,(bytesRow c cap).size+1))=W1 at *;have HG:=ab (PO w.heap.size 0 cap c.data.toList W1 (by omega) (by omega) b7 (fun j hj=>by
   rw [Nat.zero_add,cell_of_row W1 w.heap.size j _ _ _ me,bytesRow_at c cap j (by simpa using hj)]
   simp))
  rw [hl] at HG;rw [h4] at xJ;obtain ⟨m,hm⟩ : ∃ m,m=eo c.data.toList:=⟨_,rfl⟩;rw [← hm] at HG bN hv;have hw:IntKind.i64.wrap (m:Int)=(m:Int):=by rw [IntKind.wrap_i64];omega
  have hd:decide (c.size=4)=true:=decide_eq_true h4;have h4I:(c.size:Int)=4:=by omega
  have vA:((c.size:Int) != 4)=false:=by simp [h4I]
  have HV:=ab hv;have HD:=ab hd;have HB:=ab eU;clear hm bN hv hd me eU b7 hl h4 h4I;go_enter func192,ntmps192;go_wp2_with fail;refine HG.out.mono ?_
  rintro e w2 ⟨rfl,aU⟩;have bH:=ab (Below.next HB.out aU);clear aU HG xJ;go_wp2;go_quiet (fail)
  go_wp2;go_ret2;exact ⟨by rw [HV.out,HD.out];rfl,aA bH.out _⟩
 ·have hv:yQ c=0:=by unfold yQ;rw [if_neg h4]
  have hd:decide (c.size=4)=false:=decide_eq_false h4;have vA:((c.size:Int) != 4)=true:=by rw [bne_iff_ne];omega
  have HV:=ab hv;have HD:=ab hd;clear hv hd h4;go_enter func192,ntmps192;go_wp2;go_ret2;exact ⟨by rw [HV.out,HD.out];rfl,Below.refl _ _⟩
theorem Gu(c:ByteArray)(w:World)(hc:c.size≤4072):Calls prog 229 #[.string c] w fun e w'=>∃ (k:ByteArray) (x:Int),e = .returned (.tuple #[.agg #[.string k,.int .i64 x],.bool (tQ c)])∧(tQ c=true→(k,x)=fD c)∧Below w.heap.size w w':=by
 have q0:=ai w (.cells #[.string ⟨#[]⟩,.int .i64 0] 179);have x0:=au.new w #[.string ⟨#[]⟩,.int .i64 0] 179;by_cases h5:c.size<5
 ·have fJ:tQ c=false:=decide_eq_false (fun h=>by omega)
  have kB:=ab fJ;have HQ:=ab q0;have HX:=ab x0;have h5I:(c.size:Int)<5:=by omega
  clear fJ q0 x0 h5;go_enter func229,ntmps229;go_wp2;refine bodyPost_ret (aK rfl _ _ w.heap.size 179 _ (0,0) _ rfl HX.out underlying179 rfl (by kernel_rfl)) rfl ⟨_,_,by rw [kB.out];rfl,fun h=>(by rw [kB.out] at h;cases h),HQ.out⟩
 ·have h5':5≤c.size:=by omega
  obtain ⟨e,he⟩ : ∃ e,e=c.size - 4:=⟨_,rfl⟩;have hw:IntKind.i64.wrap ((c.size:Int) - 4)=(e:Int):=by rw [IntKind.wrap_i64];omega
  have h5I:¬ (c.size:Int)<5:=by omega
  have i1:(1:Int)≤(e:Int):=by omega
  have i2:(e:Int)≤(c.size:Int):=by omega
  have i3:(0:Int)≤(e:Int):=by omega
  have yT:(c.extract e c.size).size=4:=by rw [ByteArray.size_extract];omega
  have cL:(c.extract 1 e).size=c.size - 5:=by rw [ByteArray.size_extract];omega
  have YC:(c.extract e c.size).data.toList=c.data.toList.drop (c.size - 4):=by
   rw [ti,al (by rw [ao,bsize];exact aj _),he]
  have Vg:=ab (fun W=>uy (c.extract e c.size) W)
  have Fj:yQ (c.extract e c.size)=(fD c).2:=by unfold yQ;rw [if_pos yT,YC];rfl
  rw [Fj,decide_eq_true yT] at Vg;have Fu:Hid ((c.extract 1 e,(fD c).2)=fD c):=by show _=_;rw [he];rfl
  have h0:0<c.size:=by omega
  have lM:c.data.toList.getD 0 0=c[0]:=by
   rw [aJ,af (by rw [bsize];exact h0)];rfl
  have pw:Hid (tQ c=decide ((c[0].toNat:Int)=((c.extract 1 e).size:Int))):=by
   show _=_
   unfold tQ;rw [lM,cL];congr 1
   apply propext
   constructor
   ·rintro ⟨_,h⟩;omega
   ·intro h;exact ⟨h5',by omega⟩
  obtain ⟨kk,Ri⟩ : ∃ kk,kk=c.extract 1 e:=⟨_,rfl⟩;obtain ⟨tt,htt⟩ : ∃ tt,tt=c.extract e c.size:=⟨_,rfl⟩;obtain ⟨x2,vu⟩ : ∃ x,x=(fD c).2:=⟨_,rfl⟩;have HKK:=ab Ri;have nB:=ab vu;have ait:c.extract 1 e=kk:=Ri.symm;have ais:c.extract e c.size=tt:=htt.symm;rw [← Ri] at Fu pw;rw [← htt,← vu] at Vg;rw [← vu] at Fu;have HQ:=ab q0;have HX:=ab x0;clear h5 h5' he yT cL YC Fj lM q0 x0 Ri htt vu;go_enter func229,ntmps229;go_wp2_with fail;refine (Vg.out _).mono ?_
  rintro e w1 ⟨rfl,aL⟩;have bP:=ab (Below.next HQ.out aL);have hx:=HX.out.below aL;have r0:=hx.c0;have r1:=hx.c1;have z0:=hx.free 0;have z1:=hx.free 1;have Ju:=ab hx;obtain ⟨y,hy⟩ : ∃ y:Int,y=(c[0].toNat:Int):=⟨_,rfl⟩;have hy':(c[0].toNat:Int)=y:=hy.symm;rw [← hy] at pw;obtain ⟨ok,cN⟩ : ∃ ok,ok=tQ c:=⟨_,rfl⟩;have HOV:=ab cN;have vA:(y == (kk.size:Int))=ok:=by rw [cN,pw.out];rfl
  have h0I:(0:Int)<(c.size:Int):=by omega
  have hyb:0≤y∧y<256:=by have:=c[0].toNat_lt;omega
  have hwy:IntKind.i64.wrap y=y:=by rw [IntKind.wrap_i64];omega
  clear aL hx Vg cN hy hyb;go_wp2_with fail;go_region_held3 (fun _=>True) (go_keep) (fail)
  all_goals
   clear r0 r1 z0 z1 vA hwy hy';go_wp2_with fail;exact bodyPost_ret (aK rfl _ _ w.heap.size 179 _ (0,0) _ rfl (Ju.out.two _ _).drew underlying179 rfl (by kernel_rfl)) rfl ⟨kk,x2,by rw [← HOV.out];rfl,fun _=>Fu.out,aO (b9 bP.out (aj _))⟩
def xh(cs:List ByteArray)(k:Nat):List Lk:=(cs.take k).map fD++List.replicate (cs.length - k) (⟨#[]⟩,0)
theorem DA(cs:List ByteArray)(k:Nat)(h:k≤cs.length):(xh cs k).length=cs.length:=by
 unfold xh;rw [ae,az,ag,bu];omega
theorem OA(cs:List ByteArray)(k:Nat)(h:k<cs.length):(xh cs k).set k (fD cs[k])=xh cs (k+1):=by
 have hl:((cs.take k).map fD).length=k:=by rw [az,ag];omega
 unfold xh;rw [bV _ _ (by omega),hl,dL,ay h,bt,show cs.length - k=cs.length - (k+1)+1 by omega,List.replicate_succ,List.set_cons_zero,ax]
 rfl
theorem OB(cs:List ByteArray):xh cs cs.length=cs.map fD:=by simp [xh]
theorem Ss:∀ n:Nat,a8 (List.replicate n ((⟨#[]⟩ : ByteArray),(0:Int)))=(madeCells (Value.agg #[.string ByteArray.empty,.int .i64 0]).cells (n*2)).toList:=by
 intro n;apply lR
 ·rw [aS,bu,Array.length_toList,size_madeCells]
 ·intro j h1 h2;rw [aS,bu] at h1;have hg:=fw (List.replicate n ((⟨#[]⟩ : ByteArray),(0:Int))) (j / 2) (by rw [bu];omega)
  rw [List.getElem_replicate] at hg;have e2:(madeCells (Value.agg #[.string ByteArray.empty,.int .i64 0]).cells (n*2)).toList[j]=(#[Value.string ByteArray.empty,Value.int .i64 0])[j % 2]!:=by
   simp [madeCells,Value.cells]
  rw [e2];rcases bU j with hm | hm
  ·have e:j / 2*2=j:=by omega
   rw [e] at hg;rw [hm];exact (List.getElem?_eq_some_iff.1 hg.1).2
  ·have e:j / 2*2+1=j:=by omega
   rw [e] at hg;rw [hm];exact (List.getElem?_eq_some_iff.1 hg.2).2
theorem DB(ga:Nat)(oo n cap:Nat)(cs:List ByteArray)(w:World)(hn:n=cs.length)(nL:n≤2036)(fH:∀ c ∈ cs,c.size≤4072)(hc:∀ j (h:j<cs.length),w.cell? ⟨ga,oo+j,none⟩=some (.string cs[j]))(a:Option Addr)(ha:0<n→a=some ⟨ga,oo,none⟩):Calls prog 193 #[.slice a n cap] w fun e w'=>((cs.all tQ=true∧∃ u,e = .returned (.tuple #[u,.bool true])∧b6 w' w.heap.size u (cs.map fD))∨(cs.all tQ=false∧e = .returned (.tuple #[.slice none 0 0,.bool false])))∧Below w.heap.size w w':=by
 obtain ⟨i0,hi,hz,b7,kF⟩:=info_parts lB;obtain ⟨wm,pC,fP,pR⟩:=run_make_full (P:=prog) w w.heap.size 148 179 i0 _ 2 underlying148 hi hz b7 .i64 .i64 n (by rw [kF];omega) (by unfold maxLen;omega) (aj _)
 rw [← Ss n] at fP;have Rh:xh cs 0=List.replicate n ((⟨#[]⟩ : ByteArray),(0:Int)):=by simp [xh,hn]
 rw [← Rh] at fP;have aE:b6 wm w.heap.size (.slice (some ⟨w.heap.size,0,none⟩) n n) (xh cs 0):=by
  unfold b6;rw [DA cs 0 (aD _),← hn];exact fP
 have Ca:Below w.heap.size w wm:=(Below.refl _ _).grown pR (aj _) (fun j hj=>by cases hj)
 obtain ⟨b,hb⟩ : ∃ b,b=w.heap.size:=⟨_,rfl⟩;rw [← hb] at pC aE;have HB:=ab hb;have HO:=ab aE;have JA:=ab Ca;have HC:=ab hc;have HN:=ab hn;have Fv:=ab fH;have HA:=ab ha;obtain ⟨Q,hQ⟩ : ∃ Q:Ending→World→Prop,Q=fun e w'=>((cs.all tQ=true∧∃ u,e = .returned (.tuple #[u,.bool true])∧b6 w' w.heap.size u (cs.map fD))∨(cs.all tQ=false∧e = .returned (.tuple #[.slice none 0 0,.bool false])))∧Below w.heap.size w w':=⟨_,rfl⟩
 rw [← hQ];have HQQ:=ab hQ;clear hQ hb aE Ca hc hn fH ha fP pR hi hz b7 kF Rh;go_enter func193,ntmps193;go_wp2;clear pC;go_loopw [14] (fun i wr=>∃ k:Nat,k≤n∧i = .int .i64 k∧b6 wr b (.slice (some ⟨b,0,none⟩) n n) (xh cs k)∧(∀ j (h:j<cs.length),j<k→tQ cs[j]=true)∧Below w.heap.size w wr) (fun i _=>n - (intOf i).toNat)
 case atStart=>exact ⟨0,aD _,rfl,HO.out,fun j _ h=>absurd h (im _),JA.out⟩
 case round =>
  obtain ⟨k,hk,rfl,aE,jg,bO⟩:=hrel;clear HO JA;have HP:=ab jg;clear jg;by_cases bN:k<n
  ·have cL:k<cs.length:=by have:=HN.out;omega
   have ha:=HA.out (by omega)
   subst ha;have f1:=HC.out k cL;have c1:wr.cell? ⟨ga,oo+k,none⟩=some (.string cs[k]):=(bO.cell (p:=⟨ga,oo+k,none⟩) (World.block_lt_of_cell? w _ f1)).trans f1;have HLO:=ab (Gu cs[k] wr (Fv.out cs[k] (aG _)));have gS:=ab (OA cs k cL);have pI:Hid (tQ cs[k]=true→∀ j (h:j<cs.length),j<k+1→tQ cs[j]=true):=fun hl j h hj=>by
    by_cases he:j=k
    ·subst he;exact hl
    ·exact HP.out j h (by omega)
   have kB:Hid (tQ cs[k]=false→cs.all tQ=false):=fun hl=>by rw [List.all_eq_false];exact ⟨cs[k],aG _,by simp [hl]⟩
   have lU:=ab (DA cs k (by omega))
   have dP:(k:Int)<(n:Int):=by omega
   have j0:(0:Int)≤(k:Int):=by omega
   have HO:=ab aE;have jQ:=ab bO;obtain ⟨ck,lu⟩ : ∃ ck,ck=cs[k]:=⟨_,rfl⟩;rw [← lu] at c1 HLO gS pI kB;clear aE bO f1 lu;go_wp2_with fail;refine HLO.out.mono ?_
   rintro e w1 ⟨kk,xx,rfl,mf,aL⟩;have q1:=ai w1 (.cells #[.string kk,.int .i64 xx] 179);have x1:=au.new w1 #[.string kk,.int .i64 xx] 179;have zq:=ab (Below.next jQ.out (Below.next aL q1));have ho:=(HO.out.below aL).below q1;have r0:=x1.c0;have r1:=x1.c1;clear aL q1 HLO;cases cN:tQ ck with
   | false =>
    have QP:=ab (kB.out cN);clear pI kB cN mf ho x1 c1;go_wp2;rw [HQQ.out];exact ⟨.inr ⟨QP.out,rfl⟩,zq.out⟩
   | true =>
    have V3:=mf cN;have tF:=ab (pI.out cN);obtain ⟨⟨t1,s1⟩,⟨t2,s2⟩,z1,z2⟩:=ho.spot k (by rw [lU.out];exact cL)
    have hw:=ho.wrote k (kk,xx);rw [V3,gS.out,← V3] at hw;dsimp only at hw;have qO:=ab hw;have ZV:w.heap.size≤b:=by rw [HB.out];exact aj _
    have vI:=ab ((zq.out.setCell (p:=⟨b,k*2,none⟩) ZV (.string kk)).setCell (p:=⟨b,k*2+1,none⟩) ZV (.int .i64 xx));clear mf V3 pI kB cN ho hw x1 c1;go_wp2;go_roundw
    case rel=>exact ⟨k+1,by omega,by go_num,qO.out,tF.out,vI.out⟩
    case measure=>simp [intOf];omega
  ·have nM:k=cs.length:=by have:=HN.out;omega
   rw [nM,OB] at aE;have HO:=ab aE;have jQ:=ab bO;have H7:Hid (cs.all tQ=true):=List.all_eq_true.2 (fun c hc=>by
    obtain ⟨i,hi,rfl⟩:=aQ hc;exact HP.out i hi (by omega))
   have dP:¬ (k:Int)<(n:Int):=by have:=HN.out;omega
   clear aE bO HP nM;go_wp2;rw [HQQ.out];refine ⟨.inl ⟨H7.out,_,rfl,?_⟩,jQ.out⟩;rw [← HB.out];exact HO.out
theorem wo{l:List Lk}{k:Nat}(hk:k<l.length)(h:∀ i (hi:i+1<l.length),i+1<k→cR l[i].1 l[i+1].1=true)(hl:∀ (h0:0<k),cR (l[k - 1]'(by omega)).1 l[k].1=true):∀ i (hi:i+1<l.length),i+1<k+1→cR l[i].1 l[i+1].1=true:=fun i hi Fk=>by
 by_cases he:i+1=k
 ·have:=hl (by omega)
  simp only [show k=i+1 by omega] at this
  exact this
 ·exact h i hi (by omega)
theorem FV(v:Value)(l:List Lk)(w:World)(hm:l.length≤140737488355328)(hr:di w v l):Calls prog 158 #[v] w fun e w'=>e = .returned (.bool (decide (nz l)))∧Below w.heap.size w w':=by
 obtain ⟨a,cap,hv⟩:=hr.form;subst hv;obtain ⟨n,hn⟩ : ∃ n,n=l.length:=⟨_,rfl⟩;rw [← hn] at hr hm ⊢;have HR:=ab hr;have HN:=ab hn;obtain ⟨Q,hQ⟩ : ∃ Q:Ending→World→Prop,Q=fun e w'=>e = .returned (.bool (decide (nz l)))∧Below w.heap.size w w':=⟨_,rfl⟩
 rw [← hQ];have HQ:=ab hQ;clear hn hr hQ;go_enter func158,ntmps158;go_wp2;go_loopw [7] (fun i wr=>∃ k:Nat,k≤n∧i = .int .i64 k∧(∀ i (hi:i+1<l.length),i+1<k→cR l[i].1 l[i+1].1=true)∧Below w.heap.size w wr) (fun i _=>n - (intOf i).toNat)
 case atStart=>exact ⟨0,aD _,rfl,fun j _ h=>absurd h (im _),Below.refl _ _⟩
 case round =>
  obtain ⟨k,hk,rfl,jg,bO⟩:=hrel;have HP:=ab jg;clear jg;by_cases bN:k<n
  ·have cL:k<l.length:=by have:=HN.out;omega
   obtain ⟨g,o,ha,c1,c2⟩:=(HR.out.below bO).spot k cL;have dP:(k:Int)<(n:Int):=by omega
   have j0:(0:Int)≤(k:Int):=by omega
   have eU:=ai wr (.cells #[.string l[k].1,.int .i64 l[k].2] 179);have HB:=ab (Below.next bO eU);have hx:=au.new wr #[.string l[k].1,.int .i64 l[k].2] 179;have b0:=hx.c0;by_cases h0:k=0
   ·have gS:=ab (wo cL HP.out (fun h=>by omega))
    generalize l[k].1=x1 at *;generalize l[k].2=x2 at *;subst ha;have hz:decide ((0:Int)<(k:Int))=false:=decide_eq_false (by omega)
    have o7:decide (0<k)=false:=decide_eq_false (by omega)
    have Ms:=ab h0;clear bO eU hx h0;go_wp2;go_quiet (fail)
    go_wp2;go_roundw
    case rel=>exact ⟨k+1,by omega,by go_num,gS.out,aA HB.out _⟩
    case measure=>simp [intOf];omega
   ·have xF:k - 1<l.length:=by omega
    obtain ⟨g',o',Z5,d1,d2⟩:=(HR.out.below bO).spot (k - 1) xF;rw [ha] at Z5;cases Z5;subst ha;have gS:Hid (cR (l[k - 1]'xF).1 l[k].1=true→∀ i (hi:i+1<l.length),i+1<k+1→cR l[i].1 l[i+1].1=true):=fun h=>wo cL HP.out (fun _=>h)
    have kB:Hid (cR (l[k - 1]'xF).1 l[k].1=false→¬ nz l):=fun h hr=>by
     have:=hr (k - 1) (by omega)
     simp only [show k - 1+1=k by omega] at this
     rw [h] at this;cases this
    obtain ⟨k1,jv⟩ : ∃ k1,k1=k - 1:=⟨_,rfl⟩;have vw:IntKind.i64.wrap ((k:Int) - 1)=(k1:Int):=by rw [IntKind.wrap_i64];omega
    have hz:(0:Int)<(k:Int):=by omega
    have o7:0<k:=by omega
    have j1:(k1:Int)<(n:Int):=by omega
    have j2:(0:Int)≤(k1:Int):=by omega
    generalize (l[k - 1]'xF).1=y1 at *;rw [← jv] at d1;have e1:=(eU.cell (p:=⟨g,o+k1*2,none⟩) (World.block_lt_of_cell? wr _ d1)).trans d1;generalize l[k].1=x1 at *;generalize l[k].2=x2 at *;clear bO eU hx h0 jv d1 d2 xF;cases hb:cR y1 x1 with
    | true =>
     have jt:Op.bytesLess y1.toList x1.toList=true:=hb;have ll:=ab (gS.out hb);clear hb gS kB;go_wp2;go_quiet (fail)
     go_wp2;go_roundw
     case rel=>exact ⟨k+1,by omega,by go_num,ll.out,aA HB.out _⟩
     case measure=>simp [intOf];omega
    | false =>
     have jt:Op.bytesLess y1.toList x1.toList=false:=hb;have ll:=ab (kB.out hb);clear hb gS kB;go_wp2;go_quiet (fail)
     go_wp2;rw [HQ.out];exact ⟨by rw [decide_eq_false ll.out];rfl,aA HB.out _⟩
  ·have dP:¬ (k:Int)<(n:Int):=by omega
   have H7:Hid (nz l):=fun i hi=>HP.out i hi (by have:=HN.out;omega)
   have HB:=ab bO;clear bO HP;go_wp2;rw [HQ.out];exact ⟨by rw [decide_eq_true H7.out],HB.out⟩
end B
end Go.Proofs.YtihmgigfkmofnaaGreatDoor
def Tryz.DG:Go.Shelf.Ren:=⟨fun | 125=>106 | 128=>145 | 129=>146 | 189=>68 | 215=>181 | 216=>142 | 257=>105 | 294=>136 | 295=>137 | 296=>138 | 297=>139 | 298=>140 | 299=>141 | 300=>143 | 301=>144 | 328=>176 | 329=>177 | 330=>178 | 331=>179 | 332=>180 | 343=>221 | n=>n,fun | 0=>0 | 3=>3 | 4=>4 | 5=>5 | 9=>9 | 28=>69 | 46=>183 | 51=>225 | 53=>40 | 131=>72 | 182=>218 | 183=>219 | 218=>260 | 222=>264 | 228=>306 | 229=>307 | n=>n,fun | n=>n⟩
theorem Tryz.Sv:Go.Proofs.Lays.n189 prog Tryz.DG:={
 mixed:=by kernel_rfl
 f125:=func106.trans (congrArg some (by kernel_rfl))
 f128:=func145.trans (congrArg some (by kernel_rfl))
 f129:=func146.trans (congrArg some (by kernel_rfl))
 f189:=func68.trans (congrArg some (by kernel_rfl))
 f215:=func181.trans (congrArg some (by kernel_rfl))
 f216:=func142.trans (congrArg some (by kernel_rfl))
 f257:=func105.trans (congrArg some (by kernel_rfl))
 f294:=func136.trans (congrArg some (by kernel_rfl))
 f295:=func137.trans (congrArg some (by kernel_rfl))
 f296:=func138.trans (congrArg some (by kernel_rfl))
 f297:=func139.trans (congrArg some (by kernel_rfl))
 f298:=func140.trans (congrArg some (by kernel_rfl))
 f299:=func141.trans (congrArg some (by kernel_rfl))
 f300:=func143.trans (congrArg some (by kernel_rfl))
 f301:=func144.trans (congrArg some (by kernel_rfl))
 f328:=func176.trans (congrArg some (by kernel_rfl))
 f329:=func177.trans (congrArg some (by kernel_rfl))
 f330:=func178.trans (congrArg some (by kernel_rfl))
 f331:=func179.trans (congrArg some (by kernel_rfl))
 f332:=func180.trans (congrArg some (by kernel_rfl))
 f343:=func221.trans (congrArg some (by kernel_rfl))
 t0:=underlying0
 a0:=isAgg0
 z0:=sizeOf0
 v0:=zeroValue0
 t3:=underlying3
 a3:=isAgg3
 z3:=sizeOf3
 v3:=zeroValue3
 t4:=underlying4
 a4:=isAgg4
 z4:=sizeOf4
 v4:=zeroValue4
 t5:=underlying5
 a5:=isAgg5
 z5:=sizeOf5
 v5:=zeroValue5
 t9:=underlying9
 a9:=isAgg9
 z9:=sizeOf9
 v9:=zeroValue9
 t28:=underlying69
 a28:=isAgg69
 z28:=sizeOf69
 v28:=zeroValue69
 t46:=underlying183
 a46:=isAgg183
 z46:=sizeOf183
 v46:=zeroValue183
 t51:=underlying225
 a51:=isAgg225
 z51:=sizeOf225
 v51:=zeroValue225
 t53:=underlying40
 a53:=isAgg40
 z53:=sizeOf40
 v53:=zeroValue40
 t131:=underlying72
 a131:=isAgg72
 z131:=sizeOf72
 v131:=zeroValue72
 t182:=underlying218
 a182:=isAgg218
 z182:=sizeOf218
 v182:=zeroValue218
 t183:=underlying219
 a183:=isAgg219
 z183:=sizeOf219
 v183:=zeroValue219
 t218:=underlying260
 a218:=isAgg260
 z218:=sizeOf260
 v218:=zeroValue260
 t222:=underlying264
 a222:=isAgg264
 z222:=sizeOf264
 v222:=zeroValue264
 t228:=underlying306
 a228:=isAgg306
 z228:=sizeOf306
 v228:=zeroValue306
 t229:=underlying307
 a229:=isAgg307
 z229:=sizeOf307
 v229:=zeroValue307 }
def Tryz.Gw:Go.Shelf.Ren:=⟨fun | 20=>200 | n=>n,fun | 0=>0 | 3=>3 | 4=>4 | 22=>69 | n=>n,fun | n=>n⟩
theorem Tryz.VB:Go.Proofs.Lays2.n20 prog Tryz.Gw:={
 mixed:=by kernel_rfl
 f20:=func200.trans (congrArg some (by kernel_rfl))
 t0:=underlying0
 a0:=isAgg0
 z0:=sizeOf0
 v0:=zeroValue0
 t3:=underlying3
 a3:=isAgg3
 z3:=sizeOf3
 v3:=zeroValue3
 t4:=underlying4
 a4:=isAgg4
 z4:=sizeOf4
 v4:=zeroValue4
 t22:=underlying69
 a22:=isAgg69
 z22:=sizeOf69
 v22:=zeroValue69
 i3:=by kernel_rfl }
namespace Go.Proofs.YtihmgigfkmofnaaGreatDoor
namespace B
open Go.RowKit
theorem Kg(base:Nat)(v:Value)(xs:List Int)(x:Int)(t:TypeId)(w w0:World)(B n:Nat)(hn:xs.length=n)(aE:w.ownsRow base 3 1 v n (ints xs))(hb:(n+1)*8≤140737488355328)(du:base≤w.heap.size)(hB:B≤base)(h0:Below B w0 w):∃ a' eS w',(Builtin.append_ #[69,69] 69 #[v,.slice (some ⟨w.heap.size,0,none⟩) 1 1]).run prog (w.alloc (.cells #[.int .i64 x] t)) = .ok (.slice a' (n+1) eS) w'∧w'.ownsRow base 3 1 (.slice a' (n+1) eS) (n+1) (ints (xs++[x]))∧Below B w0 w'∧w.heap.size≤w'.heap.size:=by
 subst hn;have hr:ni (w.alloc (.cells #[.int .i64 x] t)) (.slice (some ⟨w.heap.size,0,none⟩) 1 1) [.int .i64 x]:=by
  have mU:=bL w #[.int .i64 x] t;refine ⟨_,_,rfl,aj _,fun h=>(by cases h),fun j u hj=>⟨_,_,rfl,?_⟩⟩
  have K7:j=0:=by
   have:=(List.getElem?_eq_some_iff.1 hj).1;simpa using this
  subst K7;cases hj;exact mU.2 0 (by simp)
 obtain ⟨a',eS,w',bn,gi,hg⟩:=nh 69 3 _ 8 info3 underlying69 rfl base xs.length v (ints xs) _ (World.ownsRow.alloc aE _) _ _ hr (fun u hu=>by simp at hu;subst hu;rfl) (by simpa using hb) (by decide) (by simp;omega)
 refine ⟨a',eS,w',bn,by rw [ox];exact gi,?_,?_⟩
 ·exact (h0.alloc (ar hB du) _).grown hg (by simp;omega) (fun k hk=>ar hB (World.ownsRow.lt aE k hk).1)
 ·have:=hg.size;simp at this
  omega
theorem xn(f:Int)(l:List Lk)(k:Nat)(h:k<l.length):kids f (l.take (k+1))=kids f (l.take k)++[l[k].2]:=by
 unfold kids;rw [ay h,bt];rfl
theorem Kq{w:World}{base e n:Nat}{v:Value}{xs:List Value}(h:w.ownsRow base e 1 v n xs):∃ a c,v = .slice a n c:=by
 rcases h.2 with ⟨rfl,rfl⟩ | ⟨g,cap,cur,rfl,_⟩
 ·exact ⟨_,_,rfl⟩
 ·exact ⟨_,_,rfl⟩
theorem N3{w:World}{b b2 e n:Nat}{v:Value}{xs:List Value}(h:w.ownsRow b e 1 v n xs)(hb:b2≤b):w.ownsRow b2 e 1 v n xs:=by
 refine ⟨h.1,?_⟩;rcases h.2 with h' | ⟨g,cap,cur,h',h1,hr⟩
 ·exact .inl h'
 ·exact .inr ⟨g,cap,cur,h',ar hb h1,hr⟩
theorem OO(f:Int)(v:Value)(l:List Lk)(w:World)(hm:l.length≤5864062014805)(hr:di w v l):Calls prog 199 #[.agg #[.int .i64 f,v]] w fun e w'=>∃ u,e = .returned u∧w'.ownsRow w.heap.size 3 1 u (l.length+1) (ints (kids f l))∧Below w.heap.size w w':=by
 obtain ⟨a,cap,hv⟩:=hr.form;subst hv;obtain ⟨n,hn⟩ : ∃ n,n=l.length:=⟨_,rfl⟩;rw [← hn] at hr hm ⊢;have q0:=ai w (.cells #[.int .i64 f,.slice a n cap] 150);have x0:=au.new w #[.int .i64 f,.slice a n cap] 150;generalize Cc:w.alloc (.cells #[.int .i64 f,.slice a n cap] 150)=W0 at *;have q1:=ai W0 (.cells #[.int .i64 f] 3);have o1:(W0.alloc (.cells #[.int .i64 f] 3)).ownsRow W0.heap.size 3 1 (.slice (some ⟨W0.heap.size,0,none⟩) 1 1) 1 (ints [f]):=World.ownsRow_lit W0 #[.int .i64 f] 1 (aj _) (by decide) rfl
 generalize gF:W0.alloc (.cells #[.int .i64 f] 3)=W1 at *;have p0:=x0.c0;have p1:=(x0.below q1).c1;have HR:=ab (hr.below q0);have HN:=ab hn;have HQ:=ab (Below.next q0 q1);have HQ0:=ab q0;have yn:=ab q1;have qP:=ab o1;clear hn hr q0 x0 q1 o1;go_enter func199,ntmps199;go_wp2;clear p0 p1;go_loopw [3,12] (fun u i wr=>∃ k:Nat,k≤n∧i = .int .i64 k∧wr.ownsRow W0.heap.size 3 1 u (k+1) (ints (kids f (l.take k)))∧Below W0.heap.size W0 wr) (fun _ i _=>n - (intOf i).toNat)
 case atStart=>exact ⟨0,aD _,rfl,by simpa [kids] using qP.out,yn.out⟩
 case round =>
  obtain ⟨k,hk,rfl,aE,bO⟩:=hrel;have mH:(kids f (l.take k)).length=k+1:=by rw [rD,ag];have:=HN.out;omega
  obtain ⟨ua,uc,hu⟩:=Kq aE;subst hu;by_cases bN:k<n
  ·have cL:k<l.length:=by have:=HN.out;omega
   obtain ⟨g,o,rfl,c1,c2⟩:=(HR.out.below bO).spot k cL;have HS:=ab (xn f l k cL);have q2:=ai wr (.cells #[.string l[k].1,.int .i64 l[k].2] 179);have hx:=au.new wr #[.string l[k].1,.int .i64 l[k].2] 179;obtain ⟨a3,cp3,w2,bn,hU,aL,_⟩:=Kg W0.heap.size _ _ l[k].2 3 _ W0 W0.heap.size (k+1) mH (iN aE q2) (by omega) (ar bO.size q2.size) (aj _) (Below.next bO q2)
   rw [← HS.out] at hU;generalize l[k].1=s1 at *;generalize l[k].2=s2 at *;have b1:=hx.c1;have HO:=ab hU;have HB:=ab aL;have dP:(k:Int)<(n:Int):=by omega
   have hz:(wr.alloc (.cells #[.string s1,.int .i64 s2] 179)).heap.size=wr.heap.size+1:=by simp
   rw [hz] at bn;clear aE hU aL bO HS mH q2 hx hz;go_wp2_with (first | (at_builtin;have h0:=bn;clear bn;refine wpList_append_run 69 rfl (.tmp 16) (.tmp 19) rfl rfl _ _ rfl rfl _ _ h0 ?_;clear h0))
   go_wp2;go_roundw
   case rel=>exact ⟨k+1,by omega,by go_num,HO.out,HB.out⟩
   case measure=>simp [intOf];omega
  ·have nM:k=n:=by omega
   have df:l.take k=l:=by rw [al];have:=HN.out;omega
   rw [df] at aE;have HO:=ab aE;have HB:=ab (Below.next HQ0.out bO);have dP:¬ (k:Int)<(n:Int):=by omega
   clear aE bO df mH;go_wp2;go_ret;refine ⟨_,rfl,?_,HB.out⟩;rw [← nM];exact N3 HO.out HQ0.out.size
open Go.Sort
theorem qz{α:Type}(p:α→Bool):∀ l:List α,(l.filter p).length≤l.length∧((l.filter p).length=l.length↔∀ x ∈ l,p x=true)
 | []=>by simp
 | x::r=>by
  obtain ⟨h1,h2⟩:=qz p r;cases hx:p x with
  | true =>
   rw [List.filter_cons_of_pos hx];refine ⟨by simp;omega,?_⟩
   simp only [List.length_cons,dK,forall_eq_or_imp,hx,true_and];rw [← h2];omega
  | false =>
   rw [List.filter_cons_of_neg (by simp [hx])]
   refine ⟨by simp;omega,?_⟩
   simp only [List.length_cons,dK,forall_eq_or_imp,hx];constructor
   ·intro h;omega
   ·rintro ⟨h,_⟩;cases h
theorem EA(zs:List Int)(hs:zs.Pairwise (·≤·)):(Lib.compact zs).length=zs.length↔zs.Nodup:=by
 unfold Lib.compact Lib.compactUpTo;rw [az];have h:=(qz (Lib.keeps zs.toArray) (List.range zs.length)).2;rw [List.length_range] at h;rw [h];constructor
 ·intro hk;rw [List.nodup_iff_pairwise_ne];rw [List.pairwise_iff_getElem] at hs ⊢;intro i j hi hj Ro he;have hj1:=hk j (List.mem_range.2 hj);unfold Lib.keeps at hj1;rcases of_decide_eq_true hj1 with h0 | h0
  ·omega
  ·apply h0
   have e1:zs.toArray[j]! = zs[j]:=by simp [hj]
   have lL:j - 1<zs.length:=by omega
   have e2:zs.toArray[j - 1]! = zs[j - 1]:=by simp [lL]
   rw [e1,e2];have ah8:zs[j - 1]≤zs[j]:=hs (j - 1) j lL hj (by omega)
   have GP:zs[i]≤zs[j - 1]:=by
    by_cases hij':i=j - 1
    ·subst hij';exact Int.le_refl _
    ·exact hs i (j - 1) hi lL (by omega)
   omega
 ·intro hn j hj;have hj:=List.mem_range.1 hj;unfold Lib.keeps;apply decide_eq_true
  by_cases h0:j=0
  ·exact .inl h0
  ·refine .inr (fun he=>?_)
   have lL:j - 1<zs.length:=by omega
   have e1:zs.toArray[j]! = zs[j]:=by simp [hj]
   have e2:zs.toArray[j - 1]! = zs[j - 1]:=by simp [lL]
   rw [e1,e2] at he;rw [List.nodup_iff_pairwise_ne,List.pairwise_iff_getElem] at hn;exact hn (j - 1) j lL hj (by omega) he.symm
theorem xU(zs:List Int):(Lib.compact zs).length≤zs.length:=by
 unfold Lib.compact Lib.compactUpTo;rw [az];have:=(qz (Lib.keeps zs.toArray) (List.range zs.length)).1;rwa [List.length_range] at this
def pA(f:Int)(l:List Lk):List Int:=(kids f l).mergeSort fun x y=>decide (x≤y)
theorem DR(f:Int)(l:List Lk):(pA f l).length=l.length+1:=by unfold pA;rw [List.length_mergeSort,rD]
theorem Bk(f:Int)(l:List Lk):decide ((Lib.compact (pA f l)).length≤l.length)=decide (¬ (kids f l).Nodup):=by
 have hs:(pA f l).Pairwise (·≤·):=by
  have:=List.pairwise_mergeSort (le:=fun x y:Int=>decide (x≤y)) (fun a b c h1 h2=>by simp at *;omega) (fun a b=>by simp;omega) (kids f l)
  exact this.imp (fun h=>by simpa using h)
 have hp:(pA f l).Perm (kids f l):=List.mergeSort_perm _ _;have h1:=EA (pA f l) hs;have h2:=xU (pA f l);rw [DR] at h1 h2;have jo:(pA f l).Nodup↔(kids f l).Nodup:=hp.nodup_iff;congr 1
 apply propext
 rw [← jo,← h1];omega
theorem zF(g cap:Nat)(zs:List Int)(w:World)(hH:Holds (Value.int .i64) w g 0 zs.toArray)(hg:g<w.heap.size)(hz:zs.length<4611686018427387904):Calls prog 68 #[.slice (some ⟨g,0,none⟩) zs.length cap] w fun e w'=>e = .returned (.tuple #[])∧∃ n os,w'=grow (putRow (Value.int .i64) (Sort.ahead w n) g 0 (zs.mergeSort fun x y=>decide (x≤y)).toArray) os :=
 Any.slices_Sort_int Tryz.Sv g 0 cap zs w hH hg hz
theorem LV(g cap:Nat)(zs:List Int)(w:World)(hH:Holds (Value.int .i64) w g 0 zs.toArray)(hz:zs.length≤9223372036854775807)(hc:zs.length≤cap):Calls prog 200 #[.slice (some ⟨g,0,none⟩) zs.length cap] w fun e w'=>e = .returned (.slice (some ⟨g,0,none⟩) (Lib.compact zs).length cap)∧∃ q,w'=putRow (Value.int .i64) (Sort.ahead w q) g 0 (Lib.compact zs++List.replicate (zs.length - (Lib.compact zs).length) 0).toArray :=
 Any.slices_Compact_int Tryz.VB g 0 cap zs w hH hz hc
theorem BB{w:World}{g n:Nat}(d:Array Int):w.grownBy (putRow (Value.int .i64) (Sort.ahead w n) g 0 d) (some g):=by
 refine ⟨rfl,rfl,rfl,by simp,fun k hk dE=>?_⟩
 have:g≠k:=fun e=>dE (by rw [e])
 simp [putRow,mapBlock,Sort.ahead,Array.getElem?_modify,this]
theorem JQ(f:Int)(v:Value)(l:List Lk)(w:World)(hm:l.length≤5864062014805)(hr:di w v l):Calls prog 159 #[.agg #[.int .i64 f,v]] w fun e w'=>e = .returned (.bool (decide (¬ (kids f l).Nodup)))∧Below w.heap.size w w':=by
 rw [← Bk];obtain ⟨cl,qN⟩ : ∃ c,c=(Lib.compact (pA f l)).length:=⟨_,rfl⟩;rw [← qN];have aa3:=ab qN;clear qN;obtain ⟨a,cap,hv⟩:=hr.form;subst hv;obtain ⟨n,hn⟩ : ∃ n,n=l.length:=⟨_,rfl⟩;rw [← hn] at hr hm ⊢;have q0:=ai w (.cells #[.int .i64 f,.slice a n cap] 150);have x0:=au.new w #[.int .i64 f,.slice a n cap] 150;have s0:(w.alloc (.cells #[.int .i64 f,.slice a n cap] 150)).heap.size=w.heap.size+1:=by simp
 generalize Cc:w.alloc (.cells #[.int .i64 f,.slice a n cap] 150)=W0 at *;have p0:=x0.c0;have p1:=x0.c1;have HK:=ab (OO f _ l W0 (by omega) (hr.below q0))
 have HN:=ab hn;have HX:=ab x0;have HQ:=ab q0;have HS0:=ab s0;have QM:=ab (DR f l);clear hn hr q0 x0 s0;go_enter func159,ntmps159;go_wp2_with fail;refine HK.out.mono ?_
 rintro e w1 ⟨u,rfl,aE,aL⟩;rw [← HN.out] at aE;obtain ⟨g,gc,cur,yw,du,hb,h1,h2,h3,h4⟩ : ∃ g gc cur,u=Value.slice (some ⟨g,0,none⟩) (n+1) gc∧W0.heap.size≤g∧w1.heap[g]?=some (.cells cur 3 (0,0))∧n+1≤gc∧gc≤maxLen∧cur.size=gc*1∧cur.toList.take ((n+1)*1)=(kids f l).map (Value.int .i64):=by
  rcases aE.2 with ⟨_,h0⟩ | h
  ·omega
  ·exact h
 subst yw;have cL:(kids f l).length=n+1:=by rw [rD,← HN.out]
 have hH:Holds (Value.int .i64) w1 g 0 (kids f l).toArray:=holds_of_blockI hb (by rw [cL];simpa using h4)
 have xH:g<w1.heap.size:=(Array.getElem?_eq_some_iff.1 hb).1;have QN:Hid (Calls prog 68 #[.slice (some ⟨g,0,none⟩) (n+1) gc] w1 fun e w'=>e = .returned (.tuple #[])∧w'.ownsRow W0.heap.size 3 1 (.slice (some ⟨g,0,none⟩) (n+1) gc) (n+1) ((pA f l).map (Value.int .i64))∧Below W0.heap.size W0 w'):=by
  have hc:=zF g gc (kids f l) w1 hH xH (by omega)
  rw [cL] at hc;refine hc.mono ?_
  rintro e w' ⟨rfl,q,os,rfl⟩;refine ⟨rfl,?_,aL.grown (grownBy_sortedI _) aL.size (fun j hj=>by cases hj;exact du)⟩
  have:=ownsRow_sortedI (w:=w1) (base:=W0.heap.size) (n:=q) (os:=os) (ss:=kids f l) (ts:=pA f l) (by rw [QM.out,rD]) du hb (by omega) h2 h3
  rwa [cL] at this
 clear aE hb h1 h3 h4 cL hH xH HK aL p0 p1;go_wp2_with fail;refine QN.out.mono ?_
 rintro e w2 ⟨rfl,jE,aU⟩;have p1:=(HX.out.below aU).c1;have yC:Hid (∀ W,Below w2.heap.size w2 W→Calls prog 200 #[.slice (some ⟨g,0,none⟩) (n+1) gc] W fun e w'=>e = .returned (.slice (some ⟨g,0,none⟩) cl gc)∧Below W0.heap.size W0 w'):=fun W hW=>by
  rw [aa3.out];obtain ⟨g',gc',cur,yw,ado,hb,h1,h2,h3,h4⟩ : ∃ g' gc' cur,Value.slice (some ⟨g,0,none⟩) (n+1) gc=Value.slice (some ⟨g',0,none⟩) (n+1) gc'∧W0.heap.size≤g'∧w2.heap[g']?=some (.cells cur 3 (0,0))∧n+1≤gc'∧gc'≤maxLen∧cur.size=gc'*1∧cur.toList.take ((n+1)*1)=(pA f l).map (Value.int .i64):=by
   rcases jE.2 with ⟨_,h0⟩ | h
   ·omega
   ·exact h
  cases yw;have qq:(pA f l).length=n+1:=by rw [QM.out,← HN.out]
  have xH:g<w2.heap.size:=(Array.getElem?_eq_some_iff.1 hb).1;have Ja:W.heap[g]?=some (.cells cur 3 (0,0)):=by rw [hW.block g xH];exact hb
  have hH:Holds (Value.int .i64) W g 0 (pA f l).toArray:=holds_of_blockI Ja (by rw [qq];simpa using h4)
  have hc:=LV g gc (pA f l) W hH (by omega) (by omega)
  rw [qq] at hc;refine hc.mono ?_
  rintro e w' ⟨rfl,q,rfl⟩;exact ⟨rfl,(Below.next aU hW).grown (BB _) (ar aU.size hW.size) (fun j hj=>by cases hj;exact du)⟩
 have uX:Hid (cl≤n+1):=by
  have:=xU (pA f l);rw [QM.out,← HN.out,← aa3.out] at this;exact this
 have bH:=ab aU;clear jE aU QN h2 du;have aiy:cl≤140737488355328:=by have:cl≤n+1:=uX.out;omega
 go_wp2_with fail;go_region_held3 (fun w'=>w'.cell? ⟨w.heap.size,1,none⟩=some (.slice a n cap)) (go_keep)
  (first
   | (go_at_call 200;refine (yC.out _ ?_).mono ?_;(exact (Below.refl _ _).drew);rintro e w3 ⟨rfl,bT⟩;have eG:=ab bT;have m1:w3.cell? ⟨w.heap.size,1,none⟩=some (.slice a n cap):=(HX.out.below bT).c1;clear bT))
 all_goals
  clear yC p1 m1;go_wp2;go_ret;exact ⟨by simp,Below.next HQ.out eG.out⟩
end B
end Go.Proofs.YtihmgigfkmofnaaGreatDoor
namespace Go.Proofs.YtihmgigfkmofnaaGreatDoor
namespace B
open Go.RowKit
def pJ(A:Nat→Addr)(w:World):Prop:=dA 5 eR A w∧w.cell? ⟨11,0,none⟩=some (.iface 360 (.pointer (some (A 11))))
theorem pJ.below{A:Nat→Addr}{w w':World}(h:pJ A w)(hb:Below w.heap.size w w'):pJ A w' :=
 ⟨h.1.keep hb,(hb.cell (p:=⟨11,0,none⟩) (World.block_lt_of_cell? w _ h.2)).trans h.2⟩
theorem Er{A:Nat→Addr}{w:World}(h:dA 13 eR A w):pJ A w:=⟨h.JJ (by decide),(h.1 11 (by decide)).1⟩
theorem pJ.c{A:Nat→Addr}{w:World}(h:pJ A w):jL A w:=⟨h.1.JJ (by decide),h.2⟩
def EE(n:Nat)(b1 b2 b3 root:Bool)(x:Int):Option Nat :=
 if n=0 then some 3 else if b1=false then some 0 else if b2=false then some 11 else if b3=true then some 4 else if (4072:Int)<x then some 2 else if root=false∧x<1777 then some 3 else none
theorem Tu(f:Int)(l:List Lk)(root:Bool)(hm:l.length≤5864062014805):EE l.length (fX f && l.all gy) (decide (nz l)) (decide (¬ (kids f l).Nodup)) root (pK (jM l))=mX f l root:=by
 unfold EE mX;by_cases h0:l=[]
 ·subst h0;rfl
 ·rw [if_neg (by simpa using h0),if_neg h0]
  cases h1:(fX f && l.all gy) with
  | false=>simp
  | true =>
   simp only [oM,if_false];have ha:l.all gy=true:=by
    rw [cz] at h1;exact h1.2
   have hs:=RO ha;have hw:pK (jM l)=(jM l:Int):=kI (by omega)
   rw [hw];by_cases h2:nz l
   ·simp only [h2,decide_true,oM,if_false,not_true_eq_false];by_cases h3:(kids f l).Nodup
    ·simp only [h3,not_true_eq_false,decide_false,kq,if_false];by_cases h4:4072<jM l
     ·rw [if_pos (by omega),if_pos h4]
     ·rw [if_neg (by omega),if_neg h4]
      by_cases h5:root=false∧jM l<1777
      ·rw [if_pos ⟨h5.1,by omega⟩,if_pos h5]
      ·rw [if_neg (fun h=>h5 ⟨h.1,by omega⟩),if_neg h5]
    ·simp [h3]
   ·simp [h2]
theorem yg(A:Nat→Addr)(f:Int)(v:Value)(l:List Lk)(root:Bool)(w:World)(cN:UX l)(hm:l.length≤5864062014805)(hr:di w v l)(hE:pJ A w):Calls prog 117 #[.agg #[.int .i64 f,v],.bool root] w fun e w'=>e = .returned (ig A (mX f l root))∧Below w.heap.size w w':=by
 rw [← Tu f l root hm];obtain ⟨a,cap,hv⟩:=hr.form;subst hv;obtain ⟨n,hn⟩ : ∃ n,n=l.length:=⟨_,rfl⟩;rw [← hn] at hr hm ⊢;have q0:=ai w (.cells #[.int .i64 f,.slice a n cap] 150);have x0:=au.new w #[.int .i64 f,.slice a n cap] 150;generalize Cc:w.alloc (.cells #[.int .i64 f,.slice a n cap] 150)=W0 at *;have p0:=x0.c0;have p1:=x0.c1;have HQ:=ab q0;have HX:=ab x0;have HE:=ab (hE.below q0);have HR:=ab (hr.below q0);have H1:=ab (AG f _ l W0 cN (by omega) HR.out)
 have H2:Hid (∀ W,Below W0.heap.size W0 W→Calls prog 157 #[.agg #[.int .i64 f,.slice a n cap]] W fun e w'=>e = .returned (.bool (fX f && l.all gy))∧Below W.heap.size W w'):=fun W h=>Hl f _ l W (by omega) (HR.out.below h)
 have H3:Hid (∀ W,Below W0.heap.size W0 W→Calls prog 158 #[.slice a n cap] W fun e w'=>e = .returned (.bool (decide (nz l)))∧Below W.heap.size W w'):=fun W h=>FV _ l W (by omega) (HR.out.below h)
 have H4:Hid (∀ W,Below W0.heap.size W0 W→Calls prog 159 #[.agg #[.int .i64 f,.slice a n cap]] W fun e w'=>e = .returned (.bool (decide (¬ (kids f l).Nodup)))∧Below W.heap.size W w'):=fun W h=>JQ f _ l W (by omega) (HR.out.below h)
 obtain ⟨b1,aL⟩ : ∃ b,b=(fX f && l.all gy):=⟨_,rfl⟩;obtain ⟨b2,aU⟩ : ∃ b,b=decide (nz l):=⟨_,rfl⟩;obtain ⟨b3,bT⟩ : ∃ b,b=decide (¬ (kids f l).Nodup):=⟨_,rfl⟩;obtain ⟨x,hx⟩ : ∃ x,x=pK (jM l):=⟨_,rfl⟩;rw [← aL] at H2 ⊢;rw [← aU] at H3 ⊢;rw [← bT] at H4 ⊢;rw [← hx] at H1 ⊢;clear hn hr hE cN q0 x0 aL aU bT hx HR;have HC:Hid (∀ W k,Below W0.heap.size W0 W→k<5→W.cell? ⟨eR k,0,none⟩=some (.iface 360 (.pointer (some (A k))))):=fun W k h hk=>((HE.out.below h).1.1 k hk).1
 go_enter func117,ntmps117;go_wp2_with fail;refine H1.out.mono ?_
 rintro e w1 ⟨rfl,aL⟩;have bP:=ab aL;have o0:=(HX.out.below aL).c0;have o1:=(HX.out.below aL).c1;clear aL H1 p0 p1;by_cases h0:n=0
 ·subst h0;have c3:w1.cell? ⟨3,0,none⟩=some (.iface 360 (.pointer (some (A 3)))):=HC.out w1 3 bP.out (by decide)
  have HB:=ab (Below.next HQ.out bP.out);clear H2 H3 H4;go_wp2;go_ret;exact ⟨rfl,HB.out⟩
 ·have GX:((n:Int) == 0)=false:=by rw [beq_eq_false_iff_ne];omega
  have tE:Hid (EE n b1 b2 b3 root x=if b1=false then some 0 else if b2=false then some 11 else if b3=true then some 4 else if (4072:Int)<x then some 2 else if root=false∧x<1777 then some 3 else none):=by show _=_;unfold EE;rw [if_neg h0]
  go_wp2_with fail;refine (H2.out _ bP.out).mono ?_
  rintro e w2 ⟨rfl,aU⟩;have bH:=ab (Below.next bP.out aU);clear aU H2 o0 o1 bP;have o0:=(HX.out.below bH.out).c0;have o1:=(HX.out.below bH.out).c1;cases b1 with
  | false =>
   have c0:w2.cell? ⟨0,0,none⟩=some (.iface 360 (.pointer (some (A 0)))):=HC.out w2 0 bH.out (by decide)
   have HB:=ab (Below.next HQ.out bH.out);clear H3 H4;go_wp2;go_ret;exact ⟨by rw [tE.out];rfl,HB.out⟩
  | true =>
   go_wp2_with fail;refine (H3.out _ bH.out).mono ?_
   rintro e w3 ⟨rfl,bT⟩;have eG:=ab (Below.next bH.out bT);clear bT H3 o0 o1 bH;have o0:=(HX.out.below eG.out).c0;have o1:=(HX.out.below eG.out).c1;cases b2 with
   | false =>
    have c11:w3.cell? ⟨11,0,none⟩=some (.iface 360 (.pointer (some (A 11)))):=(HE.out.below eG.out).2;have HB:=ab (Below.next HQ.out eG.out);clear H4;go_wp2;go_ret;exact ⟨by rw [tE.out];rfl,HB.out⟩
   | true =>
    go_wp2_with fail;refine (H4.out _ eG.out).mono ?_
    rintro e w4 ⟨rfl,gj⟩;have iU:=ab (Below.next eG.out gj);clear gj H4 o0 o1 eG;cases b3 with
    | true =>
     have c4:w4.cell? ⟨4,0,none⟩=some (.iface 360 (.pointer (some (A 4)))):=HC.out w4 4 iU.out (by decide)
     have HB:=ab (Below.next HQ.out iU.out);go_wp2;go_ret;exact ⟨by rw [tE.out];rfl,HB.out⟩
    | false =>
     have HB:=ab (Below.next HQ.out iU.out);by_cases h4:(4072:Int)<x
     ·have c2:w4.cell? ⟨2,0,none⟩=some (.iface 360 (.pointer (some (A 2)))):=HC.out w4 2 iU.out (by decide)
      have km:EE n true true false root x=some 2:=by rw [tE.out];simp [h4]
      have tD:=ab km;clear km;go_wp2;go_ret;exact ⟨by rw [tD.out];rfl,HB.out⟩
     ·cases root with
      | true =>
       have km:EE n true true false true x=none:=by rw [tE.out];simp [h4]
       have tD:=ab km;clear km;go_wp2;go_ret;exact ⟨by rw [tD.out];rfl,HB.out⟩
      | false =>
       by_cases h5:x<1777
       ·have c3:w4.cell? ⟨3,0,none⟩=some (.iface 360 (.pointer (some (A 3)))):=HC.out w4 3 iU.out (by decide)
        have km:EE n true true false false x=some 3:=by rw [tE.out];simp [h4,h5]
        have tD:=ab km;clear km;go_wp2;go_ret;exact ⟨by rw [tD.out];rfl,HB.out⟩
       ·have km:EE n true true false false x=none:=by rw [tE.out];simp [h4,h5]
        have tD:=ab km;clear km;go_wp2;go_ret;exact ⟨by rw [tD.out];rfl,HB.out⟩
end B
end Go.Proofs.YtihmgigfkmofnaaGreatDoor
