import Derived.Test.YtihmgigfkmofnaaGreatDoorG12
import Derived.Shelf.Sort.Plain
import Derived.Shelf.Slices.CompactI
import Derived.Sort.OwnSortedInts
set_option maxHeartbeats 4000000
set_option maxRecDepth 20000
open Go.Proofs.Tryz
namespace Go.Proofs.YtihmgigfkmofnaaGreatDoor
namespace B
def fH(c:ByteArray):Lk:=(c.extract 1 (c.size - 4),(ey (c.data.toList.drop (c.size - 4)):Int))
def uW(c:ByteArray):Bool:=decide (5≤c.size∧(c.data.toList.getD 0 0).toNat=c.size - 5)
theorem uo(s:ByteArray)(a b:Nat):(s.extract a b).data.toList=(s.data.toList.drop a).take (b - a):=by
 rw [ByteArray.data_extract,Array.toList_extract]
theorem LP(c:ByteArray)(h:5≤c.size):(fH c).1.size=c.size - 5:=by
 simp only [fH,ByteArray.size_extract];omega
theorem Ho(c:ByteArray)(h:5≤c.size):c.data.toList=[c.data.toList.getD 0 0]++((fH c).1.data.toList++bN (fH c).2.toNat 4):=by
 have hl:(c.data.toList.drop (c.size - 4)).length=4:=by rw [al,bsize];omega
 have e1:bN (fH c).2.toNat 4=c.data.toList.drop (c.size - 4):=by
  simp only [fH,bt];exact yX 4 _ hl (by decide)
 rw [e1];simp only [fH,uo];have e2:c.data.toList.drop (c.size - 4)=(c.data.toList.drop 1).drop (c.size - 4 - 1):=by rw [List.drop_drop,show 1+(c.size - 4 - 1)=c.size - 4 by omega]
 rw [e2,aI];cases hc:c.data.toList with
 | nil =>
  have h0:=bsize c;rw [hc,List.length_nil] at h0;omega
 | cons x r=>simp
theorem IF{c:ByteArray}(h:uW c=true):mE (fH c)=c:=by
 obtain ⟨h1,h2⟩:=of_decide_eq_true h;refine ib ?_
 rw [jT,LP c h1];conv=>rhs;rw [Ho c h1]
 congr 2
 apply UInt8.toNat_inj.1
 rw [h2];have:=(c.data.toList.getD 0 0).toNat_lt;simp;omega
theorem Rh(a b:List UInt8)(n:Nat)(h:n=a.length):(a++b).drop n=b:=by rw [h,fL]
theorem yg(p:Lk)(h:gE p=true):fH (mE p)=p∧uW (mE p)=true:=by
 obtain ⟨h1,h2,h3,h4⟩:=jN h;have hs:=yQ p;refine ⟨?_,decide_eq_true ⟨by omega,?_⟩⟩
 ·refine Prod.ext ?_ ?_
  ·refine ib ?_
   simp only [fH,uo];rw [hs,jT,List.singleton_append,List.drop_succ_cons,List.drop_zero,show 5+p.1.size - 4 - 1=p.1.data.toList.length by rw [bsize];omega,ep]
  ·simp only [fH];rw [hs,jT,← ay,Rh _ _ _ (by rw [ae,bsize];simp;omega),mF 4 _ (by decide) (by omega)]
   omega
 ·rw [jT,hs];simp;omega
theorem FB{c:ByteArray}(h:c.size=4):ko (ey c.data.toList)=c:=by
 refine ib ?_
 rw [q9,yX 4 _ (by rw [bsize,h]) (by decide)]
def FC(L:List ByteArray):Int:=match L with
 | []=>0
 | c::_=>(ey c.data.toList:Int)
def Bu(L:List ByteArray):List Lk:=(L.drop 1).map fH
def zN(L:List ByteArray):Bool:=match L with
 | []=>false
 | c::cs=>decide (c.size=4) && cs.all uW
def uM(n:Nat)(b:List UInt8):Prop:=Nv b n∧zN (bX b n)=true∧lz (FC (bX b n)) (Bu (bX b n)) true=none
theorem Xb{L:List ByteArray}(h:zN L=true):dA (FC L) (Bu L)=L:=by
 cases L with
 | nil=>cases h
 | cons c cs =>
  simp only [zN,bV,decide_eq_true_eq,ma] at h;unfold dA FC Bu;simp only [bt,List.drop_succ_cons,List.drop_zero];rw [FB h.1,et];congr 1
  conv=>rhs;rw [← List.map_id cs]
  exact gN (fun d hd=>IF (h.2 d hd))
theorem M7{f:Int}{l:List Lk}(h:lz f l true=none):zN (dA f l)=true∧FC (dA f l)=f∧Bu (dA f l)=l:=by
 obtain ⟨h1,h2,h3,h4,h5,h6,h7⟩:=iX h;have hf:2≤f∧f<1048576:=of_decide_eq_true h2;refine ⟨?_,?_,?_⟩
 ·simp only [zN,dA,bV,decide_eq_true_eq,ma];refine ⟨qZ _,fun c hc=>?_⟩
  obtain ⟨p,hp,rfl⟩:=List.mem_map.1 hc;exact (yg p (h3 p hp)).2
 ·simp only [FC,dA,q9];rw [mF 4 _ (by decide) (by omega)]
  omega
 ·simp only [Bu,dA,List.drop_succ_cons,List.drop_zero,et];conv=>rhs;rw [← List.map_id l]
  exact gN (fun p hp=>(yg p (h3 p hp)).1)
theorem Ra{f:Int}{l:List Lk}(h:lz f l true=none):uM (l.length+1) (jA (dA f l))∧FC (bX (jA (dA f l)) (l.length+1))=f∧Bu (bX (jA (dA f l)) (l.length+1))=l:=by
 have hs:dS (dA f l)≤4072:=by rw [ox];exact (iX h).2.2.2.2.2.1
 have hc:=Bp (dA f l) hs;have ho:=qK (dA f l) hs;rw [ny] at hc ho;obtain ⟨h1,h2,h3⟩:=M7 h;refine ⟨⟨ho,by rw [hc];exact h1,by rw [hc,h2,h3];exact h⟩,by rw [hc];exact h2,by rw [hc];exact h3⟩
open Go.RowKit
def zQ(c:ByteArray):Int:=if c.size=4 then (ey c.data.toList:Int) else 0
theorem vC(c:ByteArray)(w:World):Calls prog 192 #[.string c] w fun e w'=>e = .returned (.tuple #[.int .i64 (zQ c),.bool (decide (c.size=4))])∧Below w.heap.size w w':=by
 by_cases h4:c.size=4
 ·have hv:zQ c=(ey c.data.toList:Int):=by unfold zQ;rw [if_pos h4]
  have bO:=yV c.data.toList;have hl:c.data.toList.length=4:=by rw [bsize,h4]
  rw [hl] at bO;have yA:=run_bytes_of_string (P:=prog) w 9 145 5 c underlying9 underlying145 underlying5;generalize grownCap w c.size 0 5=cap at yA;have mw:=heap_alloc_new w.drew (.cells (bytesRow c cap) 5 ((bytesRow c cap).size,(bytesRow c cap).size+1));have fc:Below w.heap.size w (w.drew.alloc (.cells (bytesRow c cap) 5 ((bytesRow c cap).size,(bytesRow c cap).size+1))):=((Below.refl _ _).drew).alloc (aj _) _;have b8:w.heap.size<(w.drew.alloc (.cells (bytesRow c cap) 5 ((bytesRow c cap).size,(bytesRow c cap).size+1))).heap.size:=by
   simp
  generalize w.drew.alloc (.cells (bytesRow c cap) 5 ((bytesRow c cap).size,(bytesRow c cap).size+1))=W1 at *;have HG:=ab (Q2 w.heap.size 0 cap c.data.toList W1 (by omega) (by omega) b8 (fun j hj=>by
   rw [Nat.zero_add,cell_of_row W1 w.heap.size j _ _ _ mw,bytesRow_at c cap j (by simpa using hj)]
   simp))
  rw [hl] at HG;rw [h4] at yA;obtain ⟨m,hm⟩ : ∃ m,m=ey c.data.toList:=⟨_,rfl⟩;rw [← hm] at HG bO hv;have hw:IntKind.i64.wrap (m:Int)=(m:Int):=by rw [IntKind.wrap_i64];omega
  have hd:decide (c.size=4)=true:=decide_eq_true h4;have h4I:(c.size:Int)=4:=by omega
  have wI:((c.size:Int) != 4)=false:=by simp [h4I]
  have HV:=ab hv;have HD:=ab hd;have HB:=ab fc;clear hm bO hv hd mw fc b8 hl h4 h4I;go_enter func192,ntmps192;go_wp2_with fail;refine HG.out.mono ?_
  rintro e w2 ⟨rfl,aV⟩;have bL:=ab (Below.next HB.out aV);clear aV HG yA;go_wp2;go_quiet (fail)
  go_wp2;go_ret2;exact ⟨by rw [HV.out,HD.out];rfl,aA bL.out _⟩
 ·have hv:zQ c=0:=by unfold zQ;rw [if_neg h4]
  have hd:decide (c.size=4)=false:=decide_eq_false h4;have wI:((c.size:Int) != 4)=true:=by rw [bne_iff_ne];omega
  have HV:=ab hv;have HD:=ab hd;clear hv hd h4;go_enter func192,ntmps192;go_wp2;go_ret2;exact ⟨by rw [HV.out,HD.out];rfl,Below.refl _ _⟩
theorem Hn(c:ByteArray)(w:World)(hc:c.size≤4072):Calls prog 229 #[.string c] w fun e w'=>∃ (k:ByteArray) (x:Int),e = .returned (.tuple #[.agg #[.string k,.int .i64 x],.bool (uW c)])∧(uW c=true→(k,x)=fH c)∧Below w.heap.size w w':=by
 have q0:=ai w (.cells #[.string ⟨#[]⟩,.int .i64 0] 179);have x0:=au.new w #[.string ⟨#[]⟩,.int .i64 0] 179;by_cases h5:c.size<5
 ·have fl:uW c=false:=decide_eq_false (fun h=>by omega)
  have kK:=ab fl;have HQ:=ab q0;have HX:=ab x0;have h5I:(c.size:Int)<5:=by omega
  clear fl q0 x0 h5;go_enter func229,ntmps229;go_wp2;refine bodyPost_ret (aR rfl _ _ w.heap.size 179 _ (0,0) _ rfl HX.out underlying179 rfl (by kernel_rfl)) rfl ⟨_,_,by rw [kK.out];rfl,fun h=>(by rw [kK.out] at h;cases h),HQ.out⟩
 ·have h5':5≤c.size:=by omega
  obtain ⟨e,he⟩ : ∃ e,e=c.size - 4:=⟨_,rfl⟩;have hw:IntKind.i64.wrap ((c.size:Int) - 4)=(e:Int):=by rw [IntKind.wrap_i64];omega
  have h5I:¬ (c.size:Int)<5:=by omega
  have i1:(1:Int)≤(e:Int):=by omega
  have i2:(e:Int)≤(c.size:Int):=by omega
  have i3:(0:Int)≤(e:Int):=by omega
  have zS:(c.extract e c.size).size=4:=by rw [ByteArray.size_extract];omega
  have cZ:(c.extract 1 e).size=c.size - 5:=by rw [ByteArray.size_extract];omega
  have aav:(c.extract e c.size).data.toList=c.data.toList.drop (c.size - 4):=by
   rw [uo,ao (by rw [al,bsize];exact aj _),he]
  have WC:=ab (fun W=>vC (c.extract e c.size) W)
  have Gf:zQ (c.extract e c.size)=(fH c).2:=by unfold zQ;rw [if_pos zS,aav];rfl
  rw [Gf,decide_eq_true zS] at WC;have zv:Hid ((c.extract 1 e,(fH c).2)=fH c):=by show _=_;rw [he];rfl
  have h0:0<c.size:=by omega
  have mS:c.data.toList.getD 0 0=c[0]:=by
   rw [aF,af (by rw [bsize];exact h0)];rfl
  have od:Hid (uW c=decide ((c[0].toNat:Int)=((c.extract 1 e).size:Int))):=by
   show _=_
   unfold uW;rw [mS,cZ];congr 1
   apply propext
   constructor
   ·rintro ⟨_,h⟩;omega
   ·intro h;exact ⟨h5',by omega⟩
  obtain ⟨kk,SF⟩ : ∃ kk,kk=c.extract 1 e:=⟨_,rfl⟩;obtain ⟨tt,htt⟩ : ∃ tt,tt=c.extract e c.size:=⟨_,rfl⟩;obtain ⟨x2,wF⟩ : ∃ x,x=(fH c).2:=⟨_,rfl⟩;have HKK:=ab SF;have nL:=ab wF;have akI:c.extract 1 e=kk:=SF.symm;have akH:c.extract e c.size=tt:=htt.symm;rw [← SF] at zv od;rw [← htt,← wF] at WC;rw [← wF] at zv;have HQ:=ab q0;have HX:=ab x0;clear h5 h5' he zS cZ aav Gf mS q0 x0 SF htt wF;go_enter func229,ntmps229;go_wp2_with fail;refine (WC.out _).mono ?_
  rintro e w1 ⟨rfl,aO⟩;have bT:=ab (Below.next HQ.out aO);have hx:=HX.out.below aO;have r0:=hx.c0;have r1:=hx.c1;have z0:=hx.free 0;have z1:=hx.free 1;have Kr:=ab hx;obtain ⟨y,hy⟩ : ∃ y:Int,y=(c[0].toNat:Int):=⟨_,rfl⟩;have hy':(c[0].toNat:Int)=y:=hy.symm;rw [← hy] at od;obtain ⟨ok,cM⟩ : ∃ ok,ok=uW c:=⟨_,rfl⟩;have HOV:=ab cM;have wI:(y == (kk.size:Int))=ok:=by rw [cM,od.out];rfl
  have h0I:(0:Int)<(c.size:Int):=by omega
  have hyb:0≤y∧y<256:=by have:=c[0].toNat_lt;omega
  have hwy:IntKind.i64.wrap y=y:=by rw [IntKind.wrap_i64];omega
  clear aO hx WC cM hy hyb;go_wp2_with fail;go_region_held3 (fun _=>True) (go_keep) (fail)
  all_goals
   clear r0 r1 z0 z1 wI hwy hy';go_wp2_with fail;exact bodyPost_ret (aR rfl _ _ w.heap.size 179 _ (0,0) _ rfl (Kr.out.two _ _).drew underlying179 rfl (by kernel_rfl)) rfl ⟨kk,x2,by rw [← HOV.out];rfl,fun _=>zv.out,aP (cx bT.out (aj _))⟩
def yf(cs:List ByteArray)(k:Nat):List Lk:=(cs.take k).map fH++List.replicate (cs.length - k) (⟨#[]⟩,0)
theorem Em(cs:List ByteArray)(k:Nat)(h:k≤cs.length):(yf cs k).length=cs.length:=by
 unfold yf;rw [ae,az,ag,bB];omega
theorem PV(cs:List ByteArray)(k:Nat)(h:k<cs.length):(yf cs k).set k (fH cs[k])=yf cs (k+1):=by
 have hl:((cs.take k).map fH).length=k:=by rw [az,ag];omega
 unfold yf;rw [b6 _ _ (by omega),hl,de,ax h,bz,show cs.length - k=cs.length - (k+1)+1 by omega,List.replicate_succ,List.set_cons_zero,ay]
 rfl
theorem PW(cs:List ByteArray):yf cs cs.length=cs.map fH:=by simp [yf]
theorem TR:∀ n:Nat,bn (List.replicate n ((⟨#[]⟩ : ByteArray),(0:Int)))=(madeCells (Value.agg #[.string ByteArray.empty,.int .i64 0]).cells (n*2)).toList:=by
 intro n;apply l9
 ·rw [aU,bB,Array.length_toList,size_madeCells]
 ·intro j h1 h2;rw [aU,bB] at h1;have hg:=gI (List.replicate n ((⟨#[]⟩ : ByteArray),(0:Int))) (j / 2) (by rw [bB];omega)
  rw [List.getElem_replicate] at hg;have e2:(madeCells (Value.agg #[.string ByteArray.empty,.int .i64 0]).cells (n*2)).toList[j]=(#[Value.string ByteArray.empty,Value.int .i64 0])[j % 2]!:=by
   simp [madeCells,Value.cells]
  rw [e2];rcases bY j with hm | hm
  ·have e:j / 2*2=j:=by omega
   rw [e] at hg;rw [hm];exact (List.getElem?_eq_some_iff.1 hg.1).2
  ·have e:j / 2*2+1=j:=by omega
   rw [e] at hg;rw [hm];exact (List.getElem?_eq_some_iff.1 hg.2).2
theorem En(ga:Nat)(oo n cap:Nat)(cs:List ByteArray)(w:World)(hn:n=cs.length)(su:n≤2036)(fI:∀ c ∈ cs,c.size≤4072)(hc:∀ j (h:j<cs.length),w.cell? ⟨ga,oo+j,none⟩=some (.string cs[j]))(a:Option Addr)(ha:0<n→a=some ⟨ga,oo,none⟩):Calls prog 193 #[.slice a n cap] w fun e w'=>((cs.all uW=true∧∃ u,e = .returned (.tuple #[u,.bool true])∧b9 w' w.heap.size u (cs.map fH))∨(cs.all uW=false∧e = .returned (.tuple #[.slice none 0 0,.bool false])))∧Below w.heap.size w w':=by
 obtain ⟨i0,hi,hz,b8,kQ⟩:=info_parts lL;obtain ⟨wm,nZ,fR,qm⟩:=run_make_full (P:=prog) w w.heap.size 148 179 i0 _ 2 underlying148 hi hz b8 .i64 .i64 n (by rw [kQ];omega) (by unfold maxLen;omega) (aj _)
 rw [← TR n] at fR;have SD:yf cs 0=List.replicate n ((⟨#[]⟩ : ByteArray),(0:Int)):=by simp [yf,hn]
 rw [← SD] at fR;have aE:b9 wm w.heap.size (.slice (some ⟨w.heap.size,0,none⟩) n n) (yf cs 0):=by
  unfold b9;rw [Em cs 0 (aB _),← hn];exact fR
 have CU:Below w.heap.size w wm:=(Below.refl _ _).grown qm (aj _) (fun j hj=>by cases hj)
 obtain ⟨b,hb⟩ : ∃ b,b=w.heap.size:=⟨_,rfl⟩;rw [← hb] at nZ aE;have HB:=ab hb;have HO:=ab aE;have Kv:=ab CU;have HC:=ab hc;have HN:=ab hn;have Gp:=ab fI;have HA:=ab ha;obtain ⟨Q,hQ⟩ : ∃ Q:Ending→World→Prop,Q=fun e w'=>((cs.all uW=true∧∃ u,e = .returned (.tuple #[u,.bool true])∧b9 w' w.heap.size u (cs.map fH))∨(cs.all uW=false∧e = .returned (.tuple #[.slice none 0 0,.bool false])))∧Below w.heap.size w w':=⟨_,rfl⟩
 rw [← hQ];have HQQ:=ab hQ;clear hQ hb aE CU hc hn fI ha fR qm hi hz b8 kQ SD;go_enter func193,ntmps193;go_wp2;clear nZ;go_loopw [14] (fun i wr=>∃ k:Nat,k≤n∧i = .int .i64 k∧b9 wr b (.slice (some ⟨b,0,none⟩) n n) (yf cs k)∧(∀ j (h:j<cs.length),j<k→uW cs[j]=true)∧Below w.heap.size w wr) (fun i _=>n - (intOf i).toNat)
 case atStart=>exact ⟨0,aB _,rfl,HO.out,fun j _ h=>absurd h (iz _),Kv.out⟩
 case round =>
  obtain ⟨k,hk,rfl,aE,js,bQ⟩:=hrel;clear HO Kv;have HP:=ab js;clear js;by_cases bO:k<n
  ·have cZ:k<cs.length:=by have:=HN.out;omega
   have ha:=HA.out (by omega)
   subst ha;have f1:=HC.out k cZ;have c1:wr.cell? ⟨ga,oo+k,none⟩=some (.string cs[k]):=(bQ.cell (p:=⟨ga,oo+k,none⟩) (World.block_lt_of_cell? w _ f1)).trans f1;have HLO:=ab (Hn cs[k] wr (Gp.out cs[k] (aJ _)));have gy:=ab (PV cs k cZ);have nU:Hid (uW cs[k]=true→∀ j (h:j<cs.length),j<k+1→uW cs[j]=true):=fun hl j h hj=>by
    by_cases he:j=k
    ·subst he;exact hl
    ·exact HP.out j h (by omega)
   have kK:Hid (uW cs[k]=false→cs.all uW=false):=fun hl=>by rw [List.all_eq_false];exact ⟨cs[k],aJ _,by simp [hl]⟩
   have kR:=ab (Em cs k (by omega))
   have dE:(k:Int)<(n:Int):=by omega
   have j0:(0:Int)≤(k:Int):=by omega
   have HO:=ab aE;have kB:=ab bQ;obtain ⟨ck,kV⟩ : ∃ ck,ck=cs[k]:=⟨_,rfl⟩;rw [← kV] at c1 HLO gy nU kK;clear aE bQ f1 kV;go_wp2_with fail;refine HLO.out.mono ?_
   rintro e w1 ⟨kk,xx,rfl,lP,aO⟩;have q1:=ai w1 (.cells #[.string kk,.int .i64 xx] 179);have x1:=au.new w1 #[.string kk,.int .i64 xx] 179;have Ak:=ab (Below.next kB.out (Below.next aO q1));have ho:=(HO.out.below aO).below q1;have r0:=x1.c0;have r1:=x1.c1;clear aO q1 HLO;cases cM:uW ck with
   | false =>
    have Si:=ab (kK.out cM);clear nU kK cM lP ho x1 c1;go_wp2;rw [HQQ.out];exact ⟨.inr ⟨Si.out,rfl⟩,Ak.out⟩
   | true =>
    have XI:=lP cM;have p8:=ab (nU.out cM);obtain ⟨⟨t1,s1⟩,⟨t2,s2⟩,z1,z2⟩:=ho.spot k (by rw [kR.out];exact cZ)
    have hw:=ho.wrote k (kk,xx);rw [XI,gy.out,← XI] at hw;dsimp only at hw;have rz:=ab hw;have abO:w.heap.size≤b:=by rw [HB.out];exact aj _
    have wU:=ab ((Ak.out.setCell (p:=⟨b,k*2,none⟩) abO (.string kk)).setCell (p:=⟨b,k*2+1,none⟩) abO (.int .i64 xx));clear lP XI nU kK cM ho hw x1 c1;go_wp2;go_roundw
    case rel=>exact ⟨k+1,by omega,by go_num,rz.out,p8.out,wU.out⟩
    case measure=>simp [intOf];omega
  ·have nG:k=cs.length:=by have:=HN.out;omega
   rw [nG,PW] at aE;have HO:=ab aE;have kB:=ab bQ;have I2:Hid (cs.all uW=true):=List.all_eq_true.2 (fun c hc=>by
    obtain ⟨i,hi,rfl⟩:=aK hc;exact HP.out i hi (by omega))
   have dE:¬ (k:Int)<(n:Int):=by have:=HN.out;omega
   clear aE bQ HP nG;go_wp2;rw [HQQ.out];refine ⟨.inl ⟨I2.out,_,rfl,?_⟩,kB.out⟩;rw [← HB.out];exact HO.out
theorem xB{l:List Lk}{k:Nat}(hk:k<l.length)(h:∀ i (hi:i+1<l.length),i+1<k→cR l[i].1 l[i+1].1=true)(hl:∀ (h0:0<k),cR (l[k - 1]'(by omega)).1 l[k].1=true):∀ i (hi:i+1<l.length),i+1<k+1→cR l[i].1 l[i+1].1=true:=fun i hi SH=>by
 by_cases he:i+1=k
 ·have:=hl (by omega)
  simp only [show k=i+1 by omega] at this
  exact this
 ·exact h i hi (by omega)
theorem GS(v:Value)(l:List Lk)(w:World)(hm:l.length≤140737488355328)(hr:dm w v l):Calls prog 158 #[v] w fun e w'=>e = .returned (.bool (decide (nJ l)))∧Below w.heap.size w w':=by
 obtain ⟨a,cap,hv⟩:=hr.form;subst hv;obtain ⟨n,hn⟩ : ∃ n,n=l.length:=⟨_,rfl⟩;rw [← hn] at hr hm ⊢;have HR:=ab hr;have HN:=ab hn;obtain ⟨Q,hQ⟩ : ∃ Q:Ending→World→Prop,Q=fun e w'=>e = .returned (.bool (decide (nJ l)))∧Below w.heap.size w w':=⟨_,rfl⟩
 rw [← hQ];have HQ:=ab hQ;clear hn hr hQ;go_enter func158,ntmps158;go_wp2;go_loopw [7] (fun i wr=>∃ k:Nat,k≤n∧i = .int .i64 k∧(∀ i (hi:i+1<l.length),i+1<k→cR l[i].1 l[i+1].1=true)∧Below w.heap.size w wr) (fun i _=>n - (intOf i).toNat)
 case atStart=>exact ⟨0,aB _,rfl,fun j _ h=>absurd h (iz _),Below.refl _ _⟩
 case round =>
  obtain ⟨k,hk,rfl,js,bQ⟩:=hrel;have HP:=ab js;clear js;by_cases bO:k<n
  ·have cZ:k<l.length:=by have:=HN.out;omega
   obtain ⟨g,o,ha,c1,c2⟩:=(HR.out.below bQ).spot k cZ;have dE:(k:Int)<(n:Int):=by omega
   have j0:(0:Int)≤(k:Int):=by omega
   have fc:=ai wr (.cells #[.string l[k].1,.int .i64 l[k].2] 179);have HB:=ab (Below.next bQ fc);have hx:=au.new wr #[.string l[k].1,.int .i64 l[k].2] 179;have b0:=hx.c0;by_cases h0:k=0
   ·have gy:=ab (xB cZ HP.out (fun h=>by omega))
    generalize l[k].1=x1 at *;generalize l[k].2=x2 at *;subst ha;have hz:decide ((0:Int)<(k:Int))=false:=decide_eq_false (by omega)
    have pL:decide (0<k)=false:=decide_eq_false (by omega)
    have NA:=ab h0;clear bQ fc hx h0;go_wp2;go_quiet (fail)
    go_wp2;go_roundw
    case rel=>exact ⟨k+1,by omega,by go_num,gy.out,aA HB.out _⟩
    case measure=>simp [intOf];omega
   ·have yw:k - 1<l.length:=by omega
    obtain ⟨g',o',ha',d1,d2⟩:=(HR.out.below bQ).spot (k - 1) yw;rw [ha] at ha';cases ha'
    subst ha;have gy:Hid (cR (l[k - 1]'yw).1 l[k].1=true→∀ i (hi:i+1<l.length),i+1<k+1→cR l[i].1 l[i+1].1=true):=fun h=>xB cZ HP.out (fun _=>h)
    have kK:Hid (cR (l[k - 1]'yw).1 l[k].1=false→¬ nJ l):=fun h hr=>by
     have:=hr (k - 1) (by omega)
     simp only [show k - 1+1=k by omega] at this
     rw [h] at this;cases this
    obtain ⟨k1,iV⟩ : ∃ k1,k1=k - 1:=⟨_,rfl⟩;have sS:IntKind.i64.wrap ((k:Int) - 1)=(k1:Int):=by rw [IntKind.wrap_i64];omega
    have hz:(0:Int)<(k:Int):=by omega
    have pL:0<k:=by omega
    have j1:(k1:Int)<(n:Int):=by omega
    have j2:(0:Int)≤(k1:Int):=by omega
    generalize (l[k - 1]'yw).1=y1 at *;rw [← iV] at d1;have e1:=(fc.cell (p:=⟨g,o+k1*2,none⟩) (World.block_lt_of_cell? wr _ d1)).trans d1;generalize l[k].1=x1 at *;generalize l[k].2=x2 at *;clear bQ fc hx h0 iV d1 d2 yw;cases hb:cR y1 x1 with
    | true =>
     have jB:Op.bytesLess y1.toList x1.toList=true:=hb;have lD:=ab (gy.out hb);clear hb gy kK;go_wp2;go_quiet (fail)
     go_wp2;go_roundw
     case rel=>exact ⟨k+1,by omega,by go_num,lD.out,aA HB.out _⟩
     case measure=>simp [intOf];omega
    | false =>
     have jB:Op.bytesLess y1.toList x1.toList=false:=hb;have lD:=ab (kK.out hb);clear hb gy kK;go_wp2;go_quiet (fail)
     go_wp2;rw [HQ.out];exact ⟨by rw [decide_eq_false lD.out];rfl,aA HB.out _⟩
  ·have dE:¬ (k:Int)<(n:Int):=by omega
   have I2:Hid (nJ l):=fun i hi=>HP.out i hi (by have:=HN.out;omega)
   have HB:=ab bQ;clear bQ HP;go_wp2;rw [HQ.out];exact ⟨by rw [decide_eq_true I2.out],HB.out⟩
end B
end Go.Proofs.YtihmgigfkmofnaaGreatDoor
def Tryz.Es:Go.Shelf.Ren:=⟨fun | 125=>106 | 128=>145 | 129=>146 | 189=>68 | 215=>181 | 216=>142 | 257=>105 | 294=>136 | 295=>137 | 296=>138 | 297=>139 | 298=>140 | 299=>141 | 300=>143 | 301=>144 | 328=>176 | 329=>177 | 330=>178 | 331=>179 | 332=>180 | 343=>221 | n=>n,fun | 0=>0 | 3=>3 | 4=>4 | 5=>5 | 9=>9 | 28=>69 | 46=>183 | 51=>225 | 53=>40 | 131=>72 | 182=>218 | 183=>219 | 218=>260 | 222=>264 | 228=>306 | 229=>307 | n=>n,fun | n=>n⟩
theorem Tryz.TU:Go.Proofs.Lays.n189 prog Tryz.Es:={
 mixed:=by kernel_rfl
 f125:=func106.trans (congrArg some (by kernel_rfl))
 f128:=func145.trans (congrArg some (by kernel_rfl))
 f129:=func146.trans (congrArg some (by kernel_rfl))
 f189:=func68.trans (congrArg some (by kernel_rfl))
 f215:=func181.trans (congrArg some (by kernel_rfl))
 f216:=func142.trans (congrArg some (by kernel_rfl))
 f257:=func105.trans (congrArg some (by kernel_rfl))
 f294:=func136.trans (congrArg some (by kernel_rfl))
 f295:=func137.trans (congrArg some (by kernel_rfl))
 f296:=func138.trans (congrArg some (by kernel_rfl))
 f297:=func139.trans (congrArg some (by kernel_rfl))
 f298:=func140.trans (congrArg some (by kernel_rfl))
 f299:=func141.trans (congrArg some (by kernel_rfl))
 f300:=func143.trans (congrArg some (by kernel_rfl))
 f301:=func144.trans (congrArg some (by kernel_rfl))
 f328:=func176.trans (congrArg some (by kernel_rfl))
 f329:=func177.trans (congrArg some (by kernel_rfl))
 f330:=func178.trans (congrArg some (by kernel_rfl))
 f331:=func179.trans (congrArg some (by kernel_rfl))
 f332:=func180.trans (congrArg some (by kernel_rfl))
 f343:=func221.trans (congrArg some (by kernel_rfl))
 t0:=underlying0
 a0:=isAgg0
 z0:=sizeOf0
 v0:=zeroValue0
 t3:=underlying3
 a3:=isAgg3
 z3:=sizeOf3
 v3:=zeroValue3
 t4:=underlying4
 a4:=isAgg4
 z4:=sizeOf4
 v4:=zeroValue4
 t5:=underlying5
 a5:=isAgg5
 z5:=sizeOf5
 v5:=zeroValue5
 t9:=underlying9
 a9:=isAgg9
 z9:=sizeOf9
 v9:=zeroValue9
 t28:=underlying69
 a28:=isAgg69
 z28:=sizeOf69
 v28:=zeroValue69
 t46:=underlying183
 a46:=isAgg183
 z46:=sizeOf183
 v46:=zeroValue183
 t51:=underlying225
 a51:=isAgg225
 z51:=sizeOf225
 v51:=zeroValue225
 t53:=underlying40
 a53:=isAgg40
 z53:=sizeOf40
 v53:=zeroValue40
 t131:=underlying72
 a131:=isAgg72
 z131:=sizeOf72
 v131:=zeroValue72
 t182:=underlying218
 a182:=isAgg218
 z182:=sizeOf218
 v182:=zeroValue218
 t183:=underlying219
 a183:=isAgg219
 z183:=sizeOf219
 v183:=zeroValue219
 t218:=underlying260
 a218:=isAgg260
 z218:=sizeOf260
 v218:=zeroValue260
 t222:=underlying264
 a222:=isAgg264
 z222:=sizeOf264
 v222:=zeroValue264
 t228:=underlying306
 a228:=isAgg306
 z228:=sizeOf306
 v228:=zeroValue306
 t229:=underlying307
 a229:=isAgg307
 z229:=sizeOf307
 v229:=zeroValue307 }
def Tryz.Hp:Go.Shelf.Ren:=⟨fun | 20=>200 | n=>n,fun | 0=>0 | 3=>3 | 4=>4 | 22=>69 | n=>n,fun | n=>n⟩
theorem Tryz.Xf:Go.Proofs.Lays2.n20 prog Tryz.Hp:={
 mixed:=by kernel_rfl
 f20:=func200.trans (congrArg some (by kernel_rfl))
 t0:=underlying0
 a0:=isAgg0
 z0:=sizeOf0
 v0:=zeroValue0
 t3:=underlying3
 a3:=isAgg3
 z3:=sizeOf3
 v3:=zeroValue3
 t4:=underlying4
 a4:=isAgg4
 z4:=sizeOf4
 v4:=zeroValue4
 t22:=underlying69
 a22:=isAgg69
 z22:=sizeOf69
 v22:=zeroValue69
 i3:=by kernel_rfl }
namespace Go.Proofs.YtihmgigfkmofnaaGreatDoor
namespace B
open Go.RowKit
theorem Ll(base:Nat)(v:Value)(xs:List Int)(x:Int)(t:TypeId)(w w0:World)(B n:Nat)(hn:xs.length=n)(aE:w.ownsRow base 3 1 v n (ints xs))(hb:(n+1)*8≤140737488355328)(dd:base≤w.heap.size)(hB:B≤base)(h0:Below B w0 w):∃ a' eO w',(Builtin.append_ #[69,69] 69 #[v,.slice (some ⟨w.heap.size,0,none⟩) 1 1]).run prog (w.alloc (.cells #[.int .i64 x] t)) = .ok (.slice a' (n+1) eO) w'∧w'.ownsRow base 3 1 (.slice a' (n+1) eO) (n+1) (ints (xs++[x]))∧Below B w0 w'∧w.heap.size≤w'.heap.size:=by
 subst hn;have hr:lF (w.alloc (.cells #[.int .i64 x] t)) (.slice (some ⟨w.heap.size,0,none⟩) 1 1) [.int .i64 x]:=by
  have me:=bM w #[.int .i64 x] t;refine ⟨_,_,rfl,aj _,fun h=>(by cases h),fun j u hj=>⟨_,_,rfl,?_⟩⟩
  have Gg:j=0:=by
   have:=(List.getElem?_eq_some_iff.1 hj).1;simpa using this
  subst Gg;cases hj;exact me.2 0 (by simp)
 obtain ⟨a',eO,w',bw,gr,hg⟩:=jW 69 3 _ 8 info3 underlying69 rfl base xs.length v (ints xs) _ (World.ownsRow.alloc aE _) _ _ hr (fun u hu=>by simp at hu;subst hu;rfl) (by simpa using hb) (by decide) (by simp;omega)
 refine ⟨a',eO,w',bw,by rw [oM];exact gr,?_,?_⟩
 ·exact (h0.alloc (ar hB dd) _).grown hg (by simp;omega) (fun k hk=>ar hB (World.ownsRow.lt aE k hk).1)
 ·have:=hg.size;simp at this
  omega
theorem yk(f:Int)(l:List Lk)(k:Nat)(h:k<l.length):kids f (l.take (k+1))=kids f (l.take k)++[l[k].2]:=by
 unfold kids;rw [ax h,bz];rfl
theorem Lv{w:World}{base e n:Nat}{v:Value}{xs:List Value}(h:w.ownsRow base e 1 v n xs):∃ a c,v = .slice a n c:=by
 rcases h.2 with ⟨rfl,rfl⟩ | ⟨g,cap,cur,rfl,_⟩
 ·exact ⟨_,_,rfl⟩
 ·exact ⟨_,_,rfl⟩
theorem Pn{w:World}{b b2 e n:Nat}{v:Value}{xs:List Value}(h:w.ownsRow b e 1 v n xs)(hb:b2≤b):w.ownsRow b2 e 1 v n xs:=by
 refine ⟨h.1,?_⟩;rcases h.2 with h' | ⟨g,cap,cur,h',h1,hr⟩
 ·exact .inl h'
 ·exact .inr ⟨g,cap,cur,h',ar hb h1,hr⟩
theorem Qa(f:Int)(v:Value)(l:List Lk)(w:World)(hm:l.length≤5864062014805)(hr:dm w v l):Calls prog 199 #[.agg #[.int .i64 f,v]] w fun e w'=>∃ u,e = .returned u∧w'.ownsRow w.heap.size 3 1 u (l.length+1) (ints (kids f l))∧Below w.heap.size w w':=by
 obtain ⟨a,cap,hv⟩:=hr.form;subst hv;obtain ⟨n,hn⟩ : ∃ n,n=l.length:=⟨_,rfl⟩;rw [← hn] at hr hm ⊢;have q0:=ai w (.cells #[.int .i64 f,.slice a n cap] 150);have x0:=au.new w #[.int .i64 f,.slice a n cap] 150;generalize sW:w.alloc (.cells #[.int .i64 f,.slice a n cap] 150)=W0 at *;have q1:=ai W0 (.cells #[.int .i64 f] 3);have o1:(W0.alloc (.cells #[.int .i64 f] 3)).ownsRow W0.heap.size 3 1 (.slice (some ⟨W0.heap.size,0,none⟩) 1 1) 1 (ints [f]):=World.ownsRow_lit W0 #[.int .i64 f] 1 (aj _) (by decide) rfl
 generalize ig:W0.alloc (.cells #[.int .i64 f] 3)=W1 at *;have p0:=x0.c0;have p1:=(x0.below q1).c1;have HR:=ab (hr.below q0);have HN:=ab hn;have HQ:=ab (Below.next q0 q1);have Vi:=ab q0;have zg:=ab q1;have rA:=ab o1;clear hn hr q0 x0 q1 o1;go_enter func199,ntmps199;go_wp2;clear p0 p1;go_loopw [3,12] (fun u i wr=>∃ k:Nat,k≤n∧i = .int .i64 k∧wr.ownsRow W0.heap.size 3 1 u (k+1) (ints (kids f (l.take k)))∧Below W0.heap.size W0 wr) (fun _ i _=>n - (intOf i).toNat)
 case atStart=>exact ⟨0,aB _,rfl,by simpa [kids] using rA.out,zg.out⟩
 case round =>
  obtain ⟨k,hk,rfl,aE,bQ⟩:=hrel;have lE:(kids f (l.take k)).length=k+1:=by rw [sq,ag];have:=HN.out;omega
  obtain ⟨ua,uc,hu⟩:=Lv aE;subst hu;by_cases bO:k<n
  ·have cZ:k<l.length:=by have:=HN.out;omega
   obtain ⟨g,o,rfl,c1,c2⟩:=(HR.out.below bQ).spot k cZ;have HS:=ab (yk f l k cZ);have q2:=ai wr (.cells #[.string l[k].1,.int .i64 l[k].2] 179);have hx:=au.new wr #[.string l[k].1,.int .i64 l[k].2] 179;obtain ⟨a3,cp3,w2,bw,ic,aO,_⟩:=Ll W0.heap.size _ _ l[k].2 3 _ W0 W0.heap.size (k+1) lE (iS aE q2) (by omega) (ar bQ.size q2.size) (aj _) (Below.next bQ q2)
   rw [← HS.out] at ic;generalize l[k].1=s1 at *;generalize l[k].2=s2 at *;have b1:=hx.c1;have HO:=ab ic;have HB:=ab aO;have dE:(k:Int)<(n:Int):=by omega
   have hz:(wr.alloc (.cells #[.string s1,.int .i64 s2] 179)).heap.size=wr.heap.size+1:=by simp
   rw [hz] at bw;clear aE ic aO bQ HS lE q2 hx hz;go_wp2_with (first | (at_builtin;have h0:=bw;clear bw;refine wpList_append_run 69 rfl (.tmp 16) (.tmp 19) rfl rfl _ _ rfl rfl _ _ h0 ?_;clear h0))
   go_wp2;go_roundw
   case rel=>exact ⟨k+1,by omega,by go_num,HO.out,HB.out⟩
   case measure=>simp [intOf];omega
  ·have nG:k=n:=by omega
   have dn:l.take k=l:=by rw [ao];have:=HN.out;omega
   rw [dn] at aE;have HO:=ab aE;have HB:=ab (Below.next Vi.out bQ);have dE:¬ (k:Int)<(n:Int):=by omega
   clear aE bQ dn lE;go_wp2;go_ret;refine ⟨_,rfl,?_,HB.out⟩;rw [← nG];exact Pn HO.out Vi.out.size
open Go.Sort
theorem qU{α:Type}(p:α→Bool):∀ l:List α,(l.filter p).length≤l.length∧((l.filter p).length=l.length↔∀ x ∈ l,p x=true)
 | []=>by simp
 | x::r=>by
  obtain ⟨h1,h2⟩:=qU p r;cases hx:p x with
  | true =>
   rw [List.filter_cons_of_pos hx];refine ⟨by simp;omega,?_⟩
   simp only [List.length_cons,dO,forall_eq_or_imp,hx,true_and];rw [← h2];omega
  | false =>
   rw [List.filter_cons_of_neg (by simp [hx])]
   refine ⟨by simp;omega,?_⟩
   simp only [List.length_cons,dO,forall_eq_or_imp,hx];constructor
   ·intro h;omega
   ·rintro ⟨h,_⟩;cases h
theorem Fq(zs:List Int)(hs:zs.Pairwise (·≤·)):(Lib.compact zs).length=zs.length↔zs.Nodup:=by
 unfold Lib.compact Lib.compactUpTo;rw [az];have h:=(qU (Lib.keeps zs.toArray) (List.range zs.length)).2;rw [List.length_range] at h;rw [h];constructor
 ·intro hk;rw [List.nodup_iff_pairwise_ne];rw [List.pairwise_iff_getElem] at hs ⊢;intro i j hi hj NU he;have hj1:=hk j (List.mem_range.2 hj);unfold Lib.keeps at hj1;rcases of_decide_eq_true hj1 with h0 | h0
  ·omega
  ·apply h0
   have e1:zs.toArray[j]! = zs[j]:=by simp [hj]
   have lY:j - 1<zs.length:=by omega
   have e2:zs.toArray[j - 1]! = zs[j - 1]:=by simp [lY]
   rw [e1,e2];have akl:zs[j - 1]≤zs[j]:=hs (j - 1) j lY hj (by omega)
   have Ic:zs[i]≤zs[j - 1]:=by
    by_cases hij':i=j - 1
    ·subst hij';exact Int.le_refl _
    ·exact hs i (j - 1) hi lY (by omega)
   omega
 ·intro hn j hj;have hj:=List.mem_range.1 hj;unfold Lib.keeps;apply decide_eq_true
  by_cases h0:j=0
  ·exact .inl h0
  ·refine .inr (fun he=>?_)
   have lY:j - 1<zs.length:=by omega
   have e1:zs.toArray[j]! = zs[j]:=by simp [hj]
   have e2:zs.toArray[j - 1]! = zs[j - 1]:=by simp [lY]
   rw [e1,e2] at he;rw [List.nodup_iff_pairwise_ne,List.pairwise_iff_getElem] at hn;exact hn (j - 1) j lY hj (by omega) he.symm
theorem yK(zs:List Int):(Lib.compact zs).length≤zs.length:=by
 unfold Lib.compact Lib.compactUpTo;rw [az];have:=(qU (Lib.keeps zs.toArray) (List.range zs.length)).1;rwa [List.length_range] at this
def pU(f:Int)(l:List Lk):List Int:=(kids f l).mergeSort fun x y=>decide (x≤y)
theorem ED(f:Int)(l:List Lk):(pU f l).length=l.length+1:=by unfold pU;rw [List.length_mergeSort,sq]
theorem Cc(f:Int)(l:List Lk):decide ((Lib.compact (pU f l)).length≤l.length)=decide (¬ (kids f l).Nodup):=by
 have hs:(pU f l).Pairwise (·≤·):=by
  have:=List.pairwise_mergeSort (le:=fun x y:Int=>decide (x≤y)) (fun a b c h1 h2=>by simp at *;omega) (fun a b=>by simp;omega) (kids f l)
  exact this.imp (fun h=>by simpa using h)
 have hp:(pU f l).Perm (kids f l):=List.mergeSort_perm _ _;have h1:=Fq (pU f l) hs;have h2:=yK (pU f l);rw [ED] at h1 h2;have jb:(pU f l).Nodup↔(kids f l).Nodup:=hp.nodup_iff;congr 1
 apply propext
 rw [← jb,← h1];omega
theorem Au(g cap:Nat)(zs:List Int)(w:World)(hH:Holds (Value.int .i64) w g 0 zs.toArray)(hg:g<w.heap.size)(hz:zs.length<4611686018427387904):Calls prog 68 #[.slice (some ⟨g,0,none⟩) zs.length cap] w fun e w'=>e = .returned (.tuple #[])∧∃ n os,w'=grow (putRow (Value.int .i64) (Sort.ahead w n) g 0 (zs.mergeSort fun x y=>decide (x≤y)).toArray) os :=
 Any.slices_Sort_int Tryz.TU g 0 cap zs w hH hg hz
theorem M0(g cap:Nat)(zs:List Int)(w:World)(hH:Holds (Value.int .i64) w g 0 zs.toArray)(hz:zs.length≤9223372036854775807)(hc:zs.length≤cap):Calls prog 200 #[.slice (some ⟨g,0,none⟩) zs.length cap] w fun e w'=>e = .returned (.slice (some ⟨g,0,none⟩) (Lib.compact zs).length cap)∧∃ q,w'=putRow (Value.int .i64) (Sort.ahead w q) g 0 (Lib.compact zs++List.replicate (zs.length - (Lib.compact zs).length) 0).toArray :=
 Any.slices_Compact_int Tryz.Xf g 0 cap zs w hH hz hc
theorem Co{w:World}{g n:Nat}(d:Array Int):w.grownBy (putRow (Value.int .i64) (Sort.ahead w n) g 0 d) (some g):=by
 refine ⟨rfl,rfl,rfl,by simp,fun k hk cY=>?_⟩
 have:g≠k:=fun e=>cY (by rw [e])
 simp [putRow,mapBlock,Sort.ahead,Array.getElem?_modify,this]
theorem KN(f:Int)(v:Value)(l:List Lk)(w:World)(hm:l.length≤5864062014805)(hr:dm w v l):Calls prog 159 #[.agg #[.int .i64 f,v]] w fun e w'=>e = .returned (.bool (decide (¬ (kids f l).Nodup)))∧Below w.heap.size w w':=by
 rw [← Cc];obtain ⟨cl,ry⟩ : ∃ c,c=(Lib.compact (pU f l)).length:=⟨_,rfl⟩;rw [← ry];have ac2:=ab ry;clear ry;obtain ⟨a,cap,hv⟩:=hr.form;subst hv;obtain ⟨n,hn⟩ : ∃ n,n=l.length:=⟨_,rfl⟩;rw [← hn] at hr hm ⊢;have q0:=ai w (.cells #[.int .i64 f,.slice a n cap] 150);have x0:=au.new w #[.int .i64 f,.slice a n cap] 150;have s0:(w.alloc (.cells #[.int .i64 f,.slice a n cap] 150)).heap.size=w.heap.size+1:=by simp
 generalize sW:w.alloc (.cells #[.int .i64 f,.slice a n cap] 150)=W0 at *;have p0:=x0.c0;have p1:=x0.c1;have HK:=ab (Qa f _ l W0 (by omega) (hr.below q0))
 have HN:=ab hn;have HX:=ab x0;have HQ:=ab q0;have HS0:=ab s0;have Ae:=ab (ED f l);clear hn hr q0 x0 s0;go_enter func159,ntmps159;go_wp2_with fail;refine HK.out.mono ?_
 rintro e w1 ⟨u,rfl,aE,aO⟩;rw [← HN.out] at aE;obtain ⟨g,gc,cur,rr,dd,hb,h1,h2,h3,h4⟩ : ∃ g gc cur,u=Value.slice (some ⟨g,0,none⟩) (n+1) gc∧W0.heap.size≤g∧w1.heap[g]?=some (.cells cur 3 (0,0))∧n+1≤gc∧gc≤maxLen∧cur.size=gc*1∧cur.toList.take ((n+1)*1)=(kids f l).map (Value.int .i64):=by
  rcases aE.2 with ⟨_,h0⟩ | h
  ·omega
  ·exact h
 subst rr;have cZ:(kids f l).length=n+1:=by rw [sq,← HN.out]
 have hH:Holds (Value.int .i64) w1 g 0 (kids f l).toArray:=holds_of_blockI hb (by rw [cZ];simpa using h4)
 have yy:g<w1.heap.size:=(Array.getElem?_eq_some_iff.1 hb).1;have Se:Hid (Calls prog 68 #[.slice (some ⟨g,0,none⟩) (n+1) gc] w1 fun e w'=>e = .returned (.tuple #[])∧w'.ownsRow W0.heap.size 3 1 (.slice (some ⟨g,0,none⟩) (n+1) gc) (n+1) ((pU f l).map (Value.int .i64))∧Below W0.heap.size W0 w'):=by
  have hc:=Au g gc (kids f l) w1 hH yy (by omega)
  rw [cZ] at hc;refine hc.mono ?_
  rintro e w' ⟨rfl,q,os,rfl⟩;refine ⟨rfl,?_,aO.grown (grownBy_sortedI _) aO.size (fun j hj=>by cases hj;exact dd)⟩
  have:=ownsRow_sortedI (w:=w1) (base:=W0.heap.size) (n:=q) (os:=os) (ss:=kids f l) (ts:=pU f l) (by rw [Ae.out,sq]) dd hb (by omega) h2 h3
  rwa [cZ] at this
 clear aE hb h1 h3 h4 cZ hH yy HK aO p0 p1;go_wp2_with fail;refine Se.out.mono ?_
 rintro e w2 ⟨rfl,jf,aV⟩;have p1:=(HX.out.below aV).c1;have zA:Hid (∀ W,Below w2.heap.size w2 W→Calls prog 200 #[.slice (some ⟨g,0,none⟩) (n+1) gc] W fun e w'=>e = .returned (.slice (some ⟨g,0,none⟩) cl gc)∧Below W0.heap.size W0 w'):=fun W hW=>by
  rw [ac2.out];obtain ⟨g',gc',cur,rr,afi,hb,h1,h2,h3,h4⟩ : ∃ g' gc' cur,Value.slice (some ⟨g,0,none⟩) (n+1) gc=Value.slice (some ⟨g',0,none⟩) (n+1) gc'∧W0.heap.size≤g'∧w2.heap[g']?=some (.cells cur 3 (0,0))∧n+1≤gc'∧gc'≤maxLen∧cur.size=gc'*1∧cur.toList.take ((n+1)*1)=(pU f l).map (Value.int .i64):=by
   rcases jf.2 with ⟨_,h0⟩ | h
   ·omega
   ·exact h
  cases rr;have nP:(pU f l).length=n+1:=by rw [Ae.out,← HN.out]
  have yy:g<w2.heap.size:=(Array.getElem?_eq_some_iff.1 hb).1;have J7:W.heap[g]?=some (.cells cur 3 (0,0)):=by rw [hW.block g yy];exact hb
  have hH:Holds (Value.int .i64) W g 0 (pU f l).toArray:=holds_of_blockI J7 (by rw [nP];simpa using h4)
  have hc:=M0 g gc (pU f l) W hH (by omega) (by omega)
  rw [nP] at hc;refine hc.mono ?_
  rintro e w' ⟨rfl,q,rfl⟩;exact ⟨rfl,(Below.next aV hW).grown (Co _) (ar aV.size hW.size) (fun j hj=>by cases hj;exact dd)⟩
 have tj:Hid (cl≤n+1):=by
  have:=yK (pU f l);rw [Ae.out,← HN.out,← ac2.out] at this;exact this
 have bL:=ab aV;clear jf aV Se h2 dd;have akN:cl≤140737488355328:=by have:cl≤n+1:=tj.out;omega
 go_wp2_with fail;go_region_held3 (fun w'=>w'.cell? ⟨w.heap.size,1,none⟩=some (.slice a n cap)) (go_keep)
  (first
   | (go_at_call 200;refine (zA.out _ ?_).mono ?_;(exact (Below.refl _ _).drew);rintro e w3 ⟨rfl,bW⟩;have eH:=ab bW;have m1:w3.cell? ⟨w.heap.size,1,none⟩=some (.slice a n cap):=(HX.out.below bW).c1;clear bW))
 all_goals
  clear zA p1 m1;go_wp2;go_ret;exact ⟨by simp,Below.next HQ.out eH.out⟩
end B
end Go.Proofs.YtihmgigfkmofnaaGreatDoor
namespace Go.Proofs.YtihmgigfkmofnaaGreatDoor
namespace B
open Go.RowKit
variable {w:World} {A:Nat→Addr}
def p9(A:Nat→Addr)(w:World):Prop:=dI 5 fe A w∧w.cell? ⟨11,0,none⟩=some (.iface 360 (.pointer (some (A 11))))
theorem p9.below{w':World}(h:p9 A w)(hb:Below w.heap.size w w'):p9 A w' :=
 ⟨h.1.keep hb,(hb.cell (p:=⟨11,0,none⟩) (World.block_lt_of_cell? w _ h.2)).trans h.2⟩
theorem Fg(h:dI 13 fe A w):p9 A w:=⟨h.KF (by decide),(h.1 11 (by decide)).1⟩
theorem p9.c(h:p9 A w):jC A w:=⟨h.1.KF (by decide),h.2⟩
def Fw(n:Nat)(b1 b2 b3 root:Bool)(x:Int):Option Nat :=
 if n=0 then some 3 else if b1=false then some 0 else if b2=false then some 11 else if b3=true then some 4 else if (4072:Int)<x then some 2 else if root=false∧x<1777 then some 3 else none
theorem UW(f:Int)(l:List Lk)(root:Bool)(hm:l.length≤5864062014805):Fw l.length (fZ f && l.all gE) (decide (nJ l)) (decide (¬ (kids f l).Nodup)) root (qd (jy l))=lz f l root:=by
 unfold Fw lz;by_cases h0:l=[]
 ·subst h0;rfl
 ·rw [if_neg (by simpa using h0),if_neg h0]
  cases h1:(fZ f && l.all gE) with
  | false=>simp
  | true =>
   simp only [ph,if_false];have ha:l.all gE=true:=by
    rw [bV] at h1;exact h1.2
   have hs:=Tb ha;have hw:qd (jy l)=(jy l:Int):=kS (by omega)
   rw [hw];by_cases h2:nJ l
   ·simp only [h2,decide_true,ph,if_false,not_true_eq_false];by_cases h3:(kids f l).Nodup
    ·simp only [h3,not_true_eq_false,decide_false,kH,if_false];by_cases h4:4072<jy l
     ·rw [if_pos (by omega),if_pos h4]
     ·rw [if_neg (by omega),if_neg h4]
      by_cases h5:root=false∧jy l<1777
      ·rw [if_pos ⟨h5.1,by omega⟩,if_pos h5]
      ·rw [if_neg (fun h=>h5 ⟨h.1,by omega⟩),if_neg h5]
    ·simp [h3]
   ·simp [h2]
theorem rh(A:Nat→Addr)(f:Int)(v:Value)(l:List Lk)(root:Bool)(w:World)(cM:Wj l)(hm:l.length≤5864062014805)(hr:dm w v l)(hE:p9 A w):Calls prog 117 #[.agg #[.int .i64 f,v],.bool root] w fun e w'=>e = .returned (im A (lz f l root))∧Below w.heap.size w w':=by
 rw [← UW f l root hm];obtain ⟨a,cap,hv⟩:=hr.form;subst hv;obtain ⟨n,hn⟩ : ∃ n,n=l.length:=⟨_,rfl⟩;rw [← hn] at hr hm ⊢;have q0:=ai w (.cells #[.int .i64 f,.slice a n cap] 150);have x0:=au.new w #[.int .i64 f,.slice a n cap] 150;generalize sW:w.alloc (.cells #[.int .i64 f,.slice a n cap] 150)=W0 at *;have p0:=x0.c0;have p1:=x0.c1;have HQ:=ab q0;have HX:=ab x0;have HE:=ab (hE.below q0);have HR:=ab (hr.below q0);have H1:=ab (Bt f _ l W0 cM (by omega) HR.out)
 have H2:Hid (∀ W,Below W0.heap.size W0 W→Calls prog 157 #[.agg #[.int .i64 f,.slice a n cap]] W fun e w'=>e = .returned (.bool (fZ f && l.all gE))∧Below W.heap.size W w'):=fun W h=>IN f _ l W (by omega) (HR.out.below h)
 have H3:Hid (∀ W,Below W0.heap.size W0 W→Calls prog 158 #[.slice a n cap] W fun e w'=>e = .returned (.bool (decide (nJ l)))∧Below W.heap.size W w'):=fun W h=>GS _ l W (by omega) (HR.out.below h)
 have H4:Hid (∀ W,Below W0.heap.size W0 W→Calls prog 159 #[.agg #[.int .i64 f,.slice a n cap]] W fun e w'=>e = .returned (.bool (decide (¬ (kids f l).Nodup)))∧Below W.heap.size W w'):=fun W h=>KN f _ l W (by omega) (HR.out.below h)
 obtain ⟨b1,aO⟩ : ∃ b,b=(fZ f && l.all gE):=⟨_,rfl⟩;obtain ⟨b2,aV⟩ : ∃ b,b=decide (nJ l):=⟨_,rfl⟩;obtain ⟨b3,bW⟩ : ∃ b,b=decide (¬ (kids f l).Nodup):=⟨_,rfl⟩;obtain ⟨x,hx⟩ : ∃ x,x=qd (jy l):=⟨_,rfl⟩;rw [← aO] at H2 ⊢;rw [← aV] at H3 ⊢;rw [← bW] at H4 ⊢;rw [← hx] at H1 ⊢;clear hn hr hE cM q0 x0 aO aV bW hx HR;have HC:Hid (∀ W k,Below W0.heap.size W0 W→k<5→W.cell? ⟨fe k,0,none⟩=some (.iface 360 (.pointer (some (A k))))):=fun W k h hk=>((HE.out.below h).1.1 k hk).1
 go_enter func117,ntmps117;go_wp2_with fail;refine H1.out.mono ?_
 rintro e w1 ⟨rfl,aO⟩;have bT:=ab aO;have o0:=(HX.out.below aO).c0;have o1:=(HX.out.below aO).c1;clear aO H1 p0 p1;by_cases h0:n=0
 ·subst h0;have c3:w1.cell? ⟨3,0,none⟩=some (.iface 360 (.pointer (some (A 3)))):=HC.out w1 3 bT.out (by decide)
  have HB:=ab (Below.next HQ.out bT.out);clear H2 H3 H4;go_wp2;go_ret;exact ⟨rfl,HB.out⟩
 ·have Gi:((n:Int) == 0)=false:=by rw [beq_eq_false_iff_ne];omega
  have uK:Hid (Fw n b1 b2 b3 root x=if b1=false then some 0 else if b2=false then some 11 else if b3=true then some 4 else if (4072:Int)<x then some 2 else if root=false∧x<1777 then some 3 else none):=by show _=_;unfold Fw;rw [if_neg h0]
  go_wp2_with fail;refine (H2.out _ bT.out).mono ?_
  rintro e w2 ⟨rfl,aV⟩;have bL:=ab (Below.next bT.out aV);clear aV H2 o0 o1 bT;have o0:=(HX.out.below bL.out).c0;have o1:=(HX.out.below bL.out).c1;cases b1 with
  | false =>
   have c0:w2.cell? ⟨0,0,none⟩=some (.iface 360 (.pointer (some (A 0)))):=HC.out w2 0 bL.out (by decide)
   have HB:=ab (Below.next HQ.out bL.out);clear H3 H4;go_wp2;go_ret;exact ⟨by rw [uK.out];rfl,HB.out⟩
  | true =>
   go_wp2_with fail;refine (H3.out _ bL.out).mono ?_
   rintro e w3 ⟨rfl,bW⟩;have eH:=ab (Below.next bL.out bW);clear bW H3 o0 o1 bL;have o0:=(HX.out.below eH.out).c0;have o1:=(HX.out.below eH.out).c1;cases b2 with
   | false =>
    have c11:w3.cell? ⟨11,0,none⟩=some (.iface 360 (.pointer (some (A 11)))):=(HE.out.below eH.out).2;have HB:=ab (Below.next HQ.out eH.out);clear H4;go_wp2;go_ret;exact ⟨by rw [uK.out];rfl,HB.out⟩
   | true =>
    go_wp2_with fail;refine (H4.out _ eH.out).mono ?_
    rintro e w4 ⟨rfl,fS⟩;have iY:=ab (Below.next eH.out fS);clear fS H4 o0 o1 eH;cases b3 with
    | true =>
     have c4:w4.cell? ⟨4,0,none⟩=some (.iface 360 (.pointer (some (A 4)))):=HC.out w4 4 iY.out (by decide)
     have HB:=ab (Below.next HQ.out iY.out);go_wp2;go_ret;exact ⟨by rw [uK.out];rfl,HB.out⟩
    | false =>
     have HB:=ab (Below.next HQ.out iY.out);by_cases h4:(4072:Int)<x
     ·have c2:w4.cell? ⟨2,0,none⟩=some (.iface 360 (.pointer (some (A 2)))):=HC.out w4 2 iY.out (by decide)
      have je:Fw n true true false root x=some 2:=by rw [uK.out];simp [h4]
      have uJ:=ab je;clear je;go_wp2;go_ret;exact ⟨by rw [uJ.out];rfl,HB.out⟩
     ·cases root with
      | true =>
       have je:Fw n true true false true x=none:=by rw [uK.out];simp [h4]
       have uJ:=ab je;clear je;go_wp2;go_ret;exact ⟨by rw [uJ.out];rfl,HB.out⟩
      | false =>
       by_cases h5:x<1777
       ·have c3:w4.cell? ⟨3,0,none⟩=some (.iface 360 (.pointer (some (A 3)))):=HC.out w4 3 iY.out (by decide)
        have je:Fw n true true false false x=some 3:=by rw [uK.out];simp [h4,h5]
        have uJ:=ab je;clear je;go_wp2;go_ret;exact ⟨by rw [uJ.out];rfl,HB.out⟩
       ·have je:Fw n true true false false x=none:=by rw [uK.out];simp [h4,h5]
        have uJ:=ab je;clear je;go_wp2;go_ret;exact ⟨by rw [uJ.out];rfl,HB.out⟩
end B
end Go.Proofs.YtihmgigfkmofnaaGreatDoor
