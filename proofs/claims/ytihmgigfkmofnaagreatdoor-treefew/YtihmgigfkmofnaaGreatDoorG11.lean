import Derived.Test.YtihmgigfkmofnaaGreatDoorLen64
import Derived.Test.YtihmgigfkmofnaaGreatDoorG06
import Derived.Laws.BitsLemmas
set_option maxHeartbeats 2000000
set_option maxRecDepth 20000
open Go.Proofs.Tryz
namespace Go.Proofs.YtihmgigfkmofnaaGreatDoor
open Go.RowKit
theorem LJ(b off len cap:Nat)(l:List UInt8)(w:World)(hlen:l.length=len)(h1:1≤len)(hm:len≤8)(hc:∀ j (h:j<l.length),w.cell? ⟨b,off+j,none⟩=some (.int .u8 (l[j].toNat:Int))):Calls prog 239 #[.slice (some ⟨b,off,none⟩) len cap] w fun e w'=>∃ g c2,e = .returned (.slice (some ⟨g,0,none⟩) len c2)∧w'.ownsRow w.heap.size 5 1 (.slice (some ⟨g,0,none⟩) len c2) len (dR l)∧Below w.heap.size w w':=by
 obtain ⟨i0,hi,nP,mB,pB⟩:=info_parts Tryz.info5;have qH:∀ w,(binOp .eql 145 (.slice (some ⟨b,off,none⟩) len cap) (.slice none 0 0)).run prog w = .ok (.bool false) w:=fun w=>by
  have h2:∀ d:Nat,(Op.equalIn (d+1) 145 (.slice (some ⟨b,off,none⟩) len cap) (.slice none 0 0)).run prog w = .ok false w:=fun d=>by
   simp [Op.equalIn,run_underlying underlying145]
  simp only [binOp];simp [Op.equal,Op.maxDepth,h2 9999]
 go_enter func239,ntmps239;have hb:b<w.heap.size:=World.block_lt_of_cell? w _ (hc 0 (by omega))
 go_wp2_with (first
  | (at_builtin;refine wpList_append_lies _ rfl _ _ 145 rfl w.heap.size 5 i0 (.int .u8 0) 1 1 underlying145 hi nP mB pB rfl (by decide) _ 0 [] rfl ?c0 ⟨b,off,none⟩ len cap (dR l) rfl ?c8 ?c1 (rp l) ?c3 ?c4 ?c5 ?c6 (w.heap.size+1) ?c7 ?_))
 case c0=>exact World.ownsRow_lit w #[] 0 (aj _) (aC _) rfl
 case c8=>rw [a6,hlen,Nat.mul_one]
 case c1 =>
  intro j u hu;by_cases hj:j<l.length
  ·rw [iz l j hj] at hu;cases hu;have e:(⟨b,off,none⟩ : Addr).add j=⟨b,off+j,none⟩:=by simp [Addr.add]
   rw [e,(ai w _).cell (p:=⟨b,off+j,none⟩) hb];exact hc j hj
  ·rw [bB (by rw [a6];omega)] at hu;cases hu
 case c3=>omega
 case c4=>unfold maxLen;omega
 case c5=>omega
 case c6=>simp
 case c7=>simp
 intro g c2 w1 aD Eo Cx hlg;have aN:Below w.heap.size w w1:=(ai w _).grown Eo (by simp) (fun k hk=>by simp [Value.ownBlock] at hk;omega)
 clear Eo Cx hlg hc;go_wp2;go_ret;exact ⟨g,c2,rfl,aD,aN⟩
theorem Qp:prog.arrayLen 328=8:=by kernel_rfl
theorem Tl:prog.elem 328=5:=by kernel_rfl
theorem Ab(b len:Nat)(h1:1≤len)(h8:len≤8)(w:World):(Instr.sliceAt 328 (.pointer (some ⟨b,0,none⟩)) (some (.int .i64 (8 - (len:Int)))) none none).run prog w = .ok (.slice (some ⟨b,8 - len,none⟩) len len) w:=by
 have hz:(sizeOf 5).run prog w = .ok 1 w:=by kernel_rfl
 have e:(8 - (len:Int)).toNat=8 - len:=by omega
 rw [run_sliceAt_array_l w 328 ⟨b,0,none⟩ (by kernel_rfl) .i64 _ (by omega) (by rw [Qp];omega),Qp,Tl,e,hz]
 by_cases h:len=8
 ·subst h;rfl
 ·simp [slicedAt,Addr.add,show 8≠8 - len by omega,show 8 - (8 - len)=len by omega,show ¬ 8 - len=0 by omega]
def j7(n j:Nat):UInt8:=UInt8.ofNat (n / 2 ^ (8*(7 - j)))
def qQ(n:Nat):List UInt8:=(List.range 8).map (j7 n)
def lp(n k:Nat):List UInt8:=List.replicate (8 - k) 0++(qQ n).drop (8 - k)
def bI(n width:Nat):List UInt8:=(qQ n).drop (8 - width)
theorem mf(n:Nat):(qQ n).length=8:=by simp [qQ]
theorem Ly(n k:Nat)(_h:k≤8):(lp n k).length=8:=by
 rw [lp,ae,bw,ao,mf];omega
theorem eD(n width:Nat)(h:width≤8):(bI n width).length=width:=by
 rw [bI,ao,mf];omega
theorem yt(n j:Nat)(h:j<(qQ n).length):(qQ n)[j]=j7 n j:=by simp [qQ]
theorem Hg(n k:Nat)(h:k<8):lp n (k+1)=(lp n k).set (7 - k) (j7 n (7 - k)):=by
 have e1:8 - (k+1)=7 - k:=by omega
 have e2:8 - k=(7 - k)+1:=by omega
 unfold lp;rw [e1,e2,List.replicate_succ',ax,bO _ _ (by simp)]
 have hd:(qQ n).drop (7 - k)=j7 n (7 - k)::(qQ n).drop (7 - k+1):=by
  rw [bf (by rw [mf];omega),yt]
 rw [hd];simp
theorem S4(n k:Nat)(hk:k<8):(n:Int) / 2 ^ (8*k) % 256=((j7 n (7 - k)).toNat:Int):=by
 unfold j7;rw [show 7 - (7 - k)=k by omega]
 simp only [UInt8.toNat_ofNat'];generalize hx:n / 2 ^ (8*k)=x;have e:(n:Int) / 2 ^ (8*k)=(x:Int):=by
  rw [← hx,Int.natCast_ediv];simp
 rw [e];omega
theorem An{w:World}{b b2 e size n:Nat}{v:Value}{xs:List Value}(h:w.ownsRow b e size v n xs)(hb:b2≤b):w.ownsRow b2 e size v n xs:=by
 refine ⟨h.1,?_⟩;rcases h.2 with h' | ⟨g,cap,cur,h',h1,hr⟩
 ·exact .inl h'
 ·exact .inr ⟨g,cap,cur,h',aq hb h1,hr⟩
theorem wZ(n m:Nat)(w:World)(hn:n<18446744073709551616)(h1:1≤m)(h8:m≤8)(eE:n<2 ^ (8*m)):Calls prog 217 #[.int .u64 (n:Int),.int .i64 (m:Int)] w fun e w'=>∃ g c2,e = .returned (.tuple #[.slice (some ⟨g,0,none⟩) m c2,.nilIface])∧w'.ownsRow w.heap.size 5 1 (.slice (some ⟨g,0,none⟩) m c2) m (dR (bI n m))∧Below w.heap.size w w':=by
 have sN:decide ((m:Int)<1)=false:=decide_eq_false (by omega)
 have KX:decide (8<(m:Int))=false:=decide_eq_false (by omega)
 have hb:Lib.bitLen n≤8*m:=(uY n (8*m) (by omega) hn).2 eE
 have hd3:decide (8*(m:Int)<((Lib.bitLen n:Nat):Int))=false:=decide_eq_false (by omega)
 clear eE hb;have oB:=heap_alloc_new w (.cells #[.int .u8 0,.int .u8 0,.int .u8 0,.int .u8 0,.int .u8 0,.int .u8 0,.int .u8 0,.int .u8 0] 328);have fh:=ai w (.cells #[.int .u8 0,.int .u8 0,.int .u8 0,.int .u8 0,.int .u8 0,.int .u8 0,.int .u8 0,.int .u8 0] 328);have HN:Hid ((w.alloc (.cells #[.int .u8 0,.int .u8 0,.int .u8 0,.int .u8 0,.int .u8 0,.int .u8 0,.int .u8 0,.int .u8 0] 328)).heap[w.heap.size]?=some (.cells (dR (lp n 0)).toArray 328 (0,0))):=by
  show _=_
  rw [oB];rfl
 have Co:Hid (Below w.heap.size w (w.alloc (.cells #[.int .u8 0,.int .u8 0,.int .u8 0,.int .u8 0,.int .u8 0,.int .u8 0,.int .u8 0,.int .u8 0] 328))):=fh;clear oB fh;go_enter func217,ntmps217;go_wp2_with (go_at_call 146;refine (tp n _ hn).mono ?_;rintro e w' ⟨rfl,rfl⟩)
 go_loopw [22] (fun i wr=>∃ k:Nat,k≤8∧i = .int .i64 k∧wr.heap[w.heap.size]?=some (.cells (dR (lp n k)).toArray 328 (0,0))∧Below w.heap.size w wr) (fun i _=>8 - (intOf i).toNat)
 case atStart=>exact ⟨0,by omega,rfl,HN.out,Co.out⟩
 case round =>
  obtain ⟨k,hk,rfl,bV,Uo⟩:=hrel;clear HN Co;have HR:Hid (wr.heap[w.heap.size]?=some (.cells (dR (lp n k)).toArray 328 (0,0))):=bV;clear bV;by_cases bX:k<8
  ·have hl:=Ly n k hk;have bE:wr.cell? ⟨w.heap.size,7 - k,none⟩=some (.int .u8 (((lp n k)[7 - k]'(by omega)).toNat:Int)):=by
    rw [cell_of_row wr w.heap.size (7 - k) _ 328 (0,0) HR.out];simpa using iz (lp n k) (7 - k) (by omega)
   obtain ⟨Fq,hold⟩ : ∃ Fq:Int,Fq=(((lp n k)[7 - k]'(by omega)).toNat:Int):=⟨_,rfl⟩
   rw [← hold] at bE;clear hold;have Jf:wr.frozen? ⟨w.heap.size,7 - k,none⟩=false:=frozen_of_row wr w.heap.size (7 - k) _ 328 HR.out;have hv:=S4 n k bX;have HS:Hid ((wr.setCell ⟨w.heap.size,7 - k,none⟩ (.int .u8 ((j7 n (7 - k)).toNat:Int))).heap[w.heap.size]?=some (.cells (dR (lp n (k+1))).toArray 328 (0,0))):=by
    show _=_
    rw [heap_setCell_same wr w.heap.size (7 - k) _ 328 _ HR.out,Hg n k bX];simp [dR,List.map_set]
   generalize j7 n (7 - k)=dg at *;go_wp2;go_roundw
   case rel=>exact ⟨k+1,by omega,by go_num,HS.out,Uo.setCell (aj _) _⟩
   case measure=>simp [intOf];omega
  ·have Pc:k=8:=by omega
   subst Pc;have qE:=Ab w.heap.size m h1 h8;have hl:=eD n m h8;have HC:Hid (∀ j (h:j<(bI n m).length),wr.cell? ⟨w.heap.size,8 - m+j,none⟩=some (.int .u8 ((bI n m)[j].toNat:Int))):=by
    intro j hj;have e8:lp n 8=qQ n:=by simp [lp]
    rw [cell_of_row wr w.heap.size (8 - m+j) _ 328 (0,0) HR.out,e8];have hj2:8 - m+j<(qQ n).length:=by rw [mf];omega
    have:=iz (qQ n) (8 - m+j) hj2;simp only [List.getElem?_toArray];rw [this];simp [bI]
   clear HR;go_wp2_with fail;refine (LJ w.heap.size (8 - m) m m (bI n m) _ hl h1 h8 HC.out).mono ?_
   rintro e w2 ⟨g,c2,rfl,aD,aY⟩;have hbf:=Below.next Uo aY;have eV:w2.ownsRow w.heap.size 5 1 (.slice (some ⟨g,0,none⟩) m c2) m (dR (bI n m)):=An aD Uo.size;clear aD aY Uo HC qE;go_wp2_with fail;go_ret2;exact ⟨g,c2,rfl,eV,hbf⟩
def nz(k v:Nat):List UInt8:=[UInt8.ofNat k,GZ v,Fu v]
def fs(p:Pr):ByteArray:=⟨(nz p.1.size p.2.size++(p.1.data.toList++p.2.data.toList)).toArray⟩
theorem jC(p:Pr):(fs p).data.toList=nz p.1.size p.2.size++(p.1.data.toList++p.2.data.toList):=by simp [fs]
theorem qS(p:Pr):(fs p).size=3+p.1.size+p.2.size:=by
 rw [← bsize,jC];simp [nz];omega
theorem Ha(l:List Pr):(dS (l.map fs) (l.map fs).length).length+2*l.length=fQ l:=by
 unfold dS;rw [ar (aj _)];induction l with
 | nil=>rfl
 | cons p l ih =>
  rw [List.map_cons,List.flatMap_cons,ae,bsize,qS,nX,List.length_cons];unfold zZ;omega
theorem qm(l:List Pr):dN (l.map fs)=fQ l:=by
 have:=Ha l;unfold dN fu;rw [az] at *;omega
def tQ(l:List Pr):ByteArray:=⟨(jl (l.map fs)).toArray⟩
def tz(c:List UInt8):Nat:=min (c.getD 0 0).toNat (c.length - 3)
def dn(c:ByteArray):Pr:=(⟨((c.data.toList.drop 3).take (tz c.data.toList)).toArray⟩,⟨((c.data.toList.drop 3).drop (tz c.data.toList)).toArray⟩)
def Ft(c:ByteArray):Bool:=decide (3≤c.size∧fs (dn c)=c)
theorem pA(c:List UInt8):tz c≤255∧tz c≤c.length - 3:=by
 have:=(c.getD 0 0).toNat_lt;unfold tz;omega
theorem IS(c:ByteArray):(dn c).1.size=tz c.data.toList:=by
 have:=(pA c.data.toList).2;rw [← bsize];simp only [dn];rw [ag,ao];omega
theorem IQ(c:ByteArray):(dn c).2.size=c.size - 3 - tz c.data.toList:=by
 rw [← bsize];simp only [dn];rw [ao,ao,bsize]
theorem Gm(c:ByteArray):(dn c).1.data.toList++(dn c).2.data.toList=c.data.toList.drop 3:=by
 simp only [dn];rw [aE]
theorem N0(c:ByteArray)(h:3≤c.size):Ft c=decide (nz (dn c).1.size (dn c).2.size=c.data.toList.take 3):=by
 unfold Ft;congr 1
 apply propext
 constructor
 ·rintro ⟨_,he⟩;have:=congrArg (fun b:ByteArray=>b.data.toList.take 3) he
  simp only [jC] at this;rw [aF (by simp [nz]),ar (by simp [nz])] at this
  exact this
 ·intro he;refine ⟨h,jf ?_⟩;rw [jC,he,Gm,aE]
theorem KN(p:Pr)(hk:p.1.size≤255):tz (fs p).data.toList=p.1.size:=by
 unfold tz;rw [bsize,qS,jC];have:((nz p.1.size p.2.size++(p.1.data.toList++p.2.data.toList)).getD 0 0).toNat=p.1.size:=by
  simp [nz];omega
 rw [this];omega
theorem xl(p:Pr)(hk:p.1.size≤255):dn (fs p)=p:=by
 unfold dn;rw [KN p hk,jC];have e:(nz p.1.size p.2.size++(p.1.data.toList++p.2.data.toList)).drop 3=p.1.data.toList++p.2.data.toList:=by simp [nz]
 rw [e,← bsize p.1,ej,fH]
theorem NW(p:Pr)(hk:p.1.size≤255):Ft (fs p)=true:=by
 unfold Ft;rw [xl p hk,qS];simp;omega
theorem tm{p:Pr}(h:cF p=true):1≤p.1.size∧p.1.size≤255∧p.2.size≤700:=by simpa [cF] using h
def mx(n:Nat)(b:List UInt8):Prop:=L7 b n∧(∀ c ∈ bT b n,Ft c=true)∧zO ((bT b n).map dn) true=none
def B2(n:Nat)(b:List UInt8):List Pr:=(bT b n).map dn
theorem SZ{l:List Pr}(h:zO l true=none):mx l.length (jl (l.map fs))∧B2 l.length (jl (l.map fs))=l:=by
 obtain ⟨h1,h2,h3,h4,h5⟩:=sD h;have hs:dN (l.map fs)≤4072:=by rw [qm];exact h3
 have hc:=A0 (l.map fs) hs;rw [az] at hc;have he:((l.map fs).map dn)=l:=by
  rw [eG];conv=>rhs;rw [← List.map_id l]
  exact gL (fun p hp=>xl p (tm (h1 p hp)).2.1)
 refine ⟨⟨?_,?_,?_⟩,?_⟩
 ·have:=qy (l.map fs) hs;rwa [az] at this
 ·rw [hc];intro c sO;obtain ⟨p,hp,rfl⟩:=List.mem_map.1 sO;exact NW p (tm (h1 p hp)).2.1
 ·rw [hc,he];exact h
 ·unfold B2;rw [hc,he]
def Uy(w:World)(v:Value)(l:List UInt8):Prop:=∃ a cap,v = .slice a l.length cap∧∀ j (h:j<l.length),∃ g o,a=some ⟨g,o,none⟩∧w.cell? ⟨g,o+j,none⟩=some (.int .u8 (l[j].toNat:Int))
theorem kY(w:World)(v:Value)(l:List UInt8)(h:Uy w v l)(hl:0<l.length):(convert 145 9 v).run prog w = .ok (.string ⟨l.toArray⟩) w:=by
 obtain ⟨a,cap,rfl,hc⟩:=h;obtain ⟨g,o,rfl,_⟩:=hc 0 hl;refine run_convert_bytes_back w 145 9 5 ⟨g,o,none⟩ cap l underlying145 underlying5 underlying9 (fun j hj=>?_)
 obtain ⟨g',o',he,bE⟩:=hc j hj;cases he;rw [show (⟨g,o,none⟩ : Addr).add j=⟨g,o+j,none⟩ by simp [Addr.add]]
 exact bE
theorem Hr(n:Nat)(_h:n≤255):bI n 1=[UInt8.ofNat n]:=by
 unfold bI qQ j7;simp [List.range,List.range.loop]
theorem V6(n:Nat)(_h:n<65536):bI n 2=[GZ n,Fu n]:=by
 have e1:UInt8.ofNat n=Fu n:=by
  apply UInt8.toNat_inj.1
  simp [Fu]
 unfold bI qQ j7;simp only [List.range,List.range.loop,List.map_cons,List.map_nil,List.drop_succ_cons,List.drop_zero,Nat.reduceSub,Nat.reduceMul,Nat.reducePow,Nat.div_one];rw [e1];rfl
def sk(p:Pr):ByteArray:=⟨(nz p.1.size p.2.size).toArray⟩
theorem yf(p:Pr):(sk p).size=3:=rfl
theorem Et(p:Pr):(⟨[UInt8.ofNat p.1.size].toArray⟩ : ByteArray)++⟨[GZ p.2.size,Fu p.2.size].toArray⟩=sk p:=by
 refine jf ?_
 simp [sk,nz]
theorem rD{w:World}{base g m c:Nat}{l:List UInt8}(h:w.ownsRow base 5 1 (.slice (some ⟨g,0,none⟩) m c) m (dR l))(hl:l.length=m):Uy w (.slice (some ⟨g,0,none⟩) m c) l :=
 ⟨_,_,by rw [hl],fun j hj=>⟨g,0,rfl,by rw [Nat.zero_add,World.ownsRow.cellAt h j (by omega)];exact iz l j hj⟩⟩
theorem DR(p:Pr)(w:World)(h1:p.1.size≤255)(h2:p.2.size<65536):Calls prog 191 #[.agg #[.string p.1,.string p.2]] w fun e w'=>e = .returned (.string (sk p))∧Below w.heap.size w w':=by
 have fh:=ai w (.cells #[.string p.1,.string p.2] 52);have hx:=bM w #[.string p.1,.string p.2] 52;have HP1:=ab (fun W=>wZ p.1.size 1 W (by omega) (by decide) (by decide) (by omega))
 have Xq:=ab (fun W=>wZ p.2.size 2 W (by omega) (by decide) (by decide) (by omega))
 have adW:=ab (Hr p.1.size h1);have adV:=ab (V6 p.2.size h2);have HX:=ab hx;have Co:=ab fh;have k0:(w.alloc (.cells #[.string p.1,.string p.2] 52)).cell? ⟨w.heap.size,0,none⟩=some (.string p.1):=hx.2 0 (by simp)
 have w1:(p.1.size:Int) % 18446744073709551616=(p.1.size:Int):=by omega
 have w2:(p.2.size:Int) % 18446744073709551616=(p.2.size:Int):=by omega
 clear fh hx;go_enter func191,ntmps191;go_wp2_with fail;refine (HP1.out _).mono ?_
 rintro e w1 ⟨g,c2,rfl,aD,aN⟩;rw [adW.out] at aD;have pH:=ab aD;have bN:=ab (Below.next Co.out aN);have k1:w1.cell? ⟨w.heap.size,1,none⟩=some (.string p.2):=(HX.out.below aN).2 1 (by simp)
 clear aD aN HP1 k0 Co HX;go_wp2_with fail;refine (Xq.out _).mono ?_
 rintro e w2 ⟨g2,c3,rfl,eV,aY⟩;rw [adV.out] at eV;have jB:w2.ownsRow _ 5 1 (.slice (some ⟨g,0,none⟩) 1 c2) 1 (dR [UInt8.ofNat p.1.size]):=⟨pH.out.1,by
  rcases pH.out.2 with h' | ⟨g',cap,cur,h',Jm,PA,hr⟩
  ·exact .inl h'
  ·refine .inr ⟨g',cap,cur,h',Jm,?_,hr⟩;have hg:g'<w1.heap.size:=by
    rcases aZ g' w1.heap.size with VX | VX
    ·exact VX
    ·rw [aV VX] at PA;cases PA
   rw [aY.block g' hg];exact PA⟩
 have cv1:=kY w2 _ _ (rD jB rfl) (by simp)
 have cv2:=kY w2 _ _ (rD eV rfl) (by simp)
 have bH:=ab (Below.next bN.out aY);have HH:=ab (Et p);have UI:=ab (yf p);obtain ⟨t1,D9⟩ : ∃ t1:ByteArray,t1=⟨[UInt8.ofNat p.1.size].toArray⟩:=⟨_,rfl⟩;obtain ⟨t2,vU⟩ : ∃ t2:ByteArray,t2=⟨[GZ p.2.size,Fu p.2.size].toArray⟩:=⟨_,rfl⟩;have z1:t1.size=1:=by rw [D9];rfl
 have z2:t2.size=2:=by rw [vU];rfl
 rw [← D9] at cv1 HH;rw [← vU] at cv2 HH;clear jB eV aY pH bN Xq k1 D9 vU;go_wp2;go_ret;exact ⟨by rw [← HH.out];rfl,bH.out⟩
theorem EW(p:Pr):sk p++p.1++p.2=fs p:=by
 refine jf ?_
 rw [jC];simp [sk]
theorem Qe(p:Pr)(w:World)(h1:p.1.size≤255)(h2:p.2.size<65536):Calls prog 222 #[.agg #[.string p.1,.string p.2]] w fun e w'=>e = .returned (.string (fs p))∧Below w.heap.size w w':=by
 have fh:=ai w (.cells #[.string p.1,.string p.2] 52);have hx:=bM w #[.string p.1,.string p.2] 52;have HL:=ab (fun W=>DR p W h1 h2)
 have HX:=ab hx;have Co:=ab fh;have JC:=ab (EW p);have UI:=yf p;obtain ⟨hd,hhd⟩ : ∃ hd,hd=sk p:=⟨_,rfl⟩;rw [← hhd] at HL JC UI;have s1:¬ (9223372036854775807:Int)<(hd.size:Int)+(p.1.size:Int):=by rw [UI];omega
 have s2:¬ (9223372036854775807:Int)<(hd.size:Int)+(p.1.size:Int)+(p.2.size:Int):=by rw [UI];omega
 have a1:∀ w,(Op.stringOp .add hd p.1).run prog w = .ok (.string (hd++p.1)) w:=fun w=>run_string_add_sum (P:=prog) (w:=w) _ _ (by rw [UI];omega)
 have a2:∀ w,(Op.stringOp .add (hd++p.1) p.2).run prog w = .ok (.string (hd++p.1++p.2)) w:=fun w=>run_string_add_sum (P:=prog) (w:=w) _ _ (by rw [ByteArray.size_append,UI];omega)
 have QC:=ab UI;clear UI s1 s2;have k0:(w.alloc (.cells #[.string p.1,.string p.2] 52)).cell? ⟨w.heap.size,0,none⟩=some (.string p.1):=hx.2 0 (by simp)
 have k1:(w.alloc (.cells #[.string p.1,.string p.2] 52)).cell? ⟨w.heap.size,1,none⟩=some (.string p.2):=hx.2 1 (by simp)
 clear fh hx hhd;go_enter func222,ntmps222;go_wp2_with fail;generalize w.alloc (.cells #[.string p.1,.string p.2] 52)=W0 at *;go_region_held3 (fun w'=>w'.cell? ⟨w.heap.size,0,none⟩=some (.string p.1)∧w'.cell? ⟨w.heap.size,1,none⟩=some (.string p.2)) (go_keep)
  (first | (go_at_call 191;refine (HL.out _).mono ?_;rintro e w2 ⟨rfl,K0⟩;have aY:Below W0.heap.size W0 w2:=⟨K0.os,K0.tape,K0.output,K0.size,K0.block⟩;have bH:=ab (Below.next Co.out aY);have r0:w2.cell? ⟨w.heap.size,0,none⟩=some (.string p.1):=(HX.out.below aY).2 0 (by simp);have r1:w2.cell? ⟨w.heap.size,1,none⟩=some (.string p.2):=(HX.out.below aY).2 1 (by simp);clear aY K0))
 all_goals
  go_wp2;go_ret;exact ⟨by rw [← JC.out];rfl,bH.out⟩
theorem vE{w:World}{b:Nat}{x y:Value}{t:TypeId}(h:w.heap[b]?=some (.cells #[x,y] t (0,0)))(x' y':Value):((w.setCell ⟨b,0,none⟩ x').setCell ⟨b,1,none⟩ y').heap[b]?=some (.cells #[x',y'] t (0,0)):=by
 rw [heap_setCell_same _ b 1 _ t _ (heap_setCell_same w b 0 _ t _ h)];rfl
theorem bP{B:Nat}{w0 w:World}{b:Nat}{x y:Value}(h:Below B w0 w)(hb:B≤b):Below B w0 ((w.setCell ⟨b,0,none⟩ x).setCell ⟨b,1,none⟩ y):=(h.setCell hb _).setCell hb _
def strs(l:List ByteArray):List Value:=l.map Value.string
theorem jL(l:List ByteArray):(strs l).length=l.length:=by simp [strs]
theorem CY(l:List ByteArray)(j:Nat)(h:j<l.length):(strs l)[j]?=some (.string l[j]):=by simp [strs,h]
theorem n9(a b:List ByteArray):strs (a++b)=strs a++strs b:=by simp [strs]
theorem info9:(prog.info? 9).map (fun i=>(i.zero,i.size,i.bytes))=some (some (.string ByteArray.empty),1,16):=by kernel_rfl
def L4(w:World)(v:Value)(l:List ByteArray):Prop:=∃ a cap,v = .slice a l.length cap∧l.length≤cap∧∀ j (h:j<l.length),∃ g o,a=some ⟨g,o,none⟩∧w.cell? ⟨g,o+j,none⟩=some (.string l[j])
theorem nh.strs{w:World}{v:Value}{l:List ByteArray}(h:nh w v (strs l)):L4 w v l:=by
 obtain ⟨a,cap,rfl,hle,_,hc⟩:=h;rw [jL] at hle ⊢;exact ⟨a,cap,rfl,hle,fun j hj=>hc j _ (CY l j hj)⟩
theorem L4.below{w w':World}{v:Value}{l:List ByteArray}(h:L4 w v l)(hb:Below w.heap.size w w'):L4 w' v l:=by
 obtain ⟨a,cap,rfl,hle,hc⟩:=h;refine ⟨a,cap,rfl,hle,fun j hj=>?_⟩
 obtain ⟨g,o,ha,bE⟩:=hc j hj;exact ⟨g,o,ha,(hb.cell (p:=⟨g,o+j,none⟩) (World.block_lt_of_cell? w _ bE)).trans bE⟩
theorem FJ(n:Int)(_h0:0≤n)(_h1:n<2 ^ 16):IntKind.i64.wrap n=n:=by
 rw [IntKind.wrap_i64];omega
theorem RT(a b:Nat)(ha:a<256)(hb:b<256):bits BinOp.or IntKind.i64 (wrap64 (wrap64 (a:Int)*256)) (wrap64 (b:Int))=((a*256+b:Nat):Int):=by
 have h1:wrap64 (a:Int)=(a:Int):=by unfold wrap64;omega
 have h2:wrap64 ((a:Int)*256)=(a:Int)*256:=by unfold wrap64;omega
 have h3:wrap64 (b:Int)=(b:Int):=by unfold wrap64;omega
 rw [h1,h2,h3,bits_join .i64 16 (by decide) FJ 8 ((a:Int)*256) (b:Int) (by omega) (by omega) (by omega) (by omega) (by omega) (by omega)]
 omega
theorem Ce(s:ByteArray)(j:Nat)(h:j<s.size):s.data.toList.getD j 0=s[j]:=by
 rw [aJ,af (by simpa using h)];rfl
theorem Nq(s:ByteArray)(i:Nat)(w:World)(hs:2*i+1<s.size)(cp:s.size=4072):Calls prog 189 #[.string s,.int .i64 (i:Int)] w fun e w'=>e = .returned (.int .i64 ((Aa s.data.toList i:Nat):Int))∧Below w.heap.size w w':=by
 obtain ⟨p,hp⟩ : ∃ p,p=2*i:=⟨_,rfl⟩;obtain ⟨q,hq⟩ : ∃ q,q=p+1:=⟨_,rfl⟩;have hw:IntKind.i64.wrap (2*(i:Int))=(p:Int):=by rw [IntKind.wrap_i64];omega
 have QU:IntKind.i64.wrap ((p:Int)+1)=(q:Int):=by rw [IntKind.wrap_i64];omega
 have h1:(p:Int)<(s.size:Int):=by omega
 have Jm:p<s.size:=by omega
 have h2:(q:Int)<(s.size:Int):=by omega
 have PA:q<s.size:=by omega
 have g0:(0:Int)≤(p:Int):=by omega
 have g1:(0:Int)≤(q:Int):=by omega
 have HP:Hid (p=2*i∧q=2*i+1):=⟨hp,by omega⟩
 clear hp hq hs cp;go_enter func189,ntmps189;go_wp2;go_quiet (fail)
 go_wp2;go_ret;refine ⟨?_,aB (Below.refl _ _) _⟩;obtain ⟨rfl,rfl⟩:=HP.out;refine IG ?_
 show bits BinOp.or IntKind.i64 (wrap64 (wrap64 (s[2*i].toNat:Int)*256)) (wrap64 (s[2*i+1].toNat:Int))=_
 rw [RT _ _ s[2*i].toNat_lt s[2*i+1].toNat_lt];unfold Aa;rw [Ce s _ Jm,Ce s _ PA]
theorem ma(s:ByteArray)(a b:Nat)(_hb:b≤s.size):(s.extract a b).data.toList=(s.data.toList.drop a).take (b - a):=by
 rw [ByteArray.data_extract,Array.toList_extract]
theorem Kq(c:ByteArray)(h:3≤c.size):(c.extract 3 c.size).extract 0 (tz c.data.toList)=(dn c).1:=by
 have hk:=(pA c.data.toList).2;rw [bsize] at hk;refine jf ?_
 rw [ma _ _ _ (by rw [ByteArray.size_extract];omega),ma c 3 c.size (aj _)]
 simp only [dn,List.drop_zero,Nat.sub_zero];rw [ar (i:=c.size - 3) (by rw [ao,bsize];exact aj _)]
theorem Kp(c:ByteArray)(_h:3≤c.size):(c.extract 3 c.size).extract (tz c.data.toList) (c.extract 3 c.size).size=(dn c).2:=by
 have hk:=(pA c.data.toList).2;rw [bsize] at hk;refine jf ?_
 rw [ma _ _ _ (aj _),ma c 3 c.size (aj _),ByteArray.size_extract];simp only [dn,Nat.min_self];rw [ar (i:=c.size - 3) (by rw [ao,bsize];exact aj _),ar (by rw [ao,ao,bsize];omega)]
theorem NY(c:ByteArray)(h:3≤c.size):((sk (dn c)).toList == (c.extract 0 3).toList)=Ft c:=by
 rw [N0 c h,jZ,beq_iff_eq,decide_eq_true_eq,ByteArray.toList_eq,ByteArray.toList_eq,ma c 0 3 h];simp [sk]
theorem aK{P:Program}{fn:Func}{p u:Tmp}{ty:TypeId}(h:fn.results=#[.cell p ty,.tmp u])(tmps:Array Value)(w:World)(g:Nat)(t:TypeId)(cs:Array Value)(fr:Nat × Nat)(d:TypeDesc)(hp:tmps.getD p undef = .pointer (some ⟨g,0,none⟩))(hg:w.heap[g]?=some (.cells cs t fr))(hu:P.underlying ty=some d)(hd:(match d with | .struct _ | .array _ _=>true | _=>false)=true)(hi:(P.info? ty).map (·.size)=some cs.size):(results fn tmps).run P w = .ok (.tuple #[.agg cs,tmps.getD u undef]) w:=by
 rw [results_cell_tmp h tmps P w,hp];simp [asAddr,run_loadVar_row w g t ty cs fr d hg hu hd hi,Result.andThen]
theorem Gl(c:ByteArray)(w:World)(hc:c.size≤4072):Calls prog 154 #[.string c] w fun e w'=>((Ft c=true∧e = .returned (.tuple #[.agg #[.string (dn c).1,.string (dn c).2],.bool true]))∨(Ft c=false∧∃ x y,e = .returned (.tuple #[.agg #[.string x,.string y],.bool false])))∧Below w.heap.size w w':=by
 have fh:=ai w (.cells #[.string ⟨#[]⟩,.string ⟨#[]⟩] 52);have bV:=heap_alloc_new w (.cells #[.string ⟨#[]⟩,.string ⟨#[]⟩] 52);by_cases h3:c.size<3
 ·have fy:Ft c=false:=decide_eq_false (fun h=>by omega)
  have kh:=ab fy;have Co:=ab fh;have mu:=ab bV;have h3I:(c.size:Int)<3:=by omega
  clear fh fy bV h3;go_enter func154,ntmps154;go_wp2;exact bodyPost_ret (aK rfl _ _ w.heap.size 52 _ (0,0) _ rfl mu.out underlying52 rfl (by kernel_rfl)) rfl ⟨.inr ⟨kh.out,_,_,rfl⟩,Co.out⟩
 ·have VW:3≤c.size:=by omega
  have HK:=ab (NY c VW);have H1:=ab (Kq c VW);have H2:=ab (Kp c VW);have HL:=ab (fun W=>DR (dn c) W (by rw [IS];exact (pA _).1) (by rw [IQ];omega))
  have Xh:(c.extract 3 c.size).size=c.size - 3:=by rw [ByteArray.size_extract];omega
  have ep:=pA c.data.toList;rw [bsize] at ep;have h3I:(3:Int)≤(c.size:Int):=by omega
  have hA:(c.extract 0 3).size=3:=by rw [ByteArray.size_extract];omega
  have Zv:0<(c.extract 0 3).size:=by omega
  have QT:(c.extract 0 3)[0].toNat=(c.data.toList.getD 0 0).toNat:=by
   rw [← Ce (c.extract 0 3) 0 Zv,ma c 0 3 VW,List.drop_zero,aJ,aJ,b7,if_pos (by omega)]
  have hd3:decide ((c.size:Int)<3)=false:=decide_eq_false (by omega)
  obtain ⟨k,hk⟩ : ∃ k,k=tz c.data.toList:=⟨_,rfl⟩;have HKE:Hid (k=min (c.data.toList.getD 0 0).toNat (c.size - 3)):=by rw [hk];unfold tz;rw [bsize];exact rfl
  rw [← hk] at H1 H2 ep;have Co:=ab fh;have mu:=ab bV;clear hk h3 fh bV;go_enter func154,ntmps154;go_wp2;go_quiet (fail)
  go_wp2;have YI:min (wrap64 ((c.data[0]?.getD 0).toNat:Int)) ((c.size - 3:Nat):Int)=(k:Int):=by
   have h0:c.data[0]?.getD 0=c.data.toList.getD 0 0:=by simp [List.getD_eq_getElem?_getD]
   rw [h0,HKE.out];have:=(c.data.toList.getD 0 0).toNat_lt;unfold wrap64;omega
  rw [YI];have hkT:(k:Int)≤((c.extract 3 c.size).size:Int):=by rw [Xh];omega
  have j0:(0:Int)≤(k:Int):=by omega
  have bN:=ab (aB Co.out nq);have nK:Hid (((w.alloc (.cells #[.string ⟨#[]⟩,.string ⟨#[]⟩] 52)).drewN nq).heap[w.heap.size]?=some (.cells #[.string ⟨#[]⟩,.string ⟨#[]⟩] 52 (0,0))):=by rw [World.heap_drewN];exact mu.out
  clear YI Xh hA Zv QT mu Co hd3 h3I;generalize (w.alloc (.cells #[.string ⟨#[]⟩,.string ⟨#[]⟩] 52)).drewN nq=W at *;generalize c.extract 3 c.size=T at *;generalize c.extract 0 3=A3 at *;go_region_held3 (fun w'=>True) (go_keep) (fail)
  rw [H1.out,H2.out];obtain ⟨p,hp⟩ : ∃ p,p=dn c:=⟨_,rfl⟩;rw [← hp] at HL HK H1 H2 ⊢;have ZX:=ab hp;have pO:=bM W #[.string p.1,.string p.2] 52;have aY:=ai W (.cells #[.string p.1,.string p.2] 52);have hWg:w.heap.size<W.heap.size:=by
   rcases aZ w.heap.size W.heap.size with h | h
   ·exact h
   ·have:=nK.out;rw [aV h] at this;cases this
  have nN:Hid (Boxed W.heap.size [.string p.1,.string p.2] (W.alloc (.cells #[.string p.1,.string p.2] 52)).drew):=pO.below ⟨rfl,rfl,rfl,aj _,fun _ _=>rfl⟩
  have bH:Hid (Below W.heap.size W (W.alloc (.cells #[.string p.1,.string p.2] 52)).drew):=aY.drew;clear hp pO aY H1 H2 hkT ep;generalize (W.alloc (.cells #[.string p.1,.string p.2] 52)).drew=W2 at *;have k0:W2.cell? ⟨W.heap.size,0,none⟩=some (.string p.1):=nN.out.2 0 (by simp)
  have k1:W2.cell? ⟨W.heap.size,1,none⟩=some (.string p.2):=nN.out.2 1 (by simp)
  have ey:¬ w.heap.size=W.heap.size:=by omega
  go_wp2_with fail;go_region_held3 (fun w'=>w'.cell? ⟨W.heap.size,0,none⟩=some (.string p.1)∧w'.cell? ⟨W.heap.size,1,none⟩=some (.string p.2)) (go_keep)
   (first | (go_at_call 191;refine (HL.out _).mono ?_;rintro e w5 ⟨rfl,KZ⟩;have fk:Below W2.heap.size W2 w5:=⟨KZ.os,KZ.tape,KZ.output,KZ.size,KZ.block⟩;have yl:Below W.heap.size W w5:=Below.next bH.out fk;have AF:=(yl.block w.heap.size hWg).trans nK.out;have HR5:=ab AF;have gu:=ab yl;have r0:w5.cell? ⟨W.heap.size,0,none⟩=some (.string p.1):=(nN.out.below fk).2 0 (by simp);have r1:w5.cell? ⟨W.heap.size,1,none⟩=some (.string p.2):=(nN.out.below fk).2 1 (by simp);have q0:w5.cell? ⟨w.heap.size,0,none⟩=some (.string ⟨#[]⟩):=(by rw [cell_of_row _ _ _ _ _ _ AF];rfl);have q1:w5.cell? ⟨w.heap.size,1,none⟩=some (.string ⟨#[]⟩):=(by rw [cell_of_row _ _ _ _ _ _ AF];rfl);have z0:w5.frozen? ⟨w.heap.size,0,none⟩=false:=frozen_of_row _ _ _ _ _ AF;have z1:w5.frozen? ⟨w.heap.size,1,none⟩=false:=frozen_of_row _ _ _ _ _ AF;clear fk KZ yl AF))
  rw [HK.out];have CH:=ab (Below.next bN.out gu.out);clear q0 q1 z0 z1 r0 r1 k0 k1 HL gu bH nN bN nK;obtain ⟨ok,cC⟩ : ∃ ok,ok=Ft c:=⟨_,rfl⟩;rw [← cC];have qZ:=ab cC;clear cC;go_wp2_with fail;refine bodyPost_ret (aK rfl _ _ w.heap.size 52 _ (0,0) _ rfl (vE HR5.out _ _) underlying52 rfl (by kernel_rfl)) rfl ⟨?_,bP CH.out (aj _)⟩
  cases hk:Ft c with
  | true=>exact .inl ⟨rfl,by rw [← ZX.out];simp [qZ.out,hk]⟩
  | false=>exact .inr ⟨rfl,_,_,by simp [qZ.out,hk];exact ⟨rfl,rfl⟩⟩
def wT(l:List Pr)(root:Bool):Option Nat:=if (4072:Int)<pU (fQ l) then some 2 else if l.length=0∨root=false∧pU (fQ l)<1556 then some 3 else none
def B4(l:List Pr)(root:Bool):Option Nat:=if l.all cF=false then some 0 else if ¬ gB l then some 11 else wT l root
theorem Oe{l:List Pr}(h:l.all cF=true):fQ l≤960*l.length:=by
 induction l with
 | nil=>exact aj _
 | cons p l ih =>
  simp only [List.all_cons,cA] at h;have h1:=eu h.1;have h2:=ih h.2;rw [nX,List.length_cons];unfold zZ;omega
theorem Ta(l:List Pr)(root:Bool)(hm:l.length≤140737488355328):B4 l root=zO l root:=by
 unfold B4 zO;cases h:l.all cF with
 | false=>rfl
 | true =>
  have hs:=Oe h;have e:wT l root=if 4072<fQ l then some 2 else if l=[]∨root=false∧fQ l<1556 then some 3 else none:=by
   unfold wT;rw [ky (by omega)]
   by_cases h1:4072<fQ l
   ·rw [if_pos (by omega),if_pos h1]
   ·rw [if_neg (by omega),if_neg h1]
    by_cases h2:l=[]∨root=false∧fQ l<1556
    ·have h3:l.length=0∨root=false∧((fQ l:Nat):Int)<1556:=by
      rcases h2 with h2 | ⟨h2,h3⟩
      ·exact .inl (by rw [h2];rfl)
      ·exact .inr ⟨h2,by omega⟩
     rw [if_pos h2,if_pos h3]
    ·have h3:¬ (l.length=0∨root=false∧((fQ l:Nat):Int)<1556):=by
      rintro (h3 | ⟨h3,h4⟩)
      ·exact h2 (.inl (List.length_eq_zero_iff.1 h3))
      ·exact h2 (.inr ⟨h3,by omega⟩)
     rw [if_neg h2,if_neg h3]
  rw [e]
theorem Ol(p:Pr)(w:World):Calls prog 120 #[.agg #[.string p.1,.string p.2]] w fun e w'=>e = .returned (.bool (cF p))∧Below w.heap.size w w':=by
 have fh:=ai w (.cells #[.string p.1,.string p.2] 52);by_cases h1:1≤p.1.size
 ·by_cases h2:p.1.size≤255
  ·by_cases h3:p.2.size≤700
   ·have hm:cF p=true:=decide_eq_true ⟨h1,h2,h3⟩;rw [hm];have i1:(1:Int)≤(p.1.size:Int):=by omega
    have i2:(p.1.size:Int)≤255:=by omega
    have i3:(p.2.size:Int)≤700:=by omega
    clear hm;go_enter func120,ntmps120;go_wp2;go_ret;exact ⟨rfl,fh⟩
   ·have hm:cF p=false:=decide_eq_false (fun h=>h3 h.2.2)
    rw [hm];have i1:(1:Int)≤(p.1.size:Int):=by omega
    have i2:(p.1.size:Int)≤255:=by omega
    have i3:¬ (p.2.size:Int)≤700:=by omega
    clear hm;go_enter func120,ntmps120;go_wp2;go_ret;exact ⟨rfl,fh⟩
  ·have hm:cF p=false:=decide_eq_false (fun h=>h2 h.2.1)
   rw [hm];have i1:(1:Int)≤(p.1.size:Int):=by omega
   have i2:¬ (p.1.size:Int)≤255:=by omega
   clear hm;go_enter func120,ntmps120;go_wp2;go_ret;exact ⟨rfl,fh⟩
 ·have hm:cF p=false:=decide_eq_false (fun h=>h1 h.1)
  rw [hm];have i1:¬ (1:Int)≤(p.1.size:Int):=by omega
  clear hm;go_enter func120,ntmps120;go_wp2;go_ret;exact ⟨rfl,fh⟩
theorem KB(A:Nat→Addr)(v:Value)(l:List Pr)(root:Bool)(w:World)(cC:To l)(hm:l.length≤140737488355328)(hr:gZ w v l)(hE:jG A w):Calls prog 119 #[v,.bool root] w fun e w'=>e = .returned (im A (wT l root))∧Below w.heap.size w w':=by
 have HS:=ab (Ar v l w cC hm hr);obtain ⟨a,c,hv⟩:=hr.form;subst hv;have HE:=ab hE;obtain ⟨x,hx⟩ : ∃ x,x=pU (fQ l):=⟨_,rfl⟩;obtain ⟨n,hn⟩ : ∃ n,n=l.length:=⟨_,rfl⟩;have HR:Hid (wT l root=if (4072:Int)<x then some 2 else if n=0∨root=false∧x<1556 then some 3 else none):=by rw [hx,hn];exact rfl
 rw [← hx] at HS;rw [← hn] at HS hm ⊢;clear hr hE hx hn cC;by_cases h1:(4072:Int)<x
 ·rw [HR.out,if_pos h1];go_enter func119,ntmps119;go_wp2_with fail;refine HS.out.mono ?_
  rintro e w1 ⟨rfl,aN⟩;have c2:w1.cell? ⟨2,0,none⟩=some (.iface 360 (.pointer (some (A 2)))):=((HE.out.below aN).1.1 2 (by decide)).1
  go_wp2;go_ret;exact ⟨rfl,aN⟩
 ·by_cases h2:n=0
  ·subst h2;rw [HR.out,if_neg h1,if_pos (.inl rfl)];go_enter func119,ntmps119;go_wp2_with fail;refine HS.out.mono ?_
   rintro e w1 ⟨rfl,aN⟩;have c3:w1.cell? ⟨3,0,none⟩=some (.iface 360 (.pointer (some (A 3)))):=((HE.out.below aN).1.1 3 (by decide)).1
   go_wp2;go_ret;exact ⟨rfl,aN⟩
  ·have PA:((n:Int) == 0)=false:=by rw [beq_eq_false_iff_ne];omega
   cases root with
   | true =>
    rw [HR.out,if_neg h1,if_neg (by simp [h2])]
    go_enter func119,ntmps119;go_wp2_with fail;refine HS.out.mono ?_
    rintro e w1 ⟨rfl,aN⟩;go_wp2;go_ret;exact ⟨rfl,aN⟩
   | false =>
    by_cases h3:x<1556
    ·rw [HR.out,if_neg h1,if_pos (.inr ⟨rfl,h3⟩)];go_enter func119,ntmps119;go_wp2_with fail;refine HS.out.mono ?_
     rintro e w1 ⟨rfl,aN⟩;have c3:w1.cell? ⟨3,0,none⟩=some (.iface 360 (.pointer (some (A 3)))):=((HE.out.below aN).1.1 3 (by decide)).1
     go_wp2;go_ret;exact ⟨rfl,aN⟩
    ·rw [HR.out,if_neg h1,if_neg (by simp [h2,h3])]
     go_enter func119,ntmps119;go_wp2_with fail;refine HS.out.mono ?_
     rintro e w1 ⟨rfl,aN⟩;go_wp2;go_ret;exact ⟨rfl,aN⟩
def iL(l:List Pr)(root:Bool)(k:Nat):Option Nat:=if gB (l.take k) then wT l root else some 11
theorem uQ{l:List Pr}{root:Bool}{k:Nat}(hk:k<l.length)(h:∀ (h0:0<k),df (l[k - 1]'(by omega)).1 l[k].1=true):iL l root (k+1)=iL l root k:=by
 unfold iL;have e:gB (l.take (k+1))↔gB (l.take k):=by
  rw [ay hk,Kg];constructor
  ·exact fun h=>h.1
  ·intro hr;refine ⟨hr,fun h0=>?_⟩
   simp only [ag,a8 (Nat.le_of_lt hk),bZ] at h0 ⊢;exact h h0
 simp only [e]
theorem Hc{l:List Pr}{root:Bool}{k:Nat}(hk:k<l.length)(h0:0<k)(h:df (l[k - 1]'(by omega)).1 l[k].1=false):iL l root (k+1)=some 11:=by
 unfold iL;rw [if_neg];intro hr;have:=hr (k - 1) (by rw [ag];omega)
 simp only [bZ,show k - 1+1=k by omega] at this
 rw [h] at this;cases this
theorem qw(A:Nat→Addr)(v:Value)(l:List Pr)(root:Bool)(w:World)(cC:To l)(hm:l.length≤140737488355328)(hr:gZ w v l)(hE:jG A w):Calls prog 79 #[v,.bool root] w fun e w'=>e = .returned (im A (zO l root))∧Below w.heap.size w w':=by
 have Xn:=ab (KB A v l root w cC hm hr hE);rw [← Ta l root hm];obtain ⟨a,cap,rfl,du,_,hc⟩:=hr;have HC:=ab hc;have HE:=ab hE;have HF0:Hid (iL l root 0=wT l root):=by show _=_;unfold iL;rw [if_pos];simp [De]
 obtain ⟨n,hn⟩ : ∃ n,n=l.length:=⟨_,rfl⟩;rw [← hn] at hm Xn ⊢;have HN:=ab hn;obtain ⟨Q,hQ⟩ : ∃ Q:Ending→World→Prop,Q=fun e w'=>e = .returned (im A (B4 l root))∧Below w.heap.size w w':=⟨_,rfl⟩
 rw [← hQ];have HQ:=ab hQ;clear hc hn du hE cC hQ;go_enter func79,ntmps79;go_wp2_with fail;go_step3
 go_wp2_with fail;refine Xn.out.mono ?_
 rintro e w1 ⟨rfl,aN⟩;have bN:=ab aN;clear aN Xn;rw [← HF0.out];go_wp2;go_step3
 go_wp2;go_loopw [5,13] (fun f i wr=>∃ k:Nat,k≤n∧i = .int .i64 k∧f=im A (iL l root k)∧(∀ j (h:j<l.length),j<k→cF l[j]=true)∧Below w.heap.size w wr) (fun _ i _=>n - (intOf i).toNat)
 case atStart=>exact ⟨0,aC _,rfl,rfl,fun j _ h=>absurd h (fZ _),bN.out⟩
 case round =>
  obtain ⟨k,hk,rfl,rfl,iW,bL⟩:=hrel;clear bN HF0;have HP:=ab iW;clear iW;by_cases bX:k<n
  ·have ep:k<l.length:=by have:=HN.out;omega
   have dO:(k:Int)<(n:Int):=by omega
   obtain ⟨g,o,rfl,f1,f2⟩:=HC.out k ep;have c1:wr.cell? ⟨g,o+k*2,none⟩=some (.string l[k].1):=(bL.cell (p:=⟨g,o+k*2,none⟩) (World.block_lt_of_cell? w _ f1)).trans f1;have c2:wr.cell? ⟨g,o+k*2+1,none⟩=some (.string l[k].2):=(bL.cell (p:=⟨g,o+k*2+1,none⟩) (World.block_lt_of_cell? w _ f2)).trans f2;have oS:Hid (cF l[k]=true→∀ j (h:j<l.length),j<k+1→cF l[j]=true):=fun hl j h hj=>by
    by_cases he:j=k
    ·subst he;exact hl
    ·exact HP.out j h (by omega)
   have kh:Hid (cF l[k]=false→B4 l root=some 0):=fun hl=>by
    unfold B4;rw [if_pos];rw [List.all_eq_false];exact ⟨l[k],aH _,by simp [hl]⟩
   have HB:=ab (Below.next bL (ai wr (.cells #[.string l[k].1,.string l[k].2] 52)));have nN:=ab (bM wr #[.string l[k].1,.string l[k].2] 52);have Fh:=ab (fun W=>Ol l[k] W)
   obtain ⟨fv,KV⟩ : ∃ fv,fv=im A (iL l root k):=⟨_,rfl⟩;rw [← KV];cases KT:cF l[k] with
   | false =>
    rw [KT] at Fh;have QG:=ab (kh.out KT);obtain ⟨p,hp⟩ : ∃ p,p=l[k]:=⟨_,rfl⟩;rw [← hp] at c1 c2 Fh HB nN;clear hp KV oS kh KT HC bL f1 f2;go_wp2_with fail;refine (Fh.out _).mono ?_
    rintro e w2 ⟨rfl,aY⟩;have bH:=ab (Below.next HB.out aY);have k0:w2.cell? ⟨0,0,none⟩=some (.iface 360 (.pointer (some (A 0)))):=((HE.out.below bH.out).1.1 0 (by decide)).1
    clear aY HB nN Fh c1 c2;go_wp2;rw [HQ.out];exact ⟨by rw [QG.out];rfl,bH.out⟩
   | true =>
    rw [KT] at Fh;have tY:=ab (oS.out KT);by_cases h0:k=0
    ·have HK:=ab (uQ (l:=l) (root:=root) ep (fun h=>by omega))
     rw [← HK.out] at KV;have HFV:=ab KV;obtain ⟨p,hp⟩ : ∃ p,p=l[k]:=⟨_,rfl⟩;rw [← hp] at c1 c2 Fh HB nN;have hz:decide ((0:Int)<(k:Int))=false:=decide_eq_false (by omega)
     have pB:decide (0<k)=false:=decide_eq_false (by omega)
     have Mf:=ab h0;clear hp KV oS kh KT HC bL f1 f2 HK h0;go_wp2_with fail;refine (Fh.out _).mono ?_
     rintro e w2 ⟨rfl,aY⟩;have bH:=ab (Below.next HB.out aY);have b0:w2.cell? ⟨wr.heap.size,0,none⟩=some (.string p.1):=(nN.out.below aY).2 0 (by simp)
     clear aY HB nN Fh c1 c2;go_wp2;go_quiet (fail)
     go_wp2;go_roundw
     case rel=>exact ⟨k+1,by omega,by go_num,HFV.out,tY.out,aB bH.out _⟩
     case measure=>simp [intOf];omega
    ·have yb:k - 1<l.length:=by omega
     obtain ⟨g',o',he,d1,d2⟩:=HC.out (k - 1) yb;cases he;have ME:Hid (df (l[k - 1]'yb).1 l[k].1=true→iL l root (k+1)=iL l root k):=fun h=>uQ ep (fun _=>h)
     have UH:Hid (df (l[k - 1]'yb).1 l[k].1=false→iL l root (k+1)=some 11):=fun h=>Hc ep (by omega) h
     obtain ⟨p,hp⟩ : ∃ p,p=l[k]:=⟨_,rfl⟩;obtain ⟨x,hx⟩ : ∃ x,x=(l[k - 1]'yb).1:=⟨_,rfl⟩;rw [← hp] at c1 c2 Fh HB nN ME UH;rw [← hx] at d1 ME UH;obtain ⟨k1,jm⟩ : ∃ k1,k1=k - 1:=⟨_,rfl⟩;have vT:IntKind.i64.wrap ((k:Int) - 1)=(k1:Int):=by rw [IntKind.wrap_i64];omega
     rw [← jm] at d1;have e1:wr.cell? ⟨g,o+k1*2,none⟩=some (.string x):=(bL.cell (p:=⟨g,o+k1*2,none⟩) (World.block_lt_of_cell? w _ d1)).trans d1;have hz:(0:Int)<(k:Int):=by omega
     have pB:0<k:=by omega
     have j1:(k1:Int)<(n:Int):=by omega
     have j0:(0:Int)≤(k1:Int):=by omega
     have H8:=ab (World.block_lt_of_cell? wr _ e1);clear hp hx oS kh KT HC bL f1 f2 d1 d2 jm yb;cases hb:df x p.1 with
     | true =>
      have jJ:Op.bytesLess x.toList p.1.toList=true:=hb;have HK:=ab (ME.out hb);rw [← HK.out] at KV;have HFV:=ab KV;clear hb KV ME UH HK;go_wp2_with fail;refine (Fh.out _).mono ?_
      rintro e w2 ⟨rfl,aY⟩;have bH:=ab (Below.next HB.out aY);have b0:w2.cell? ⟨wr.heap.size,0,none⟩=some (.string p.1):=(nN.out.below aY).2 0 (by simp)
      have b1:w2.cell? ⟨g,o+k1*2,none⟩=some (.string x):=((Below.next (ai wr _) aY).cell (p:=⟨g,o+k1*2,none⟩) H8.out).trans e1;clear aY HB nN Fh c1 c2 e1;go_wp2;go_quiet (fail)
      go_wp2;go_roundw
      case rel=>exact ⟨k+1,by omega,by go_num,HFV.out,tY.out,aB bH.out _⟩
      case measure=>simp [intOf];omega
     | false =>
      have jJ:Op.bytesLess x.toList p.1.toList=false:=hb;have HK:=ab (UH.out hb);clear hb KV ME UH;go_wp2_with fail;refine (Fh.out _).mono ?_
      rintro e w2 ⟨rfl,aY⟩;have bH:=ab (Below.next HB.out aY);have b0:w2.cell? ⟨wr.heap.size,0,none⟩=some (.string p.1):=(nN.out.below aY).2 0 (by simp)
      have b1:w2.cell? ⟨g,o+k1*2,none⟩=some (.string x):=((Below.next (ai wr _) aY).cell (p:=⟨g,o+k1*2,none⟩) H8.out).trans e1;have b2:w2.cell? ⟨11,0,none⟩=some (.iface 360 (.pointer (some (A 11)))):=(HE.out.below bH.out).2;clear aY HB nN Fh c1 c2 e1;go_wp2;go_quiet (fail)
      go_wp2;go_roundw
      case rel=>exact ⟨k+1,by omega,by go_num,by rw [HK.out];rfl,tY.out,aB bH.out _⟩
      case measure=>simp [intOf];omega
  ·have dO:¬ (k:Int)<(n:Int):=by omega
   have vw:Hid (iL l root k=B4 l root):=by
    have cZ:l.take k=l:=by rw [ar];have:=HN.out;omega
    have tF:l.all cF=true:=List.all_eq_true.2 (fun p hp=>by
     obtain ⟨i,hi,rfl⟩:=aI hp;exact HP.out i hi (by have:=HN.out;omega))
    show iL l root k=B4 l root
    unfold iL B4;rw [cZ,tF];by_cases BO:gB l
    ·simp [BO]
    ·simp [BO]
   have HB:=ab bL;rw [vw.out];obtain ⟨fv,KV⟩ : ∃ fv,fv=im A (B4 l root):=⟨_,rfl⟩;rw [← KV];have HFV:=ab KV;clear KV HC bL HP vw;go_wp2;rw [HQ.out];exact ⟨by rw [← HFV.out],HB.out⟩
end Go.Proofs.YtihmgigfkmofnaaGreatDoor
