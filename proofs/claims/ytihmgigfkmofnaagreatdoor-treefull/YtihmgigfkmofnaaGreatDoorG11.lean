import Derived.Test.YtihmgigfkmofnaaGreatDoorLen64
import Derived.Test.YtihmgigfkmofnaaGreatDoorG06
import Derived.Laws.BitsLemmas
set_option maxHeartbeats 2000000
set_option maxRecDepth 20000
open Go.Proofs.Tryz
namespace Go.Proofs.YtihmgigfkmofnaaGreatDoor
open Go.RowKit
theorem Mf(b off len cap:Nat)(l:List UInt8)(w:World)(hlen:l.length=len)(h1:1≤len)(hm:len≤8)(hc:∀ j (h:j<l.length),w.cell? ⟨b,off+j,none⟩=some (.int .u8 (l[j].toNat:Int))):Calls prog 239 #[.slice (some ⟨b,off,none⟩) len cap] w fun e w'=>∃ g c2,e = .returned (.slice (some ⟨g,0,none⟩) len c2)∧w'.ownsRow w.heap.size 5 1 (.slice (some ⟨g,0,none⟩) len c2) len (eb l)∧Below w.heap.size w w':=by
 obtain ⟨i0,hi,mV,mU,py⟩:=info_parts Tryz.info5;have qD:∀ w,(binOp .eql 145 (.slice (some ⟨b,off,none⟩) len cap) (.slice none 0 0)).run prog w = .ok (.bool false) w:=fun w=>by
  have h2:∀ d:Nat,(Op.equalIn (d+1) 145 (.slice (some ⟨b,off,none⟩) len cap) (.slice none 0 0)).run prog w = .ok false w:=fun d=>by
   simp [Op.equalIn,run_underlying underlying145]
  simp only [binOp];simp [Op.equal,Op.maxDepth,h2 9999]
 go_enter func239,ntmps239;have hb:b<w.heap.size:=World.block_lt_of_cell? w _ (hc 0 (by omega))
 go_wp2_with (first
  | (at_builtin;refine wpList_append_lies _ rfl _ _ 145 rfl w.heap.size 5 i0 (.int .u8 0) 1 1 underlying145 hi mV mU py rfl (by decide) _ 0 [] rfl ?c0 ⟨b,off,none⟩ len cap (eb l) rfl ?c8 ?c1 (qX l) ?c3 ?c4 ?c5 ?c6 (w.heap.size+1) ?c7 ?_))
 case c0=>exact World.ownsRow_lit w #[] 0 (aj _) (aB _) rfl
 case c8=>rw [aZ,hlen,Nat.mul_one]
 case c1 =>
  intro j u hu;by_cases hj:j<l.length
  ·rw [iD l j hj] at hu;cases hu;have e:(⟨b,off,none⟩ : Addr).add j=⟨b,off+j,none⟩:=by simp [Addr.add]
   rw [e,(ai w _).cell (p:=⟨b,off+j,none⟩) hb];exact hc j hj
  ·rw [bB (by rw [aZ];omega)] at hu;cases hu
 case c3=>omega
 case c4=>unfold maxLen;omega
 case c5=>omega
 case c6=>simp
 case c7=>simp
 intro g c2 w1 aF Ex rR hlg;have aM:Below w.heap.size w w1:=(ai w _).grown Ex (by simp) (fun k hk=>by simp [Value.ownBlock] at hk;omega)
 clear Ex rR hlg hc;go_wp2;go_ret;exact ⟨g,c2,rfl,aF,aM⟩
theorem Q6:prog.arrayLen 328=8:=by kernel_rfl
theorem Uh:prog.elem 328=5:=by kernel_rfl
theorem Ae(b len:Nat)(h1:1≤len)(h8:len≤8)(w:World):(Instr.sliceAt 328 (.pointer (some ⟨b,0,none⟩)) (some (.int .i64 (8 - (len:Int)))) none none).run prog w = .ok (.slice (some ⟨b,8 - len,none⟩) len len) w:=by
 have hz:(sizeOf 5).run prog w = .ok 1 w:=by kernel_rfl
 have e:(8 - (len:Int)).toNat=8 - len:=by omega
 rw [run_sliceAt_array_l w 328 ⟨b,0,none⟩ (by kernel_rfl) .i64 _ (by omega) (by rw [Q6];omega),Q6,Uh,e,hz]
 by_cases h:len=8
 ·subst h;rfl
 ·simp [slicedAt,Addr.add,show 8≠8 - len by omega,show 8 - (8 - len)=len by omega,show ¬ 8 - len=0 by omega]
def kE(n j:Nat):UInt8:=UInt8.ofNat (n / 2 ^ (8*(7 - j)))
def qJ(n:Nat):List UInt8:=(List.range 8).map (kE n)
def lT(n k:Nat):List UInt8:=List.replicate (8 - k) 0++(qJ n).drop (8 - k)
def bI(n width:Nat):List UInt8:=(qJ n).drop (8 - width)
theorem mG(n:Nat):(qJ n).length=8:=by simp [qJ]
theorem L6(n k:Nat)(_h:k≤8):(lT n k).length=8:=by
 rw [lT,ae,bA,ao,mG];omega
theorem eI(n width:Nat)(h:width≤8):(bI n width).length=width:=by
 rw [bI,ao,mG];omega
theorem yw(n j:Nat)(h:j<(qJ n).length):(qJ n)[j]=kE n j:=by simp [qJ]
theorem Hq(n k:Nat)(h:k<8):lT n (k+1)=(lT n k).set (7 - k) (kE n (7 - k)):=by
 have e1:8 - (k+1)=7 - k:=by omega
 have e2:8 - k=(7 - k)+1:=by omega
 unfold lT;rw [e1,e2,List.replicate_succ',ay,bW _ _ (by simp)]
 have hd:(qJ n).drop (7 - k)=kE n (7 - k)::(qJ n).drop (7 - k+1):=by
  rw [a7 (by rw [mG];omega),yw]
 rw [hd];simp
theorem TZ(n k:Nat)(hk:k<8):(n:Int) / 2 ^ (8*k) % 256=((kE n (7 - k)).toNat:Int):=by
 unfold kE;rw [show 7 - (7 - k)=k by omega]
 simp only [UInt8.toNat_ofNat'];generalize hx:n / 2 ^ (8*k)=x;have e:(n:Int) / 2 ^ (8*k)=(x:Int):=by
  rw [← hx,Int.natCast_ediv];simp
 rw [e];omega
theorem As{w:World}{b b2 e size n:Nat}{v:Value}{xs:List Value}(h:w.ownsRow b e size v n xs)(hb:b2≤b):w.ownsRow b2 e size v n xs:=by
 refine ⟨h.1,?_⟩;rcases h.2 with h' | ⟨g,cap,cur,h',h1,hr⟩
 ·exact .inl h'
 ·exact .inr ⟨g,cap,cur,h',ar hb h1,hr⟩
theorem xg(n m:Nat)(w:World)(hn:n<18446744073709551616)(h1:1≤m)(h8:m≤8)(eM:n<2 ^ (8*m)):Calls prog 217 #[.int .u64 (n:Int),.int .i64 (m:Int)] w fun e w'=>∃ g c2,e = .returned (.tuple #[.slice (some ⟨g,0,none⟩) m c2,.nilIface])∧w'.ownsRow w.heap.size 5 1 (.slice (some ⟨g,0,none⟩) m c2) m (eb (bI n m))∧Below w.heap.size w w':=by
 have AV:decide ((m:Int)<1)=false:=decide_eq_false (by omega)
 have Jo:decide (8<(m:Int))=false:=decide_eq_false (by omega)
 have hb:Lib.bitLen n≤8*m:=(uT n (8*m) (by omega) hn).2 eM
 have hd3:decide (8*(m:Int)<((Lib.bitLen n:Nat):Int))=false:=decide_eq_false (by omega)
 clear eM hb;have mx:=heap_alloc_new w (.cells #[.int .u8 0,.int .u8 0,.int .u8 0,.int .u8 0,.int .u8 0,.int .u8 0,.int .u8 0,.int .u8 0] 328);have fi:=ai w (.cells #[.int .u8 0,.int .u8 0,.int .u8 0,.int .u8 0,.int .u8 0,.int .u8 0,.int .u8 0,.int .u8 0] 328);have HN:Hid ((w.alloc (.cells #[.int .u8 0,.int .u8 0,.int .u8 0,.int .u8 0,.int .u8 0,.int .u8 0,.int .u8 0,.int .u8 0] 328)).heap[w.heap.size]?=some (.cells (eb (lT n 0)).toArray 328 (0,0))):=by
  show _=_
  rw [mx];rfl
 have Cl:Hid (Below w.heap.size w (w.alloc (.cells #[.int .u8 0,.int .u8 0,.int .u8 0,.int .u8 0,.int .u8 0,.int .u8 0,.int .u8 0,.int .u8 0] 328))):=fi;clear mx fi;go_enter func217,ntmps217;go_wp2_with (go_at_call 146;refine (sZ n _ hn).mono ?_;rintro e w' ⟨rfl,rfl⟩)
 go_loopw [22] (fun i wr=>∃ k:Nat,k≤8∧i = .int .i64 k∧wr.heap[w.heap.size]?=some (.cells (eb (lT n k)).toArray 328 (0,0))∧Below w.heap.size w wr) (fun i _=>8 - (intOf i).toNat)
 case atStart=>exact ⟨0,by omega,rfl,HN.out,Cl.out⟩
 case round =>
  obtain ⟨k,hk,rfl,bE,Vj⟩:=hrel;clear HN Cl;have HR:Hid (wr.heap[w.heap.size]?=some (.cells (eb (lT n k)).toArray 328 (0,0))):=bE;clear bE;by_cases bK:k<8
  ·have hl:=L6 n k hk;have bm:wr.cell? ⟨w.heap.size,7 - k,none⟩=some (.int .u8 (((lT n k)[7 - k]'(by omega)).toNat:Int)):=by
    rw [cell_of_row wr w.heap.size (7 - k) _ 328 (0,0) HR.out];simpa using iD (lT n k) (7 - k) (by omega)
   obtain ⟨FC,hold⟩ : ∃ FC:Int,FC=(((lT n k)[7 - k]'(by omega)).toNat:Int):=⟨_,rfl⟩
   rw [← hold] at bm;clear hold;have Ez:wr.frozen? ⟨w.heap.size,7 - k,none⟩=false:=frozen_of_row wr w.heap.size (7 - k) _ 328 HR.out;have hv:=TZ n k bK;have HS:Hid ((wr.setCell ⟨w.heap.size,7 - k,none⟩ (.int .u8 ((kE n (7 - k)).toNat:Int))).heap[w.heap.size]?=some (.cells (eb (lT n (k+1))).toArray 328 (0,0))):=by
    show _=_
    rw [heap_setCell_same wr w.heap.size (7 - k) _ 328 _ HR.out,Hq n k bK];simp [eb,List.map_set]
   generalize kE n (7 - k)=dg at *;go_wp2;go_roundw
   case rel=>exact ⟨k+1,by omega,by go_num,HS.out,Vj.setCell (aj _) _⟩
   case measure=>simp [intOf];omega
  ·have Lo:k=8:=by omega
   subst Lo;have pZ:=Ae w.heap.size m h1 h8;have hl:=eI n m h8;have HC:Hid (∀ j (h:j<(bI n m).length),wr.cell? ⟨w.heap.size,8 - m+j,none⟩=some (.int .u8 ((bI n m)[j].toNat:Int))):=by
    intro j hj;have e8:lT n 8=qJ n:=by simp [lT]
    rw [cell_of_row wr w.heap.size (8 - m+j) _ 328 (0,0) HR.out,e8];have hj2:8 - m+j<(qJ n).length:=by rw [mG];omega
    have:=iD (qJ n) (8 - m+j) hj2;simp only [List.getElem?_toArray];rw [this];simp [bI]
   clear HR;go_wp2_with fail;refine (Mf w.heap.size (8 - m) m m (bI n m) _ hl h1 h8 HC.out).mono ?_
   rintro e w2 ⟨g,c2,rfl,aF,aS⟩;have hbf:=Below.next Vj aS;have lQ:w2.ownsRow w.heap.size 5 1 (.slice (some ⟨g,0,none⟩) m c2) m (eb (bI n m)):=As aF Vj.size;clear aF aS Vj HC pZ;go_wp2_with fail;go_ret2;exact ⟨g,c2,rfl,lQ,hbf⟩
def nL(k v:Nat):List UInt8:=[UInt8.ofNat k,G9 v,FE v]
def ft(p:Pr):ByteArray:=⟨(nL p.1.size p.2.size++(p.1.data.toList++p.2.data.toList)).toArray⟩
theorem jN(p:Pr):(ft p).data.toList=nL p.1.size p.2.size++(p.1.data.toList++p.2.data.toList):=by simp [ft]
theorem qL(p:Pr):(ft p).size=3+p.1.size+p.2.size:=by
 rw [← bsize,jN];simp [nL];omega
theorem Hi(l:List Pr):(ee (l.map ft) (l.map ft).length).length+2*l.length=fY l:=by
 unfold ee;rw [al (aj _)];induction l with
 | nil=>rfl
 | cons p l ih =>
  rw [List.map_cons,List.flatMap_cons,ae,bsize,qL,oa,List.length_cons];unfold z6;omega
theorem ql(l:List Pr):dW (l.map ft)=fY l:=by
 have:=Hi l;unfold dW fx;rw [az] at *;omega
def tG(l:List Pr):ByteArray:=⟨(jy (l.map ft)).toArray⟩
def tg(c:List UInt8):Nat:=min (c.getD 0 0).toNat (c.length - 3)
def dw(c:ByteArray):Pr:=(⟨((c.data.toList.drop 3).take (tg c.data.toList)).toArray⟩,⟨((c.data.toList.drop 3).drop (tg c.data.toList)).toArray⟩)
def FD(c:ByteArray):Bool:=decide (3≤c.size∧ft (dw c)=c)
theorem pw(c:List UInt8):tg c≤255∧tg c≤c.length - 3:=by
 have:=(c.getD 0 0).toNat_lt;unfold tg;omega
theorem I1(c:ByteArray):(dw c).1.size=tg c.data.toList:=by
 have:=(pw c.data.toList).2;rw [← bsize];simp only [dw];rw [ag,ao];omega
theorem I0(c:ByteArray):(dw c).2.size=c.size - 3 - tg c.data.toList:=by
 rw [← bsize];simp only [dw];rw [ao,ao,bsize]
theorem Gw(c:ByteArray):(dw c).1.data.toList++(dw c).2.data.toList=c.data.toList.drop 3:=by
 simp only [dw];rw [aH]
theorem OH(c:ByteArray)(h:3≤c.size):FD c=decide (nL (dw c).1.size (dw c).2.size=c.data.toList.take 3):=by
 unfold FD;congr 1
 apply propext
 constructor
 ·rintro ⟨_,he⟩;have:=congrArg (fun b:ByteArray=>b.data.toList.take 3) he
  simp only [jN] at this;rw [aG (by simp [nL]),al (by simp [nL])] at this
  exact this
 ·intro he;refine ⟨h,ig ?_⟩;rw [jN,he,Gw,aH]
theorem Ld(p:Pr)(hk:p.1.size≤255):tg (ft p).data.toList=p.1.size:=by
 unfold tg;rw [bsize,qL,jN];have:((nL p.1.size p.2.size++(p.1.data.toList++p.2.data.toList)).getD 0 0).toNat=p.1.size:=by
  simp [nL];omega
 rw [this];omega
theorem xw(p:Pr)(hk:p.1.size≤255):dw (ft p)=p:=by
 unfold dw;rw [Ld p hk,jN];have e:(nL p.1.size p.2.size++(p.1.data.toList++p.2.data.toList)).drop 3=p.1.data.toList++p.2.data.toList:=by simp [nL]
 rw [e,← bsize p.1,eu,fN]
theorem OE(p:Pr)(hk:p.1.size≤255):FD (ft p)=true:=by
 unfold FD;rw [xw p hk,qL];simp;omega
theorem sY{p:Pr}(h:cN p=true):1≤p.1.size∧p.1.size≤255∧p.2.size≤700:=by simpa [cN] using h
def mR(n:Nat)(b:List UInt8):Prop:=MF b n∧(∀ c ∈ bY b n,FD c=true)∧zI ((bY b n).map dw) true=none
def B1(n:Nat)(b:List UInt8):List Pr:=(bY b n).map dw
theorem TU{l:List Pr}(h:zI l true=none):mR l.length (jy (l.map ft))∧B1 l.length (jy (l.map ft))=l:=by
 obtain ⟨h1,h2,h3,h4,h5⟩:=sd h;have hs:dW (l.map ft)≤4072:=by rw [ql];exact h3
 have hc:=A5 (l.map ft) hs;rw [az] at hc;have he:((l.map ft).map dw)=l:=by
  rw [eO];conv=>rhs;rw [← List.map_id l]
  exact gO (fun p hp=>xw p (sY (h1 p hp)).2.1)
 refine ⟨⟨?_,?_,?_⟩,?_⟩
 ·have:=qy (l.map ft) hs;rwa [az] at this
 ·rw [hc];intro c sB;obtain ⟨p,hp,rfl⟩:=List.mem_map.1 sB;exact OE p (sY (h1 p hp)).2.1
 ·rw [hc,he];exact h
 ·unfold B1;rw [hc,he]
def Vt(w:World)(v:Value)(l:List UInt8):Prop:=∃ a cap,v = .slice a l.length cap∧∀ j (h:j<l.length),∃ g o,a=some ⟨g,o,none⟩∧w.cell? ⟨g,o+j,none⟩=some (.int .u8 (l[j].toNat:Int))
theorem lL(w:World)(v:Value)(l:List UInt8)(h:Vt w v l)(hl:0<l.length):(convert 145 9 v).run prog w = .ok (.string ⟨l.toArray⟩) w:=by
 obtain ⟨a,cap,rfl,hc⟩:=h;obtain ⟨g,o,rfl,_⟩:=hc 0 hl;refine run_convert_bytes_back w 145 9 5 ⟨g,o,none⟩ cap l underlying145 underlying5 underlying9 (fun j hj=>?_)
 obtain ⟨g',o',he,bm⟩:=hc j hj;cases he;rw [show (⟨g,o,none⟩ : Addr).add j=⟨g,o+j,none⟩ by simp [Addr.add]]
 exact bm
theorem H6(n:Nat)(_h:n≤255):bI n 1=[UInt8.ofNat n]:=by
 unfold bI qJ kE;simp [List.range,List.range.loop]
theorem Xm(n:Nat)(_h:n<65536):bI n 2=[G9 n,FE n]:=by
 have e1:UInt8.ofNat n=FE n:=by
  apply UInt8.toNat_inj.1
  simp [FE]
 unfold bI qJ kE;simp only [List.range,List.range.loop,List.map_cons,List.map_nil,List.drop_succ_cons,List.drop_zero,Nat.reduceSub,Nat.reduceMul,Nat.reducePow,Nat.div_one];rw [e1];rfl
def rQ(p:Pr):ByteArray:=⟨(nL p.1.size p.2.size).toArray⟩
theorem yk(p:Pr):(rQ p).size=3:=rfl
theorem EB(p:Pr):(⟨[UInt8.ofNat p.1.size].toArray⟩ : ByteArray)++⟨[G9 p.2.size,FE p.2.size].toArray⟩=rQ p:=by
 refine ig ?_
 simp [rQ,nL]
theorem rq{w:World}{base g m c:Nat}{l:List UInt8}(h:w.ownsRow base 5 1 (.slice (some ⟨g,0,none⟩) m c) m (eb l))(hl:l.length=m):Vt w (.slice (some ⟨g,0,none⟩) m c) l :=
 ⟨_,_,by rw [hl],fun j hj=>⟨g,0,rfl,by rw [Nat.zero_add,World.ownsRow.cellAt h j (by omega)];exact iD l j hj⟩⟩
theorem DW(p:Pr)(w:World)(h1:p.1.size≤255)(h2:p.2.size<65536):Calls prog 191 #[.agg #[.string p.1,.string p.2]] w fun e w'=>e = .returned (.string (rQ p))∧Below w.heap.size w w':=by
 have fi:=ai w (.cells #[.string p.1,.string p.2] 52);have hx:=bM w #[.string p.1,.string p.2] 52;have HP1:=ab (fun W=>xg p.1.size 1 W (by omega) (by decide) (by decide) (by omega))
 have Yq:=ab (fun W=>xg p.2.size 2 W (by omega) (by decide) (by decide) (by omega))
 have afo:=ab (H6 p.1.size h1);have afn:=ab (Xm p.2.size h2);have HX:=ab hx;have Cl:=ab fi;have k0:(w.alloc (.cells #[.string p.1,.string p.2] 52)).cell? ⟨w.heap.size,0,none⟩=some (.string p.1):=hx.2 0 (by simp)
 have w1:(p.1.size:Int) % 18446744073709551616=(p.1.size:Int):=by omega
 have w2:(p.2.size:Int) % 18446744073709551616=(p.2.size:Int):=by omega
 clear fi hx;go_enter func191,ntmps191;go_wp2_with fail;refine (HP1.out _).mono ?_
 rintro e w1 ⟨g,c2,rfl,aF,aM⟩;rw [afo.out] at aF;have qV:=ab aF;have bN:=ab (Below.next Cl.out aM);have k1:w1.cell? ⟨w.heap.size,1,none⟩=some (.string p.2):=(HX.out.below aM).2 1 (by simp)
 clear aF aM HP1 k0 Cl HX;go_wp2_with fail;refine (Yq.out _).mono ?_
 rintro e w2 ⟨g2,c3,rfl,lQ,aS⟩;rw [afn.out] at lQ;have kI:w2.ownsRow _ 5 1 (.slice (some ⟨g,0,none⟩) 1 c2) 1 (eb [UInt8.ofNat p.1.size]):=⟨qV.out.1,by
  rcases qV.out.2 with h' | ⟨g',cap,cur,h',Jw,Qj,hr⟩
  ·exact .inl h'
  ·refine .inr ⟨g',cap,cur,h',Jw,?_,hr⟩;have hg:g'<w1.heap.size:=by
    rcases a8 g' w1.heap.size with Xe | Xe
    ·exact Xe
    ·rw [aY Xe] at Qj;cases Qj
   rw [aS.block g' hg];exact Qj⟩
 have cv1:=lL w2 _ _ (rq kI rfl) (by simp)
 have cv2:=lL w2 _ _ (rq lQ rfl) (by simp)
 have bG:=ab (Below.next bN.out aS);have HH:=ab (EB p);have Rt:=ab (yk p);obtain ⟨t1,Eg⟩ : ∃ t1:ByteArray,t1=⟨[UInt8.ofNat p.1.size].toArray⟩:=⟨_,rfl⟩;obtain ⟨t2,tk⟩ : ∃ t2:ByteArray,t2=⟨[G9 p.2.size,FE p.2.size].toArray⟩:=⟨_,rfl⟩;have z1:t1.size=1:=by rw [Eg];rfl
 have z2:t2.size=2:=by rw [tk];rfl
 rw [← Eg] at cv1 HH;rw [← tk] at cv2 HH;clear kI lQ aS qV bN Yq k1 Eg tk;go_wp2;go_ret;exact ⟨by rw [← HH.out];rfl,bG.out⟩
theorem E4(p:Pr):rQ p++p.1++p.2=ft p:=by
 refine ig ?_
 rw [jN];simp [rQ]
theorem QS(p:Pr)(w:World)(h1:p.1.size≤255)(h2:p.2.size<65536):Calls prog 222 #[.agg #[.string p.1,.string p.2]] w fun e w'=>e = .returned (.string (ft p))∧Below w.heap.size w w':=by
 have fi:=ai w (.cells #[.string p.1,.string p.2] 52);have hx:=bM w #[.string p.1,.string p.2] 52;have HL:=ab (fun W=>DW p W h1 h2)
 have HX:=ab hx;have Cl:=ab fi;have wi:=ab (E4 p);have Rt:=yk p;obtain ⟨hd,hhd⟩ : ∃ hd,hd=rQ p:=⟨_,rfl⟩;rw [← hhd] at HL wi Rt;have s1:¬ (9223372036854775807:Int)<(hd.size:Int)+(p.1.size:Int):=by rw [Rt];omega
 have s2:¬ (9223372036854775807:Int)<(hd.size:Int)+(p.1.size:Int)+(p.2.size:Int):=by rw [Rt];omega
 have a1:∀ w,(Op.stringOp .add hd p.1).run prog w = .ok (.string (hd++p.1)) w:=fun w=>run_string_add_sum (P:=prog) (w:=w) _ _ (by rw [Rt];omega)
 have a2:∀ w,(Op.stringOp .add (hd++p.1) p.2).run prog w = .ok (.string (hd++p.1++p.2)) w:=fun w=>run_string_add_sum (P:=prog) (w:=w) _ _ (by rw [ByteArray.size_append,Rt];omega)
 have Nf:=ab Rt;clear Rt s1 s2;have k0:(w.alloc (.cells #[.string p.1,.string p.2] 52)).cell? ⟨w.heap.size,0,none⟩=some (.string p.1):=hx.2 0 (by simp)
 have k1:(w.alloc (.cells #[.string p.1,.string p.2] 52)).cell? ⟨w.heap.size,1,none⟩=some (.string p.2):=hx.2 1 (by simp)
 clear fi hx hhd;go_enter func222,ntmps222;go_wp2_with fail;generalize w.alloc (.cells #[.string p.1,.string p.2] 52)=W0 at *;go_region_held3 (fun w'=>w'.cell? ⟨w.heap.size,0,none⟩=some (.string p.1)∧w'.cell? ⟨w.heap.size,1,none⟩=some (.string p.2)) (go_keep)
  (first | (go_at_call 191;refine (HL.out _).mono ?_;rintro e w2 ⟨rfl,Lw⟩;have aS:Below W0.heap.size W0 w2:=⟨Lw.os,Lw.tape,Lw.output,Lw.size,Lw.block⟩;have bG:=ab (Below.next Cl.out aS);have r0:w2.cell? ⟨w.heap.size,0,none⟩=some (.string p.1):=(HX.out.below aS).2 0 (by simp);have r1:w2.cell? ⟨w.heap.size,1,none⟩=some (.string p.2):=(HX.out.below aS).2 1 (by simp);clear aS Lw))
 all_goals
  go_wp2;go_ret;exact ⟨by rw [← wi.out];rfl,bG.out⟩
theorem vE{w:World}{b:Nat}{x y:Value}{t:TypeId}(h:w.heap[b]?=some (.cells #[x,y] t (0,0)))(x' y':Value):((w.setCell ⟨b,0,none⟩ x').setCell ⟨b,1,none⟩ y').heap[b]?=some (.cells #[x',y'] t (0,0)):=by
 rw [heap_setCell_same _ b 1 _ t _ (heap_setCell_same w b 0 _ t _ h)];rfl
theorem b9{B:Nat}{w0 w:World}{b:Nat}{x y:Value}(h:Below B w0 w)(hb:B≤b):Below B w0 ((w.setCell ⟨b,0,none⟩ x).setCell ⟨b,1,none⟩ y):=(h.setCell hb _).setCell hb _
def strs(l:List ByteArray):List Value:=l.map Value.string
theorem jY(l:List ByteArray):(strs l).length=l.length:=by simp [strs]
theorem C3(l:List ByteArray)(j:Nat)(h:j<l.length):(strs l)[j]?=some (.string l[j]):=by simp [strs,h]
theorem og(a b:List ByteArray):strs (a++b)=strs a++strs b:=by simp [strs]
theorem info9:(prog.info? 9).map (fun i=>(i.zero,i.size,i.bytes))=some (some (.string ByteArray.empty),1,16):=by kernel_rfl
def MD(w:World)(v:Value)(l:List ByteArray):Prop:=∃ a cap,v = .slice a l.length cap∧l.length≤cap∧∀ j (h:j<l.length),∃ g o,a=some ⟨g,o,none⟩∧w.cell? ⟨g,o+j,none⟩=some (.string l[j])
theorem nG.strs{w:World}{v:Value}{l:List ByteArray}(h:nG w v (strs l)):MD w v l:=by
 obtain ⟨a,cap,rfl,hle,_,hc⟩:=h;rw [jY] at hle ⊢;exact ⟨a,cap,rfl,hle,fun j hj=>hc j _ (C3 l j hj)⟩
theorem MD.below{w w':World}{v:Value}{l:List ByteArray}(h:MD w v l)(hb:Below w.heap.size w w'):MD w' v l:=by
 obtain ⟨a,cap,rfl,hle,hc⟩:=h;refine ⟨a,cap,rfl,hle,fun j hj=>?_⟩
 obtain ⟨g,o,ha,bm⟩:=hc j hj;exact ⟨g,o,ha,(hb.cell (p:=⟨g,o+j,none⟩) (World.block_lt_of_cell? w _ bm)).trans bm⟩
theorem FR(n:Int)(_h0:0≤n)(_h1:n<2 ^ 16):IntKind.i64.wrap n=n:=by
 rw [IntKind.wrap_i64];omega
theorem SK(a b:Nat)(ha:a<256)(hb:b<256):bits BinOp.or IntKind.i64 (wrap64 (wrap64 (a:Int)*256)) (wrap64 (b:Int))=((a*256+b:Nat):Int):=by
 have h1:wrap64 (a:Int)=(a:Int):=by unfold wrap64;omega
 have h2:wrap64 ((a:Int)*256)=(a:Int)*256:=by unfold wrap64;omega
 have h3:wrap64 (b:Int)=(b:Int):=by unfold wrap64;omega
 rw [h1,h2,h3,bits_join .i64 16 (by decide) FR 8 ((a:Int)*256) (b:Int) (by omega) (by omega) (by omega) (by omega) (by omega) (by omega)]
 omega
theorem Ce(s:ByteArray)(j:Nat)(h:j<s.size):s.data.toList.getD j 0=s[j]:=by
 rw [aE,af (by simpa using h)];rfl
theorem N0(s:ByteArray)(i:Nat)(w:World)(hs:2*i+1<s.size)(b8:s.size=4072):Calls prog 189 #[.string s,.int .i64 (i:Int)] w fun e w'=>e = .returned (.int .i64 ((Ad s.data.toList i:Nat):Int))∧Below w.heap.size w w':=by
 obtain ⟨p,hp⟩ : ∃ p,p=2*i:=⟨_,rfl⟩;obtain ⟨q,hq⟩ : ∃ q,q=p+1:=⟨_,rfl⟩;have hw:IntKind.i64.wrap (2*(i:Int))=(p:Int):=by rw [IntKind.wrap_i64];omega
 have GY:IntKind.i64.wrap ((p:Int)+1)=(q:Int):=by rw [IntKind.wrap_i64];omega
 have h1:(p:Int)<(s.size:Int):=by omega
 have Jw:p<s.size:=by omega
 have h2:(q:Int)<(s.size:Int):=by omega
 have Qj:q<s.size:=by omega
 have g0:(0:Int)≤(p:Int):=by omega
 have g1:(0:Int)≤(q:Int):=by omega
 have HP:Hid (p=2*i∧q=2*i+1):=⟨hp,by omega⟩
 clear hp hq hs b8;go_enter func189,ntmps189;go_wp2;go_quiet (fail)
 go_wp2;go_ret;refine ⟨?_,aA (Below.refl _ _) _⟩;obtain ⟨rfl,rfl⟩:=HP.out;refine IQ ?_
 show bits BinOp.or IntKind.i64 (wrap64 (wrap64 (s[2*i].toNat:Int)*256)) (wrap64 (s[2*i+1].toNat:Int))=_
 rw [SK _ _ s[2*i].toNat_lt s[2*i+1].toNat_lt];unfold Ad;rw [Ce s _ Jw,Ce s _ Qj]
theorem mD(s:ByteArray)(a b:Nat)(_hb:b≤s.size):(s.extract a b).data.toList=(s.data.toList.drop a).take (b - a):=by
 rw [ByteArray.data_extract,Array.toList_extract]
theorem KL(c:ByteArray)(h:3≤c.size):(c.extract 3 c.size).extract 0 (tg c.data.toList)=(dw c).1:=by
 have hk:=(pw c.data.toList).2;rw [bsize] at hk;refine ig ?_
 rw [mD _ _ _ (by rw [ByteArray.size_extract];omega),mD c 3 c.size (aj _)]
 simp only [dw,List.drop_zero,Nat.sub_zero];rw [al (i:=c.size - 3) (by rw [ao,bsize];exact aj _)]
theorem KK(c:ByteArray)(_h:3≤c.size):(c.extract 3 c.size).extract (tg c.data.toList) (c.extract 3 c.size).size=(dw c).2:=by
 have hk:=(pw c.data.toList).2;rw [bsize] at hk;refine ig ?_
 rw [mD _ _ _ (aj _),mD c 3 c.size (aj _),ByteArray.size_extract];simp only [dw,lB];rw [al (i:=c.size - 3) (by rw [ao,bsize];exact aj _),al (by rw [ao,ao,bsize];omega)]
theorem OF(c:ByteArray)(h:3≤c.size):((rQ (dw c)).toList == (c.extract 0 3).toList)=FD c:=by
 rw [OH c h,kB,beq_iff_eq,decide_eq_true_eq,ByteArray.toList_eq,ByteArray.toList_eq,mD c 0 3 h];simp [rQ]
theorem aN{P:Program}{fn:Func}{p u:Tmp}{ty:TypeId}(h:fn.results=#[.cell p ty,.tmp u])(tmps:Array Value)(w:World)(g:Nat)(t:TypeId)(cs:Array Value)(fr:Nat × Nat)(d:TypeDesc)(hp:tmps.getD p undef = .pointer (some ⟨g,0,none⟩))(hg:w.heap[g]?=some (.cells cs t fr))(hu:P.underlying ty=some d)(hd:(match d with | .struct _ | .array _ _=>true | _=>false)=true)(hi:(P.info? ty).map (·.size)=some cs.size):(results fn tmps).run P w = .ok (.tuple #[.agg cs,tmps.getD u undef]) w:=by
 rw [results_cell_tmp h tmps P w,hp];simp [asAddr,run_loadVar_row w g t ty cs fr d hg hu hd hi,Result.andThen]
theorem Gv(c:ByteArray)(w:World)(hc:c.size≤4072):Calls prog 154 #[.string c] w fun e w'=>((FD c=true∧e = .returned (.tuple #[.agg #[.string (dw c).1,.string (dw c).2],.bool true]))∨(FD c=false∧∃ x y,e = .returned (.tuple #[.agg #[.string x,.string y],.bool false])))∧Below w.heap.size w w':=by
 have fi:=ai w (.cells #[.string ⟨#[]⟩,.string ⟨#[]⟩] 52);have bE:=heap_alloc_new w (.cells #[.string ⟨#[]⟩,.string ⟨#[]⟩] 52);by_cases h3:c.size<3
 ·have fQ:FD c=false:=decide_eq_false (fun h=>by omega)
  have kL:=ab fQ;have Cl:=ab fi;have mO:=ab bE;have h3I:(c.size:Int)<3:=by omega
  clear fi fQ bE h3;go_enter func154,ntmps154;go_wp2;exact bodyPost_ret (aN rfl _ _ w.heap.size 52 _ (0,0) _ rfl mO.out underlying52 rfl (by kernel_rfl)) rfl ⟨.inr ⟨kL.out,_,_,rfl⟩,Cl.out⟩
 ·have Xd:3≤c.size:=by omega
  have HK:=ab (OF c Xd);have H1:=ab (KL c Xd);have H2:=ab (KK c Xd);have HL:=ab (fun W=>DW (dw c) W (by rw [I1];exact (pw _).1) (by rw [I0];omega))
  have Yc:(c.extract 3 c.size).size=c.size - 3:=by rw [ByteArray.size_extract];omega
  have de:=pw c.data.toList;rw [bsize] at de;have h3I:(3:Int)≤(c.size:Int):=by omega
  have hA:(c.extract 0 3).size=3:=by rw [ByteArray.size_extract];omega
  have hA0:0<(c.extract 0 3).size:=by omega
  have RC:(c.extract 0 3)[0].toNat=(c.data.toList.getD 0 0).toNat:=by
   rw [← Ce (c.extract 0 3) 0 hA0,mD c 0 3 Xd,List.drop_zero,aE,aE,cJ,if_pos (by omega)]
  have hd3:decide ((c.size:Int)<3)=false:=decide_eq_false (by omega)
  obtain ⟨k,hk⟩ : ∃ k,k=tg c.data.toList:=⟨_,rfl⟩;have HKE:Hid (k=min (c.data.toList.getD 0 0).toNat (c.size - 3)):=by rw [hk];unfold tg;rw [bsize];exact rfl
  rw [← hk] at H1 H2 de;have Cl:=ab fi;have mO:=ab bE;clear hk h3 fi bE;go_enter func154,ntmps154;go_wp2;go_quiet (fail)
  go_wp2;have ZX:min (wrap64 ((c.data[0]?.getD 0).toNat:Int)) ((c.size - 3:Nat):Int)=(k:Int):=by
   have h0:c.data[0]?.getD 0=c.data.toList.getD 0 0:=by simp [List.getD_eq_getElem?_getD]
   rw [h0,HKE.out];have:=(c.data.toList.getD 0 0).toNat_lt;unfold wrap64;omega
  rw [ZX];have hkT:(k:Int)≤((c.extract 3 c.size).size:Int):=by rw [Yc];omega
  have j0:(0:Int)≤(k:Int):=by omega
  have bN:=ab (aA Cl.out nq);have nT:Hid (((w.alloc (.cells #[.string ⟨#[]⟩,.string ⟨#[]⟩] 52)).drewN nq).heap[w.heap.size]?=some (.cells #[.string ⟨#[]⟩,.string ⟨#[]⟩] 52 (0,0))):=by rw [World.heap_drewN];exact mO.out
  clear ZX Yc hA hA0 RC mO Cl hd3 h3I;generalize (w.alloc (.cells #[.string ⟨#[]⟩,.string ⟨#[]⟩] 52)).drewN nq=W at *;generalize c.extract 3 c.size=T at *;generalize c.extract 0 3=A3 at *;go_region_held3 (fun w'=>True) (go_keep) (fail)
  rw [H1.out,H2.out];obtain ⟨p,hp⟩ : ∃ p,p=dw c:=⟨_,rfl⟩;rw [← hp] at HL HK H1 H2 ⊢;have HPQ:=ab hp;have ny:=bM W #[.string p.1,.string p.2] 52;have aS:=ai W (.cells #[.string p.1,.string p.2] 52);have hWg:w.heap.size<W.heap.size:=by
   rcases a8 w.heap.size W.heap.size with h | h
   ·exact h
   ·have:=nT.out;rw [aY h] at this;cases this
  have wk:Hid (Boxed W.heap.size [.string p.1,.string p.2] (W.alloc (.cells #[.string p.1,.string p.2] 52)).drew):=ny.below ⟨rfl,rfl,rfl,aj _,fun _ _=>rfl⟩
  have bG:Hid (Below W.heap.size W (W.alloc (.cells #[.string p.1,.string p.2] 52)).drew):=aS.drew;clear hp ny aS H1 H2 hkT de;generalize (W.alloc (.cells #[.string p.1,.string p.2] 52)).drew=W2 at *;have k0:W2.cell? ⟨W.heap.size,0,none⟩=some (.string p.1):=wk.out.2 0 (by simp)
  have k1:W2.cell? ⟨W.heap.size,1,none⟩=some (.string p.2):=wk.out.2 1 (by simp)
  have dH:¬ w.heap.size=W.heap.size:=by omega
  go_wp2_with fail;go_region_held3 (fun w'=>w'.cell? ⟨W.heap.size,0,none⟩=some (.string p.1)∧w'.cell? ⟨W.heap.size,1,none⟩=some (.string p.2)) (go_keep)
   (first | (go_at_call 191;refine (HL.out _).mono ?_;rintro e w5 ⟨rfl,Lv⟩;have lH:Below W2.heap.size W2 w5:=⟨Lv.os,Lv.tape,Lv.output,Lv.size,Lv.block⟩;have Qd:Below W.heap.size W w5:=Below.next bG.out lH;have AO:=(Qd.block w.heap.size hWg).trans nT.out;have Yn:=ab AO;have iu:=ab Qd;have r0:w5.cell? ⟨W.heap.size,0,none⟩=some (.string p.1):=(wk.out.below lH).2 0 (by simp);have r1:w5.cell? ⟨W.heap.size,1,none⟩=some (.string p.2):=(wk.out.below lH).2 1 (by simp);have q0:w5.cell? ⟨w.heap.size,0,none⟩=some (.string ⟨#[]⟩):=(by rw [cell_of_row _ _ _ _ _ _ AO];rfl);have q1:w5.cell? ⟨w.heap.size,1,none⟩=some (.string ⟨#[]⟩):=(by rw [cell_of_row _ _ _ _ _ _ AO];rfl);have z0:w5.frozen? ⟨w.heap.size,0,none⟩=false:=frozen_of_row _ _ _ _ _ AO;have z1:w5.frozen? ⟨w.heap.size,1,none⟩=false:=frozen_of_row _ _ _ _ _ AO;clear lH Lv Qd AO))
  rw [HK.out];have CE:=ab (Below.next bN.out iu.out);clear q0 q1 z0 z1 r0 r1 k0 k1 HL iu bG wk bN nT;obtain ⟨ok,cO⟩ : ∃ ok,ok=FD c:=⟨_,rfl⟩;rw [← cO];have pF:=ab cO;clear cO;go_wp2_with fail;refine bodyPost_ret (aN rfl _ _ w.heap.size 52 _ (0,0) _ rfl (vE Yn.out _ _) underlying52 rfl (by kernel_rfl)) rfl ⟨?_,b9 CE.out (aj _)⟩
  cases hk:FD c with
  | true=>exact .inl ⟨rfl,by rw [← HPQ.out];simp [pF.out,hk]⟩
  | false=>exact .inr ⟨rfl,_,_,by simp [pF.out,hk];exact ⟨rfl,rfl⟩⟩
def wV(l:List Pr)(root:Bool):Option Nat:=if (4072:Int)<pV (fY l) then some 2 else if l.length=0∨root=false∧pV (fY l)<1556 then some 3 else none
def B4(l:List Pr)(root:Bool):Option Nat:=if l.all cN=false then some 0 else if ¬ gX l then some 11 else wV l root
theorem OT{l:List Pr}(h:l.all cN=true):fY l≤960*l.length:=by
 induction l with
 | nil=>exact aj _
 | cons p l ih =>
  simp only [List.all_cons,bU] at h;have h1:=eS h.1;have h2:=ih h.2;rw [oa,List.length_cons];unfold z6;omega
theorem T6(l:List Pr)(root:Bool)(hm:l.length≤140737488355328):B4 l root=zI l root:=by
 unfold B4 zI;cases h:l.all cN with
 | false=>rfl
 | true =>
  have hs:=OT h;have e:wV l root=if 4072<fY l then some 2 else if l=[]∨root=false∧fY l<1556 then some 3 else none:=by
   unfold wV;rw [kR (by omega)]
   by_cases h1:4072<fY l
   ·rw [if_pos (by omega),if_pos h1]
   ·rw [if_neg (by omega),if_neg h1]
    by_cases h2:l=[]∨root=false∧fY l<1556
    ·have h3:l.length=0∨root=false∧((fY l:Nat):Int)<1556:=by
      rcases h2 with h2 | ⟨h2,h3⟩
      ·exact .inl (by rw [h2];rfl)
      ·exact .inr ⟨h2,by omega⟩
     rw [if_pos h2,if_pos h3]
    ·have h3:¬ (l.length=0∨root=false∧((fY l:Nat):Int)<1556):=by
      rintro (h3 | ⟨h3,h4⟩)
      ·exact h2 (.inl (List.length_eq_zero_iff.1 h3))
      ·exact h2 (.inr ⟨h3,by omega⟩)
     rw [if_neg h2,if_neg h3]
  rw [e]
theorem OZ(p:Pr)(w:World):Calls prog 120 #[.agg #[.string p.1,.string p.2]] w fun e w'=>e = .returned (.bool (cN p))∧Below w.heap.size w w':=by
 have fi:=ai w (.cells #[.string p.1,.string p.2] 52);by_cases h1:1≤p.1.size
 ·by_cases h2:p.1.size≤255
  ·by_cases h3:p.2.size≤700
   ·have hm:cN p=true:=decide_eq_true ⟨h1,h2,h3⟩;rw [hm];have i1:(1:Int)≤(p.1.size:Int):=by omega
    have i2:(p.1.size:Int)≤255:=by omega
    have i3:(p.2.size:Int)≤700:=by omega
    clear hm;go_enter func120,ntmps120;go_wp2;go_ret;exact ⟨rfl,fi⟩
   ·have hm:cN p=false:=decide_eq_false (fun h=>h3 h.2.2)
    rw [hm];have i1:(1:Int)≤(p.1.size:Int):=by omega
    have i2:(p.1.size:Int)≤255:=by omega
    have i3:¬ (p.2.size:Int)≤700:=by omega
    clear hm;go_enter func120,ntmps120;go_wp2;go_ret;exact ⟨rfl,fi⟩
  ·have hm:cN p=false:=decide_eq_false (fun h=>h2 h.2.1)
   rw [hm];have i1:(1:Int)≤(p.1.size:Int):=by omega
   have i2:¬ (p.1.size:Int)≤255:=by omega
   clear hm;go_enter func120,ntmps120;go_wp2;go_ret;exact ⟨rfl,fi⟩
 ·have hm:cN p=false:=decide_eq_false (fun h=>h1 h.1)
  rw [hm];have i1:¬ (1:Int)≤(p.1.size:Int):=by omega
  clear hm;go_enter func120,ntmps120;go_wp2;go_ret;exact ⟨rfl,fi⟩
theorem KX(A:Nat→Addr)(v:Value)(l:List Pr)(root:Bool)(w:World)(cO:Un l)(hm:l.length≤140737488355328)(hr:gM w v l)(hE:jS A w):Calls prog 119 #[v,.bool root] w fun e w'=>e = .returned (gC A (wV l root))∧Below w.heap.size w w':=by
 have HS:=ab (Ay v l w cO hm hr);obtain ⟨a,c,hv⟩:=hr.form;subst hv;have HE:=ab hE;obtain ⟨x,hx⟩ : ∃ x,x=pV (fY l):=⟨_,rfl⟩;obtain ⟨n,hn⟩ : ∃ n,n=l.length:=⟨_,rfl⟩;have HR:Hid (wV l root=if (4072:Int)<x then some 2 else if n=0∨root=false∧x<1556 then some 3 else none):=by rw [hx,hn];exact rfl
 rw [← hx] at HS;rw [← hn] at HS hm ⊢;clear hr hE hx hn cO;by_cases h1:(4072:Int)<x
 ·rw [HR.out,if_pos h1];go_enter func119,ntmps119;go_wp2_with fail;refine HS.out.mono ?_
  rintro e w1 ⟨rfl,aM⟩;have c2:w1.cell? ⟨2,0,none⟩=some (.iface 360 (.pointer (some (A 2)))):=((HE.out.below aM).1.1 2 (by decide)).1
  go_wp2;go_ret;exact ⟨rfl,aM⟩
 ·by_cases h2:n=0
  ·subst h2;rw [HR.out,if_neg h1,if_pos (.inl rfl)];go_enter func119,ntmps119;go_wp2_with fail;refine HS.out.mono ?_
   rintro e w1 ⟨rfl,aM⟩;have c3:w1.cell? ⟨3,0,none⟩=some (.iface 360 (.pointer (some (A 3)))):=((HE.out.below aM).1.1 3 (by decide)).1
   go_wp2;go_ret;exact ⟨rfl,aM⟩
  ·have Qj:((n:Int) == 0)=false:=by rw [beq_eq_false_iff_ne];omega
   cases root with
   | true =>
    rw [HR.out,if_neg h1,if_neg (by simp [h2])]
    go_enter func119,ntmps119;go_wp2_with fail;refine HS.out.mono ?_
    rintro e w1 ⟨rfl,aM⟩;go_wp2;go_ret;exact ⟨rfl,aM⟩
   | false =>
    by_cases h3:x<1556
    ·rw [HR.out,if_neg h1,if_pos (.inr ⟨rfl,h3⟩)];go_enter func119,ntmps119;go_wp2_with fail;refine HS.out.mono ?_
     rintro e w1 ⟨rfl,aM⟩;have c3:w1.cell? ⟨3,0,none⟩=some (.iface 360 (.pointer (some (A 3)))):=((HE.out.below aM).1.1 3 (by decide)).1
     go_wp2;go_ret;exact ⟨rfl,aM⟩
    ·rw [HR.out,if_neg h1,if_neg (by simp [h2,h3])]
     go_enter func119,ntmps119;go_wp2_with fail;refine HS.out.mono ?_
     rintro e w1 ⟨rfl,aM⟩;go_wp2;go_ret;exact ⟨rfl,aM⟩
def iM(l:List Pr)(root:Bool)(k:Nat):Option Nat:=if gX (l.take k) then wV l root else some 11
theorem uK{l:List Pr}{root:Bool}{k:Nat}(hk:k<l.length)(h:∀ (h0:0<k),cQ (l[k - 1]'(by omega)).1 l[k].1=true):iM l root (k+1)=iM l root k:=by
 unfold iM;have e:gX (l.take (k+1))↔gX (l.take k):=by
  rw [ax hk,Kx];constructor
  ·exact fun h=>h.1
  ·intro hr;refine ⟨hr,fun h0=>?_⟩
   simp only [ag,a6 (Nat.le_of_lt hk),bF] at h0 ⊢;exact h h0
 simp only [e]
theorem Hk{l:List Pr}{root:Bool}{k:Nat}(hk:k<l.length)(h0:0<k)(h:cQ (l[k - 1]'(by omega)).1 l[k].1=false):iM l root (k+1)=some 11:=by
 unfold iM;rw [if_neg];intro hr;have:=hr (k - 1) (by rw [ag];omega)
 simp only [bF,show k - 1+1=k by omega] at this
 rw [h] at this;cases this
theorem qw(A:Nat→Addr)(v:Value)(l:List Pr)(root:Bool)(w:World)(cO:Un l)(hm:l.length≤140737488355328)(hr:gM w v l)(hE:jS A w):Calls prog 79 #[v,.bool root] w fun e w'=>e = .returned (gC A (zI l root))∧Below w.heap.size w w':=by
 have Ym:=ab (KX A v l root w cO hm hr hE);rw [← T6 l root hm];obtain ⟨a,cap,rfl,cT,_,hc⟩:=hr;have HC:=ab hc;have HE:=ab hE;have zR:Hid (iM l root 0=wV l root):=by show _=_;unfold iM;rw [if_pos];simp [Dh]
 obtain ⟨n,hn⟩ : ∃ n,n=l.length:=⟨_,rfl⟩;rw [← hn] at hm Ym ⊢;have HN:=ab hn;obtain ⟨Q,hQ⟩ : ∃ Q:Ending→World→Prop,Q=fun e w'=>e = .returned (gC A (B4 l root))∧Below w.heap.size w w':=⟨_,rfl⟩
 rw [← hQ];have HQ:=ab hQ;clear hc hn cT hE cO hQ;go_enter func79,ntmps79;go_wp2_with fail;go_step3
 go_wp2_with fail;refine Ym.out.mono ?_
 rintro e w1 ⟨rfl,aM⟩;have bN:=ab aM;clear aM Ym;rw [← zR.out];go_wp2;go_step3
 go_wp2;go_loopw [5,13] (fun f i wr=>∃ k:Nat,k≤n∧i = .int .i64 k∧f=gC A (iM l root k)∧(∀ j (h:j<l.length),j<k→cN l[j]=true)∧Below w.heap.size w wr) (fun _ i _=>n - (intOf i).toNat)
 case atStart=>exact ⟨0,aB _,rfl,rfl,fun j _ h=>absurd h (iA _),bN.out⟩
 case round =>
  obtain ⟨k,hk,rfl,rfl,jm,bO⟩:=hrel;clear bN zR;have HP:=ab jm;clear jm;by_cases bK:k<n
  ·have de:k<l.length:=by have:=HN.out;omega
   have dK:(k:Int)<(n:Int):=by omega
   obtain ⟨g,o,rfl,f1,f2⟩:=HC.out k de;have c1:wr.cell? ⟨g,o+k*2,none⟩=some (.string l[k].1):=(bO.cell (p:=⟨g,o+k*2,none⟩) (World.block_lt_of_cell? w _ f1)).trans f1;have c2:wr.cell? ⟨g,o+k*2+1,none⟩=some (.string l[k].2):=(bO.cell (p:=⟨g,o+k*2+1,none⟩) (World.block_lt_of_cell? w _ f2)).trans f2;have pT:Hid (cN l[k]=true→∀ j (h:j<l.length),j<k+1→cN l[j]=true):=fun hl j h hj=>by
    by_cases he:j=k
    ·subst he;exact hl
    ·exact HP.out j h (by omega)
   have kL:Hid (cN l[k]=false→B4 l root=some 0):=fun hl=>by
    unfold B4;rw [if_pos];rw [List.all_eq_false];exact ⟨l[k],aI _,by simp [hl]⟩
   have HB:=ab (Below.next bO (ai wr (.cells #[.string l[k].1,.string l[k].2] 52)));have wk:=ab (bM wr #[.string l[k].1,.string l[k].2] 52);have Fy:=ab (fun W=>OZ l[k] W)
   obtain ⟨fv,Lr⟩ : ∃ fv,fv=gC A (iM l root k):=⟨_,rfl⟩;rw [← Lr];cases Tx:cN l[k] with
   | false =>
    rw [Tx] at Fy;have Ro:=ab (kL.out Tx);obtain ⟨p,hp⟩ : ∃ p,p=l[k]:=⟨_,rfl⟩;rw [← hp] at c1 c2 Fy HB wk;clear hp Lr pT kL Tx HC bO f1 f2;go_wp2_with fail;refine (Fy.out _).mono ?_
    rintro e w2 ⟨rfl,aS⟩;have bG:=ab (Below.next HB.out aS);have k0:w2.cell? ⟨0,0,none⟩=some (.iface 360 (.pointer (some (A 0)))):=((HE.out.below bG.out).1.1 0 (by decide)).1
    clear aS HB wk Fy c1 c2;go_wp2;rw [HQ.out];exact ⟨by rw [Ro.out];rfl,bG.out⟩
   | true =>
    rw [Tx] at Fy;have tV:=ab (pT.out Tx);by_cases h0:k=0
    ·have HK:=ab (uK (l:=l) (root:=root) de (fun h=>by omega))
     rw [← HK.out] at Lr;have HFV:=ab Lr;obtain ⟨p,hp⟩ : ∃ p,p=l[k]:=⟨_,rfl⟩;rw [← hp] at c1 c2 Fy HB wk;have hz:decide ((0:Int)<(k:Int))=false:=decide_eq_false (by omega)
     have py:decide (0<k)=false:=decide_eq_false (by omega)
     have ML:=ab h0;clear hp Lr pT kL Tx HC bO f1 f2 HK h0;go_wp2_with fail;refine (Fy.out _).mono ?_
     rintro e w2 ⟨rfl,aS⟩;have bG:=ab (Below.next HB.out aS);have b0:w2.cell? ⟨wr.heap.size,0,none⟩=some (.string p.1):=(wk.out.below aS).2 0 (by simp)
     clear aS HB wk Fy c1 c2;go_wp2;go_quiet (fail)
     go_wp2;go_roundw
     case rel=>exact ⟨k+1,by omega,by go_num,HFV.out,tV.out,aA bG.out _⟩
     case measure=>simp [intOf];omega
    ·have yh:k - 1<l.length:=by omega
     obtain ⟨g',o',he,d1,d2⟩:=HC.out (k - 1) yh;cases he;have R6:Hid (cQ (l[k - 1]'yh).1 l[k].1=true→iM l root (k+1)=iM l root k):=fun h=>uK de (fun _=>h)
     have VG:Hid (cQ (l[k - 1]'yh).1 l[k].1=false→iM l root (k+1)=some 11):=fun h=>Hk de (by omega) h
     obtain ⟨p,hp⟩ : ∃ p,p=l[k]:=⟨_,rfl⟩;obtain ⟨x,hx⟩ : ∃ x,x=(l[k - 1]'yh).1:=⟨_,rfl⟩;rw [← hp] at c1 c2 Fy HB wk R6 VG;rw [← hx] at d1 R6 VG;obtain ⟨k1,jx⟩ : ∃ k1,k1=k - 1:=⟨_,rfl⟩;have vR:IntKind.i64.wrap ((k:Int) - 1)=(k1:Int):=by rw [IntKind.wrap_i64];omega
     rw [← jx] at d1;have e1:wr.cell? ⟨g,o+k1*2,none⟩=some (.string x):=(bO.cell (p:=⟨g,o+k1*2,none⟩) (World.block_lt_of_cell? w _ d1)).trans d1;have hz:(0:Int)<(k:Int):=by omega
     have py:0<k:=by omega
     have j1:(k1:Int)<(n:Int):=by omega
     have j0:(0:Int)≤(k1:Int):=by omega
     have Ik:=ab (World.block_lt_of_cell? wr _ e1);clear hp hx pT kL Tx HC bO f1 f2 d1 d2 jx yh;cases hb:cQ x p.1 with
     | true =>
      have jz:Op.bytesLess x.toList p.1.toList=true:=hb;have HK:=ab (R6.out hb);rw [← HK.out] at Lr;have HFV:=ab Lr;clear hb Lr R6 VG HK;go_wp2_with fail;refine (Fy.out _).mono ?_
      rintro e w2 ⟨rfl,aS⟩;have bG:=ab (Below.next HB.out aS);have b0:w2.cell? ⟨wr.heap.size,0,none⟩=some (.string p.1):=(wk.out.below aS).2 0 (by simp)
      have b1:w2.cell? ⟨g,o+k1*2,none⟩=some (.string x):=((Below.next (ai wr _) aS).cell (p:=⟨g,o+k1*2,none⟩) Ik.out).trans e1;clear aS HB wk Fy c1 c2 e1;go_wp2;go_quiet (fail)
      go_wp2;go_roundw
      case rel=>exact ⟨k+1,by omega,by go_num,HFV.out,tV.out,aA bG.out _⟩
      case measure=>simp [intOf];omega
     | false =>
      have jz:Op.bytesLess x.toList p.1.toList=false:=hb;have HK:=ab (VG.out hb);clear hb Lr R6 VG;go_wp2_with fail;refine (Fy.out _).mono ?_
      rintro e w2 ⟨rfl,aS⟩;have bG:=ab (Below.next HB.out aS);have b0:w2.cell? ⟨wr.heap.size,0,none⟩=some (.string p.1):=(wk.out.below aS).2 0 (by simp)
      have b1:w2.cell? ⟨g,o+k1*2,none⟩=some (.string x):=((Below.next (ai wr _) aS).cell (p:=⟨g,o+k1*2,none⟩) Ik.out).trans e1;have b2:w2.cell? ⟨11,0,none⟩=some (.iface 360 (.pointer (some (A 11)))):=(HE.out.below bG.out).2;clear aS HB wk Fy c1 c2 e1;go_wp2;go_quiet (fail)
      go_wp2;go_roundw
      case rel=>exact ⟨k+1,by omega,by go_num,by rw [HK.out];rfl,tV.out,aA bG.out _⟩
      case measure=>simp [intOf];omega
  ·have dK:¬ (k:Int)<(n:Int):=by omega
   have mP:Hid (iM l root k=B4 l root):=by
    have df:l.take k=l:=by rw [al];have:=HN.out;omega
    have tm:l.all cN=true:=List.all_eq_true.2 (fun p hp=>by
     obtain ⟨i,hi,rfl⟩:=aO hp;exact HP.out i hi (by have:=HN.out;omega))
    show iM l root k=B4 l root
    unfold iM B4;rw [df,tm];by_cases Ei:gX l
    ·simp [Ei]
    ·simp [Ei]
   have HB:=ab bO;rw [mP.out];obtain ⟨fv,Lr⟩ : ∃ fv,fv=gC A (B4 l root):=⟨_,rfl⟩;rw [← Lr];have HFV:=ab Lr;clear Lr HC bO HP mP;go_wp2;rw [HQ.out];exact ⟨by rw [← HFV.out],HB.out⟩
end Go.Proofs.YtihmgigfkmofnaaGreatDoor
