import Derived.Test.YtihmgigfkmofnaaGreatDoorLen64
import Derived.Test.YtihmgigfkmofnaaGreatDoorG06
import Derived.Laws.BitsLemmas
set_option maxHeartbeats 2000000
set_option maxRecDepth 20000
open Go.Proofs.Tryz
namespace Go.Proofs.YtihmgigfkmofnaaGreatDoor
open Go.RowKit
theorem LY(b off len cap:Nat)(l:List UInt8)(w:World)(hlen:l.length=len)(h1:1≤len)(hm:len≤8)(hc:∀ j (h:j<l.length),w.cell? ⟨b,off+j,none⟩=some (.int .u8 (l[j].toNat:Int))):Calls prog 239 #[.slice (some ⟨b,off,none⟩) len cap] w fun e w'=>∃ g c2,e = .returned (.slice (some ⟨g,0,none⟩) len c2)∧w'.ownsRow w.heap.size 5 1 (.slice (some ⟨g,0,none⟩) len c2) len (dS l)∧Below w.heap.size w w':=by
 obtain ⟨i0,hi,nK,mG,o7⟩:=info_parts Tryz.info5;have qu:∀ w,(binOp .eql 145 (.slice (some ⟨b,off,none⟩) len cap) (.slice none 0 0)).run prog w = .ok (.bool false) w:=fun w=>by
  have h2:∀ d:Nat,(Op.equalIn (d+1) 145 (.slice (some ⟨b,off,none⟩) len cap) (.slice none 0 0)).run prog w = .ok false w:=fun d=>by
   simp [Op.equalIn,run_underlying underlying145]
  simp only [binOp];simp [Op.equal,Op.maxDepth,h2 9999]
 go_enter func239,ntmps239;have hb:b<w.heap.size:=World.block_lt_of_cell? w _ (hc 0 (by omega))
 go_wp2_with (first
  | (at_builtin;refine wpList_append_lies _ rfl _ _ 145 rfl w.heap.size 5 i0 (.int .u8 0) 1 1 underlying145 hi nK mG o7 rfl (by decide) _ 0 [] rfl ?c0 ⟨b,off,none⟩ len cap (dS l) rfl ?c8 ?c1 (qR l) ?c3 ?c4 ?c5 ?c6 (w.heap.size+1) ?c7 ?_))
 case c0=>exact World.ownsRow_lit w #[] 0 (aj _) (aD _) rfl
 case c8=>rw [aY,hlen,Nat.mul_one]
 case c1 =>
  intro j u hu;by_cases hj:j<l.length
  ·rw [iu l j hj] at hu;cases hu;have e:(⟨b,off,none⟩ : Addr).add j=⟨b,off+j,none⟩:=by simp [Addr.add]
   rw [e,(ai w _).cell (p:=⟨b,off+j,none⟩) hb];exact hc j hj
  ·rw [bD (by rw [aY];omega)] at hu;cases hu
 case c3=>omega
 case c4=>unfold maxLen;omega
 case c5=>omega
 case c6=>simp
 case c7=>simp
 intro g c2 w1 aE D9 rG hlg;have aL:Below w.heap.size w w1:=(ai w _).grown D9 (by simp) (fun k hk=>by simp [Value.ownBlock] at hk;omega)
 clear D9 rG hlg hc;go_wp2;go_ret;exact ⟨g,c2,rfl,aE,aL⟩
theorem Qz:prog.arrayLen 328=8:=by kernel_rfl
theorem TI:prog.elem 328=5:=by kernel_rfl
theorem zI(b len:Nat)(h1:1≤len)(h8:len≤8)(w:World):(Instr.sliceAt 328 (.pointer (some ⟨b,0,none⟩)) (some (.int .i64 (8 - (len:Int)))) none none).run prog w = .ok (.slice (some ⟨b,8 - len,none⟩) len len) w:=by
 have hz:(sizeOf 5).run prog w = .ok 1 w:=by kernel_rfl
 have e:(8 - (len:Int)).toNat=8 - len:=by omega
 rw [run_sliceAt_array_l w 328 ⟨b,0,none⟩ (by kernel_rfl) .i64 _ (by omega) (by rw [Qz];omega),Qz,TI,e,hz]
 by_cases h:len=8
 ·subst h;rfl
 ·simp [slicedAt,Addr.add,show 8≠8 - len by omega,show 8 - (8 - len)=len by omega,show ¬ 8 - len=0 by omega]
def ko(n j:Nat):UInt8:=UInt8.ofNat (n / 2 ^ (8*(7 - j)))
def qA(n:Nat):List UInt8:=(List.range 8).map (ko n)
def lG(n k:Nat):List UInt8:=List.replicate (8 - k) 0++(qA n).drop (8 - k)
def bI(n width:Nat):List UInt8:=(qA n).drop (8 - width)
theorem mo(n:Nat):(qA n).length=8:=by simp [qA]
theorem LN(n k:Nat)(_h:k≤8):(lG n k).length=8:=by
 rw [lG,ae,bu,ao,mo];omega
theorem eA(n width:Nat)(h:width≤8):(bI n width).length=width:=by
 rw [bI,ao,mo];omega
theorem xT(n j:Nat)(h:j<(qA n).length):(qA n)[j]=ko n j:=by simp [qA]
theorem G9(n k:Nat)(h:k<8):lG n (k+1)=(lG n k).set (7 - k) (ko n (7 - k)):=by
 have e1:8 - (k+1)=7 - k:=by omega
 have e2:8 - k=(7 - k)+1:=by omega
 unfold lG;rw [e1,e2,List.replicate_succ',ax,bV _ _ (by simp)]
 have hd:(qA n).drop (7 - k)=ko n (7 - k)::(qA n).drop (7 - k+1):=by
  rw [aZ (by rw [mo];omega),xT]
 rw [hd];simp
theorem Tm(n k:Nat)(hk:k<8):(n:Int) / 2 ^ (8*k) % 256=((ko n (7 - k)).toNat:Int):=by
 unfold ko;rw [show 7 - (7 - k)=k by omega]
 simp only [UInt8.toNat_ofNat'];generalize hx:n / 2 ^ (8*k)=x;have e:(n:Int) / 2 ^ (8*k)=(x:Int):=by
  rw [← hx,Int.natCast_ediv];simp
 rw [e];omega
theorem zW{w:World}{b b2 e size n:Nat}{v:Value}{xs:List Value}(h:w.ownsRow b e size v n xs)(hb:b2≤b):w.ownsRow b2 e size v n xs:=by
 refine ⟨h.1,?_⟩;rcases h.2 with h' | ⟨g,cap,cur,h',h1,hr⟩
 ·exact .inl h'
 ·exact .inr ⟨g,cap,cur,h',ar hb h1,hr⟩
theorem wF(n m:Nat)(w:World)(hn:n<18446744073709551616)(h1:1≤m)(h8:m≤8)(eC:n<2 ^ (8*m)):Calls prog 217 #[.int .u64 (n:Int),.int .i64 (m:Int)] w fun e w'=>∃ g c2,e = .returned (.tuple #[.slice (some ⟨g,0,none⟩) m c2,.nilIface])∧w'.ownsRow w.heap.size 5 1 (.slice (some ⟨g,0,none⟩) m c2) m (dS (bI n m))∧Below w.heap.size w w':=by
 have Bz:decide ((m:Int)<1)=false:=decide_eq_false (by omega)
 have Ld:decide (8<(m:Int))=false:=decide_eq_false (by omega)
 have hb:Lib.bitLen n≤8*m:=(uD n (8*m) (by omega) hn).2 eC
 have hd3:decide (8*(m:Int)<((Lib.bitLen n:Nat):Int))=false:=decide_eq_false (by omega)
 clear eC hb;have me:=heap_alloc_new w (.cells #[.int .u8 0,.int .u8 0,.int .u8 0,.int .u8 0,.int .u8 0,.int .u8 0,.int .u8 0,.int .u8 0] 328);have eU:=ai w (.cells #[.int .u8 0,.int .u8 0,.int .u8 0,.int .u8 0,.int .u8 0,.int .u8 0,.int .u8 0,.int .u8 0] 328);have HN:Hid ((w.alloc (.cells #[.int .u8 0,.int .u8 0,.int .u8 0,.int .u8 0,.int .u8 0,.int .u8 0,.int .u8 0,.int .u8 0] 328)).heap[w.heap.size]?=some (.cells (dS (lG n 0)).toArray 328 (0,0))):=by
  show _=_
  rw [me];rfl
 have B0:Hid (Below w.heap.size w (w.alloc (.cells #[.int .u8 0,.int .u8 0,.int .u8 0,.int .u8 0,.int .u8 0,.int .u8 0,.int .u8 0,.int .u8 0] 328))):=eU;clear me eU;go_enter func217,ntmps217;go_wp2_with (go_at_call 146;refine (sO n _ hn).mono ?_;rintro e w' ⟨rfl,rfl⟩)
 go_loopw [22] (fun i wr=>∃ k:Nat,k≤8∧i = .int .i64 k∧wr.heap[w.heap.size]?=some (.cells (dS (lG n k)).toArray 328 (0,0))∧Below w.heap.size w wr) (fun i _=>8 - (intOf i).toNat)
 case atStart=>exact ⟨0,by omega,rfl,HN.out,B0.out⟩
 case round =>
  obtain ⟨k,hk,rfl,bE,UN⟩:=hrel;clear HN B0;have HR:Hid (wr.heap[w.heap.size]?=some (.cells (dS (lG n k)).toArray 328 (0,0))):=bE;clear bE;by_cases bN:k<8
  ·have hl:=LN n k hk;have bh:wr.cell? ⟨w.heap.size,7 - k,none⟩=some (.int .u8 (((lG n k)[7 - k]'(by omega)).toNat:Int)):=by
    rw [cell_of_row wr w.heap.size (7 - k) _ 328 (0,0) HR.out];simpa using iu (lG n k) (7 - k) (by omega)
   obtain ⟨E8,hold⟩ : ∃ E8:Int,E8=(((lG n k)[7 - k]'(by omega)).toNat:Int):=⟨_,rfl⟩
   rw [← hold] at bh;clear hold;have Eb:wr.frozen? ⟨w.heap.size,7 - k,none⟩=false:=frozen_of_row wr w.heap.size (7 - k) _ 328 HR.out;have hv:=Tm n k bN;have HS:Hid ((wr.setCell ⟨w.heap.size,7 - k,none⟩ (.int .u8 ((ko n (7 - k)).toNat:Int))).heap[w.heap.size]?=some (.cells (dS (lG n (k+1))).toArray 328 (0,0))):=by
    show _=_
    rw [heap_setCell_same wr w.heap.size (7 - k) _ 328 _ HR.out,G9 n k bN];simp [dS,List.map_set]
   generalize ko n (7 - k)=dg at *;go_wp2;go_roundw
   case rel=>exact ⟨k+1,by omega,by go_num,HS.out,UN.setCell (aj _) _⟩
   case measure=>simp [intOf];omega
  ·have K6:k=8:=by omega
   subst K6;have qq:=zI w.heap.size m h1 h8;have hl:=eA n m h8;have HC:Hid (∀ j (h:j<(bI n m).length),wr.cell? ⟨w.heap.size,8 - m+j,none⟩=some (.int .u8 ((bI n m)[j].toNat:Int))):=by
    intro j hj;have e8:lG n 8=qA n:=by simp [lG]
    rw [cell_of_row wr w.heap.size (8 - m+j) _ 328 (0,0) HR.out,e8];have ZA:8 - m+j<(qA n).length:=by rw [mo];omega
    have:=iu (qA n) (8 - m+j) ZA;simp only [List.getElem?_toArray];rw [this];simp [bI]
   clear HR;go_wp2_with fail;refine (LY w.heap.size (8 - m) m m (bI n m) _ hl h1 h8 HC.out).mono ?_
   rintro e w2 ⟨g,c2,rfl,aE,aU⟩;have ZW:=Below.next UN aU;have lD:w2.ownsRow w.heap.size 5 1 (.slice (some ⟨g,0,none⟩) m c2) m (dS (bI n m)):=zW aE UN.size;clear aE aU UN HC qq;go_wp2_with fail;go_ret2;exact ⟨g,c2,rfl,lD,ZW⟩
def ny(k v:Nat):List UInt8:=[UInt8.ofNat k,GQ v,Fa v]
def fk(p:Pr):ByteArray:=⟨(ny p.1.size p.2.size++(p.1.data.toList++p.2.data.toList)).toArray⟩
theorem jG(p:Pr):(fk p).data.toList=ny p.1.size p.2.size++(p.1.data.toList++p.2.data.toList):=by simp [fk]
theorem qC(p:Pr):(fk p).size=3+p.1.size+p.2.size:=by
 rw [← bsize,jG];simp [ny];omega
theorem G2(l:List Pr):(dV (l.map fk) (l.map fk).length).length+2*l.length=fR l:=by
 unfold dV;rw [al (aj _)];induction l with
 | nil=>rfl
 | cons p l ih =>
  rw [List.map_cons,List.flatMap_cons,ae,bsize,qC,nV,List.length_cons];unfold zD;omega
theorem qc(l:List Pr):dO (l.map fk)=fR l:=by
 have:=G2 l;unfold dO fs;rw [az] at *;omega
def tk(l:List Pr):ByteArray:=⟨(js (l.map fk)).toArray⟩
def sU(c:List UInt8):Nat:=min (c.getD 0 0).toNat (c.length - 3)
def dt(c:ByteArray):Pr:=(⟨((c.data.toList.drop 3).take (sU c.data.toList)).toArray⟩,⟨((c.data.toList.drop 3).drop (sU c.data.toList)).toArray⟩)
def E9(c:ByteArray):Bool:=decide (3≤c.size∧fk (dt c)=c)
theorem oZ(c:List UInt8):sU c≤255∧sU c≤c.length - 3:=by
 have:=(c.getD 0 0).toNat_lt;unfold sU;omega
theorem IL(c:ByteArray):(dt c).1.size=sU c.data.toList:=by
 have:=(oZ c.data.toList).2;rw [← bsize];simp only [dt];rw [ag,ao];omega
theorem IK(c:ByteArray):(dt c).2.size=c.size - 3 - sU c.data.toList:=by
 rw [← bsize];simp only [dt];rw [ao,ao,bsize]
theorem F9(c:ByteArray):(dt c).1.data.toList++(dt c).2.data.toList=c.data.toList.drop 3:=by
 simp only [dt];rw [aH]
theorem Oa(c:ByteArray)(h:3≤c.size):E9 c=decide (ny (dt c).1.size (dt c).2.size=c.data.toList.take 3):=by
 unfold E9;congr 1
 apply propext
 constructor
 ·rintro ⟨_,he⟩;have:=congrArg (fun b:ByteArray=>b.data.toList.take 3) he
  simp only [jG] at this;rw [aF (by simp [ny]),al (by simp [ny])] at this
  exact this
 ·intro he;refine ⟨h,hO ?_⟩;rw [jG,he,F9,aH]
theorem KS(p:Pr)(hk:p.1.size≤255):sU (fk p).data.toList=p.1.size:=by
 unfold sU;rw [bsize,qC,jG];have:((ny p.1.size p.2.size++(p.1.data.toList++p.2.data.toList)).getD 0 0).toNat=p.1.size:=by
  simp [ny];omega
 rw [this];omega
theorem wN(p:Pr)(hk:p.1.size≤255):dt (fk p)=p:=by
 unfold dt;rw [KS p hk,jG];have e:(ny p.1.size p.2.size++(p.1.data.toList++p.2.data.toList)).drop 3=p.1.data.toList++p.2.data.toList:=by simp [ny]
 rw [e,← bsize p.1,ee,fF]
theorem N7(p:Pr)(hk:p.1.size≤255):E9 (fk p)=true:=by
 unfold E9;rw [wN p hk,qC];simp;omega
theorem sN{p:Pr}(h:cO p=true):1≤p.1.size∧p.1.size≤255∧p.2.size≤700:=by simpa [cO] using h
def mD(n:Nat)(b:List UInt8):Prop:=Mn b n∧(∀ c ∈ bX b n,E9 c=true)∧zh ((bX b n).map dt) true=none
def BG(n:Nat)(b:List UInt8):List Pr:=(bX b n).map dt
theorem Th{l:List Pr}(h:zh l true=none):mD l.length (js (l.map fk))∧BG l.length (js (l.map fk))=l:=by
 obtain ⟨h1,h2,h3,h4,h5⟩:=rQ h;have hs:dO (l.map fk)≤4072:=by rw [qc];exact h3
 have hc:=AE (l.map fk) hs;rw [az] at hc;have he:((l.map fk).map dt)=l:=by
  rw [eF];conv=>rhs;rw [← List.map_id l]
  exact gI (fun p hp=>wN p (sN (h1 p hp)).2.1)
 refine ⟨⟨?_,?_,?_⟩,?_⟩
 ·have:=ql (l.map fk) hs;rwa [az] at this
 ·rw [hc];intro c sf;obtain ⟨p,hp,rfl⟩:=List.mem_map.1 sf;exact N7 p (sN (h1 p hp)).2.1
 ·rw [hc,he];exact h
 ·unfold BG;rw [hc,he]
def UW(w:World)(v:Value)(l:List UInt8):Prop:=∃ a cap,v = .slice a l.length cap∧∀ j (h:j<l.length),∃ g o,a=some ⟨g,o,none⟩∧w.cell? ⟨g,o+j,none⟩=some (.int .u8 (l[j].toNat:Int))
theorem ly(w:World)(v:Value)(l:List UInt8)(h:UW w v l)(hl:0<l.length):(convert 145 9 v).run prog w = .ok (.string ⟨l.toArray⟩) w:=by
 obtain ⟨a,cap,rfl,hc⟩:=h;obtain ⟨g,o,rfl,_⟩:=hc 0 hl;refine run_convert_bytes_back w 145 9 5 ⟨g,o,none⟩ cap l underlying145 underlying5 underlying9 (fun j hj=>?_)
 obtain ⟨g',o',he,bh⟩:=hc j hj;cases he;rw [show (⟨g,o,none⟩ : Addr).add j=⟨g,o+j,none⟩ by simp [Addr.add]]
 exact bh
theorem Hj(n:Nat)(_h:n≤255):bI n 1=[UInt8.ofNat n]:=by
 unfold bI qA ko;simp [List.range,List.range.loop]
theorem Wy(n:Nat)(_h:n<65536):bI n 2=[GQ n,Fa n]:=by
 have e1:UInt8.ofNat n=Fa n:=by
  apply UInt8.toNat_inj.1
  simp [Fa]
 unfold bI qA ko;simp only [List.range,List.range.loop,List.map_cons,List.map_nil,List.drop_succ_cons,List.drop_zero,Nat.reduceSub,Nat.reduceMul,Nat.reducePow,Nat.div_one];rw [e1];rfl
def rF(p:Pr):ByteArray:=⟨(ny p.1.size p.2.size).toArray⟩
theorem xI(p:Pr):(rF p).size=3:=rfl
theorem Ef(p:Pr):(⟨[UInt8.ofNat p.1.size].toArray⟩ : ByteArray)++⟨[GQ p.2.size,Fa p.2.size].toArray⟩=rF p:=by
 refine hO ?_
 simp [rF,ny]
theorem q9{w:World}{base g m c:Nat}{l:List UInt8}(h:w.ownsRow base 5 1 (.slice (some ⟨g,0,none⟩) m c) m (dS l))(hl:l.length=m):UW w (.slice (some ⟨g,0,none⟩) m c) l :=
 ⟨_,_,by rw [hl],fun j hj=>⟨g,0,rfl,by rw [Nat.zero_add,World.ownsRow.cellAt h j (by omega)];exact iu l j hj⟩⟩
theorem DC(p:Pr)(w:World)(h1:p.1.size≤255)(h2:p.2.size<65536):Calls prog 191 #[.agg #[.string p.1,.string p.2]] w fun e w'=>e = .returned (.string (rF p))∧Below w.heap.size w w':=by
 have eU:=ai w (.cells #[.string p.1,.string p.2] 52);have hx:=bL w #[.string p.1,.string p.2] 52;have HP1:=ab (fun W=>wF p.1.size 1 W (by omega) (by decide) (by decide) (by omega))
 have XO:=ab (fun W=>wF p.2.size 2 W (by omega) (by decide) (by decide) (by omega))
 have ae2:=ab (Hj p.1.size h1);have ae1:=ab (Wy p.2.size h2);have HX:=ab hx;have B0:=ab eU;have k0:(w.alloc (.cells #[.string p.1,.string p.2] 52)).cell? ⟨w.heap.size,0,none⟩=some (.string p.1):=hx.2 0 (by simp)
 have w1:(p.1.size:Int) % 18446744073709551616=(p.1.size:Int):=by omega
 have w2:(p.2.size:Int) % 18446744073709551616=(p.2.size:Int):=by omega
 clear eU hx;go_enter func191,ntmps191;go_wp2_with fail;refine (HP1.out _).mono ?_
 rintro e w1 ⟨g,c2,rfl,aE,aL⟩;rw [ae2.out] at aE;have qP:=ab aE;have bP:=ab (Below.next B0.out aL);have k1:w1.cell? ⟨w.heap.size,1,none⟩=some (.string p.2):=(HX.out.below aL).2 1 (by simp)
 clear aE aL HP1 k0 B0 HX;go_wp2_with fail;refine (XO.out _).mono ?_
 rintro e w2 ⟨g2,c3,rfl,lD,aU⟩;rw [ae1.out] at lD;have lp:w2.ownsRow _ 5 1 (.slice (some ⟨g,0,none⟩) 1 c2) 1 (dS [UInt8.ofNat p.1.size]):=⟨qP.out.1,by
  rcases qP.out.2 with h' | ⟨g',cap,cur,h',Jf,PM,hr⟩
  ·exact .inl h'
  ·refine .inr ⟨g',cap,cur,h',Jf,?_,hr⟩;have hg:g'<w1.heap.size:=by
    rcases bg g' w1.heap.size with Wq | Wq
    ·exact Wq
    ·rw [aX Wq] at PM;cases PM
   rw [aU.block g' hg];exact PM⟩
 have cv1:=ly w2 _ _ (q9 lp rfl) (by simp)
 have cv2:=ly w2 _ _ (q9 lD rfl) (by simp)
 have bH:=ab (Below.next bP.out aU);have HH:=ab (Ef p);have Vb:=ab (xI p);obtain ⟨t1,DV⟩ : ∃ t1:ByteArray,t1=⟨[UInt8.ofNat p.1.size].toArray⟩:=⟨_,rfl⟩;obtain ⟨t2,sX⟩ : ∃ t2:ByteArray,t2=⟨[GQ p.2.size,Fa p.2.size].toArray⟩:=⟨_,rfl⟩;have z1:t1.size=1:=by rw [DV];rfl
 have z2:t2.size=2:=by rw [sX];rfl
 rw [← DV] at cv1 HH;rw [← sX] at cv2 HH;clear lp lD aU qP bP XO k1 DV sX;go_wp2;go_ret;exact ⟨by rw [← HH.out];rfl,bH.out⟩
theorem EI(p:Pr):rF p++p.1++p.2=fk p:=by
 refine hO ?_
 rw [jG];simp [rF]
theorem Qm(p:Pr)(w:World)(h1:p.1.size≤255)(h2:p.2.size<65536):Calls prog 222 #[.agg #[.string p.1,.string p.2]] w fun e w'=>e = .returned (.string (fk p))∧Below w.heap.size w w':=by
 have eU:=ai w (.cells #[.string p.1,.string p.2] 52);have hx:=bL w #[.string p.1,.string p.2] 52;have HL:=ab (fun W=>DC p W h1 h2)
 have HX:=ab hx;have B0:=ab eU;have vH:=ab (EI p);have Vb:=xI p;obtain ⟨hd,hhd⟩ : ∃ hd,hd=rF p:=⟨_,rfl⟩;rw [← hhd] at HL vH Vb;have s1:¬ (9223372036854775807:Int)<(hd.size:Int)+(p.1.size:Int):=by rw [Vb];omega
 have s2:¬ (9223372036854775807:Int)<(hd.size:Int)+(p.1.size:Int)+(p.2.size:Int):=by rw [Vb];omega
 have a1:∀ w,(Op.stringOp .add hd p.1).run prog w = .ok (.string (hd++p.1)) w:=fun w=>run_string_add_sum (P:=prog) (w:=w) _ _ (by rw [Vb];omega)
 have a2:∀ w,(Op.stringOp .add (hd++p.1) p.2).run prog w = .ok (.string (hd++p.1++p.2)) w:=fun w=>run_string_add_sum (P:=prog) (w:=w) _ _ (by rw [ByteArray.size_append,Vb];omega)
 have MO:=ab Vb;clear Vb s1 s2;have k0:(w.alloc (.cells #[.string p.1,.string p.2] 52)).cell? ⟨w.heap.size,0,none⟩=some (.string p.1):=hx.2 0 (by simp)
 have k1:(w.alloc (.cells #[.string p.1,.string p.2] 52)).cell? ⟨w.heap.size,1,none⟩=some (.string p.2):=hx.2 1 (by simp)
 clear eU hx hhd;go_enter func222,ntmps222;go_wp2_with fail;generalize w.alloc (.cells #[.string p.1,.string p.2] 52)=W0 at *;go_region_held3 (fun w'=>w'.cell? ⟨w.heap.size,0,none⟩=some (.string p.1)∧w'.cell? ⟨w.heap.size,1,none⟩=some (.string p.2)) (go_keep)
  (first | (go_at_call 191;refine (HL.out _).mono ?_;rintro e w2 ⟨rfl,Lg⟩;have aU:Below W0.heap.size W0 w2:=⟨Lg.os,Lg.tape,Lg.output,Lg.size,Lg.block⟩;have bH:=ab (Below.next B0.out aU);have r0:w2.cell? ⟨w.heap.size,0,none⟩=some (.string p.1):=(HX.out.below aU).2 0 (by simp);have r1:w2.cell? ⟨w.heap.size,1,none⟩=some (.string p.2):=(HX.out.below aU).2 1 (by simp);clear aU Lg))
 all_goals
  go_wp2;go_ret;exact ⟨by rw [← vH.out];rfl,bH.out⟩
theorem vf{w:World}{b:Nat}{x y:Value}{t:TypeId}(h:w.heap[b]?=some (.cells #[x,y] t (0,0)))(x' y':Value):((w.setCell ⟨b,0,none⟩ x').setCell ⟨b,1,none⟩ y').heap[b]?=some (.cells #[x',y'] t (0,0)):=by
 rw [heap_setCell_same _ b 1 _ t _ (heap_setCell_same w b 0 _ t _ h)];rfl
theorem b9{B:Nat}{w0 w:World}{b:Nat}{x y:Value}(h:Below B w0 w)(hb:B≤b):Below B w0 ((w.setCell ⟨b,0,none⟩ x).setCell ⟨b,1,none⟩ y):=(h.setCell hb _).setCell hb _
def strs(l:List ByteArray):List Value:=l.map Value.string
theorem jS(l:List ByteArray):(strs l).length=l.length:=by simp [strs]
theorem CC(l:List ByteArray)(j:Nat)(h:j<l.length):(strs l)[j]?=some (.string l[j]):=by simp [strs,h]
theorem n7(a b:List ByteArray):strs (a++b)=strs a++strs b:=by simp [strs]
theorem info9:(prog.info? 9).map (fun i=>(i.zero,i.size,i.bytes))=some (some (.string ByteArray.empty),1,16):=by kernel_rfl
def Ml(w:World)(v:Value)(l:List ByteArray):Prop:=∃ a cap,v = .slice a l.length cap∧l.length≤cap∧∀ j (h:j<l.length),∃ g o,a=some ⟨g,o,none⟩∧w.cell? ⟨g,o+j,none⟩=some (.string l[j])
theorem ni.strs{w:World}{v:Value}{l:List ByteArray}(h:ni w v (strs l)):Ml w v l:=by
 obtain ⟨a,cap,rfl,hle,_,hc⟩:=h;rw [jS] at hle ⊢;exact ⟨a,cap,rfl,hle,fun j hj=>hc j _ (CC l j hj)⟩
theorem Ml.below{w w':World}{v:Value}{l:List ByteArray}(h:Ml w v l)(hb:Below w.heap.size w w'):Ml w' v l:=by
 obtain ⟨a,cap,rfl,hle,hc⟩:=h;refine ⟨a,cap,rfl,hle,fun j hj=>?_⟩
 obtain ⟨g,o,ha,bh⟩:=hc j hj;exact ⟨g,o,ha,(hb.cell (p:=⟨g,o+j,none⟩) (World.block_lt_of_cell? w _ bh)).trans bh⟩
theorem Fx(n:Int)(_h0:0≤n)(_h1:n<2 ^ 16):IntKind.i64.wrap n=n:=by
 rw [IntKind.wrap_i64];omega
theorem Sf(a b:Nat)(ha:a<256)(hb:b<256):bits BinOp.or IntKind.i64 (wrap64 (wrap64 (a:Int)*256)) (wrap64 (b:Int))=((a*256+b:Nat):Int):=by
 have h1:wrap64 (a:Int)=(a:Int):=by unfold wrap64;omega
 have h2:wrap64 ((a:Int)*256)=(a:Int)*256:=by unfold wrap64;omega
 have h3:wrap64 (b:Int)=(b:Int):=by unfold wrap64;omega
 rw [h1,h2,h3,bits_join .i64 16 (by decide) Fx 8 ((a:Int)*256) (b:Int) (by omega) (by omega) (by omega) (by omega) (by omega) (by omega)]
 omega
theorem BS(s:ByteArray)(j:Nat)(h:j<s.size):s.data.toList.getD j 0=s[j]:=by
 rw [aJ,af (by simpa using h)];rfl
theorem NB(s:ByteArray)(i:Nat)(w:World)(hs:2*i+1<s.size)(b7:s.size=4072):Calls prog 189 #[.string s,.int .i64 (i:Int)] w fun e w'=>e = .returned (.int .i64 ((zH s.data.toList i:Nat):Int))∧Below w.heap.size w w':=by
 obtain ⟨p,hp⟩ : ∃ p,p=2*i:=⟨_,rfl⟩;obtain ⟨q,hq⟩ : ∃ q,q=p+1:=⟨_,rfl⟩;have hw:IntKind.i64.wrap (2*(i:Int))=(p:Int):=by rw [IntKind.wrap_i64];omega
 have Q6:IntKind.i64.wrap ((p:Int)+1)=(q:Int):=by rw [IntKind.wrap_i64];omega
 have h1:(p:Int)<(s.size:Int):=by omega
 have Jf:p<s.size:=by omega
 have h2:(q:Int)<(s.size:Int):=by omega
 have PM:q<s.size:=by omega
 have g0:(0:Int)≤(p:Int):=by omega
 have g1:(0:Int)≤(q:Int):=by omega
 have HP:Hid (p=2*i∧q=2*i+1):=⟨hp,by omega⟩
 clear hp hq hs b7;go_enter func189,ntmps189;go_wp2;go_quiet (fail)
 go_wp2;go_ret;refine ⟨?_,aA (Below.refl _ _) _⟩;obtain ⟨rfl,rfl⟩:=HP.out;refine IA ?_
 show bits BinOp.or IntKind.i64 (wrap64 (wrap64 (s[2*i].toNat:Int)*256)) (wrap64 (s[2*i+1].toNat:Int))=_
 rw [Sf _ _ s[2*i].toNat_lt s[2*i+1].toNat_lt];unfold zH;rw [BS s _ Jf,BS s _ PM]
theorem ml(s:ByteArray)(a b:Nat)(_hb:b≤s.size):(s.extract a b).data.toList=(s.data.toList.drop a).take (b - a):=by
 rw [ByteArray.data_extract,Array.toList_extract]
theorem Kn(c:ByteArray)(h:3≤c.size):(c.extract 3 c.size).extract 0 (sU c.data.toList)=(dt c).1:=by
 have hk:=(oZ c.data.toList).2;rw [bsize] at hk;refine hO ?_
 rw [ml _ _ _ (by rw [ByteArray.size_extract];omega),ml c 3 c.size (aj _)]
 simp only [dt,List.drop_zero,Nat.sub_zero];rw [al (i:=c.size - 3) (by rw [ao,bsize];exact aj _)]
theorem Km(c:ByteArray)(_h:3≤c.size):(c.extract 3 c.size).extract (sU c.data.toList) (c.extract 3 c.size).size=(dt c).2:=by
 have hk:=(oZ c.data.toList).2;rw [bsize] at hk;refine hO ?_
 rw [ml _ _ _ (aj _),ml c 3 c.size (aj _),ByteArray.size_extract];simp only [dt,Nat.min_self];rw [al (i:=c.size - 3) (by rw [ao,bsize];exact aj _),al (by rw [ao,ao,bsize];omega)]
theorem N8(c:ByteArray)(h:3≤c.size):((rF (dt c)).toList == (c.extract 0 3).toList)=E9 c:=by
 rw [Oa c h,ke,beq_iff_eq,decide_eq_true_eq,ByteArray.toList_eq,ByteArray.toList_eq,ml c 0 3 h];simp [rF]
theorem aK{P:Program}{fn:Func}{p u:Tmp}{ty:TypeId}(h:fn.results=#[.cell p ty,.tmp u])(tmps:Array Value)(w:World)(g:Nat)(t:TypeId)(cs:Array Value)(fr:Nat × Nat)(d:TypeDesc)(hp:tmps.getD p undef = .pointer (some ⟨g,0,none⟩))(hg:w.heap[g]?=some (.cells cs t fr))(hu:P.underlying ty=some d)(hd:(match d with | .struct _ | .array _ _=>true | _=>false)=true)(hi:(P.info? ty).map (·.size)=some cs.size):(results fn tmps).run P w = .ok (.tuple #[.agg cs,tmps.getD u undef]) w:=by
 rw [results_cell_tmp h tmps P w,hp];simp [asAddr,run_loadVar_row w g t ty cs fr d hg hu hd hi,Result.andThen]
theorem F8(c:ByteArray)(w:World)(hc:c.size≤4072):Calls prog 154 #[.string c] w fun e w'=>((E9 c=true∧e = .returned (.tuple #[.agg #[.string (dt c).1,.string (dt c).2],.bool true]))∨(E9 c=false∧∃ x y,e = .returned (.tuple #[.agg #[.string x,.string y],.bool false])))∧Below w.heap.size w w':=by
 have eU:=ai w (.cells #[.string ⟨#[]⟩,.string ⟨#[]⟩] 52);have bE:=heap_alloc_new w (.cells #[.string ⟨#[]⟩,.string ⟨#[]⟩] 52);by_cases h3:c.size<3
 ·have fJ:E9 c=false:=decide_eq_false (fun h=>by omega)
  have kB:=ab fJ;have B0:=ab eU;have mA:=ab bE;have h3I:(c.size:Int)<3:=by omega
  clear eU fJ bE h3;go_enter func154,ntmps154;go_wp2;exact bodyPost_ret (aK rfl _ _ w.heap.size 52 _ (0,0) _ rfl mA.out underlying52 rfl (by kernel_rfl)) rfl ⟨.inr ⟨kB.out,_,_,rfl⟩,B0.out⟩
 ·have Wp:3≤c.size:=by omega
  have HK:=ab (N8 c Wp);have H1:=ab (Kn c Wp);have H2:=ab (Km c Wp);have HL:=ab (fun W=>DC (dt c) W (by rw [IL];exact (oZ _).1) (by rw [IK];omega))
  have XC:(c.extract 3 c.size).size=c.size - 3:=by rw [ByteArray.size_extract];omega
  have cL:=oZ c.data.toList;rw [bsize] at cL;have h3I:(3:Int)≤(c.size:Int):=by omega
  have hA:(c.extract 0 3).size=3:=by rw [ByteArray.size_extract];omega
  have hA0:0<(c.extract 0 3).size:=by omega
  have Q4:(c.extract 0 3)[0].toNat=(c.data.toList.getD 0 0).toNat:=by
   rw [← BS (c.extract 0 3) 0 hA0,ml c 0 3 Wp,List.drop_zero,aJ,aJ,cH,if_pos (by omega)]
  have hd3:decide ((c.size:Int)<3)=false:=decide_eq_false (by omega)
  obtain ⟨k,hk⟩ : ∃ k,k=sU c.data.toList:=⟨_,rfl⟩;have HKE:Hid (k=min (c.data.toList.getD 0 0).toNat (c.size - 3)):=by rw [hk];unfold sU;rw [bsize];exact rfl
  rw [← hk] at H1 H2 cL;have B0:=ab eU;have mA:=ab bE;clear hk h3 eU bE;go_enter func154,ntmps154;go_wp2;go_quiet (fail)
  go_wp2;have Zl:min (wrap64 ((c.data[0]?.getD 0).toNat:Int)) ((c.size - 3:Nat):Int)=(k:Int):=by
   have h0:c.data[0]?.getD 0=c.data.toList.getD 0 0:=by simp [List.getD_eq_getElem?_getD]
   rw [h0,HKE.out];have:=(c.data.toList.getD 0 0).toNat_lt;unfold wrap64;omega
  rw [Zl];have hkT:(k:Int)≤((c.extract 3 c.size).size:Int):=by rw [XC];omega
  have j0:(0:Int)≤(k:Int):=by omega
  have bP:=ab (aA B0.out nq);have nH:Hid (((w.alloc (.cells #[.string ⟨#[]⟩,.string ⟨#[]⟩] 52)).drewN nq).heap[w.heap.size]?=some (.cells #[.string ⟨#[]⟩,.string ⟨#[]⟩] 52 (0,0))):=by rw [World.heap_drewN];exact mA.out
  clear Zl XC hA hA0 Q4 mA B0 hd3 h3I;generalize (w.alloc (.cells #[.string ⟨#[]⟩,.string ⟨#[]⟩] 52)).drewN nq=W at *;generalize c.extract 3 c.size=T at *;generalize c.extract 0 3=A3 at *;go_region_held3 (fun w'=>True) (go_keep) (fail)
  rw [H1.out,H2.out];obtain ⟨p,hp⟩ : ∃ p,p=dt c:=⟨_,rfl⟩;rw [← hp] at HL HK H1 H2 ⊢;have HPQ:=ab hp;have mU:=bL W #[.string p.1,.string p.2] 52;have aU:=ai W (.cells #[.string p.1,.string p.2] 52);have hWg:w.heap.size<W.heap.size:=by
   rcases bg w.heap.size W.heap.size with h | h
   ·exact h
   ·have:=nH.out;rw [aX h] at this;cases this
  have vI:Hid (Boxed W.heap.size [.string p.1,.string p.2] (W.alloc (.cells #[.string p.1,.string p.2] 52)).drew):=mU.below ⟨rfl,rfl,rfl,aj _,fun _ _=>rfl⟩
  have bH:Hid (Below W.heap.size W (W.alloc (.cells #[.string p.1,.string p.2] 52)).drew):=aU.drew;clear hp mU aU H1 H2 hkT cL;generalize (W.alloc (.cells #[.string p.1,.string p.2] 52)).drew=W2 at *;have k0:W2.cell? ⟨W.heap.size,0,none⟩=some (.string p.1):=vI.out.2 0 (by simp)
  have k1:W2.cell? ⟨W.heap.size,1,none⟩=some (.string p.2):=vI.out.2 1 (by simp)
  have dE:¬ w.heap.size=W.heap.size:=by omega
  go_wp2_with fail;go_region_held3 (fun w'=>w'.cell? ⟨W.heap.size,0,none⟩=some (.string p.1)∧w'.cell? ⟨W.heap.size,1,none⟩=some (.string p.2)) (go_keep)
   (first | (go_at_call 191;refine (HL.out _).mono ?_;rintro e w5 ⟨rfl,Lf⟩;have mj:Below W2.heap.size W2 w5:=⟨Lf.os,Lf.tape,Lf.output,Lf.size,Lf.block⟩;have PF:Below W.heap.size W w5:=Below.next bH.out mj;have Am:=(PF.block w.heap.size hWg).trans nH.out;have XM:=ab Am;have iW:=ab PF;have r0:w5.cell? ⟨W.heap.size,0,none⟩=some (.string p.1):=(vI.out.below mj).2 0 (by simp);have r1:w5.cell? ⟨W.heap.size,1,none⟩=some (.string p.2):=(vI.out.below mj).2 1 (by simp);have q0:w5.cell? ⟨w.heap.size,0,none⟩=some (.string ⟨#[]⟩):=(by rw [cell_of_row _ _ _ _ _ _ Am];rfl);have q1:w5.cell? ⟨w.heap.size,1,none⟩=some (.string ⟨#[]⟩):=(by rw [cell_of_row _ _ _ _ _ _ Am];rfl);have z0:w5.frozen? ⟨w.heap.size,0,none⟩=false:=frozen_of_row _ _ _ _ _ Am;have z1:w5.frozen? ⟨w.heap.size,1,none⟩=false:=frozen_of_row _ _ _ _ _ Am;clear mj Lf PF Am))
  rw [HK.out];have Ci:=ab (Below.next bP.out iW.out);clear q0 q1 z0 z1 r0 r1 k0 k1 HL iW bH vI bP nH;obtain ⟨ok,cN⟩ : ∃ ok,ok=E9 c:=⟨_,rfl⟩;rw [← cN];have pw:=ab cN;clear cN;go_wp2_with fail;refine bodyPost_ret (aK rfl _ _ w.heap.size 52 _ (0,0) _ rfl (vf XM.out _ _) underlying52 rfl (by kernel_rfl)) rfl ⟨?_,b9 Ci.out (aj _)⟩
  cases hk:E9 c with
  | true=>exact .inl ⟨rfl,by rw [← HPQ.out];simp [pw.out,hk]⟩
  | false=>exact .inr ⟨rfl,_,_,by simp [pw.out,hk];exact ⟨rfl,rfl⟩⟩
def wj(l:List Pr)(root:Bool):Option Nat:=if (4072:Int)<pK (fR l) then some 2 else if l.length=0∨root=false∧pK (fR l)<1556 then some 3 else none
def BI(l:List Pr)(root:Bool):Option Nat:=if l.all cO=false then some 0 else if ¬ gP l then some 11 else wj l root
theorem On{l:List Pr}(h:l.all cO=true):fR l≤960*l.length:=by
 induction l with
 | nil=>exact aj _
 | cons p l ih =>
  simp only [List.all_cons,cz] at h;have h1:=eL h.1;have h2:=ih h.2;rw [nV,List.length_cons];unfold zD;omega
theorem Tt(l:List Pr)(root:Bool)(hm:l.length≤140737488355328):BI l root=zh l root:=by
 unfold BI zh;cases h:l.all cO with
 | false=>rfl
 | true =>
  have hs:=On h;have e:wj l root=if 4072<fR l then some 2 else if l=[]∨root=false∧fR l<1556 then some 3 else none:=by
   unfold wj;rw [kI (by omega)]
   by_cases h1:4072<fR l
   ·rw [if_pos (by omega),if_pos h1]
   ·rw [if_neg (by omega),if_neg h1]
    by_cases h2:l=[]∨root=false∧fR l<1556
    ·have h3:l.length=0∨root=false∧((fR l:Nat):Int)<1556:=by
      rcases h2 with h2 | ⟨h2,h3⟩
      ·exact .inl (by rw [h2];rfl)
      ·exact .inr ⟨h2,by omega⟩
     rw [if_pos h2,if_pos h3]
    ·have h3:¬ (l.length=0∨root=false∧((fR l:Nat):Int)<1556):=by
      rintro (h3 | ⟨h3,h4⟩)
      ·exact h2 (.inl (List.length_eq_zero_iff.1 h3))
      ·exact h2 (.inr ⟨h3,by omega⟩)
     rw [if_neg h2,if_neg h3]
  rw [e]
theorem Ow(p:Pr)(w:World):Calls prog 120 #[.agg #[.string p.1,.string p.2]] w fun e w'=>e = .returned (.bool (cO p))∧Below w.heap.size w w':=by
 have eU:=ai w (.cells #[.string p.1,.string p.2] 52);by_cases h1:1≤p.1.size
 ·by_cases h2:p.1.size≤255
  ·by_cases h3:p.2.size≤700
   ·have hm:cO p=true:=decide_eq_true ⟨h1,h2,h3⟩;rw [hm];have i1:(1:Int)≤(p.1.size:Int):=by omega
    have i2:(p.1.size:Int)≤255:=by omega
    have i3:(p.2.size:Int)≤700:=by omega
    clear hm;go_enter func120,ntmps120;go_wp2;go_ret;exact ⟨rfl,eU⟩
   ·have hm:cO p=false:=decide_eq_false (fun h=>h3 h.2.2)
    rw [hm];have i1:(1:Int)≤(p.1.size:Int):=by omega
    have i2:(p.1.size:Int)≤255:=by omega
    have i3:¬ (p.2.size:Int)≤700:=by omega
    clear hm;go_enter func120,ntmps120;go_wp2;go_ret;exact ⟨rfl,eU⟩
  ·have hm:cO p=false:=decide_eq_false (fun h=>h2 h.2.1)
   rw [hm];have i1:(1:Int)≤(p.1.size:Int):=by omega
   have i2:¬ (p.1.size:Int)≤255:=by omega
   clear hm;go_enter func120,ntmps120;go_wp2;go_ret;exact ⟨rfl,eU⟩
 ·have hm:cO p=false:=decide_eq_false (fun h=>h1 h.1)
  rw [hm];have i1:¬ (1:Int)≤(p.1.size:Int):=by omega
  clear hm;go_enter func120,ntmps120;go_wp2;go_ret;exact ⟨rfl,eU⟩
theorem KE(A:Nat→Addr)(v:Value)(l:List Pr)(root:Bool)(w:World)(cN:TL l)(hm:l.length≤140737488355328)(hr:gG w v l)(hE:jL A w):Calls prog 119 #[v,.bool root] w fun e w'=>e = .returned (ig A (wj l root))∧Below w.heap.size w w':=by
 have HS:=ab (z7 v l w cN hm hr);obtain ⟨a,c,hv⟩:=hr.form;subst hv;have HE:=ab hE;obtain ⟨x,hx⟩ : ∃ x,x=pK (fR l):=⟨_,rfl⟩;obtain ⟨n,hn⟩ : ∃ n,n=l.length:=⟨_,rfl⟩;have HR:Hid (wj l root=if (4072:Int)<x then some 2 else if n=0∨root=false∧x<1556 then some 3 else none):=by rw [hx,hn];exact rfl
 rw [← hx] at HS;rw [← hn] at HS hm ⊢;clear hr hE hx hn cN;by_cases h1:(4072:Int)<x
 ·rw [HR.out,if_pos h1];go_enter func119,ntmps119;go_wp2_with fail;refine HS.out.mono ?_
  rintro e w1 ⟨rfl,aL⟩;have c2:w1.cell? ⟨2,0,none⟩=some (.iface 360 (.pointer (some (A 2)))):=((HE.out.below aL).1.1 2 (by decide)).1
  go_wp2;go_ret;exact ⟨rfl,aL⟩
 ·by_cases h2:n=0
  ·subst h2;rw [HR.out,if_neg h1,if_pos (.inl rfl)];go_enter func119,ntmps119;go_wp2_with fail;refine HS.out.mono ?_
   rintro e w1 ⟨rfl,aL⟩;have c3:w1.cell? ⟨3,0,none⟩=some (.iface 360 (.pointer (some (A 3)))):=((HE.out.below aL).1.1 3 (by decide)).1
   go_wp2;go_ret;exact ⟨rfl,aL⟩
  ·have PM:((n:Int) == 0)=false:=by rw [beq_eq_false_iff_ne];omega
   cases root with
   | true =>
    rw [HR.out,if_neg h1,if_neg (by simp [h2])]
    go_enter func119,ntmps119;go_wp2_with fail;refine HS.out.mono ?_
    rintro e w1 ⟨rfl,aL⟩;go_wp2;go_ret;exact ⟨rfl,aL⟩
   | false =>
    by_cases h3:x<1556
    ·rw [HR.out,if_neg h1,if_pos (.inr ⟨rfl,h3⟩)];go_enter func119,ntmps119;go_wp2_with fail;refine HS.out.mono ?_
     rintro e w1 ⟨rfl,aL⟩;have c3:w1.cell? ⟨3,0,none⟩=some (.iface 360 (.pointer (some (A 3)))):=((HE.out.below aL).1.1 3 (by decide)).1
     go_wp2;go_ret;exact ⟨rfl,aL⟩
    ·rw [HR.out,if_neg h1,if_neg (by simp [h2,h3])]
     go_enter func119,ntmps119;go_wp2_with fail;refine HS.out.mono ?_
     rintro e w1 ⟨rfl,aL⟩;go_wp2;go_ret;exact ⟨rfl,aL⟩
def iI(l:List Pr)(root:Bool)(k:Nat):Option Nat:=if gP (l.take k) then wj l root else some 11
theorem uq{l:List Pr}{root:Bool}{k:Nat}(hk:k<l.length)(h:∀ (h0:0<k),cR (l[k - 1]'(by omega)).1 l[k].1=true):iI l root (k+1)=iI l root k:=by
 unfold iI;have e:gP (l.take (k+1))↔gP (l.take k):=by
  rw [ay hk,Kd];constructor
  ·exact fun h=>h.1
  ·intro hr;refine ⟨hr,fun h0=>?_⟩
   simp only [ag,a7 (Nat.le_of_lt hk),bK] at h0 ⊢;exact h h0
 simp only [e]
theorem G4{l:List Pr}{root:Bool}{k:Nat}(hk:k<l.length)(h0:0<k)(h:cR (l[k - 1]'(by omega)).1 l[k].1=false):iI l root (k+1)=some 11:=by
 unfold iI;rw [if_neg];intro hr;have:=hr (k - 1) (by rw [ag];omega)
 simp only [bK,show k - 1+1=k by omega] at this
 rw [h] at this;cases this
theorem qk(A:Nat→Addr)(v:Value)(l:List Pr)(root:Bool)(w:World)(cN:TL l)(hm:l.length≤140737488355328)(hr:gG w v l)(hE:jL A w):Calls prog 79 #[v,.bool root] w fun e w'=>e = .returned (ig A (zh l root))∧Below w.heap.size w w':=by
 have XL:=ab (KE A v l root w cN hm hr hE);rw [← Tt l root hm];obtain ⟨a,cap,rfl,dd,_,hc⟩:=hr;have HC:=ab hc;have HE:=ab hE;have tG:Hid (iI l root 0=wj l root):=by show _=_;unfold iI;rw [if_pos];simp [CQ]
 obtain ⟨n,hn⟩ : ∃ n,n=l.length:=⟨_,rfl⟩;rw [← hn] at hm XL ⊢;have HN:=ab hn;obtain ⟨Q,hQ⟩ : ∃ Q:Ending→World→Prop,Q=fun e w'=>e = .returned (ig A (BI l root))∧Below w.heap.size w w':=⟨_,rfl⟩
 rw [← hQ];have HQ:=ab hQ;clear hc hn dd hE cN hQ;go_enter func79,ntmps79;go_wp2_with fail;go_step3
 go_wp2_with fail;refine XL.out.mono ?_
 rintro e w1 ⟨rfl,aL⟩;have bP:=ab aL;clear aL XL;rw [← tG.out];go_wp2;go_step3
 go_wp2;go_loopw [5,13] (fun f i wr=>∃ k:Nat,k≤n∧i = .int .i64 k∧f=ig A (iI l root k)∧(∀ j (h:j<l.length),j<k→cO l[j]=true)∧Below w.heap.size w wr) (fun _ i _=>n - (intOf i).toNat)
 case atStart=>exact ⟨0,aD _,rfl,rfl,fun j _ h=>absurd h (im _),bP.out⟩
 case round =>
  obtain ⟨k,hk,rfl,rfl,jg,bO⟩:=hrel;clear bP tG;have HP:=ab jg;clear jg;by_cases bN:k<n
  ·have cL:k<l.length:=by have:=HN.out;omega
   have dP:(k:Int)<(n:Int):=by omega
   obtain ⟨g,o,rfl,f1,f2⟩:=HC.out k cL;have c1:wr.cell? ⟨g,o+k*2,none⟩=some (.string l[k].1):=(bO.cell (p:=⟨g,o+k*2,none⟩) (World.block_lt_of_cell? w _ f1)).trans f1;have c2:wr.cell? ⟨g,o+k*2+1,none⟩=some (.string l[k].2):=(bO.cell (p:=⟨g,o+k*2+1,none⟩) (World.block_lt_of_cell? w _ f2)).trans f2;have pI:Hid (cO l[k]=true→∀ j (h:j<l.length),j<k+1→cO l[j]=true):=fun hl j h hj=>by
    by_cases he:j=k
    ·subst he;exact hl
    ·exact HP.out j h (by omega)
   have kB:Hid (cO l[k]=false→BI l root=some 0):=fun hl=>by
    unfold BI;rw [if_pos];rw [List.all_eq_false];exact ⟨l[k],aG _,by simp [hl]⟩
   have HB:=ab (Below.next bO (ai wr (.cells #[.string l[k].1,.string l[k].2] 52)));have vI:=ab (bL wr #[.string l[k].1,.string l[k].2] 52);have E4:=ab (fun W=>Ow l[k] W)
   obtain ⟨fv,K9⟩ : ∃ fv,fv=ig A (iI l root k):=⟨_,rfl⟩;rw [← K9];cases SU:cO l[k] with
   | false =>
    rw [SU] at E4;have QP:=ab (kB.out SU);obtain ⟨p,hp⟩ : ∃ p,p=l[k]:=⟨_,rfl⟩;rw [← hp] at c1 c2 E4 HB vI;clear hp K9 pI kB SU HC bO f1 f2;go_wp2_with fail;refine (E4.out _).mono ?_
    rintro e w2 ⟨rfl,aU⟩;have bH:=ab (Below.next HB.out aU);have k0:w2.cell? ⟨0,0,none⟩=some (.iface 360 (.pointer (some (A 0)))):=((HE.out.below bH.out).1.1 0 (by decide)).1
    clear aU HB vI E4 c1 c2;go_wp2;rw [HQ.out];exact ⟨by rw [QP.out];rfl,bH.out⟩
   | true =>
    rw [SU] at E4;have tF:=ab (pI.out SU);by_cases h0:k=0
    ·have HK:=ab (uq (l:=l) (root:=root) cL (fun h=>by omega))
     rw [← HK.out] at K9;have HFV:=ab K9;obtain ⟨p,hp⟩ : ∃ p,p=l[k]:=⟨_,rfl⟩;rw [← hp] at c1 c2 E4 HB vI;have hz:decide ((0:Int)<(k:Int))=false:=decide_eq_false (by omega)
     have o7:decide (0<k)=false:=decide_eq_false (by omega)
     have Ms:=ab h0;clear hp K9 pI kB SU HC bO f1 f2 HK h0;go_wp2_with fail;refine (E4.out _).mono ?_
     rintro e w2 ⟨rfl,aU⟩;have bH:=ab (Below.next HB.out aU);have b0:w2.cell? ⟨wr.heap.size,0,none⟩=some (.string p.1):=(vI.out.below aU).2 0 (by simp)
     clear aU HB vI E4 c1 c2;go_wp2;go_quiet (fail)
     go_wp2;go_roundw
     case rel=>exact ⟨k+1,by omega,by go_num,HFV.out,tF.out,aA bH.out _⟩
     case measure=>simp [intOf];omega
    ·have xF:k - 1<l.length:=by omega
     obtain ⟨g',o',he,d1,d2⟩:=HC.out (k - 1) xF;cases he;have RD:Hid (cR (l[k - 1]'xF).1 l[k].1=true→iI l root (k+1)=iI l root k):=fun h=>uq cL (fun _=>h)
     have U9:Hid (cR (l[k - 1]'xF).1 l[k].1=false→iI l root (k+1)=some 11):=fun h=>G4 cL (by omega) h
     obtain ⟨p,hp⟩ : ∃ p,p=l[k]:=⟨_,rfl⟩;obtain ⟨x,hx⟩ : ∃ x,x=(l[k - 1]'xF).1:=⟨_,rfl⟩;rw [← hp] at c1 c2 E4 HB vI RD U9;rw [← hx] at d1 RD U9;obtain ⟨k1,jv⟩ : ∃ k1,k1=k - 1:=⟨_,rfl⟩;have vw:IntKind.i64.wrap ((k:Int) - 1)=(k1:Int):=by rw [IntKind.wrap_i64];omega
     rw [← jv] at d1;have e1:wr.cell? ⟨g,o+k1*2,none⟩=some (.string x):=(bO.cell (p:=⟨g,o+k1*2,none⟩) (World.block_lt_of_cell? w _ d1)).trans d1;have hz:(0:Int)<(k:Int):=by omega
     have o7:0<k:=by omega
     have j1:(k1:Int)<(n:Int):=by omega
     have j0:(0:Int)≤(k1:Int):=by omega
     have Hy:=ab (World.block_lt_of_cell? wr _ e1);clear hp hx pI kB SU HC bO f1 f2 d1 d2 jv xF;cases hb:cR x p.1 with
     | true =>
      have jt:Op.bytesLess x.toList p.1.toList=true:=hb;have HK:=ab (RD.out hb);rw [← HK.out] at K9;have HFV:=ab K9;clear hb K9 RD U9 HK;go_wp2_with fail;refine (E4.out _).mono ?_
      rintro e w2 ⟨rfl,aU⟩;have bH:=ab (Below.next HB.out aU);have b0:w2.cell? ⟨wr.heap.size,0,none⟩=some (.string p.1):=(vI.out.below aU).2 0 (by simp)
      have b1:w2.cell? ⟨g,o+k1*2,none⟩=some (.string x):=((Below.next (ai wr _) aU).cell (p:=⟨g,o+k1*2,none⟩) Hy.out).trans e1;clear aU HB vI E4 c1 c2 e1;go_wp2;go_quiet (fail)
      go_wp2;go_roundw
      case rel=>exact ⟨k+1,by omega,by go_num,HFV.out,tF.out,aA bH.out _⟩
      case measure=>simp [intOf];omega
     | false =>
      have jt:Op.bytesLess x.toList p.1.toList=false:=hb;have HK:=ab (U9.out hb);clear hb K9 RD U9;go_wp2_with fail;refine (E4.out _).mono ?_
      rintro e w2 ⟨rfl,aU⟩;have bH:=ab (Below.next HB.out aU);have b0:w2.cell? ⟨wr.heap.size,0,none⟩=some (.string p.1):=(vI.out.below aU).2 0 (by simp)
      have b1:w2.cell? ⟨g,o+k1*2,none⟩=some (.string x):=((Below.next (ai wr _) aU).cell (p:=⟨g,o+k1*2,none⟩) Hy.out).trans e1;have b2:w2.cell? ⟨11,0,none⟩=some (.iface 360 (.pointer (some (A 11)))):=(HE.out.below bH.out).2;clear aU HB vI E4 c1 c2 e1;go_wp2;go_quiet (fail)
      go_wp2;go_roundw
      case rel=>exact ⟨k+1,by omega,by go_num,by rw [HK.out];rfl,tF.out,aA bH.out _⟩
      case measure=>simp [intOf];omega
  ·have dP:¬ (k:Int)<(n:Int):=by omega
   have nI:Hid (iI l root k=BI l root):=by
    have df:l.take k=l:=by rw [al];have:=HN.out;omega
    have sZ:l.all cO=true:=List.all_eq_true.2 (fun p hp=>by
     obtain ⟨i,hi,rfl⟩:=aQ hp;exact HP.out i hi (by have:=HN.out;omega))
    show iI l root k=BI l root
    unfold iI BI;rw [df,sZ];by_cases DW:gP l
    ·simp [DW]
    ·simp [DW]
   have HB:=ab bO;rw [nI.out];obtain ⟨fv,K9⟩ : ∃ fv,fv=ig A (BI l root):=⟨_,rfl⟩;rw [← K9];have HFV:=ab K9;clear K9 HC bO HP nI;go_wp2;rw [HQ.out];exact ⟨by rw [← HFV.out],HB.out⟩
end Go.Proofs.YtihmgigfkmofnaaGreatDoor
