import Derived.Test.YtihmgigfkmofnaaGreatDoorLen64
import Derived.Test.YtihmgigfkmofnaaGreatDoorG05
import Derived.Laws.BitsLemmas
set_option maxHeartbeats 2000000
set_option maxRecDepth 20000
open Go.Proofs.Tryz
namespace Go.Proofs.YtihmgigfkmofnaaGreatDoor
open Go.RowKit
theorem M3(b off len cap:Nat)(l:List UInt8)(w:World)(hlen:l.length=len)(h1:1≤len)(hm:len≤8)(hc:∀ j (h:j<l.length),w.cell? ⟨b,off+j,none⟩=some (.int .u8 (l[j].toNat:Int))):Calls prog 239 #[.slice (some ⟨b,off,none⟩) len cap] w fun e w'=>∃ g c2,e = .returned (.slice (some ⟨g,0,none⟩) len c2)∧w'.ownsRow w.heap.size 5 1 (.slice (some ⟨g,0,none⟩) len c2) len (dW l)∧Below w.heap.size w w':=by
 obtain ⟨i0,hi,nY,mR,pL⟩:=info_parts Tryz.info5;have qP:∀ w,(binOp .eql 145 (.slice (some ⟨b,off,none⟩) len cap) (.slice none 0 0)).run prog w = .ok (.bool false) w:=fun w=>by
  have h2:∀ d:Nat,(Op.equalIn (d+1) 145 (.slice (some ⟨b,off,none⟩) len cap) (.slice none 0 0)).run prog w = .ok false w:=fun d=>by
   simp [Op.equalIn,run_underlying underlying145]
  simp only [binOp];simp [Op.equal,Op.maxDepth,h2 9999]
 go_enter func239,ntmps239;have hb:b<w.heap.size:=World.block_lt_of_cell? w _ (hc 0 (by omega))
 go_wp2_with (first
  | (at_builtin;refine wpList_append_lies _ rfl _ _ 145 rfl w.heap.size 5 i0 (.int .u8 0) 1 1 underlying145 hi nY mR pL rfl (by decide) _ 0 [] rfl ?c0 ⟨b,off,none⟩ len cap (dW l) rfl ?c8 ?c1 (rC l) ?c3 ?c4 ?c5 ?c6 (w.heap.size+1) ?c7 ?_))
 case c0=>exact World.ownsRow_lit w #[] 0 (aj _) (aB _) rfl
 case c8=>rw [a7,hlen,Nat.mul_one]
 case c1 =>
  intro j u hu;by_cases hj:j<l.length
  ·rw [iC l j hj] at hu;cases hu;have e:(⟨b,off,none⟩ : Addr).add j=⟨b,off+j,none⟩:=by simp [Addr.add]
   rw [e,(ai w _).cell (p:=⟨b,off+j,none⟩) hb];exact hc j hj
  ·rw [bu (by rw [a7];omega)] at hu;cases hu
 case c3=>omega
 case c4=>unfold maxLen;omega
 case c5=>omega
 case c6=>simp
 case c7=>simp
 intro g c2 w1 aE E0 sB hlg;have aO:Below w.heap.size w w1:=(ai w _).grown E0 (by simp) (fun k hk=>by simp [Value.ownBlock] at hk;omega)
 clear E0 sB hlg hc;go_wp2;go_ret;exact ⟨g,c2,rfl,aE,aO⟩
theorem RU:prog.arrayLen 328=8:=by kernel_rfl
theorem U6:prog.elem 328=5:=by kernel_rfl
theorem Ax(b len:Nat)(h1:1≤len)(h8:len≤8)(w:World):(Instr.sliceAt 328 (.pointer (some ⟨b,0,none⟩)) (some (.int .i64 (8 - (len:Int)))) none none).run prog w = .ok (.slice (some ⟨b,8 - len,none⟩) len len) w:=by
 have hz:(sizeOf 5).run prog w = .ok 1 w:=by kernel_rfl
 have e:(8 - (len:Int)).toNat=8 - len:=by omega
 rw [run_sliceAt_array_l w 328 ⟨b,0,none⟩ (by kernel_rfl) .i64 _ (by omega) (by rw [RU];omega),RU,U6,e,hz]
 by_cases h:len=8
 ·subst h;rfl
 ·simp [slicedAt,Addr.add,show 8≠8 - len by omega,show 8 - (8 - len)=len by omega,show ¬ 8 - len=0 by omega]
def kF(n j:Nat):UInt8:=UInt8.ofNat (n / 2 ^ (8*(7 - j)))
def qV(n:Nat):List UInt8:=(List.range 8).map (kF n)
def lS(n k:Nat):List UInt8:=List.replicate (8 - k) 0++(qV n).drop (8 - k)
def bN(n width:Nat):List UInt8:=(qV n).drop (8 - width)
theorem mD(n:Nat):(qV n).length=8:=by simp [qV]
theorem MT(n k:Nat)(_h:k≤8):(lS n k).length=8:=by
 rw [lS,ae,bB,al,mD];omega
theorem eE(n width:Nat)(h:width≤8):(bN n width).length=width:=by
 rw [bN,al,mD];omega
theorem yJ(n j:Nat)(h:j<(qV n).length):(qV n)[j]=kF n j:=by simp [qV]
theorem IA(n k:Nat)(h:k<8):lS n (k+1)=(lS n k).set (7 - k) (kF n (7 - k)):=by
 have e1:8 - (k+1)=7 - k:=by omega
 have e2:8 - k=(7 - k)+1:=by omega
 unfold lS;rw [e1,e2,List.replicate_succ',ay,b6 _ _ (by simp)]
 have hd:(qV n).drop (7 - k)=kF n (7 - k)::(qV n).drop (7 - k+1):=by
  rw [bg (by rw [mD];omega),yJ]
 rw [hd];simp
theorem UP(n k:Nat)(hk:k<8):(n:Int) / 2 ^ (8*k) % 256=((kF n (7 - k)).toNat:Int):=by
 unfold kF;rw [show 7 - (7 - k)=k by omega]
 simp only [UInt8.toNat_ofNat'];generalize hx:n / 2 ^ (8*k)=x;have e:(n:Int) / 2 ^ (8*k)=(x:Int):=by
  rw [← hx,Int.natCast_ediv];simp
 rw [e];omega
theorem AK{w:World}{b b2 e size n:Nat}{v:Value}{xs:List Value}(h:w.ownsRow b e size v n xs)(hb:b2≤b):w.ownsRow b2 e size v n xs:=by
 refine ⟨h.1,?_⟩;rcases h.2 with h' | ⟨g,cap,cur,h',h1,hr⟩
 ·exact .inl h'
 ·exact .inr ⟨g,cap,cur,h',ar hb h1,hr⟩
theorem xH(n m:Nat)(w:World)(hn:n<18446744073709551616)(h1:1≤m)(h8:m≤8)(eF:n<2 ^ (8*m)):Calls prog 217 #[.int .u64 (n:Int),.int .i64 (m:Int)] w fun e w'=>∃ g c2,e = .returned (.tuple #[.slice (some ⟨g,0,none⟩) m c2,.nilIface])∧w'.ownsRow w.heap.size 5 1 (.slice (some ⟨g,0,none⟩) m c2) m (dW (bN n m))∧Below w.heap.size w w':=by
 have zq:decide ((m:Int)<1)=false:=decide_eq_false (by omega)
 have Ml:decide (8<(m:Int))=false:=decide_eq_false (by omega)
 have hb:Lib.bitLen n≤8*m:=(vH n (8*m) (by omega) hn).2 eF
 have hd3:decide (8*(m:Int)<((Lib.bitLen n:Nat):Int))=false:=decide_eq_false (by omega)
 clear eF hb;have mw:=heap_alloc_new w (.cells #[.int .u8 0,.int .u8 0,.int .u8 0,.int .u8 0,.int .u8 0,.int .u8 0,.int .u8 0,.int .u8 0] 328);have fc:=ai w (.cells #[.int .u8 0,.int .u8 0,.int .u8 0,.int .u8 0,.int .u8 0,.int .u8 0,.int .u8 0,.int .u8 0] 328);have HN:Hid ((w.alloc (.cells #[.int .u8 0,.int .u8 0,.int .u8 0,.int .u8 0,.int .u8 0,.int .u8 0,.int .u8 0,.int .u8 0] 328)).heap[w.heap.size]?=some (.cells (dW (lS n 0)).toArray 328 (0,0))):=by
  show _=_
  rw [mw];rfl
 have CM:Hid (Below w.heap.size w (w.alloc (.cells #[.int .u8 0,.int .u8 0,.int .u8 0,.int .u8 0,.int .u8 0,.int .u8 0,.int .u8 0,.int .u8 0] 328))):=fc;clear mw fc;go_enter func217,ntmps217;go_wp2_with (go_at_call 146;refine (tO n _ hn).mono ?_;rintro e w' ⟨rfl,rfl⟩)
 go_loopw [22] (fun i wr=>∃ k:Nat,k≤8∧i = .int .i64 k∧wr.heap[w.heap.size]?=some (.cells (dW (lS n k)).toArray 328 (0,0))∧Below w.heap.size w wr) (fun i _=>8 - (intOf i).toNat)
 case atStart=>exact ⟨0,by omega,rfl,HN.out,CM.out⟩
 case round =>
  obtain ⟨k,hk,rfl,bH,V5⟩:=hrel;clear HN CM;have HR:Hid (wr.heap[w.heap.size]?=some (.cells (dW (lS n k)).toArray 328 (0,0))):=bH;clear bH;by_cases bO:k<8
  ·have hl:=MT n k hk;have bq:wr.cell? ⟨w.heap.size,7 - k,none⟩=some (.int .u8 (((lS n k)[7 - k]'(by omega)).toNat:Int)):=by
    rw [cell_of_row wr w.heap.size (7 - k) _ 328 (0,0) HR.out];simpa using iC (lS n k) (7 - k) (by omega)
   obtain ⟨F8,hold⟩ : ∃ F8:Int,F8=(((lS n k)[7 - k]'(by omega)).toNat:Int):=⟨_,rfl⟩
   rw [← hold] at bq;clear hold;have E2:wr.frozen? ⟨w.heap.size,7 - k,none⟩=false:=frozen_of_row wr w.heap.size (7 - k) _ 328 HR.out;have hv:=UP n k bO;have HS:Hid ((wr.setCell ⟨w.heap.size,7 - k,none⟩ (.int .u8 ((kF n (7 - k)).toNat:Int))).heap[w.heap.size]?=some (.cells (dW (lS n (k+1))).toArray 328 (0,0))):=by
    show _=_
    rw [heap_setCell_same wr w.heap.size (7 - k) _ 328 _ HR.out,IA n k bO];simp [dW,List.map_set]
   generalize kF n (7 - k)=dg at *;go_wp2;go_roundw
   case rel=>exact ⟨k+1,by omega,by go_num,HS.out,V5.setCell (aj _) _⟩
   case measure=>simp [intOf];omega
  ·have Me:k=8:=by omega
   subst Me;have nP:=Ax w.heap.size m h1 h8;have hl:=eE n m h8;have HC:Hid (∀ j (h:j<(bN n m).length),wr.cell? ⟨w.heap.size,8 - m+j,none⟩=some (.int .u8 ((bN n m)[j].toNat:Int))):=by
    intro j hj;have e8:lS n 8=qV n:=by simp [lS]
    rw [cell_of_row wr w.heap.size (8 - m+j) _ 328 (0,0) HR.out,e8];have hj2:8 - m+j<(qV n).length:=by rw [mD];omega
    have:=iC (qV n) (8 - m+j) hj2;simp only [List.getElem?_toArray];rw [this];simp [bN]
   clear HR;go_wp2_with fail;refine (M3 w.heap.size (8 - m) m m (bN n m) _ hl h1 h8 HC.out).mono ?_
   rintro e w2 ⟨g,c2,rfl,aE,aV⟩;have hbf:=Below.next V5 aV;have lO:w2.ownsRow w.heap.size 5 1 (.slice (some ⟨g,0,none⟩) m c2) m (dW (bN n m)):=AK aE V5.size;clear aE aV V5 HC nP;go_wp2_with fail;go_ret2;exact ⟨g,c2,rfl,lO,hbf⟩
def nI(k v:Nat):List UInt8:=[UInt8.ofNat k,Ig v,Ga v]
def fw(p:Pr):ByteArray:=⟨(nI p.1.size p.2.size++(p.1.data.toList++p.2.data.toList)).toArray⟩
theorem jS(p:Pr):(fw p).data.toList=nI p.1.size p.2.size++(p.1.data.toList++p.2.data.toList):=by simp [fw]
theorem qY(p:Pr):(fw p).size=3+p.1.size+p.2.size:=by
 rw [← bsize,jS];simp [nI];omega
theorem It(l:List Pr):(dZ (l.map fw) (l.map fw).length).length+2*l.length=fB l:=by
 unfold dZ;rw [ao (aj _)];induction l with
 | nil=>rfl
 | cons p l ih =>
  rw [List.map_cons,List.flatMap_cons,ae,bsize,qY,mj,List.length_cons];unfold zG;omega
theorem qC(l:List Pr):dS (l.map fw)=fB l:=by
 have:=It l;unfold dS fA;rw [az] at *;omega
def uy(l:List Pr):ByteArray:=⟨(jA (l.map fw)).toArray⟩
def tT(c:List UInt8):Nat:=min (c.getD 0 0).toNat (c.length - 3)
def dz(c:ByteArray):Pr:=(⟨((c.data.toList.drop 3).take (tT c.data.toList)).toArray⟩,⟨((c.data.toList.drop 3).drop (tT c.data.toList)).toArray⟩)
def F9(c:ByteArray):Bool:=decide (3≤c.size∧fw (dz c)=c)
theorem pK(c:List UInt8):tT c≤255∧tT c≤c.length - 3:=by
 have:=(c.getD 0 0).toNat_lt;unfold tT;omega
theorem JE(c:ByteArray):(dz c).1.size=tT c.data.toList:=by
 have:=(pK c.data.toList).2;rw [← bsize];simp only [dz];rw [ag,al];omega
theorem JD(c:ByteArray):(dz c).2.size=c.size - 3 - tT c.data.toList:=by
 rw [← bsize];simp only [dz];rw [al,al,bsize]
theorem G1(c:ByteArray):(dz c).1.data.toList++(dz c).2.data.toList=c.data.toList.drop 3:=by
 simp only [dz];rw [aI]
theorem Px(c:ByteArray)(h:3≤c.size):F9 c=decide (nI (dz c).1.size (dz c).2.size=c.data.toList.take 3):=by
 unfold F9;congr 1
 apply propext
 constructor
 ·rintro ⟨_,he⟩;have:=congrArg (fun b:ByteArray=>b.data.toList.take 3) he
  simp only [jS] at this;rw [aH (by simp [nI]),ao (by simp [nI])] at this
  exact this
 ·intro he;refine ⟨h,ib ?_⟩;rw [jS,he,G1,aI]
theorem L3(p:Pr)(hk:p.1.size≤255):tT (fw p).data.toList=p.1.size:=by
 unfold tT;rw [bsize,qY,jS];have:((nI p.1.size p.2.size++(p.1.data.toList++p.2.data.toList)).getD 0 0).toNat=p.1.size:=by
  simp [nI];omega
 rw [this];omega
theorem xO(p:Pr)(hk:p.1.size≤255):dz (fw p)=p:=by
 unfold dz;rw [L3 p hk,jS];have e:(nI p.1.size p.2.size++(p.1.data.toList++p.2.data.toList)).drop 3=p.1.data.toList++p.2.data.toList:=by simp [nI]
 rw [e,← bsize p.1,ep,fL]
theorem Pu(p:Pr)(hk:p.1.size≤255):F9 (fw p)=true:=by
 unfold F9;rw [xO p hk,qY];simp;omega
theorem tN{p:Pr}(h:cQ p=true):1≤p.1.size∧p.1.size≤255∧p.2.size≤700:=by simpa [cQ] using h
def lV(n:Nat)(b:List UInt8):Prop:=Nv b n∧(∀ c ∈ bX b n,F9 c=true)∧wL ((bX b n).map dz) true=none
def Ab(n:Nat)(b:List UInt8):List Pr:=(bX b n).map dz
theorem UJ{l:List Pr}(h:wL l true=none):lV l.length (jA (l.map fw))∧Ab l.length (jA (l.map fw))=l:=by
 obtain ⟨h1,h2,h3,h4,h5⟩:=sJ h;have hs:dS (l.map fw)≤4072:=by rw [qC];exact h3
 have hc:=Bp (l.map fw) hs;rw [az] at hc;have he:((l.map fw).map dz)=l:=by
  rw [et];conv=>rhs;rw [← List.map_id l]
  exact gN (fun p hp=>xO p (tN (h1 p hp)).2.1)
 refine ⟨⟨?_,?_,?_⟩,?_⟩
 ·have:=qK (l.map fw) hs;rwa [az] at this
 ·rw [hc];intro c sA;obtain ⟨p,hp,rfl⟩:=List.mem_map.1 sA;exact Pu p (tN (h1 p hp)).2.1
 ·rw [hc,he];exact h
 ·unfold Ab;rw [hc,he]
def Wi(w:World)(v:Value)(l:List UInt8):Prop:=∃ a cap,v = .slice a l.length cap∧∀ j (h:j<l.length),∃ g o,a=some ⟨g,o,none⟩∧w.cell? ⟨g,o+j,none⟩=some (.int .u8 (l[j].toNat:Int))
theorem lI(w:World)(v:Value)(l:List UInt8)(h:Wi w v l)(hl:0<l.length):(convert 145 9 v).run prog w = .ok (.string ⟨l.toArray⟩) w:=by
 obtain ⟨a,cap,rfl,hc⟩:=h;obtain ⟨g,o,rfl,_⟩:=hc 0 hl;refine run_convert_bytes_back w 145 9 5 ⟨g,o,none⟩ cap l underlying145 underlying5 underlying9 (fun j hj=>?_)
 obtain ⟨g',o',he,bq⟩:=hc j hj;cases he;rw [show (⟨g,o,none⟩ : Addr).add j=⟨g,o+j,none⟩ by simp [Addr.add]]
 exact bq
theorem IK(n:Nat)(_h:n≤255):bN n 1=[UInt8.ofNat n]:=by
 unfold bN qV kF;simp [List.range,List.range.loop]
theorem Yf(n:Nat)(_h:n<65536):bN n 2=[Ig n,Ga n]:=by
 have e1:UInt8.ofNat n=Ga n:=by
  apply UInt8.toNat_inj.1
  simp [Ga]
 unfold bN qV kF;simp only [List.range,List.range.loop,List.map_cons,List.map_nil,List.drop_succ_cons,List.drop_zero,Nat.reduceSub,Nat.reduceMul,Nat.reducePow,Nat.div_one];rw [e1];rfl
def sw(p:Pr):ByteArray:=⟨(nI p.1.size p.2.size).toArray⟩
theorem yz(p:Pr):(sw p).size=3:=rfl
theorem E4(p:Pr):(⟨[UInt8.ofNat p.1.size].toArray⟩ : ByteArray)++⟨[Ig p.2.size,Ga p.2.size].toArray⟩=sw p:=by
 refine ib ?_
 simp [sw,nI]
theorem rP{w:World}{base g m c:Nat}{l:List UInt8}(h:w.ownsRow base 5 1 (.slice (some ⟨g,0,none⟩) m c) m (dW l))(hl:l.length=m):Wi w (.slice (some ⟨g,0,none⟩) m c) l :=
 ⟨_,_,by rw [hl],fun j hj=>⟨g,0,rfl,by rw [Nat.zero_add,World.ownsRow.cellAt h j (by omega)];exact iC l j hj⟩⟩
theorem Eo(p:Pr)(w:World)(h1:p.1.size≤255)(h2:p.2.size<65536):Calls prog 191 #[.agg #[.string p.1,.string p.2]] w fun e w'=>e = .returned (.string (sw p))∧Below w.heap.size w w':=by
 have fc:=ai w (.cells #[.string p.1,.string p.2] 52);have hx:=bM w #[.string p.1,.string p.2] 52;have HP1:=ab (fun W=>xH p.1.size 1 W (by omega) (by decide) (by decide) (by omega))
 have Zy:=ab (fun W=>xH p.2.size 2 W (by omega) (by decide) (by decide) (by omega))
 have agS:=ab (IK p.1.size h1);have agR:=ab (Yf p.2.size h2);have HX:=ab hx;have CM:=ab fc;have k0:(w.alloc (.cells #[.string p.1,.string p.2] 52)).cell? ⟨w.heap.size,0,none⟩=some (.string p.1):=hx.2 0 (by simp)
 have w1:(p.1.size:Int) % 18446744073709551616=(p.1.size:Int):=by omega
 have w2:(p.2.size:Int) % 18446744073709551616=(p.2.size:Int):=by omega
 clear fc hx;go_enter func191,ntmps191;go_wp2_with fail;refine (HP1.out _).mono ?_
 rintro e w1 ⟨g,c2,rfl,aE,aO⟩;rw [agS.out] at aE;have rA:=ab aE;have bT:=ab (Below.next CM.out aO);have k1:w1.cell? ⟨w.heap.size,1,none⟩=some (.string p.2):=(HX.out.below aO).2 1 (by simp)
 clear aE aO HP1 k0 CM HX;go_wp2_with fail;refine (Zy.out _).mono ?_
 rintro e w2 ⟨g2,c3,rfl,lO,aV⟩;rw [agR.out] at lO;have kP:w2.ownsRow _ 5 1 (.slice (some ⟨g,0,none⟩) 1 c2) 1 (dW [UInt8.ofNat p.1.size]):=⟨rA.out.1,by
  rcases rA.out.2 with h' | ⟨g',cap,cur,h',Gl,Mr,hr⟩
  ·exact .inl h'
  ·refine .inr ⟨g',cap,cur,h',Gl,?_,hr⟩;have hg:g'<w1.heap.size:=by
    rcases a6 g' w1.heap.size with X3 | X3
    ·exact X3
    ·rw [aZ X3] at Mr;cases Mr
   rw [aV.block g' hg];exact Mr⟩
 have cv1:=lI w2 _ _ (rP kP rfl) (by simp)
 have cv2:=lI w2 _ _ (rP lO rfl) (by simp)
 have bL:=ab (Below.next bT.out aV);have HH:=ab (E4 p);have Wx:=ab (yz p);obtain ⟨t1,EH⟩ : ∃ t1:ByteArray,t1=⟨[UInt8.ofNat p.1.size].toArray⟩:=⟨_,rfl⟩;obtain ⟨t2,tX⟩ : ∃ t2:ByteArray,t2=⟨[Ig p.2.size,Ga p.2.size].toArray⟩:=⟨_,rfl⟩;have z1:t1.size=1:=by rw [EH];rfl
 have z2:t2.size=2:=by rw [tX];rfl
 rw [← EH] at cv1 HH;rw [← tX] at cv2 HH;clear kP lO aV rA bT Zy k1 EH tX;go_wp2;go_ret;exact ⟨by rw [← HH.out];rfl,bL.out⟩
theorem Fz(p:Pr):sw p++p.1++p.2=fw p:=by
 refine ib ?_
 rw [jS];simp [sw]
theorem RG(p:Pr)(w:World)(h1:p.1.size≤255)(h2:p.2.size<65536):Calls prog 222 #[.agg #[.string p.1,.string p.2]] w fun e w'=>e = .returned (.string (fw p))∧Below w.heap.size w w':=by
 have fc:=ai w (.cells #[.string p.1,.string p.2] 52);have hx:=bM w #[.string p.1,.string p.2] 52;have HL:=ab (fun W=>Eo p W h1 h2)
 have HX:=ab hx;have CM:=ab fc;have wQ:=ab (Fz p);have Wx:=yz p;obtain ⟨hd,hhd⟩ : ∃ hd,hd=sw p:=⟨_,rfl⟩;rw [← hhd] at HL wQ Wx;have s1:¬ (9223372036854775807:Int)<(hd.size:Int)+(p.1.size:Int):=by rw [Wx];omega
 have s2:¬ (9223372036854775807:Int)<(hd.size:Int)+(p.1.size:Int)+(p.2.size:Int):=by rw [Wx];omega
 have a1:∀ w,(Op.stringOp .add hd p.1).run prog w = .ok (.string (hd++p.1)) w:=fun w=>run_string_add_sum (P:=prog) (w:=w) _ _ (by rw [Wx];omega)
 have a2:∀ w,(Op.stringOp .add (hd++p.1) p.2).run prog w = .ok (.string (hd++p.1++p.2)) w:=fun w=>run_string_add_sum (P:=prog) (w:=w) _ _ (by rw [ByteArray.size_append,Wx];omega)
 have N5:=ab Wx;clear Wx s1 s2;have k0:(w.alloc (.cells #[.string p.1,.string p.2] 52)).cell? ⟨w.heap.size,0,none⟩=some (.string p.1):=hx.2 0 (by simp)
 have k1:(w.alloc (.cells #[.string p.1,.string p.2] 52)).cell? ⟨w.heap.size,1,none⟩=some (.string p.2):=hx.2 1 (by simp)
 clear fc hx hhd;go_enter func222,ntmps222;go_wp2_with fail;generalize w.alloc (.cells #[.string p.1,.string p.2] 52)=W0 at *;go_region_held3 (fun w'=>w'.cell? ⟨w.heap.size,0,none⟩=some (.string p.1)∧w'.cell? ⟨w.heap.size,1,none⟩=some (.string p.2)) (go_keep)
  (first | (go_at_call 191;refine (HL.out _).mono ?_;rintro e w2 ⟨rfl,Mo⟩;have aV:Below W0.heap.size W0 w2:=⟨Mo.os,Mo.tape,Mo.output,Mo.size,Mo.block⟩;have bL:=ab (Below.next CM.out aV);have r0:w2.cell? ⟨w.heap.size,0,none⟩=some (.string p.1):=(HX.out.below aV).2 0 (by simp);have r1:w2.cell? ⟨w.heap.size,1,none⟩=some (.string p.2):=(HX.out.below aV).2 1 (by simp);clear aV Mo))
 all_goals
  go_wp2;go_ret;exact ⟨by rw [← wQ.out];rfl,bL.out⟩
theorem wh{w:World}{b:Nat}{x y:Value}{t:TypeId}(h:w.heap[b]?=some (.cells #[x,y] t (0,0)))(x' y':Value):((w.setCell ⟨b,0,none⟩ x').setCell ⟨b,1,none⟩ y').heap[b]?=some (.cells #[x',y'] t (0,0)):=by
 rw [heap_setCell_same _ b 1 _ t _ (heap_setCell_same w b 0 _ t _ h)];rfl
theorem cx{B:Nat}{w0 w:World}{b:Nat}{x y:Value}(h:Below B w0 w)(hb:B≤b):Below B w0 ((w.setCell ⟨b,0,none⟩ x).setCell ⟨b,1,none⟩ y):=(h.setCell hb _).setCell hb _
def strs(l:List ByteArray):List Value:=l.map Value.string
theorem j7(l:List ByteArray):(strs l).length=l.length:=by simp [strs]
theorem Dm(l:List ByteArray)(j:Nat)(h:j<l.length):(strs l)[j]?=some (.string l[j]):=by simp [strs,h]
theorem ow(a b:List ByteArray):strs (a++b)=strs a++strs b:=by simp [strs]
theorem info9:(prog.info? 9).map (fun i=>(i.zero,i.size,i.bytes))=some (some (.string ByteArray.empty),1,16):=by kernel_rfl
def Ns(w:World)(v:Value)(l:List ByteArray):Prop:=∃ a cap,v = .slice a l.length cap∧l.length≤cap∧∀ j (h:j<l.length),∃ g o,a=some ⟨g,o,none⟩∧w.cell? ⟨g,o+j,none⟩=some (.string l[j])
theorem lF.strs{w:World}{v:Value}{l:List ByteArray}(h:lF w v (strs l)):Ns w v l:=by
 obtain ⟨a,cap,rfl,hle,_,hc⟩:=h;rw [j7] at hle ⊢;exact ⟨a,cap,rfl,hle,fun j hj=>hc j _ (Dm l j hj)⟩
theorem Ns.below{w w':World}{v:Value}{l:List ByteArray}(h:Ns w v l)(hb:Below w.heap.size w w'):Ns w' v l:=by
 obtain ⟨a,cap,rfl,hle,hc⟩:=h;refine ⟨a,cap,rfl,hle,fun j hj=>?_⟩
 obtain ⟨g,o,ha,bq⟩:=hc j hj;exact ⟨g,o,ha,(hb.cell (p:=⟨g,o+j,none⟩) (World.block_lt_of_cell? w _ bq)).trans bq⟩
theorem Gq(n:Int)(_h0:0≤n)(_h1:n<2 ^ 16):IntKind.i64.wrap n=n:=by
 rw [IntKind.wrap_i64];omega
theorem TF(a b:Nat)(ha:a<256)(hb:b<256):bits BinOp.or IntKind.i64 (wrap64 (wrap64 (a:Int)*256)) (wrap64 (b:Int))=((a*256+b:Nat):Int):=by
 have h1:wrap64 (a:Int)=(a:Int):=by unfold wrap64;omega
 have h2:wrap64 ((a:Int)*256)=(a:Int)*256:=by unfold wrap64;omega
 have h3:wrap64 (b:Int)=(b:Int):=by unfold wrap64;omega
 rw [h1,h2,h3,bits_join .i64 16 (by decide) Gq 8 ((a:Int)*256) (b:Int) (by omega) (by omega) (by omega) (by omega) (by omega) (by omega)]
 omega
theorem CF(s:ByteArray)(j:Nat)(h:j<s.size):s.data.toList.getD j 0=s[j]:=by
 rw [aF,af (by simpa using h)];rfl
theorem OT(s:ByteArray)(i:Nat)(w:World)(hs:2*i+1<s.size)(b8:s.size=4072):Calls prog 189 #[.string s,.int .i64 (i:Int)] w fun e w'=>e = .returned (.int .i64 ((Aw s.data.toList i:Nat):Int))∧Below w.heap.size w w':=by
 obtain ⟨p,hp⟩ : ∃ p,p=2*i:=⟨_,rfl⟩;obtain ⟨q,hq⟩ : ∃ q,q=p+1:=⟨_,rfl⟩;have hw:IntKind.i64.wrap (2*(i:Int))=(p:Int):=by rw [IntKind.wrap_i64];omega
 have Sw:IntKind.i64.wrap ((p:Int)+1)=(q:Int):=by rw [IntKind.wrap_i64];omega
 have h1:(p:Int)<(s.size:Int):=by omega
 have Gl:p<s.size:=by omega
 have h2:(q:Int)<(s.size:Int):=by omega
 have Mr:q<s.size:=by omega
 have g0:(0:Int)≤(p:Int):=by omega
 have g1:(0:Int)≤(q:Int):=by omega
 have HP:Hid (p=2*i∧q=2*i+1):=⟨hp,by omega⟩
 clear hp hq hs b8;go_enter func189,ntmps189;go_wp2;go_quiet (fail)
 go_wp2;go_ret;refine ⟨?_,aA (Below.refl _ _) _⟩;obtain ⟨rfl,rfl⟩:=HP.out;refine Js ?_
 show bits BinOp.or IntKind.i64 (wrap64 (wrap64 (s[2*i].toNat:Int)*256)) (wrap64 (s[2*i+1].toNat:Int))=_
 rw [TF _ _ s[2*i].toNat_lt s[2*i+1].toNat_lt];unfold Aw;rw [CF s _ Gl,CF s _ Mr]
theorem mA(s:ByteArray)(a b:Nat)(_hb:b≤s.size):(s.extract a b).data.toList=(s.data.toList.drop a).take (b - a):=by
 rw [ByteArray.data_extract,Array.toList_extract]
theorem Ls(c:ByteArray)(h:3≤c.size):(c.extract 3 c.size).extract 0 (tT c.data.toList)=(dz c).1:=by
 have hk:=(pK c.data.toList).2;rw [bsize] at hk;refine ib ?_
 rw [mA _ _ _ (by rw [ByteArray.size_extract];omega),mA c 3 c.size (aj _)]
 simp only [dz,List.drop_zero,Nat.sub_zero];rw [ao (i:=c.size - 3) (by rw [al,bsize];exact aj _)]
theorem Lr(c:ByteArray)(_h:3≤c.size):(c.extract 3 c.size).extract (tT c.data.toList) (c.extract 3 c.size).size=(dz c).2:=by
 have hk:=(pK c.data.toList).2;rw [bsize] at hk;refine ib ?_
 rw [mA _ _ _ (aj _),mA c 3 c.size (aj _),ByteArray.size_extract];simp only [dz,Nat.min_self];rw [ao (i:=c.size - 3) (by rw [al,bsize];exact aj _),ao (by rw [al,al,bsize];omega)]
theorem Pv(c:ByteArray)(h:3≤c.size):((sw (dz c)).toList == (c.extract 0 3).toList)=F9 c:=by
 rw [Px c h,kC,beq_iff_eq,decide_eq_true_eq,ByteArray.toList_eq,ByteArray.toList_eq,mA c 0 3 h];simp [sw]
theorem aR{P:Program}{fn:Func}{p u:Tmp}{ty:TypeId}(h:fn.results=#[.cell p ty,.tmp u])(tmps:Array Value)(w:World)(g:Nat)(t:TypeId)(cs:Array Value)(fr:Nat × Nat)(d:TypeDesc)(hp:tmps.getD p undef = .pointer (some ⟨g,0,none⟩))(hg:w.heap[g]?=some (.cells cs t fr))(hu:P.underlying ty=some d)(hd:(match d with | .struct _ | .array _ _=>true | _=>false)=true)(hi:(P.info? ty).map (·.size)=some cs.size):(results fn tmps).run P w = .ok (.tuple #[.agg cs,tmps.getD u undef]) w:=by
 rw [results_cell_tmp h tmps P w,hp];simp [asAddr,run_loadVar_row w g t ty cs fr d hg hu hd hi,Result.andThen]
theorem G0(c:ByteArray)(w:World)(hc:c.size≤4072):Calls prog 154 #[.string c] w fun e w'=>((F9 c=true∧e = .returned (.tuple #[.agg #[.string (dz c).1,.string (dz c).2],.bool true]))∨(F9 c=false∧∃ x y,e = .returned (.tuple #[.agg #[.string x,.string y],.bool false])))∧Below w.heap.size w w':=by
 have fc:=ai w (.cells #[.string ⟨#[]⟩,.string ⟨#[]⟩] 52);have bH:=heap_alloc_new w (.cells #[.string ⟨#[]⟩,.string ⟨#[]⟩] 52);by_cases h3:c.size<3
 ·have fl:F9 c=false:=decide_eq_false (fun h=>by omega)
  have kK:=ab fl;have CM:=ab fc;have mL:=ab bH;have h3I:(c.size:Int)<3:=by omega
  clear fc fl bH h3;go_enter func154,ntmps154;go_wp2;exact bodyPost_ret (aR rfl _ _ w.heap.size 52 _ (0,0) _ rfl mL.out underlying52 rfl (by kernel_rfl)) rfl ⟨.inr ⟨kK.out,_,_,rfl⟩,CM.out⟩
 ·have X2:3≤c.size:=by omega
  have HK:=ab (Pv c X2);have H1:=ab (Ls c X2);have H2:=ab (Lr c X2);have HL:=ab (fun W=>Eo (dz c) W (by rw [JE];exact (pK _).1) (by rw [JD];omega))
  have Zj:(c.extract 3 c.size).size=c.size - 3:=by rw [ByteArray.size_extract];omega
  have cZ:=pK c.data.toList;rw [bsize] at cZ;have h3I:(3:Int)≤(c.size:Int):=by omega
  have hA:(c.extract 0 3).size=3:=by rw [ByteArray.size_extract];omega
  have hA0:0<(c.extract 0 3).size:=by omega
  have Su:(c.extract 0 3)[0].toNat=(c.data.toList.getD 0 0).toNat:=by
   rw [← CF (c.extract 0 3) 0 hA0,mA c 0 3 X2,List.drop_zero,aF,aF,cO,if_pos (by omega)]
  have hd3:decide ((c.size:Int)<3)=false:=decide_eq_false (by omega)
  obtain ⟨k,hk⟩ : ∃ k,k=tT c.data.toList:=⟨_,rfl⟩;have HKE:Hid (k=min (c.data.toList.getD 0 0).toNat (c.size - 3)):=by rw [hk];unfold tT;rw [bsize];exact rfl
  rw [← hk] at H1 H2 cZ;have CM:=ab fc;have mL:=ab bH;clear hk h3 fc bH;go_enter func154,ntmps154;go_wp2;go_quiet (fail)
  go_wp2;have aa9:min (wrap64 ((c.data[0]?.getD 0).toNat:Int)) ((c.size - 3:Nat):Int)=(k:Int):=by
   have h0:c.data[0]?.getD 0=c.data.toList.getD 0 0:=by simp [List.getD_eq_getElem?_getD]
   rw [h0,HKE.out];have:=(c.data.toList.getD 0 0).toNat_lt;unfold wrap64;omega
  rw [aa9];have hkT:(k:Int)≤((c.extract 3 c.size).size:Int):=by rw [Zj];omega
  have j0:(0:Int)≤(k:Int):=by omega
  have bT:=ab (aA CM.out nq);have nT:Hid (((w.alloc (.cells #[.string ⟨#[]⟩,.string ⟨#[]⟩] 52)).drewN nq).heap[w.heap.size]?=some (.cells #[.string ⟨#[]⟩,.string ⟨#[]⟩] 52 (0,0))):=by rw [World.heap_drewN];exact mL.out
  clear aa9 Zj hA hA0 Su mL CM hd3 h3I;generalize (w.alloc (.cells #[.string ⟨#[]⟩,.string ⟨#[]⟩] 52)).drewN nq=W at *;generalize c.extract 3 c.size=T at *;generalize c.extract 0 3=A3 at *;go_region_held3 (fun w'=>True) (go_keep) (fail)
  rw [H1.out,H2.out];obtain ⟨p,hp⟩ : ∃ p,p=dz c:=⟨_,rfl⟩;rw [← hp] at HL HK H1 H2 ⊢;have HPQ:=ab hp;have me:=bM W #[.string p.1,.string p.2] 52;have aV:=ai W (.cells #[.string p.1,.string p.2] 52);have hWg:w.heap.size<W.heap.size:=by
   rcases a6 w.heap.size W.heap.size with h | h
   ·exact h
   ·have:=nT.out;rw [aZ h] at this;cases this
  have wU:Hid (Boxed W.heap.size [.string p.1,.string p.2] (W.alloc (.cells #[.string p.1,.string p.2] 52)).drew):=me.below ⟨rfl,rfl,rfl,aj _,fun _ _=>rfl⟩
  have bL:Hid (Below W.heap.size W (W.alloc (.cells #[.string p.1,.string p.2] 52)).drew):=aV.drew;clear hp me aV H1 H2 hkT cZ;generalize (W.alloc (.cells #[.string p.1,.string p.2] 52)).drew=W2 at *;have k0:W2.cell? ⟨W.heap.size,0,none⟩=some (.string p.1):=wU.out.2 0 (by simp)
  have k1:W2.cell? ⟨W.heap.size,1,none⟩=some (.string p.2):=wU.out.2 1 (by simp)
  have cY:¬ w.heap.size=W.heap.size:=by omega
  go_wp2_with fail;go_region_held3 (fun w'=>w'.cell? ⟨W.heap.size,0,none⟩=some (.string p.1)∧w'.cell? ⟨W.heap.size,1,none⟩=some (.string p.2)) (go_keep)
   (first | (go_at_call 191;refine (HL.out _).mono ?_;rintro e w5 ⟨rfl,Mn⟩;have my:Below W2.heap.size W2 w5:=⟨Mn.os,Mn.tape,Mn.output,Mn.size,Mn.block⟩;have Io:Below W.heap.size W w5:=Below.next bL.out my;have A5:=(Io.block w.heap.size hWg).trans nT.out;have Wo:=ab A5;have jd:=ab Io;have r0:w5.cell? ⟨W.heap.size,0,none⟩=some (.string p.1):=(wU.out.below my).2 0 (by simp);have r1:w5.cell? ⟨W.heap.size,1,none⟩=some (.string p.2):=(wU.out.below my).2 1 (by simp);have q0:w5.cell? ⟨w.heap.size,0,none⟩=some (.string ⟨#[]⟩):=(by rw [cell_of_row _ _ _ _ _ _ A5];rfl);have q1:w5.cell? ⟨w.heap.size,1,none⟩=some (.string ⟨#[]⟩):=(by rw [cell_of_row _ _ _ _ _ _ A5];rfl);have z0:w5.frozen? ⟨w.heap.size,0,none⟩=false:=frozen_of_row _ _ _ _ _ A5;have z1:w5.frozen? ⟨w.heap.size,1,none⟩=false:=frozen_of_row _ _ _ _ _ A5;clear my Mn Io A5))
  rw [HK.out];have C3:=ab (Below.next bT.out jd.out);clear q0 q1 z0 z1 r0 r1 k0 k1 HL jd bL wU bT nT;obtain ⟨ok,cM⟩ : ∃ ok,ok=F9 c:=⟨_,rfl⟩;rw [← cM];have od:=ab cM;clear cM;go_wp2_with fail;refine bodyPost_ret (aR rfl _ _ w.heap.size 52 _ (0,0) _ rfl (wh Wo.out _ _) underlying52 rfl (by kernel_rfl)) rfl ⟨?_,cx C3.out (aj _)⟩
  cases hk:F9 c with
  | true=>exact .inl ⟨rfl,by rw [← HPQ.out];simp [od.out,hk]⟩
  | false=>exact .inr ⟨rfl,_,_,by simp [od.out,hk];exact ⟨rfl,rfl⟩⟩
def xA(l:List Pr)(root:Bool):Option Nat:=if (4072:Int)<qd (fB l) then some 2 else if l.length=0∨root=false∧qd (fB l)<1556 then some 3 else none
def Cv(l:List Pr)(root:Bool):Option Nat:=if l.all cQ=false then some 0 else if ¬ gK l then some 11 else xA l root
theorem PK{l:List Pr}(h:l.all cQ=true):fB l≤960*l.length:=by
 induction l with
 | nil=>exact aj _
 | cons p l ih =>
  simp only [List.all_cons,bV] at h;have h1:=dY h.1;have h2:=ih h.2;rw [mj,List.length_cons];unfold zG;omega
theorem UU(l:List Pr)(root:Bool)(hm:l.length≤140737488355328):Cv l root=wL l root:=by
 unfold Cv wL;cases h:l.all cQ with
 | false=>rfl
 | true =>
  have hs:=PK h;have e:xA l root=if 4072<fB l then some 2 else if l=[]∨root=false∧fB l<1556 then some 3 else none:=by
   unfold xA;rw [kS (by omega)]
   by_cases h1:4072<fB l
   ·rw [if_pos (by omega),if_pos h1]
   ·rw [if_neg (by omega),if_neg h1]
    by_cases h2:l=[]∨root=false∧fB l<1556
    ·have h3:l.length=0∨root=false∧((fB l:Nat):Int)<1556:=by
      rcases h2 with h2 | ⟨h2,h3⟩
      ·exact .inl (by rw [h2];rfl)
      ·exact .inr ⟨h2,by omega⟩
     rw [if_pos h2,if_pos h3]
    ·have h3:¬ (l.length=0∨root=false∧((fB l:Nat):Int)<1556):=by
      rintro (h3 | ⟨h3,h4⟩)
      ·exact h2 (.inl (List.length_eq_zero_iff.1 h3))
      ·exact h2 (.inr ⟨h3,by omega⟩)
     rw [if_neg h2,if_neg h3]
  rw [e]
theorem PR(p:Pr)(w:World):Calls prog 120 #[.agg #[.string p.1,.string p.2]] w fun e w'=>e = .returned (.bool (cQ p))∧Below w.heap.size w w':=by
 have fc:=ai w (.cells #[.string p.1,.string p.2] 52);by_cases h1:1≤p.1.size
 ·by_cases h2:p.1.size≤255
  ·by_cases h3:p.2.size≤700
   ·have hm:cQ p=true:=decide_eq_true ⟨h1,h2,h3⟩;rw [hm];have i1:(1:Int)≤(p.1.size:Int):=by omega
    have i2:(p.1.size:Int)≤255:=by omega
    have i3:(p.2.size:Int)≤700:=by omega
    clear hm;go_enter func120,ntmps120;go_wp2;go_ret;exact ⟨rfl,fc⟩
   ·have hm:cQ p=false:=decide_eq_false (fun h=>h3 h.2.2)
    rw [hm];have i1:(1:Int)≤(p.1.size:Int):=by omega
    have i2:(p.1.size:Int)≤255:=by omega
    have i3:¬ (p.2.size:Int)≤700:=by omega
    clear hm;go_enter func120,ntmps120;go_wp2;go_ret;exact ⟨rfl,fc⟩
  ·have hm:cQ p=false:=decide_eq_false (fun h=>h2 h.2.1)
   rw [hm];have i1:(1:Int)≤(p.1.size:Int):=by omega
   have i2:¬ (p.1.size:Int)≤255:=by omega
   clear hm;go_enter func120,ntmps120;go_wp2;go_ret;exact ⟨rfl,fc⟩
 ·have hm:cQ p=false:=decide_eq_false (fun h=>h1 h.1)
  rw [hm];have i1:¬ (1:Int)≤(p.1.size:Int):=by omega
  clear hm;go_enter func120,ntmps120;go_wp2;go_ret;exact ⟨rfl,fc⟩
theorem LI(A:Nat→Addr)(v:Value)(l:List Pr)(root:Bool)(w:World)(cM:SQ l)(hm:l.length≤140737488355328)(hr:gM w v l)(hE:jC A w):Calls prog 119 #[v,.bool root] w fun e w'=>e = .returned (im A (xA l root))∧Below w.heap.size w w':=by
 have HS:=ab (AO v l w cM hm hr);obtain ⟨a,c,hv⟩:=hr.form;subst hv;have HE:=ab hE;obtain ⟨x,hx⟩ : ∃ x,x=qd (fB l):=⟨_,rfl⟩;obtain ⟨n,hn⟩ : ∃ n,n=l.length:=⟨_,rfl⟩;have HR:Hid (xA l root=if (4072:Int)<x then some 2 else if n=0∨root=false∧x<1556 then some 3 else none):=by rw [hx,hn];exact rfl
 rw [← hx] at HS;rw [← hn] at HS hm ⊢;clear hr hE hx hn cM;by_cases h1:(4072:Int)<x
 ·rw [HR.out,if_pos h1];go_enter func119,ntmps119;go_wp2_with fail;refine HS.out.mono ?_
  rintro e w1 ⟨rfl,aO⟩;have c2:w1.cell? ⟨2,0,none⟩=some (.iface 360 (.pointer (some (A 2)))):=((HE.out.below aO).1.1 2 (by decide)).1
  go_wp2;go_ret;exact ⟨rfl,aO⟩
 ·by_cases h2:n=0
  ·subst h2;rw [HR.out,if_neg h1,if_pos (.inl rfl)];go_enter func119,ntmps119;go_wp2_with fail;refine HS.out.mono ?_
   rintro e w1 ⟨rfl,aO⟩;have c3:w1.cell? ⟨3,0,none⟩=some (.iface 360 (.pointer (some (A 3)))):=((HE.out.below aO).1.1 3 (by decide)).1
   go_wp2;go_ret;exact ⟨rfl,aO⟩
  ·have Mr:((n:Int) == 0)=false:=by rw [beq_eq_false_iff_ne];omega
   cases root with
   | true =>
    rw [HR.out,if_neg h1,if_neg (by simp [h2])]
    go_enter func119,ntmps119;go_wp2_with fail;refine HS.out.mono ?_
    rintro e w1 ⟨rfl,aO⟩;go_wp2;go_ret;exact ⟨rfl,aO⟩
   | false =>
    by_cases h3:x<1556
    ·rw [HR.out,if_neg h1,if_pos (.inr ⟨rfl,h3⟩)];go_enter func119,ntmps119;go_wp2_with fail;refine HS.out.mono ?_
     rintro e w1 ⟨rfl,aO⟩;have c3:w1.cell? ⟨3,0,none⟩=some (.iface 360 (.pointer (some (A 3)))):=((HE.out.below aO).1.1 3 (by decide)).1
     go_wp2;go_ret;exact ⟨rfl,aO⟩
    ·rw [HR.out,if_neg h1,if_neg (by simp [h2,h3])]
     go_enter func119,ntmps119;go_wp2_with fail;refine HS.out.mono ?_
     rintro e w1 ⟨rfl,aO⟩;go_wp2;go_ret;exact ⟨rfl,aO⟩
def iN(l:List Pr)(root:Bool)(k:Nat):Option Nat:=if gK (l.take k) then xA l root else some 11
theorem vw{l:List Pr}{root:Bool}{k:Nat}(hk:k<l.length)(h:∀ (h0:0<k),cR (l[k - 1]'(by omega)).1 l[k].1=true):iN l root (k+1)=iN l root k:=by
 unfold iN;have e:gK (l.take (k+1))↔gK (l.take k):=by
  rw [ax hk,Le];constructor
  ·exact fun h=>h.1
  ·intro hr;refine ⟨hr,fun h0=>?_⟩
   simp only [ag,aT (Nat.le_of_lt hk),bF] at h0 ⊢;exact h h0
 simp only [e]
theorem Iv{l:List Pr}{root:Bool}{k:Nat}(hk:k<l.length)(h0:0<k)(h:cR (l[k - 1]'(by omega)).1 l[k].1=false):iN l root (k+1)=some 11:=by
 unfold iN;rw [if_neg];intro hr;have:=hr (k - 1) (by rw [ag];omega)
 simp only [bF,show k - 1+1=k by omega] at this
 rw [h] at this;cases this
theorem nj(A:Nat→Addr)(v:Value)(l:List Pr)(root:Bool)(w:World)(cM:SQ l)(hm:l.length≤140737488355328)(hr:gM w v l)(hE:jC A w):Calls prog 79 #[v,.bool root] w fun e w'=>e = .returned (im A (wL l root))∧Below w.heap.size w w':=by
 have Zv:=ab (LI A v l root w cM hm hr hE);rw [← UU l root hm];obtain ⟨a,cap,rfl,dj,_,hc⟩:=hr;have HC:=ab hc;have HE:=ab hE;have Aj:Hid (iN l root 0=xA l root):=by show _=_;unfold iN;rw [if_pos];simp [DH]
 obtain ⟨n,hn⟩ : ∃ n,n=l.length:=⟨_,rfl⟩;rw [← hn] at hm Zv ⊢;have HN:=ab hn;obtain ⟨Q,hQ⟩ : ∃ Q:Ending→World→Prop,Q=fun e w'=>e = .returned (im A (Cv l root))∧Below w.heap.size w w':=⟨_,rfl⟩
 rw [← hQ];have HQ:=ab hQ;clear hc hn dj hE cM hQ;go_enter func79,ntmps79;go_wp2_with fail;go_step3
 go_wp2_with fail;refine Zv.out.mono ?_
 rintro e w1 ⟨rfl,aO⟩;have bT:=ab aO;clear aO Zv;rw [← Aj.out];go_wp2;go_step3
 go_wp2;go_loopw [5,13] (fun f i wr=>∃ k:Nat,k≤n∧i = .int .i64 k∧f=im A (iN l root k)∧(∀ j (h:j<l.length),j<k→cQ l[j]=true)∧Below w.heap.size w wr) (fun _ i _=>n - (intOf i).toNat)
 case atStart=>exact ⟨0,aB _,rfl,rfl,fun j _ h=>absurd h (iz _),bT.out⟩
 case round =>
  obtain ⟨k,hk,rfl,rfl,js,bQ⟩:=hrel;clear bT Aj;have HP:=ab js;clear js;by_cases bO:k<n
  ·have cZ:k<l.length:=by have:=HN.out;omega
   have dE:(k:Int)<(n:Int):=by omega
   obtain ⟨g,o,rfl,f1,f2⟩:=HC.out k cZ;have c1:wr.cell? ⟨g,o+k*2,none⟩=some (.string l[k].1):=(bQ.cell (p:=⟨g,o+k*2,none⟩) (World.block_lt_of_cell? w _ f1)).trans f1;have c2:wr.cell? ⟨g,o+k*2+1,none⟩=some (.string l[k].2):=(bQ.cell (p:=⟨g,o+k*2+1,none⟩) (World.block_lt_of_cell? w _ f2)).trans f2;have nU:Hid (cQ l[k]=true→∀ j (h:j<l.length),j<k+1→cQ l[j]=true):=fun hl j h hj=>by
    by_cases he:j=k
    ·subst he;exact hl
    ·exact HP.out j h (by omega)
   have kK:Hid (cQ l[k]=false→Cv l root=some 0):=fun hl=>by
    unfold Cv;rw [if_pos];rw [List.all_eq_false];exact ⟨l[k],aJ _,by simp [hl]⟩
   have HB:=ab (Below.next bQ (ai wr (.cells #[.string l[k].1,.string l[k].2] 52)));have wU:=ab (bM wr #[.string l[k].1,.string l[k].2] 52);have F4:=ab (fun W=>PR l[k] W)
   obtain ⟨fv,Mi⟩ : ∃ fv,fv=im A (iN l root k):=⟨_,rfl⟩;rw [← Mi];cases Ul:cQ l[k] with
   | false =>
    rw [Ul] at F4;have Si:=ab (kK.out Ul);obtain ⟨p,hp⟩ : ∃ p,p=l[k]:=⟨_,rfl⟩;rw [← hp] at c1 c2 F4 HB wU;clear hp Mi nU kK Ul HC bQ f1 f2;go_wp2_with fail;refine (F4.out _).mono ?_
    rintro e w2 ⟨rfl,aV⟩;have bL:=ab (Below.next HB.out aV);have k0:w2.cell? ⟨0,0,none⟩=some (.iface 360 (.pointer (some (A 0)))):=((HE.out.below bL.out).1.1 0 (by decide)).1
    clear aV HB wU F4 c1 c2;go_wp2;rw [HQ.out];exact ⟨by rw [Si.out];rfl,bL.out⟩
   | true =>
    rw [Ul] at F4;have p8:=ab (nU.out Ul);by_cases h0:k=0
    ·have HK:=ab (vw (l:=l) (root:=root) cZ (fun h=>by omega))
     rw [← HK.out] at Mi;have HFV:=ab Mi;obtain ⟨p,hp⟩ : ∃ p,p=l[k]:=⟨_,rfl⟩;rw [← hp] at c1 c2 F4 HB wU;have hz:decide ((0:Int)<(k:Int))=false:=decide_eq_false (by omega)
     have pL:decide (0<k)=false:=decide_eq_false (by omega)
     have NA:=ab h0;clear hp Mi nU kK Ul HC bQ f1 f2 HK h0;go_wp2_with fail;refine (F4.out _).mono ?_
     rintro e w2 ⟨rfl,aV⟩;have bL:=ab (Below.next HB.out aV);have b0:w2.cell? ⟨wr.heap.size,0,none⟩=some (.string p.1):=(wU.out.below aV).2 0 (by simp)
     clear aV HB wU F4 c1 c2;go_wp2;go_quiet (fail)
     go_wp2;go_roundw
     case rel=>exact ⟨k+1,by omega,by go_num,HFV.out,p8.out,aA bL.out _⟩
     case measure=>simp [intOf];omega
    ·have yw:k - 1<l.length:=by omega
     obtain ⟨g',o',he,d1,d2⟩:=HC.out (k - 1) yw;cases he;have SY:Hid (cR (l[k - 1]'yw).1 l[k].1=true→iN l root (k+1)=iN l root k):=fun h=>vw cZ (fun _=>h)
     have Ww:Hid (cR (l[k - 1]'yw).1 l[k].1=false→iN l root (k+1)=some 11):=fun h=>Iv cZ (by omega) h
     obtain ⟨p,hp⟩ : ∃ p,p=l[k]:=⟨_,rfl⟩;obtain ⟨x,hx⟩ : ∃ x,x=(l[k - 1]'yw).1:=⟨_,rfl⟩;rw [← hp] at c1 c2 F4 HB wU SY Ww;rw [← hx] at d1 SY Ww;obtain ⟨k1,iV⟩ : ∃ k1,k1=k - 1:=⟨_,rfl⟩;have sS:IntKind.i64.wrap ((k:Int) - 1)=(k1:Int):=by rw [IntKind.wrap_i64];omega
     rw [← iV] at d1;have e1:wr.cell? ⟨g,o+k1*2,none⟩=some (.string x):=(bQ.cell (p:=⟨g,o+k1*2,none⟩) (World.block_lt_of_cell? w _ d1)).trans d1;have hz:(0:Int)<(k:Int):=by omega
     have pL:0<k:=by omega
     have j1:(k1:Int)<(n:Int):=by omega
     have j0:(0:Int)≤(k1:Int):=by omega
     have IY:=ab (World.block_lt_of_cell? wr _ e1);clear hp hx nU kK Ul HC bQ f1 f2 d1 d2 iV yw;cases hb:cR x p.1 with
     | true =>
      have jB:Op.bytesLess x.toList p.1.toList=true:=hb;have HK:=ab (SY.out hb);rw [← HK.out] at Mi;have HFV:=ab Mi;clear hb Mi SY Ww HK;go_wp2_with fail;refine (F4.out _).mono ?_
      rintro e w2 ⟨rfl,aV⟩;have bL:=ab (Below.next HB.out aV);have b0:w2.cell? ⟨wr.heap.size,0,none⟩=some (.string p.1):=(wU.out.below aV).2 0 (by simp)
      have b1:w2.cell? ⟨g,o+k1*2,none⟩=some (.string x):=((Below.next (ai wr _) aV).cell (p:=⟨g,o+k1*2,none⟩) IY.out).trans e1;clear aV HB wU F4 c1 c2 e1;go_wp2;go_quiet (fail)
      go_wp2;go_roundw
      case rel=>exact ⟨k+1,by omega,by go_num,HFV.out,p8.out,aA bL.out _⟩
      case measure=>simp [intOf];omega
     | false =>
      have jB:Op.bytesLess x.toList p.1.toList=false:=hb;have HK:=ab (Ww.out hb);clear hb Mi SY Ww;go_wp2_with fail;refine (F4.out _).mono ?_
      rintro e w2 ⟨rfl,aV⟩;have bL:=ab (Below.next HB.out aV);have b0:w2.cell? ⟨wr.heap.size,0,none⟩=some (.string p.1):=(wU.out.below aV).2 0 (by simp)
      have b1:w2.cell? ⟨g,o+k1*2,none⟩=some (.string x):=((Below.next (ai wr _) aV).cell (p:=⟨g,o+k1*2,none⟩) IY.out).trans e1;have b2:w2.cell? ⟨11,0,none⟩=some (.iface 360 (.pointer (some (A 11)))):=(HE.out.below bL.out).2;clear aV HB wU F4 c1 c2 e1;go_wp2;go_quiet (fail)
      go_wp2;go_roundw
      case rel=>exact ⟨k+1,by omega,by go_num,by rw [HK.out];rfl,p8.out,aA bL.out _⟩
      case measure=>simp [intOf];omega
  ·have dE:¬ (k:Int)<(n:Int):=by omega
   have mM:Hid (iN l root k=Cv l root):=by
    have dn:l.take k=l:=by rw [ao];have:=HN.out;omega
    have ub:l.all cQ=true:=List.all_eq_true.2 (fun p hp=>by
     obtain ⟨i,hi,rfl⟩:=aK hp;exact HP.out i hi (by have:=HN.out;omega))
    show iN l root k=Cv l root
    unfold iN Cv;rw [dn,ub];by_cases EI:gK l
    ·simp [EI]
    ·simp [EI]
   have HB:=ab bQ;rw [mM.out];obtain ⟨fv,Mi⟩ : ∃ fv,fv=im A (Cv l root):=⟨_,rfl⟩;rw [← Mi];have HFV:=ab Mi;clear Mi HC bQ HP mM;go_wp2;rw [HQ.out];exact ⟨by rw [← HFV.out],HB.out⟩
end Go.Proofs.YtihmgigfkmofnaaGreatDoor
