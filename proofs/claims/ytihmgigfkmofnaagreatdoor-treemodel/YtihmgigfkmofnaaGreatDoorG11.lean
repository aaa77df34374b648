import Derived.Test.YtihmgigfkmofnaaGreatDoorLen64
import Derived.Test.YtihmgigfkmofnaaGreatDoorG06
import Derived.Laws.BitsLemmas
set_option maxHeartbeats 2000000
set_option maxRecDepth 20000
open Go.Proofs.Tryz
namespace Go.Proofs.YtihmgigfkmofnaaGreatDoor
open Go.RowKit
theorem L6(b off len cap:Nat)(l:List UInt8)(w:World)(hlen:l.length=len)(h1:1≤len)(hm:len≤8)(hc:∀ j (h:j<l.length),w.cell? ⟨b,off+j,none⟩=some (.int .u8 (l[j].toNat:Int))):Calls prog 239 #[.slice (some ⟨b,off,none⟩) len cap] w fun e w'=>∃ g c2,e = .returned (.slice (some ⟨g,0,none⟩) len c2)∧w'.ownsRow w.heap.size 5 1 (.slice (some ⟨g,0,none⟩) len c2) len (dW l)∧Below w.heap.size w w':=by
 obtain ⟨i0,hi,n7,mW,pH⟩:=info_parts Tryz.info5;have qN:∀ w,(binOp .eql 145 (.slice (some ⟨b,off,none⟩) len cap) (.slice none 0 0)).run prog w = .ok (.bool false) w:=fun w=>by
  have h2:∀ d:Nat,(Op.equalIn (d+1) 145 (.slice (some ⟨b,off,none⟩) len cap) (.slice none 0 0)).run prog w = .ok false w:=fun d=>by
   simp [Op.equalIn,run_underlying underlying145]
  simp only [binOp];simp [Op.equal,Op.maxDepth,h2 9999]
 go_enter func239,ntmps239;have hb:b<w.heap.size:=World.block_lt_of_cell? w _ (hc 0 (by omega))
 go_wp2_with (first
  | (at_builtin;refine wpList_append_lies _ rfl _ _ 145 rfl w.heap.size 5 i0 (.int .u8 0) 1 1 underlying145 hi n7 mW pH rfl (by decide) _ 0 [] rfl ?c0 ⟨b,off,none⟩ len cap (dW l) rfl ?c8 ?c1 (rr l) ?c3 ?c4 ?c5 ?c6 (w.heap.size+1) ?c7 ?_))
 case c0=>exact World.ownsRow_lit w #[] 0 (aj _) (aD _) rfl
 case c8=>rw [a6,hlen,Nat.mul_one]
 case c1 =>
  intro j u hu;by_cases hj:j<l.length
  ·rw [iL l j hj] at hu;cases hu;have e:(⟨b,off,none⟩ : Addr).add j=⟨b,off+j,none⟩:=by simp [Addr.add]
   rw [e,(ai w _).cell (p:=⟨b,off+j,none⟩) hb];exact hc j hj
  ·rw [bE (by rw [a6];omega)] at hu;cases hu
 case c3=>omega
 case c4=>unfold maxLen;omega
 case c5=>omega
 case c6=>simp
 case c7=>simp
 intro g c2 w1 aE Ev sk hlg;have aP:Below w.heap.size w w1:=(ai w _).grown Ev (by simp) (fun k hk=>by simp [Value.ownBlock] at hk;omega)
 clear Ev sk hlg hc;go_wp2;go_ret;exact ⟨g,c2,rfl,aE,aP⟩
theorem QO:prog.arrayLen 328=8:=by kernel_rfl
theorem TR:prog.elem 328=5:=by kernel_rfl
theorem Ad(b len:Nat)(h1:1≤len)(h8:len≤8)(w:World):(Instr.sliceAt 328 (.pointer (some ⟨b,0,none⟩)) (some (.int .i64 (8 - (len:Int)))) none none).run prog w = .ok (.slice (some ⟨b,8 - len,none⟩) len len) w:=by
 have hz:(sizeOf 5).run prog w = .ok 1 w:=by kernel_rfl
 have e:(8 - (len:Int)).toNat=8 - len:=by omega
 rw [run_sliceAt_array_l w 328 ⟨b,0,none⟩ (by kernel_rfl) .i64 _ (by omega) (by rw [QO];omega),QO,TR,e,hz]
 by_cases h:len=8
 ·subst h;rfl
 ·simp [slicedAt,Addr.add,show 8≠8 - len by omega,show 8 - (8 - len)=len by omega,show ¬ 8 - len=0 by omega]
def kJ(n j:Nat):UInt8:=UInt8.ofNat (n / 2 ^ (8*(7 - j)))
def qT(n:Nat):List UInt8:=(List.range 8).map (kJ n)
def lW(n k:Nat):List UInt8:=List.replicate (8 - k) 0++(qT n).drop (8 - k)
def bK(n width:Nat):List UInt8:=(qT n).drop (8 - width)
theorem mI(n:Nat):(qT n).length=8:=by simp [qT]
theorem LV(n k:Nat)(_h:k≤8):(lW n k).length=8:=by
 rw [lW,ae,bw,ao,mI];omega
theorem eC(n width:Nat)(h:width≤8):(bK n width).length=width:=by
 rw [bK,ao,mI];omega
theorem yo(n j:Nat)(h:j<(qT n).length):(qT n)[j]=kJ n j:=by simp [qT]
theorem Hp(n k:Nat)(h:k<8):lW n (k+1)=(lW n k).set (7 - k) (kJ n (7 - k)):=by
 have e1:8 - (k+1)=7 - k:=by omega
 have e2:8 - k=(7 - k)+1:=by omega
 unfold lW;rw [e1,e2,List.replicate_succ',ay,bX _ _ (by simp)]
 have hd:(qT n).drop (7 - k)=kJ n (7 - k)::(qT n).drop (7 - k+1):=by
  rw [bf (by rw [mI];omega),yo]
 rw [hd];simp
theorem Ty(n k:Nat)(hk:k<8):(n:Int) / 2 ^ (8*k) % 256=((kJ n (7 - k)).toNat:Int):=by
 unfold kJ;rw [show 7 - (7 - k)=k by omega]
 simp only [UInt8.toNat_ofNat'];generalize hx:n / 2 ^ (8*k)=x;have e:(n:Int) / 2 ^ (8*k)=(x:Int):=by
  rw [← hx,Int.natCast_ediv];simp
 rw [e];omega
theorem Ap{w:World}{b b2 e size n:Nat}{v:Value}{xs:List Value}(h:w.ownsRow b e size v n xs)(hb:b2≤b):w.ownsRow b2 e size v n xs:=by
 refine ⟨h.1,?_⟩;rcases h.2 with h' | ⟨g,cap,cur,h',h1,hr⟩
 ·exact .inl h'
 ·exact .inr ⟨g,cap,cur,h',al hb h1,hr⟩
theorem wY(n m:Nat)(w:World)(hn:n<18446744073709551616)(h1:1≤m)(h8:m≤8)(eE:n<2 ^ (8*m)):Calls prog 217 #[.int .u64 (n:Int),.int .i64 (m:Int)] w fun e w'=>∃ g c2,e = .returned (.tuple #[.slice (some ⟨g,0,none⟩) m c2,.nilIface])∧w'.ownsRow w.heap.size 5 1 (.slice (some ⟨g,0,none⟩) m c2) m (dW (bK n m))∧Below w.heap.size w w':=by
 have sP:decide ((m:Int)<1)=false:=decide_eq_false (by omega)
 have Ll:decide (8<(m:Int))=false:=decide_eq_false (by omega)
 have hb:Lib.bitLen n≤8*m:=(vg n (8*m) (by omega) hn).2 eE
 have hd3:decide (8*(m:Int)<((Lib.bitLen n:Nat):Int))=false:=decide_eq_false (by omega)
 clear eE hb;have mx:=heap_alloc_new w (.cells #[.int .u8 0,.int .u8 0,.int .u8 0,.int .u8 0,.int .u8 0,.int .u8 0,.int .u8 0,.int .u8 0] 328);have fh:=ai w (.cells #[.int .u8 0,.int .u8 0,.int .u8 0,.int .u8 0,.int .u8 0,.int .u8 0,.int .u8 0,.int .u8 0] 328);have HN:Hid ((w.alloc (.cells #[.int .u8 0,.int .u8 0,.int .u8 0,.int .u8 0,.int .u8 0,.int .u8 0,.int .u8 0,.int .u8 0] 328)).heap[w.heap.size]?=some (.cells (dW (lW n 0)).toArray 328 (0,0))):=by
  show _=_
  rw [mx];rfl
 have Cj:Hid (Below w.heap.size w (w.alloc (.cells #[.int .u8 0,.int .u8 0,.int .u8 0,.int .u8 0,.int .u8 0,.int .u8 0,.int .u8 0,.int .u8 0] 328))):=fh;clear mx fh;go_enter func217,ntmps217;go_wp2_with (go_at_call 146;refine (tw n _ hn).mono ?_;rintro e w' ⟨rfl,rfl⟩)
 go_loopw [22] (fun i wr=>∃ k:Nat,k≤8∧i = .int .i64 k∧wr.heap[w.heap.size]?=some (.cells (dW (lW n k)).toArray 328 (0,0))∧Below w.heap.size w wr) (fun i _=>8 - (intOf i).toNat)
 case atStart=>exact ⟨0,by omega,rfl,HN.out,Cj.out⟩
 case round =>
  obtain ⟨k,hk,rfl,bG,UM⟩:=hrel;clear HN Cj;have HR:Hid (wr.heap[w.heap.size]?=some (.cells (dW (lW n k)).toArray 328 (0,0))):=bG;clear bG;by_cases bP:k<8
  ·have hl:=LV n k hk;have aX:wr.cell? ⟨w.heap.size,7 - k,none⟩=some (.int .u8 (((lW n k)[7 - k]'(by omega)).toNat:Int)):=by
    rw [cell_of_row wr w.heap.size (7 - k) _ 328 (0,0) HR.out];simpa using iL (lW n k) (7 - k) (by omega)
   obtain ⟨Fz,hold⟩ : ∃ Fz:Int,Fz=(((lW n k)[7 - k]'(by omega)).toNat:Int):=⟨_,rfl⟩
   rw [← hold] at aX;clear hold;have Ex:wr.frozen? ⟨w.heap.size,7 - k,none⟩=false:=frozen_of_row wr w.heap.size (7 - k) _ 328 HR.out;have hv:=Ty n k bP;have HS:Hid ((wr.setCell ⟨w.heap.size,7 - k,none⟩ (.int .u8 ((kJ n (7 - k)).toNat:Int))).heap[w.heap.size]?=some (.cells (dW (lW n (k+1))).toArray 328 (0,0))):=by
    show _=_
    rw [heap_setCell_same wr w.heap.size (7 - k) _ 328 _ HR.out,Hp n k bP];simp [dW,List.map_set]
   generalize kJ n (7 - k)=dg at *;go_wp2;go_roundw
   case rel=>exact ⟨k+1,by omega,by go_num,HS.out,UM.setCell (aj _) _⟩
   case measure=>simp [intOf];omega
  ·have Lf:k=8:=by omega
   subst Lf;have qM:=Ad w.heap.size m h1 h8;have hl:=eC n m h8;have HC:Hid (∀ j (h:j<(bK n m).length),wr.cell? ⟨w.heap.size,8 - m+j,none⟩=some (.int .u8 ((bK n m)[j].toNat:Int))):=by
    intro j hj;have e8:lW n 8=qT n:=by simp [lW]
    rw [cell_of_row wr w.heap.size (8 - m+j) _ 328 (0,0) HR.out,e8];have Zn:8 - m+j<(qT n).length:=by rw [mI];omega
    have:=iL (qT n) (8 - m+j) Zn;simp only [List.getElem?_toArray];rw [this];simp [bK]
   clear HR;go_wp2_with fail;refine (L6 w.heap.size (8 - m) m m (bK n m) _ hl h1 h8 HC.out).mono ?_
   rintro e w2 ⟨g,c2,rfl,aE,aO⟩;have Ti:=Below.next UM aO;have lT:w2.ownsRow w.heap.size 5 1 (.slice (some ⟨g,0,none⟩) m c2) m (dW (bK n m)):=Ap aE UM.size;clear aE aO UM HC qM;go_wp2_with fail;go_ret2;exact ⟨g,c2,rfl,lT,Ti⟩
def nN(k v:Nat):List UInt8:=[UInt8.ofNat k,G6 v,FB v]
def ft(p:Pr):ByteArray:=⟨(nN p.1.size p.2.size++(p.1.data.toList++p.2.data.toList)).toArray⟩
theorem jW(p:Pr):(ft p).data.toList=nN p.1.size p.2.size++(p.1.data.toList++p.2.data.toList):=by simp [ft]
theorem qV(p:Pr):(ft p).size=3+p.1.size+p.2.size:=by
 rw [← bsize,jW];simp [nN];omega
theorem Hh(l:List Pr):(dY (l.map ft) (l.map ft).length).length+2*l.length=fL l:=by
 unfold dY;rw [aq (aj _)];induction l with
 | nil=>rfl
 | cons p l ih =>
  rw [List.map_cons,List.flatMap_cons,ae,bsize,qV,oq,List.length_cons];unfold z7;omega
theorem qz(l:List Pr):dR (l.map ft)=fL l:=by
 have:=Hh l;unfold dR fw;rw [aA] at *;omega
def tV(l:List Pr):ByteArray:=⟨(jC (l.map ft)).toArray⟩
def tG(c:List UInt8):Nat:=min (c.getD 0 0).toNat (c.length - 3)
def dx(c:ByteArray):Pr:=(⟨((c.data.toList.drop 3).take (tG c.data.toList)).toArray⟩,⟨((c.data.toList.drop 3).drop (tG c.data.toList)).toArray⟩)
def FA(c:ByteArray):Bool:=decide (3≤c.size∧ft (dx c)=c)
theorem pG(c:List UInt8):tG c≤255∧tG c≤c.length - 3:=by
 have:=(c.getD 0 0).toNat_lt;unfold tG;omega
theorem IU(c:ByteArray):(dx c).1.size=tG c.data.toList:=by
 have:=(pG c.data.toList).2;rw [← bsize];simp only [dx];rw [ag,ao];omega
theorem IT(c:ByteArray):(dx c).2.size=c.size - 3 - tG c.data.toList:=by
 rw [← bsize];simp only [dx];rw [ao,ao,bsize]
theorem Gu(c:ByteArray):(dx c).1.data.toList++(dx c).2.data.toList=c.data.toList.drop 3:=by
 simp only [dx];rw [aG]
theorem Oq(c:ByteArray)(h:3≤c.size):FA c=decide (nN (dx c).1.size (dx c).2.size=c.data.toList.take 3):=by
 unfold FA;congr 1
 apply propext
 constructor
 ·rintro ⟨_,he⟩;have:=congrArg (fun b:ByteArray=>b.data.toList.take 3) he
  simp only [jW] at this;rw [aF (by simp [nN]),aq (by simp [nN])] at this
  exact this
 ·intro he;refine ⟨h,ig ?_⟩;rw [jW,he,Gu,aG]
theorem K6(p:Pr)(hk:p.1.size≤255):tG (ft p).data.toList=p.1.size:=by
 unfold tG;rw [bsize,qV,jW];have:((nN p.1.size p.2.size++(p.1.data.toList++p.2.data.toList)).getD 0 0).toNat=p.1.size:=by
  simp [nN];omega
 rw [this];omega
theorem xl(p:Pr)(hk:p.1.size≤255):dx (ft p)=p:=by
 unfold dx;rw [K6 p hk,jW];have e:(nN p.1.size p.2.size++(p.1.data.toList++p.2.data.toList)).drop 3=p.1.data.toList++p.2.data.toList:=by simp [nN]
 rw [e,← bsize p.1,et,fJ]
theorem Om(p:Pr)(hk:p.1.size≤255):FA (ft p)=true:=by
 unfold FA;rw [xl p hk,qV];simp;omega
theorem tv{p:Pr}(h:cP p=true):1≤p.1.size∧p.1.size≤255∧p.2.size≤700:=by simpa [cP] using h
def mT(n:Nat)(b:List UInt8):Prop:=Mu b n∧(∀ c ∈ b8 b n,FA c=true)∧zL ((b8 b n).map dx) true=none
def BY(n:Nat)(b:List UInt8):List Pr:=(b8 b n).map dx
theorem Tt{l:List Pr}(h:zL l true=none):mT l.length (jC (l.map ft))∧BY l.length (jC (l.map ft))=l:=by
 obtain ⟨h1,h2,h3,h4,h5⟩:=oU h;have hs:dR (l.map ft)≤4072:=by rw [qz];exact h3
 have hc:=A0 (l.map ft) hs;rw [aA] at hc;have he:((l.map ft).map dx)=l:=by
  rw [eH];conv=>rhs;rw [← List.map_id l]
  exact gM (fun p hp=>xl p (tv (h1 p hp)).2.1)
 refine ⟨⟨?_,?_,?_⟩,?_⟩
 ·have:=qH (l.map ft) hs;rwa [aA] at this
 ·rw [hc];intro c sQ;obtain ⟨p,hp,rfl⟩:=List.mem_map.1 sQ;exact Om p (tv (h1 p hp)).2.1
 ·rw [hc,he];exact h
 ·unfold BY;rw [hc,he]
def UW(w:World)(v:Value)(l:List UInt8):Prop:=∃ a cap,v = .slice a l.length cap∧∀ j (h:j<l.length),∃ g o,a=some ⟨g,o,none⟩∧w.cell? ⟨g,o+j,none⟩=some (.int .u8 (l[j].toNat:Int))
theorem lM(w:World)(v:Value)(l:List UInt8)(h:UW w v l)(hl:0<l.length):(convert 145 9 v).run prog w = .ok (.string ⟨l.toArray⟩) w:=by
 obtain ⟨a,cap,rfl,hc⟩:=h;obtain ⟨g,o,rfl,_⟩:=hc 0 hl;refine run_convert_bytes_back w 145 9 5 ⟨g,o,none⟩ cap l underlying145 underlying5 underlying9 (fun j hj=>?_)
 obtain ⟨g',o',he,aX⟩:=hc j hj;cases he;rw [show (⟨g,o,none⟩ : Addr).add j=⟨g,o+j,none⟩ by simp [Addr.add]]
 exact aX
theorem Hz(n:Nat)(_h:n≤255):bK n 1=[UInt8.ofNat n]:=by
 unfold bK qT kJ;simp [List.range,List.range.loop]
theorem Wy(n:Nat)(_h:n<65536):bK n 2=[G6 n,FB n]:=by
 have e1:UInt8.ofNat n=FB n:=by
  apply UInt8.toNat_inj.1
  simp [FB]
 unfold bK qT kJ;simp only [List.range,List.range.loop,List.map_cons,List.map_nil,List.drop_succ_cons,List.drop_zero,Nat.reduceSub,Nat.reduceMul,Nat.reducePow,Nat.div_one];rw [e1];rfl
def sj(p:Pr):ByteArray:=⟨(nN p.1.size p.2.size).toArray⟩
theorem yd(p:Pr):(sj p).size=3:=rfl
theorem Ez(p:Pr):(⟨[UInt8.ofNat p.1.size].toArray⟩ : ByteArray)++⟨[G6 p.2.size,FB p.2.size].toArray⟩=sj p:=by
 refine ig ?_
 simp [sj,nN]
theorem rG{w:World}{base g m c:Nat}{l:List UInt8}(h:w.ownsRow base 5 1 (.slice (some ⟨g,0,none⟩) m c) m (dW l))(hl:l.length=m):UW w (.slice (some ⟨g,0,none⟩) m c) l :=
 ⟨_,_,by rw [hl],fun j hj=>⟨g,0,rfl,by rw [Nat.zero_add,World.ownsRow.cellAt h j (by omega)];exact iL l j hj⟩⟩
theorem DW(p:Pr)(w:World)(h1:p.1.size≤255)(h2:p.2.size<65536):Calls prog 191 #[.agg #[.string p.1,.string p.2]] w fun e w'=>e = .returned (.string (sj p))∧Below w.heap.size w w':=by
 have fh:=ai w (.cells #[.string p.1,.string p.2] 52);have hx:=bN w #[.string p.1,.string p.2] 52;have HP1:=ab (fun W=>wY p.1.size 1 W (by omega) (by decide) (by decide) (by omega))
 have XO:=ab (fun W=>wY p.2.size 2 W (by omega) (by decide) (by decide) (by omega))
 have aey:=ab (Hz p.1.size h1);have aex:=ab (Wy p.2.size h2);have HX:=ab hx;have Cj:=ab fh;have k0:(w.alloc (.cells #[.string p.1,.string p.2] 52)).cell? ⟨w.heap.size,0,none⟩=some (.string p.1):=hx.2 0 (by simp)
 have w1:(p.1.size:Int) % 18446744073709551616=(p.1.size:Int):=by omega
 have w2:(p.2.size:Int) % 18446744073709551616=(p.2.size:Int):=by omega
 clear fh hx;go_enter func191,ntmps191;go_wp2_with fail;refine (HP1.out _).mono ?_
 rintro e w1 ⟨g,c2,rfl,aE,aP⟩;rw [aey.out] at aE;have nR:=ab aE;have bQ:=ab (Below.next Cj.out aP);have k1:w1.cell? ⟨w.heap.size,1,none⟩=some (.string p.2):=(HX.out.below aP).2 1 (by simp)
 clear aE aP HP1 k0 Cj HX;go_wp2_with fail;refine (XO.out _).mono ?_
 rintro e w2 ⟨g2,c3,rfl,lT,aO⟩;rw [aex.out] at lT;have jT:w2.ownsRow _ 5 1 (.slice (some ⟨g,0,none⟩) 1 c2) 1 (dW [UInt8.ofNat p.1.size]):=⟨nR.out.1,by
  rcases nR.out.2 with h' | ⟨g',cap,cur,h',Jo,P3,hr⟩
  ·exact .inl h'
  ·refine .inr ⟨g',cap,cur,h',Jo,?_,hr⟩;have hg:g'<w1.heap.size:=by
    rcases a7 g' w1.heap.size with Wq | Wq
    ·exact Wq
    ·rw [aY Wq] at P3;cases P3
   rw [aO.block g' hg];exact P3⟩
 have cv1:=lM w2 _ _ (rG jT rfl) (by simp)
 have cv2:=lM w2 _ _ (rG lT rfl) (by simp)
 have bJ:=ab (Below.next bQ.out aO);have HH:=ab (Ez p);have U8:=ab (yd p);obtain ⟨t1,Eh⟩ : ∃ t1:ByteArray,t1=⟨[UInt8.ofNat p.1.size].toArray⟩:=⟨_,rfl⟩;obtain ⟨t2,tJ⟩ : ∃ t2:ByteArray,t2=⟨[G6 p.2.size,FB p.2.size].toArray⟩:=⟨_,rfl⟩;have z1:t1.size=1:=by rw [Eh];rfl
 have z2:t2.size=2:=by rw [tJ];rfl
 rw [← Eh] at cv1 HH;rw [← tJ] at cv2 HH;clear jT lT aO nR bQ XO k1 Eh tJ;go_wp2;go_ret;exact ⟨by rw [← HH.out];rfl,bJ.out⟩
theorem E2(p:Pr):sj p++p.1++p.2=ft p:=by
 refine ig ?_
 rw [jW];simp [sj]
theorem QB(p:Pr)(w:World)(h1:p.1.size≤255)(h2:p.2.size<65536):Calls prog 222 #[.agg #[.string p.1,.string p.2]] w fun e w'=>e = .returned (.string (ft p))∧Below w.heap.size w w':=by
 have fh:=ai w (.cells #[.string p.1,.string p.2] 52);have hx:=bN w #[.string p.1,.string p.2] 52;have HL:=ab (fun W=>DW p W h1 h2)
 have HX:=ab hx;have Cj:=ab fh;have sH:=ab (E2 p);have U8:=yd p;obtain ⟨hd,hhd⟩ : ∃ hd,hd=sj p:=⟨_,rfl⟩;rw [← hhd] at HL sH U8;have s1:¬ (9223372036854775807:Int)<(hd.size:Int)+(p.1.size:Int):=by rw [U8];omega
 have s2:¬ (9223372036854775807:Int)<(hd.size:Int)+(p.1.size:Int)+(p.2.size:Int):=by rw [U8];omega
 have a1:∀ w,(Op.stringOp .add hd p.1).run prog w = .ok (.string (hd++p.1)) w:=fun w=>run_string_add_sum (P:=prog) (w:=w) _ _ (by rw [U8];omega)
 have a2:∀ w,(Op.stringOp .add (hd++p.1) p.2).run prog w = .ok (.string (hd++p.1++p.2)) w:=fun w=>run_string_add_sum (P:=prog) (w:=w) _ _ (by rw [ByteArray.size_append,U8];omega)
 have MV:=ab U8;clear U8 s1 s2;have k0:(w.alloc (.cells #[.string p.1,.string p.2] 52)).cell? ⟨w.heap.size,0,none⟩=some (.string p.1):=hx.2 0 (by simp)
 have k1:(w.alloc (.cells #[.string p.1,.string p.2] 52)).cell? ⟨w.heap.size,1,none⟩=some (.string p.2):=hx.2 1 (by simp)
 clear fh hx hhd;go_enter func222,ntmps222;go_wp2_with fail;generalize w.alloc (.cells #[.string p.1,.string p.2] 52)=W0 at *;go_region_held3 (fun w'=>w'.cell? ⟨w.heap.size,0,none⟩=some (.string p.1)∧w'.cell? ⟨w.heap.size,1,none⟩=some (.string p.2)) (go_keep)
  (first | (go_at_call 191;refine (HL.out _).mono ?_;rintro e w2 ⟨rfl,Lo⟩;have aO:Below W0.heap.size W0 w2:=⟨Lo.os,Lo.tape,Lo.output,Lo.size,Lo.block⟩;have bJ:=ab (Below.next Cj.out aO);have r0:w2.cell? ⟨w.heap.size,0,none⟩=some (.string p.1):=(HX.out.below aO).2 0 (by simp);have r1:w2.cell? ⟨w.heap.size,1,none⟩=some (.string p.2):=(HX.out.below aO).2 1 (by simp);clear aO Lo))
 all_goals
  go_wp2;go_ret;exact ⟨by rw [← sH.out];rfl,bJ.out⟩
theorem vH{w:World}{b:Nat}{x y:Value}{t:TypeId}(h:w.heap[b]?=some (.cells #[x,y] t (0,0)))(x' y':Value):((w.setCell ⟨b,0,none⟩ x').setCell ⟨b,1,none⟩ y').heap[b]?=some (.cells #[x',y'] t (0,0)):=by
 rw [heap_setCell_same _ b 1 _ t _ (heap_setCell_same w b 0 _ t _ h)];rfl
theorem bY{B:Nat}{w0 w:World}{b:Nat}{x y:Value}(h:Below B w0 w)(hb:B≤b):Below B w0 ((w.setCell ⟨b,0,none⟩ x).setCell ⟨b,1,none⟩ y):=(h.setCell hb _).setCell hb _
def strs(l:List ByteArray):List Value:=l.map Value.string
theorem kh(l:List ByteArray):(strs l).length=l.length:=by simp [strs]
theorem CX(l:List ByteArray)(j:Nat)(h:j<l.length):(strs l)[j]?=some (.string l[j]):=by simp [strs,h]
theorem ow(a b:List ByteArray):strs (a++b)=strs a++strs b:=by simp [strs]
theorem info9:(prog.info? 9).map (fun i=>(i.zero,i.size,i.bytes))=some (some (.string ByteArray.empty),1,16):=by kernel_rfl
def Mr(w:World)(v:Value)(l:List ByteArray):Prop:=∃ a cap,v = .slice a l.length cap∧l.length≤cap∧∀ j (h:j<l.length),∃ g o,a=some ⟨g,o,none⟩∧w.cell? ⟨g,o+j,none⟩=some (.string l[j])
theorem nI.strs{w:World}{v:Value}{l:List ByteArray}(h:nI w v (strs l)):Mr w v l:=by
 obtain ⟨a,cap,rfl,hle,_,hc⟩:=h;rw [kh] at hle ⊢;exact ⟨a,cap,rfl,hle,fun j hj=>hc j _ (CX l j hj)⟩
theorem Mr.below{w w':World}{v:Value}{l:List ByteArray}(h:Mr w v l)(hb:Below w.heap.size w w'):Mr w' v l:=by
 obtain ⟨a,cap,rfl,hle,hc⟩:=h;refine ⟨a,cap,rfl,hle,fun j hj=>?_⟩
 obtain ⟨g,o,ha,aX⟩:=hc j hj;exact ⟨g,o,ha,(hb.cell (p:=⟨g,o+j,none⟩) (World.block_lt_of_cell? w _ aX)).trans aX⟩
theorem FT(n:Int)(_h0:0≤n)(_h1:n<2 ^ 16):IntKind.i64.wrap n=n:=by
 rw [IntKind.wrap_i64];omega
theorem Ss(a b:Nat)(ha:a<256)(hb:b<256):bits BinOp.or IntKind.i64 (wrap64 (wrap64 (a:Int)*256)) (wrap64 (b:Int))=((a*256+b:Nat):Int):=by
 have h1:wrap64 (a:Int)=(a:Int):=by unfold wrap64;omega
 have h2:wrap64 ((a:Int)*256)=(a:Int)*256:=by unfold wrap64;omega
 have h3:wrap64 (b:Int)=(b:Int):=by unfold wrap64;omega
 rw [h1,h2,h3,bits_join .i64 16 (by decide) FT 8 ((a:Int)*256) (b:Int) (by omega) (by omega) (by omega) (by omega) (by omega) (by omega)]
 omega
theorem Ca(s:ByteArray)(j:Nat)(h:j<s.size):s.data.toList.getD j 0=s[j]:=by
 rw [aK,af (by simpa using h)];rfl
theorem NL(s:ByteArray)(i:Nat)(w:World)(hs:2*i+1<s.size)(cx:s.size=4072):Calls prog 189 #[.string s,.int .i64 (i:Int)] w fun e w'=>e = .returned (.int .i64 ((Ac s.data.toList i:Nat):Int))∧Below w.heap.size w w':=by
 obtain ⟨p,hp⟩ : ∃ p,p=2*i:=⟨_,rfl⟩;obtain ⟨q,hq⟩ : ∃ q,q=p+1:=⟨_,rfl⟩;have hw:IntKind.i64.wrap (2*(i:Int))=(p:Int):=by rw [IntKind.wrap_i64];omega
 have Ri:IntKind.i64.wrap ((p:Int)+1)=(q:Int):=by rw [IntKind.wrap_i64];omega
 have h1:(p:Int)<(s.size:Int):=by omega
 have Jo:p<s.size:=by omega
 have h2:(q:Int)<(s.size:Int):=by omega
 have P3:q<s.size:=by omega
 have g0:(0:Int)≤(p:Int):=by omega
 have g1:(0:Int)≤(q:Int):=by omega
 have HP:Hid (p=2*i∧q=2*i+1):=⟨hp,by omega⟩
 clear hp hq hs cx;go_enter func189,ntmps189;go_wp2;go_quiet (fail)
 go_wp2;go_ret;refine ⟨?_,aB (Below.refl _ _) _⟩;obtain ⟨rfl,rfl⟩:=HP.out;refine IJ ?_
 show bits BinOp.or IntKind.i64 (wrap64 (wrap64 (s[2*i].toNat:Int)*256)) (wrap64 (s[2*i+1].toNat:Int))=_
 rw [Ss _ _ s[2*i].toNat_lt s[2*i+1].toNat_lt];unfold Ac;rw [Ca s _ Jo,Ca s _ P3]
theorem mF(s:ByteArray)(a b:Nat)(_hb:b≤s.size):(s.extract a b).data.toList=(s.data.toList.drop a).take (b - a):=by
 rw [ByteArray.data_extract,Array.toList_extract]
theorem KD(c:ByteArray)(h:3≤c.size):(c.extract 3 c.size).extract 0 (tG c.data.toList)=(dx c).1:=by
 have hk:=(pG c.data.toList).2;rw [bsize] at hk;refine ig ?_
 rw [mF _ _ _ (by rw [ByteArray.size_extract];omega),mF c 3 c.size (aj _)]
 simp only [dx,List.drop_zero,Nat.sub_zero];rw [aq (i:=c.size - 3) (by rw [ao,bsize];exact aj _)]
theorem KC(c:ByteArray)(_h:3≤c.size):(c.extract 3 c.size).extract (tG c.data.toList) (c.extract 3 c.size).size=(dx c).2:=by
 have hk:=(pG c.data.toList).2;rw [bsize] at hk;refine ig ?_
 rw [mF _ _ _ (aj _),mF c 3 c.size (aj _),ByteArray.size_extract];simp only [dx,Nat.min_self];rw [aq (i:=c.size - 3) (by rw [ao,bsize];exact aj _),aq (by rw [ao,ao,bsize];omega)]
theorem On(c:ByteArray)(h:3≤c.size):((sj (dx c)).toList == (c.extract 0 3).toList)=FA c:=by
 rw [Oq c h,kG,beq_iff_eq,decide_eq_true_eq,ByteArray.toList_eq,ByteArray.toList_eq,mF c 0 3 h];simp [sj]
theorem aM{P:Program}{fn:Func}{p u:Tmp}{ty:TypeId}(h:fn.results=#[.cell p ty,.tmp u])(tmps:Array Value)(w:World)(g:Nat)(t:TypeId)(cs:Array Value)(fr:Nat × Nat)(d:TypeDesc)(hp:tmps.getD p undef = .pointer (some ⟨g,0,none⟩))(hg:w.heap[g]?=some (.cells cs t fr))(hu:P.underlying ty=some d)(hd:(match d with | .struct _ | .array _ _=>true | _=>false)=true)(hi:(P.info? ty).map (·.size)=some cs.size):(results fn tmps).run P w = .ok (.tuple #[.agg cs,tmps.getD u undef]) w:=by
 rw [results_cell_tmp h tmps P w,hp];simp [asAddr,run_loadVar_row w g t ty cs fr d hg hu hd hi,Result.andThen]
theorem Gt(c:ByteArray)(w:World)(hc:c.size≤4072):Calls prog 154 #[.string c] w fun e w'=>((FA c=true∧e = .returned (.tuple #[.agg #[.string (dx c).1,.string (dx c).2],.bool true]))∨(FA c=false∧∃ x y,e = .returned (.tuple #[.agg #[.string x,.string y],.bool false])))∧Below w.heap.size w w':=by
 have fh:=ai w (.cells #[.string ⟨#[]⟩,.string ⟨#[]⟩] 52);have bG:=heap_alloc_new w (.cells #[.string ⟨#[]⟩,.string ⟨#[]⟩] 52);by_cases h3:c.size<3
 ·have fM:FA c=false:=decide_eq_false (fun h=>by omega)
  have kO:=ab fM;have Cj:=ab fh;have mR:=ab bG;have h3I:(c.size:Int)<3:=by omega
  clear fh fM bG h3;go_enter func154,ntmps154;go_wp2;exact bodyPost_ret (aM rfl _ _ w.heap.size 52 _ (0,0) _ rfl mR.out underlying52 rfl (by kernel_rfl)) rfl ⟨.inr ⟨kO.out,_,_,rfl⟩,Cj.out⟩
 ·have Wp:3≤c.size:=by omega
  have HK:=ab (On c Wp);have H1:=ab (KD c Wp);have H2:=ab (KC c Wp);have HL:=ab (fun W=>DW (dx c) W (by rw [IU];exact (pG _).1) (by rw [IT];omega))
  have XC:(c.extract 3 c.size).size=c.size - 3:=by rw [ByteArray.size_extract];omega
  have dm:=pG c.data.toList;rw [bsize] at dm;have h3I:(3:Int)≤(c.size:Int):=by omega
  have hA:(c.extract 0 3).size=3:=by rw [ByteArray.size_extract];omega
  have ZY:0<(c.extract 0 3).size:=by omega
  have Rg:(c.extract 0 3)[0].toNat=(c.data.toList.getD 0 0).toNat:=by
   rw [← Ca (c.extract 0 3) 0 ZY,mF c 0 3 Wp,List.drop_zero,aK,aK,cy,if_pos (by omega)]
  have hd3:decide ((c.size:Int)<3)=false:=decide_eq_false (by omega)
  obtain ⟨k,hk⟩ : ∃ k,k=tG c.data.toList:=⟨_,rfl⟩;have HKE:Hid (k=min (c.data.toList.getD 0 0).toNat (c.size - 3)):=by rw [hk];unfold tG;rw [bsize];exact rfl
  rw [← hk] at H1 H2 dm;have Cj:=ab fh;have mR:=ab bG;clear hk h3 fh bG;go_enter func154,ntmps154;go_wp2;go_quiet (fail)
  go_wp2;have Y9:min (wrap64 ((c.data[0]?.getD 0).toNat:Int)) ((c.size - 3:Nat):Int)=(k:Int):=by
   have h0:c.data[0]?.getD 0=c.data.toList.getD 0 0:=by simp [List.getD_eq_getElem?_getD]
   rw [h0,HKE.out];have:=(c.data.toList.getD 0 0).toNat_lt;unfold wrap64;omega
  rw [Y9];have hkT:(k:Int)≤((c.extract 3 c.size).size:Int):=by rw [XC];omega
  have j0:(0:Int)≤(k:Int):=by omega
  have bQ:=ab (aB Cj.out nq);have nV:Hid (((w.alloc (.cells #[.string ⟨#[]⟩,.string ⟨#[]⟩] 52)).drewN nq).heap[w.heap.size]?=some (.cells #[.string ⟨#[]⟩,.string ⟨#[]⟩] 52 (0,0))):=by rw [World.heap_drewN];exact mR.out
  clear Y9 XC hA ZY Rg mR Cj hd3 h3I;generalize (w.alloc (.cells #[.string ⟨#[]⟩,.string ⟨#[]⟩] 52)).drewN nq=W at *;generalize c.extract 3 c.size=T at *;generalize c.extract 0 3=A3 at *;go_region_held3 (fun w'=>True) (go_keep) (fail)
  rw [H1.out,H2.out];obtain ⟨p,hp⟩ : ∃ p,p=dx c:=⟨_,rfl⟩;rw [← hp] at HL HK H1 H2 ⊢;have WI:=ab hp;have nz:=bN W #[.string p.1,.string p.2] 52;have aO:=ai W (.cells #[.string p.1,.string p.2] 52);have hWg:w.heap.size<W.heap.size:=by
   rcases a7 w.heap.size W.heap.size with h | h
   ·exact h
   ·have:=nV.out;rw [aY h] at this;cases this
  have wi:Hid (Boxed W.heap.size [.string p.1,.string p.2] (W.alloc (.cells #[.string p.1,.string p.2] 52)).drew):=nz.below ⟨rfl,rfl,rfl,aj _,fun _ _=>rfl⟩
  have bJ:Hid (Below W.heap.size W (W.alloc (.cells #[.string p.1,.string p.2] 52)).drew):=aO.drew;clear hp nz aO H1 H2 hkT dm;generalize (W.alloc (.cells #[.string p.1,.string p.2] 52)).drew=W2 at *;have k0:W2.cell? ⟨W.heap.size,0,none⟩=some (.string p.1):=wi.out.2 0 (by simp)
  have k1:W2.cell? ⟨W.heap.size,1,none⟩=some (.string p.2):=wi.out.2 1 (by simp)
  have dK:¬ w.heap.size=W.heap.size:=by omega
  go_wp2_with fail;go_region_held3 (fun w'=>w'.cell? ⟨W.heap.size,0,none⟩=some (.string p.1)∧w'.cell? ⟨W.heap.size,1,none⟩=some (.string p.2)) (go_keep)
   (first | (go_at_call 191;refine (HL.out _).mono ?_;rintro e w5 ⟨rfl,Ln⟩;have mB:Below W2.heap.size W2 w5:=⟨Ln.os,Ln.tape,Ln.output,Ln.size,Ln.block⟩;have PU:Below W.heap.size W w5:=Below.next bJ.out mB;have AJ:=(PU.block w.heap.size hWg).trans nV.out;have XM:=ab AJ;have jj:=ab PU;have r0:w5.cell? ⟨W.heap.size,0,none⟩=some (.string p.1):=(wi.out.below mB).2 0 (by simp);have r1:w5.cell? ⟨W.heap.size,1,none⟩=some (.string p.2):=(wi.out.below mB).2 1 (by simp);have q0:w5.cell? ⟨w.heap.size,0,none⟩=some (.string ⟨#[]⟩):=(by rw [cell_of_row _ _ _ _ _ _ AJ];rfl);have q1:w5.cell? ⟨w.heap.size,1,none⟩=some (.string ⟨#[]⟩):=(by rw [cell_of_row _ _ _ _ _ _ AJ];rfl);have z0:w5.frozen? ⟨w.heap.size,0,none⟩=false:=frozen_of_row _ _ _ _ _ AJ;have z1:w5.frozen? ⟨w.heap.size,1,none⟩=false:=frozen_of_row _ _ _ _ _ AJ;clear mB Ln PU AJ))
  rw [HK.out];have CE:=ab (Below.next bQ.out jj.out);clear q0 q1 z0 z1 r0 r1 k0 k1 HL jj bJ wi bQ nV;obtain ⟨ok,cT⟩ : ∃ ok,ok=FA c:=⟨_,rfl⟩;rw [← cT];have pN:=ab cT;clear cT;go_wp2_with fail;refine bodyPost_ret (aM rfl _ _ w.heap.size 52 _ (0,0) _ rfl (vH XM.out _ _) underlying52 rfl (by kernel_rfl)) rfl ⟨?_,bY CE.out (aj _)⟩
  cases hk:FA c with
  | true=>exact .inl ⟨rfl,by rw [← WI.out];simp [pN.out,hk]⟩
  | false=>exact .inr ⟨rfl,_,_,by simp [pN.out,hk];exact ⟨rfl,rfl⟩⟩
def wQ(l:List Pr)(root:Bool):Option Nat:=if (4072:Int)<p9 (fL l) then some 2 else if l.length=0∨root=false∧p9 (fL l)<1556 then some 3 else none
def B1(l:List Pr)(root:Bool):Option Nat:=if l.all cP=false then some 0 else if ¬ gD l then some 11 else wQ l root
theorem OC{l:List Pr}(h:l.all cP=true):fL l≤960*l.length:=by
 induction l with
 | nil=>exact aj _
 | cons p l ih =>
  simp only [List.all_cons,cF] at h;have h1:=eM h.1;have h2:=ih h.2;rw [oq,List.length_cons];unfold z7;omega
theorem TH(l:List Pr)(root:Bool)(hm:l.length≤140737488355328):B1 l root=zL l root:=by
 unfold B1 zL;cases h:l.all cP with
 | false=>rfl
 | true =>
  have hs:=OC h;have e:wQ l root=if 4072<fL l then some 2 else if l=[]∨root=false∧fL l<1556 then some 3 else none:=by
   unfold wQ;rw [kW (by omega)]
   by_cases h1:4072<fL l
   ·rw [if_pos (by omega),if_pos h1]
   ·rw [if_neg (by omega),if_neg h1]
    by_cases h2:l=[]∨root=false∧fL l<1556
    ·have h3:l.length=0∨root=false∧((fL l:Nat):Int)<1556:=by
      rcases h2 with h2 | ⟨h2,h3⟩
      ·exact .inl (by rw [h2];rfl)
      ·exact .inr ⟨h2,by omega⟩
     rw [if_pos h2,if_pos h3]
    ·have h3:¬ (l.length=0∨root=false∧((fL l:Nat):Int)<1556):=by
      rintro (h3 | ⟨h3,h4⟩)
      ·exact h2 (.inl (List.length_eq_zero_iff.1 h3))
      ·exact h2 (.inr ⟨h3,by omega⟩)
     rw [if_neg h2,if_neg h3]
  rw [e]
theorem OI(p:Pr)(w:World):Calls prog 120 #[.agg #[.string p.1,.string p.2]] w fun e w'=>e = .returned (.bool (cP p))∧Below w.heap.size w w':=by
 have fh:=ai w (.cells #[.string p.1,.string p.2] 52);by_cases h1:1≤p.1.size
 ·by_cases h2:p.1.size≤255
  ·by_cases h3:p.2.size≤700
   ·have hm:cP p=true:=decide_eq_true ⟨h1,h2,h3⟩;rw [hm];have i1:(1:Int)≤(p.1.size:Int):=by omega
    have i2:(p.1.size:Int)≤255:=by omega
    have i3:(p.2.size:Int)≤700:=by omega
    clear hm;go_enter func120,ntmps120;go_wp2;go_ret;exact ⟨rfl,fh⟩
   ·have hm:cP p=false:=decide_eq_false (fun h=>h3 h.2.2)
    rw [hm];have i1:(1:Int)≤(p.1.size:Int):=by omega
    have i2:(p.1.size:Int)≤255:=by omega
    have i3:¬ (p.2.size:Int)≤700:=by omega
    clear hm;go_enter func120,ntmps120;go_wp2;go_ret;exact ⟨rfl,fh⟩
  ·have hm:cP p=false:=decide_eq_false (fun h=>h2 h.2.1)
   rw [hm];have i1:(1:Int)≤(p.1.size:Int):=by omega
   have i2:¬ (p.1.size:Int)≤255:=by omega
   clear hm;go_enter func120,ntmps120;go_wp2;go_ret;exact ⟨rfl,fh⟩
 ·have hm:cP p=false:=decide_eq_false (fun h=>h1 h.1)
  rw [hm];have i1:¬ (1:Int)≤(p.1.size:Int):=by omega
  clear hm;go_enter func120,ntmps120;go_wp2;go_ret;exact ⟨rfl,fh⟩
theorem KQ(A:Nat→Addr)(v:Value)(l:List Pr)(root:Bool)(w:World)(cT:TU l)(hm:l.length≤140737488355328)(hr:gK w v l)(hE:j7 A w):Calls prog 119 #[v,.bool root] w fun e w'=>e = .returned (iz A (wQ l root))∧Below w.heap.size w w':=by
 have HS:=ab (Aw v l w cT hm hr);obtain ⟨a,c,hv⟩:=hr.form;subst hv;have HE:=ab hE;obtain ⟨x,hx⟩ : ∃ x,x=p9 (fL l):=⟨_,rfl⟩;obtain ⟨n,hn⟩ : ∃ n,n=l.length:=⟨_,rfl⟩;have HR:Hid (wQ l root=if (4072:Int)<x then some 2 else if n=0∨root=false∧x<1556 then some 3 else none):=by rw [hx,hn];exact rfl
 rw [← hx] at HS;rw [← hn] at HS hm ⊢;clear hr hE hx hn cT;by_cases h1:(4072:Int)<x
 ·rw [HR.out,if_pos h1];go_enter func119,ntmps119;go_wp2_with fail;refine HS.out.mono ?_
  rintro e w1 ⟨rfl,aP⟩;have c2:w1.cell? ⟨2,0,none⟩=some (.iface 360 (.pointer (some (A 2)))):=((HE.out.below aP).1.1 2 (by decide)).1
  go_wp2;go_ret;exact ⟨rfl,aP⟩
 ·by_cases h2:n=0
  ·subst h2;rw [HR.out,if_neg h1,if_pos (.inl rfl)];go_enter func119,ntmps119;go_wp2_with fail;refine HS.out.mono ?_
   rintro e w1 ⟨rfl,aP⟩;have c3:w1.cell? ⟨3,0,none⟩=some (.iface 360 (.pointer (some (A 3)))):=((HE.out.below aP).1.1 3 (by decide)).1
   go_wp2;go_ret;exact ⟨rfl,aP⟩
  ·have P3:((n:Int) == 0)=false:=by rw [beq_eq_false_iff_ne];omega
   cases root with
   | true =>
    rw [HR.out,if_neg h1,if_neg (by simp [h2])]
    go_enter func119,ntmps119;go_wp2_with fail;refine HS.out.mono ?_
    rintro e w1 ⟨rfl,aP⟩;go_wp2;go_ret;exact ⟨rfl,aP⟩
   | false =>
    by_cases h3:x<1556
    ·rw [HR.out,if_neg h1,if_pos (.inr ⟨rfl,h3⟩)];go_enter func119,ntmps119;go_wp2_with fail;refine HS.out.mono ?_
     rintro e w1 ⟨rfl,aP⟩;have c3:w1.cell? ⟨3,0,none⟩=some (.iface 360 (.pointer (some (A 3)))):=((HE.out.below aP).1.1 3 (by decide)).1
     go_wp2;go_ret;exact ⟨rfl,aP⟩
    ·rw [HR.out,if_neg h1,if_neg (by simp [h2,h3])]
     go_enter func119,ntmps119;go_wp2_with fail;refine HS.out.mono ?_
     rintro e w1 ⟨rfl,aP⟩;go_wp2;go_ret;exact ⟨rfl,aP⟩
def iU(l:List Pr)(root:Bool)(k:Nat):Option Nat:=if gD (l.take k) then wQ l root else some 11
theorem uV{l:List Pr}{root:Bool}{k:Nat}(hk:k<l.length)(h:∀ (h0:0<k),cX (l[k - 1]'(by omega)).1 l[k].1=true):iU l root (k+1)=iU l root k:=by
 unfold iU;have e:gD (l.take (k+1))↔gD (l.take k):=by
  rw [az hk,Kr];constructor
  ·exact fun h=>h.1
  ·intro hr;refine ⟨hr,fun h0=>?_⟩
   simp only [ag,a8 (Nat.le_of_lt hk),bD] at h0 ⊢;exact h h0
 simp only [e]
theorem Hk{l:List Pr}{root:Bool}{k:Nat}(hk:k<l.length)(h0:0<k)(h:cX (l[k - 1]'(by omega)).1 l[k].1=false):iU l root (k+1)=some 11:=by
 unfold iU;rw [if_neg];intro hr;have:=hr (k - 1) (by rw [ag];omega)
 simp only [bD,show k - 1+1=k by omega] at this
 rw [h] at this;cases this
theorem qG(A:Nat→Addr)(v:Value)(l:List Pr)(root:Bool)(w:World)(cT:TU l)(hm:l.length≤140737488355328)(hr:gK w v l)(hE:j7 A w):Calls prog 79 #[v,.bool root] w fun e w'=>e = .returned (iz A (zL l root))∧Below w.heap.size w w':=by
 have XL:=ab (KQ A v l root w cT hm hr hE);rw [← TH l root hm];obtain ⟨a,cap,rfl,di,_,hc⟩:=hr;have HC:=ab hc;have HE:=ab hE;have ui:Hid (iU l root 0=wQ l root):=by show _=_;unfold iU;rw [if_pos];simp [Dd]
 obtain ⟨n,hn⟩ : ∃ n,n=l.length:=⟨_,rfl⟩;rw [← hn] at hm XL ⊢;have HN:=ab hn;obtain ⟨Q,hQ⟩ : ∃ Q:Ending→World→Prop,Q=fun e w'=>e = .returned (iz A (B1 l root))∧Below w.heap.size w w':=⟨_,rfl⟩
 rw [← hQ];have HQ:=ab hQ;clear hc hn di hE cT hQ;go_enter func79,ntmps79;go_wp2_with fail;go_step3
 go_wp2_with fail;refine XL.out.mono ?_
 rintro e w1 ⟨rfl,aP⟩;have bQ:=ab aP;clear aP XL;rw [← ui.out];go_wp2;go_step3
 go_wp2;go_loopw [5,13] (fun f i wr=>∃ k:Nat,k≤n∧i = .int .i64 k∧f=iz A (iU l root k)∧(∀ j (h:j<l.length),j<k→cP l[j]=true)∧Below w.heap.size w wr) (fun _ i _=>n - (intOf i).toNat)
 case atStart=>exact ⟨0,aD _,rfl,rfl,fun j _ h=>absurd h (eX _),bQ.out⟩
 case round =>
  obtain ⟨k,hk,rfl,rfl,gB,bO⟩:=hrel;clear bQ ui;have HP:=ab gB;clear gB;by_cases bP:k<n
  ·have dm:k<l.length:=by have:=HN.out;omega
   have dS:(k:Int)<(n:Int):=by omega
   obtain ⟨g,o,rfl,f1,f2⟩:=HC.out k dm;have c1:wr.cell? ⟨g,o+k*2,none⟩=some (.string l[k].1):=(bO.cell (p:=⟨g,o+k*2,none⟩) (World.block_lt_of_cell? w _ f1)).trans f1;have c2:wr.cell? ⟨g,o+k*2+1,none⟩=some (.string l[k].2):=(bO.cell (p:=⟨g,o+k*2+1,none⟩) (World.block_lt_of_cell? w _ f2)).trans f2;have p7:Hid (cP l[k]=true→∀ j (h:j<l.length),j<k+1→cP l[j]=true):=fun hl j h hj=>by
    by_cases he:j=k
    ·subst he;exact hl
    ·exact HP.out j h (by omega)
   have kO:Hid (cP l[k]=false→B1 l root=some 0):=fun hl=>by
    unfold B1;rw [if_pos];rw [List.all_eq_false];exact ⟨l[k],aH _,by simp [hl]⟩
   have HB:=ab (Below.next bO (ai wr (.cells #[.string l[k].1,.string l[k].2] 52)));have wi:=ab (bN wr #[.string l[k].1,.string l[k].2] 52);have Fu:=ab (fun W=>OI l[k] W)
   obtain ⟨fv,Li⟩ : ∃ fv,fv=iz A (iU l root k):=⟨_,rfl⟩;rw [← Li];cases S7:cP l[k] with
   | false =>
    rw [S7] at Fu;have Q3:=ab (kO.out S7);obtain ⟨p,hp⟩ : ∃ p,p=l[k]:=⟨_,rfl⟩;rw [← hp] at c1 c2 Fu HB wi;clear hp Li p7 kO S7 HC bO f1 f2;go_wp2_with fail;refine (Fu.out _).mono ?_
    rintro e w2 ⟨rfl,aO⟩;have bJ:=ab (Below.next HB.out aO);have k0:w2.cell? ⟨0,0,none⟩=some (.iface 360 (.pointer (some (A 0)))):=((HE.out.below bJ.out).1.1 0 (by decide)).1
    clear aO HB wi Fu c1 c2;go_wp2;rw [HQ.out];exact ⟨by rw [Q3.out];rfl,bJ.out⟩
   | true =>
    rw [S7] at Fu;have uh:=ab (p7.out S7);by_cases h0:k=0
    ·have HK:=ab (uV (l:=l) (root:=root) dm (fun h=>by omega))
     rw [← HK.out] at Li;have HFV:=ab Li;obtain ⟨p,hp⟩ : ∃ p,p=l[k]:=⟨_,rfl⟩;rw [← hp] at c1 c2 Fu HB wi;have hz:decide ((0:Int)<(k:Int))=false:=decide_eq_false (by omega)
     have pH:decide (0<k)=false:=decide_eq_false (by omega)
     have Mz:=ab h0;clear hp Li p7 kO S7 HC bO f1 f2 HK h0;go_wp2_with fail;refine (Fu.out _).mono ?_
     rintro e w2 ⟨rfl,aO⟩;have bJ:=ab (Below.next HB.out aO);have b0:w2.cell? ⟨wr.heap.size,0,none⟩=some (.string p.1):=(wi.out.below aO).2 0 (by simp)
     clear aO HB wi Fu c1 c2;go_wp2;go_quiet (fail)
     go_wp2;go_roundw
     case rel=>exact ⟨k+1,by omega,by go_num,HFV.out,uh.out,aB bJ.out _⟩
     case measure=>simp [intOf];omega
    ·have xX:k - 1<l.length:=by omega
     obtain ⟨g',o',he,d1,d2⟩:=HC.out (k - 1) xX;cases he;have JI:Hid (cX (l[k - 1]'xX).1 l[k].1=true→iU l root (k+1)=iU l root k):=fun h=>uV dm (fun _=>h)
     have U7:Hid (cX (l[k - 1]'xX).1 l[k].1=false→iU l root (k+1)=some 11):=fun h=>Hk dm (by omega) h
     obtain ⟨p,hp⟩ : ∃ p,p=l[k]:=⟨_,rfl⟩;obtain ⟨x,hx⟩ : ∃ x,x=(l[k - 1]'xX).1:=⟨_,rfl⟩;rw [← hp] at c1 c2 Fu HB wi JI U7;rw [← hx] at d1 JI U7;obtain ⟨k1,jA⟩ : ∃ k1,k1=k - 1:=⟨_,rfl⟩;have vS:IntKind.i64.wrap ((k:Int) - 1)=(k1:Int):=by rw [IntKind.wrap_i64];omega
     rw [← jA] at d1;have e1:wr.cell? ⟨g,o+k1*2,none⟩=some (.string x):=(bO.cell (p:=⟨g,o+k1*2,none⟩) (World.block_lt_of_cell? w _ d1)).trans d1;have hz:(0:Int)<(k:Int):=by omega
     have pH:0<k:=by omega
     have j1:(k1:Int)<(n:Int):=by omega
     have j0:(0:Int)≤(k1:Int):=by omega
     have Ic:=ab (World.block_lt_of_cell? wr _ e1);clear hp hx p7 kO S7 HC bO f1 f2 d1 d2 jA xX;cases hb:cX x p.1 with
     | true =>
      have jD:Op.bytesLess x.toList p.1.toList=true:=hb;have HK:=ab (JI.out hb);rw [← HK.out] at Li;have HFV:=ab Li;clear hb Li JI U7 HK;go_wp2_with fail;refine (Fu.out _).mono ?_
      rintro e w2 ⟨rfl,aO⟩;have bJ:=ab (Below.next HB.out aO);have b0:w2.cell? ⟨wr.heap.size,0,none⟩=some (.string p.1):=(wi.out.below aO).2 0 (by simp)
      have b1:w2.cell? ⟨g,o+k1*2,none⟩=some (.string x):=((Below.next (ai wr _) aO).cell (p:=⟨g,o+k1*2,none⟩) Ic.out).trans e1;clear aO HB wi Fu c1 c2 e1;go_wp2;go_quiet (fail)
      go_wp2;go_roundw
      case rel=>exact ⟨k+1,by omega,by go_num,HFV.out,uh.out,aB bJ.out _⟩
      case measure=>simp [intOf];omega
     | false =>
      have jD:Op.bytesLess x.toList p.1.toList=false:=hb;have HK:=ab (U7.out hb);clear hb Li JI U7;go_wp2_with fail;refine (Fu.out _).mono ?_
      rintro e w2 ⟨rfl,aO⟩;have bJ:=ab (Below.next HB.out aO);have b0:w2.cell? ⟨wr.heap.size,0,none⟩=some (.string p.1):=(wi.out.below aO).2 0 (by simp)
      have b1:w2.cell? ⟨g,o+k1*2,none⟩=some (.string x):=((Below.next (ai wr _) aO).cell (p:=⟨g,o+k1*2,none⟩) Ic.out).trans e1;have b2:w2.cell? ⟨11,0,none⟩=some (.iface 360 (.pointer (some (A 11)))):=(HE.out.below bJ.out).2;clear aO HB wi Fu c1 c2 e1;go_wp2;go_quiet (fail)
      go_wp2;go_roundw
      case rel=>exact ⟨k+1,by omega,by go_num,by rw [HK.out];rfl,uh.out,aB bJ.out _⟩
      case measure=>simp [intOf];omega
  ·have dS:¬ (k:Int)<(n:Int):=by omega
   have nX:Hid (iU l root k=B1 l root):=by
    have dj:l.take k=l:=by rw [aq];have:=HN.out;omega
    have tL:l.all cP=true:=List.all_eq_true.2 (fun p hp=>by
     obtain ⟨i,hi,rfl⟩:=aQ hp;exact HP.out i hi (by have:=HN.out;omega))
    show iU l root k=B1 l root
    unfold iU B1;rw [dj,tL];by_cases zB:gD l
    ·simp [zB]
    ·simp [zB]
   have HB:=ab bO;rw [nX.out];obtain ⟨fv,Li⟩ : ∃ fv,fv=iz A (B1 l root):=⟨_,rfl⟩;rw [← Li];have HFV:=ab Li;clear Li HC bO HP nX;go_wp2;rw [HQ.out];exact ⟨by rw [← HFV.out],HB.out⟩
end Go.Proofs.YtihmgigfkmofnaaGreatDoor
