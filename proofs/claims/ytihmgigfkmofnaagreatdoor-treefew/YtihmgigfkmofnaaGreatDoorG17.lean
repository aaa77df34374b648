import Derived.Test.YtihmgigfkmofnaaGreatDoorG12
import Derived.Laws.BitsAllLaws
set_option maxHeartbeats 2000000
open Go.Proofs.Tryz
namespace Go.Proofs.YtihmgigfkmofnaaGreatDoor
namespace S
def J2:List Nat:=[0,274646895,549293790,820201905,1098587580,1361435347,1640403810,1905808397,2197175160,2460548119,2722870694,2987750089,3280807620,3553878443,3811616794,4084100981]
def tab(i:Nat):Nat:=J2.getD i 0
def wF(x:Nat):Nat:=(x / 16) ^^^ tab (x % 16)
def Jt(x b:Nat):Nat:=wF (wF (x ^^^ b))
def kO(x:Nat)(l:List UInt8):Nat:=l.foldl (fun r b=>Jt r b.toNat) x
def nt(x:Nat):Nat:=4294967295 - x
theorem N4(x:Nat):nt x<4294967296:=by unfold nt;omega
theorem U2(x:Nat)(hx:x<4294967296):4294967295 ^^^ x=nt x:=by
 unfold nt;apply eR
 intro i;rw [Nat.testBit_xor];have h1:(4294967295:Nat)=2 ^ 32 - 1:=rfl;have h2:4294967295 - x=2 ^ 32 - (x+1):=by omega
 rw [h2,Nat.testBit_two_pow_sub_succ hx,h1,Nat.testBit_two_pow_sub_one];by_cases hi:i<32
 ·simp [hi]
 ·have:x.testBit i=false:=Nat.testBit_lt_two_pow (al hx (mq (n:=2) (i:=32) (by decide) (by omega)))
  simp [hi,this]
theorem Na(i:Nat):tab i<4294967296:=by
 unfold tab J2;rcases aZ i 16 with h | h
 ·have:∀ j:Fin 16,[0,274646895,549293790,820201905,1098587580,1361435347,1640403810,1905808397,2197175160,2460548119,2722870694,2987750089,3280807620,3553878443,3811616794,4084100981].getD j.1 0<4294967296:=by decide
  exact this ⟨i,h⟩
 ·rw [List.getD,bB (by simpa using h)];decide
theorem CP(y:Nat)(hy:y<4294967296):wF y<4294967296:=by
 unfold wF;exact Nat.xor_lt_two_pow (n:=32) (by omega) (Na _)
theorem EL(x:Nat)(l:List UInt8)(c:UInt8):kO x (l++[c])=Jt (kO x l) c.toNat:=by
 simp [kO,List.foldl_append]
open Go.RowKit
theorem RJ{k:IntKind}{a b:Nat}(h:a=b):Ending.returned (.int k (a:Int)) = .returned (.int k (b:Int)):=by rw [h]
theorem vN(x:Nat)(hx:x<4294967296):bits BinOp.xor IntKind.u32 IntKind.u32.max (x:Int)=((nt x:Nat):Int):=by
 have h:IntKind.u32.max=((4294967295:Nat):Int):=rfl;rw [h,u32_xor_nat _ _ (by omega) hx]
 exact congrArg Nat.cast (U2 x hx)
theorem Ik(y:Nat)(hy:y<4294967296):bits BinOp.xor IntKind.u32 ((y:Int) / 16) ((tab (y % 16):Nat):Int)=((wF y:Nat):Int):=by
 have:=u32_xor_nat (y / 16) (tab (y % 16)) (by omega) (Na _)
 rw [← show (((y / 16:Nat):Nat):Int)=(y:Int) / 16 from by omega]
 exact this
theorem Uv(y:Nat)(hy:y<4294967296):bits BinOp.and IntKind.u32 (y:Int) 15=((y % 16:Nat):Int):=by
 have:=u32_and_nat y 15 hy (by omega)
 rw [nat_mask4] at this;exact this
theorem Hj(x:Nat)(b off len cap:Nat)(l:List UInt8)(w:World)(hx:x<4294967296)(hlen:l.length=len)(hm:len≤140737488355328)(hc:∀ j (h:j<l.length),w.cell? ⟨b,off+j,none⟩=some (.int .u8 (l[j].toNat:Int)))(ht:∀ j,j<16→w.cell? ⟨15,j,none⟩=some (.int .u32 (tab j:Nat))):Calls prog 218 #[.int .u32 (x:Int),.slice (some ⟨b,off,none⟩) len cap] w fun e w'=>e = .returned (.int .u32 ((nt (kO (nt x) l):Nat):Int))∧w=w':=by
 have hnt:=vN x hx;have hy:nt x<4294967296:=N4 x;go_enter func218,ntmps218;go_wp2;go_loop [5,12] (fun r i=>∃ k y:Nat,k≤len∧y<4294967296∧i = .int .i64 k∧r = .int .u32 (y:Int)∧y=kO (nt x) (l.take k)) (fun _ i=>len - (intOf i).toNat)
 case atStart=>exact ⟨0,nt x,aC _,hy,rfl,rfl,rfl⟩
 case round =>
  obtain ⟨k,y,hk,hy,rfl,rfl,X3⟩:=hrel;have HY:Hid (y=kO (nt x) (l.take k)):=X3;clear X3;by_cases bX:k<len
  ·have kV:=hc k (by omega)
   obtain ⟨c,Mx⟩ : ∃ c:Nat,c=(l[k]'(by omega)).toNat:=⟨_,rfl⟩
   have Um:c<256:=by rw [Mx];exact UInt8.toNat_lt _
   rw [← Mx] at kV;have HC:Hid (c=(l[k]'(by omega)).toNat):=Mx
   clear Mx;have sO:(c:Int) % 4294967296=(c:Int):=by omega
   obtain ⟨y1,WR⟩ : ∃ y1:Nat,y1=y ^^^ c:=⟨_,rfl⟩;have Vc:y1<4294967296:=by rw [WR];exact Nat.xor_lt_two_pow (n:=32) hy (by omega)
   have e1:bits BinOp.xor IntKind.u32 (y:Int) (c:Int)=(y1:Int):=by rw [WR];exact u32_xor_nat y c hy (by omega)
   have e2:bits BinOp.and IntKind.u32 (y1:Int) 15=((y1 % 16:Nat):Int):=Uv y1 Vc;have t1:=ht (y1 % 16) (by omega)
   have b1:(0:Int)≤((y1 % 16:Nat):Int):=by omega
   have b2:((y1 % 16:Nat):Int)<16:=by omega
   obtain ⟨y2,WQ⟩ : ∃ y2:Nat,y2=wF y1:=⟨_,rfl⟩;have Vb:y2<4294967296:=by rw [WQ];exact CP y1 Vc
   have e3:bits BinOp.xor IntKind.u32 ((y1:Int) / 16) ((tab (y1 % 16):Nat):Int)=(y2:Int):=by rw [WQ];exact Ik y1 Vc
   have e4:bits BinOp.and IntKind.u32 (y2:Int) 15=((y2 % 16:Nat):Int):=Uv y2 Vb;have t2:=ht (y2 % 16) (by omega)
   have b3:(0:Int)≤((y2 % 16:Nat):Int):=by omega
   have b4:((y2 % 16:Nat):Int)<16:=by omega
   obtain ⟨y3,hy3⟩ : ∃ y3:Nat,y3=wF y2:=⟨_,rfl⟩;have abx:y3<4294967296:=by rw [hy3];exact CP y2 Vb
   have e5:bits BinOp.xor IntKind.u32 ((y2:Int) / 16) ((tab (y2 % 16):Nat):Int)=(y3:Int):=by rw [hy3];exact Ik y2 Vb
   have HR:Hid (y3=kO (nt x) (l.take (k+1))):=by
    show y3=_
    rw [zY l k (by omega),EL,← HY.out,← HC.out,hy3,WQ,WR];rfl
   clear WR WQ hy3 hc ht;go_wp2;go_round
   case rel=>exact ⟨k+1,y3,by omega,abx,by go_num,rfl,HR.out⟩
   case measure=>simp [intOf];omega
  ·have Pc:l.take k=l:=ar (by omega)
   have abW:=vN y hy;have HE:Hid (y=kO (nt x) l):=by
    show y=_
    rw [HY.out,Pc]
   clear Pc hc ht;go_wp2;go_ret;exact ⟨RJ (congrArg nt HE.out),rfl⟩
def Rd(w:World)(v:Value)(l:List UInt8):Prop :=
 (v = .slice none 0 0∧l=[])∨∃ g cap,v = .slice (some ⟨g,0,none⟩) l.length cap∧l.length≤cap∧cap≤maxLen∧g<w.heap.size∧(∀ j (h:j<l.length),w.cell? ⟨g,j,none⟩=some (.int .u8 (l[j].toNat:Int)))
def E7(w:World):Prop:=(∀ j,j<16→w.cell? ⟨15,j,none⟩=some (.int .u32 (tab j:Nat)))∧15<w.heap.size
def B3(l:List UInt8):Nat:=nt (kO (nt 0) l)
theorem Gf{w:World}{base n:Nat}{v:Value}{l:List UInt8}(h:w.ownsRow base 5 1 v n (dR l)):Rd w v l:=by
 have hl:=h.1;rw [a6,Nat.mul_one] at hl;subst hl;by_cases h0:l.length=0
 ·rcases h.2 with ⟨h',_⟩ | ⟨g,cap,cur,h',hb,hg,hn,hc,_,_⟩
  ·exact .inl ⟨h',List.length_eq_zero_iff.1 h0⟩
  ·refine .inr ⟨g,cap,h',hn,hc,?_,fun j hj=>by omega⟩
   rcases aZ g w.heap.size with bX | Ep
   ·exact bX
   ·rw [aV Ep] at hg;cases hg
 ·obtain ⟨g,cap,rfl,hb,bX⟩:=h.form (by omega)
  refine .inr ⟨g,cap,rfl,?_,?_,bX,fun j hj=>by rw [h.cellAt j (by omega),iz l j hj]⟩
  ·rcases h.2 with ⟨h',_⟩ | ⟨g',eO,cur,h',_,_,hn,hc,_,_⟩
   ·cases h'
   ·cases h';exact hn
  ·rcases h.2 with ⟨h',_⟩ | ⟨g',eO,cur,h',_,_,hn,hc,_,_⟩
   ·cases h'
   ·cases h';exact hc
theorem E7.below{w w':World}(h:E7 w)(hb:Below w.heap.size w w'):E7 w' :=
 ⟨fun j hj=>(hb.cell (p:=⟨15,j,none⟩) h.2).trans (h.1 j hj),al h.2 hb.size⟩
theorem EM(x:Nat)(w:World)(hx:x<4294967296):Calls prog 218 #[.int .u32 (x:Int),.slice none 0 0] w fun e w'=>e = .returned (.int .u32 ((nt (nt x):Nat):Int))∧w=w':=by
 have hnt:=vN x hx;have abW:=vN (nt x) (N4 x);go_enter func218,ntmps218;go_wp2;go_loop [5,12] (fun r i=>i = .int .i64 0∧r = .int .u32 (nt x:Int)) (fun _ i=>0)
 case atStart=>exact ⟨rfl,rfl⟩
 case round =>
  obtain ⟨rfl,rfl⟩:=hrel;go_wp2;go_ret;exact ⟨rfl,rfl⟩
theorem Hi(x:Nat)(X:Int)(v:Value)(l:List UInt8)(w:World)(hX:X=(x:Int))(hx:x<4294967296)(hm:l.length≤140737488355328)(hr:Rd w v l)(ht:E7 w):Calls prog 218 #[.int .u32 X,v] w fun e w'=>e = .returned (.int .u32 ((nt (kO (nt x) l):Nat):Int))∧w=w':=by
 subst hX;rcases hr with ⟨rfl,rfl⟩ | ⟨g,cap,rfl,h1,h2,h3,h4⟩
 ·exact EM x w hx
 ·exact Hj x g 0 l.length cap l w hx rfl hm (fun j hj=>by rw [Nat.zero_add];exact h4 j hj) ht.1
theorem V3(v:Value)(l:List UInt8)(w:World)(hm:l.length≤140737488355328)(hr:Rd w v l)(ht:E7 w):Calls prog 172 #[v] w fun e w'=>e = .returned (.int .u32 ((B3 l:Nat):Int))∧w=w':=by
 have H:=Hi 0 0 v l w rfl (by decide) hm hr ht
 have HH:Hid (Calls prog 218 #[.int .u32 0,v] w fun e w'=>e = .returned (.int .u32 ((nt (kO (nt 0) l):Nat):Int))∧w=w'):=H
 clear H hr ht;go_enter func172,ntmps172;go_wp2_with (go_at_call 218;refine HH.out.mono ?_;rintro e w' ⟨rfl,rfl⟩)
 go_ret;exact ⟨rfl,rfl⟩
def fits(n:Nat)(width:Int):Prop:=1≤width∧width≤8∧n<2 ^ (8*width.toNat)
theorem abp(A:Nat→Addr)(n:Nat)(width:Int)(w:World)(hn:n<18446744073709551616)(vT : -9223372036854775808≤width)(QU:width≤9223372036854775807)(hA:WK A w)(fy:¬ fits n width):Calls prog 217 #[.int .u64 (n:Int),.int .i64 width] w fun e w'=>e = .returned (.tuple #[.slice none 0 0,.iface 360 (.pointer (some (A 0)))])∧Below w.heap.size w w':=by
 have c0:w.cell? ⟨0,0,none⟩=some (.iface 360 (.pointer (some (A 0)))):=(hA.1 0 (by decide)).1
 clear hA;by_cases h1:width<1
 ·have sN:decide (width<1)=true:=decide_eq_true h1;clear fy;go_enter func217,ntmps217;go_wp2_with fail;go_quiet (fail)
  go_wp2_with fail;go_ret2;exact ⟨rfl,below_drewN (Below.refl _ _) _⟩
 ·have sN:decide (width<1)=false:=decide_eq_false h1;by_cases h8:8<width
  ·have KX:decide (8<width)=true:=decide_eq_true h8;clear fy;go_enter func217,ntmps217;go_wp2_with fail;go_quiet (fail)
   go_wp2_with fail;go_ret2;exact ⟨rfl,below_drewN (Below.refl _ _) _⟩
  ·have KX:decide (8<width)=false:=decide_eq_false h8;obtain ⟨m,rfl⟩:=cz (show 0≤width by omega)
   have hb:¬ Lib.bitLen n≤8*m:=by
    rw [uY n (8*m) (by omega) hn]
    intro h;exact fy ⟨by omega,by omega,by simpa using h⟩
   have hd3:decide (8*(m:Int)<((Lib.bitLen n:Nat):Int))=true:=decide_eq_true (by omega)
   clear fy;go_enter func217,ntmps217;go_wp2_with (go_at_call 146;refine (tp n _ hn).mono ?_;rintro e w' ⟨rfl,rfl⟩)
   go_quiet (fail)
   go_wp2_with fail;go_ret2;exact ⟨rfl,below_drewN (Below.refl _ _) _⟩
def cG(w:World)(g:Nat)(l:List UInt8):Prop:=w.heap[g]?=some (.cells (dR l).toArray 5 (0,0))
theorem cG.lt{w:World}{g:Nat}{l:List UInt8}(h:cG w g l):g<w.heap.size:=by
 rcases aZ g w.heap.size with h' | h'
 ·exact h'
 ·unfold cG at h;rw [aV h'] at h;cases h
theorem cG.cell{w:World}{g:Nat}{l:List UInt8}(h:cG w g l)(j:Nat)(hj:j<l.length):w.cell? ⟨g,j,none⟩=some (.int .u8 (l[j].toNat:Int)):=by
 rw [cell_of_row w g j _ _ _ h];simpa using iz l j hj
theorem cG.below{w w':World}{g:Nat}{l:List UInt8}(h:cG w g l)(hb:Below w.heap.size w w'):cG w' g l:=by
 unfold cG;rw [hb.block g h.lt];exact h
theorem cG.abo{w w':World}{g rb:Nat}{l:List UInt8}(h:cG w g l)(hb:bK rb w w')(hn:g≠rb):cG w' g l:=by
 unfold cG;rw [hb.block g h.lt hn];exact h
theorem LF{w:World}{g o cap g2 o2 c2:Nat}{l c:List UInt8}(hr:cG w g l)(hc:∀ j (h:j<c.length),w.cell? ⟨g2,o2+j,none⟩=some (.int .u8 (c[j].toNat:Int)))(eE:o+c.length≤l.length):∃ w2,(Builtin.copy_ #[145,145] 3 #[.slice (some ⟨g,o,none⟩) c.length cap,.slice (some ⟨g2,o2,none⟩) c.length c2]).run prog w = .ok (goInt c.length) w2∧cG w2 g (splice l o c)∧bK g w w2:=by
 have bo:=run_copy_row (P:=prog) w 145 145 3 5 g o c.length cap ⟨g2,o2,none⟩ c.length c2 _ 5 (dR c) underlying145 uk hr (by rw [a6];exact (Nat.min_self _).symm)
  (fun j v hv=>by
   by_cases hj:j<c.length
   ·rw [iz c j hj] at hv;cases hv;rw [show (⟨g2,o2,none⟩ : Addr).add j=⟨g2,o2+j,none⟩ by simp [Addr.add]]
    exact hc j hj
   ·rw [bB (by rw [a6];omega)] at hv;cases hv)
  (by rw [a6];simp [a6];omega) (rp c)
 rw [a6] at bo;refine ⟨_,bo,?_,bK.setRow g w _⟩;have bV:=setRow_heap w g _ ((dR l).toArray.toList.take o++dR c++(dR l).toArray.toList.drop (o+c.length)).toArray 5 _ hr;unfold cG;rw [bV,← qh,splice,a6,ax]
theorem LG{w:World}{g o cap n:Nat}{l:List UInt8}(s:ByteArray)(hr:cG w g l)(hn:n=s.size)(eE:o+s.size≤l.length):∃ w2,(Builtin.copy_ #[145,9] 3 #[.slice (some ⟨g,o,none⟩) n cap,.string s]).run prog w = .ok (goInt s.size) w2∧cG w2 g (splice l o s.data.toList)∧bK g w w2:=by
 have bo:=Lib.run_copy_row_string (P:=prog) w 145 9 3 5 g o n cap s _ 5 underlying145 uk hr (by omega) (by simp [a6];omega)
 refine ⟨_,bo,?_,bK.setRow g w _⟩;have bV:=setRow_heap w g _ ((dR l).toArray.toList.take o++Lib.byteCells s.data.toList++(dR l).toArray.toList.drop (o+s.size)).toArray 5 _ hr;unfold cG;rw [bV,← qh,splice,a6,bsize,ax];rfl
structure Sh where
 kind:Int
 id:Int
 s7:Nat
 count:Int
 body:ByteArray
def Sh.cells(s:Sh):List Value:=[.int .i64 s.kind,.int .i64 s.id,.int .u64 (s.s7:Int),.int .i64 s.count,.string s.body]
def sS(s:Sh):Prop:=(s.kind=66∨s.kind=76)∧(0≤s.count∧s.count≤65535)∧(2≤s.id∧s.id<1048576)∧s.body.size=4072
instance (s:Sh):Decidable (sS s):=inferInstanceAs (Decidable (_∧_))
def bare(k c i t sum:Nat)(body:List UInt8):List UInt8 :=
 bI k 1++([0]++(bI c 2++(bI i 4++(bI t 8++(bI sum 4++([0,0,0,0]++body))))))
def Al(s:Sh)(sum:Nat):List UInt8:=bare s.kind.toNat s.count.toNat s.id.toNat s.s7 sum s.body.data.toList
def hU(s:Sh):List UInt8:=Al s (B3 (Al s 0))
theorem E3(k c i t sum:Nat)(body:List UInt8):(bare k c i t sum body).length=24+body.length:=by
 simp [bare,eD];omega
theorem Kr(s:Sh)(sum:Nat)(h:sS s):(Al s sum).length=4096:=by
 rw [Al,E3,bsize,h.2.2.2]
theorem lQ(s:Sh)(h:sS s):(hU s).length=4096:=Kr s _ h
def place(k:Nat):Nat:=match k with | 0=>0 | 1=>2 | 2=>4 | 3=>8 | _=>16
def width(k:Nat):Nat:=match k with | 0=>1 | 1=>2 | 2=>4 | 3=>8 | _=>4
def eB(l:List UInt8)(h:Nat→Nat):Nat→List UInt8
 | 0=>l
 | k+1=>splice (eB l h k) (place k) (bI (h k) (width k))
def Q5(a b c d e:Nat):Nat→Nat:=fun k=>match k with | 0=>a | 1=>b | 2=>c | 3=>d | _=>e
theorem NN(k:Nat):place k+width k≤20:=by
 unfold place width;split <;> simp_all
theorem CM(k:Nat):1≤width k∧width k≤8:=by
 unfold width;split <;> simp
theorem G2(l:List UInt8)(h:Nat→Nat)(hl:20≤l.length)(k:Nat):(eB l h k).length=l.length:=by
 induction k with
 | zero=>rfl
 | succ k ih =>
  have h1:=NN k;have h2:=eD (h k) (width k) (CM k).2;rw [eB,length_splice _ _ _ (by rw [h2,ih];omega),ih]
theorem uI(x0 x1 x2 x3 x4 x5 x6 x7 x8 x9 x10 x11 x12 x13 x14 x15 x16 x17 x18 x19 x20 x21 x22 x23:UInt8)(body:List UInt8)(a b c d e:Nat) :
  eB (x0::x1::x2::x3::x4::x5::x6::x7::x8::x9::x10::x11::x12::x13::x14::x15::x16::x17::x18::x19::x20::x21::x22::x23::body) (Q5 a b c d e) 5 =
   j7 a 7::x1::j7 b 6::j7 b 7::j7 c 4::j7 c 5::j7 c 6::j7 c 7::j7 d 0::j7 d 1::j7 d 2::j7 d 3::j7 d 4::j7 d 5::j7 d 6::j7 d 7::j7 e 4::j7 e 5::j7 e 6::j7 e 7::x20::x21::x22::x23::body:=rfl
theorem Cd(a b c d e:Nat)(body:List UInt8):bare a b c d e body =
   j7 a 7::0::j7 b 6::j7 b 7::j7 c 4::j7 c 5::j7 c 6::j7 c 7::j7 d 0::j7 d 1::j7 d 2::j7 d 3::j7 d 4::j7 d 5::j7 d 6::j7 d 7::j7 e 4::j7 e 5::j7 e 6::j7 e 7::0::0::0::0::body:=rfl
theorem G1(a b c d:Nat)(body:List UInt8):eB (List.replicate 24 0++body) (Q5 a b c d 0) 5=bare a b c d 0 body:=by
 show eB (0::0::0::0::0::0::0::0::0::0::0::0::0::0::0::0::0::0::0::0::0::0::0::0::body) (Q5 a b c d 0) 5=_
 rw [uI,Cd]
theorem KW(a b c d e e':Nat)(body:List UInt8):eB (bare a b c d e body) (Q5 a b c d e') 5=bare a b c d e' body:=by
 rw [Cd,uI,Cd]
def Lay(w:World):Prop:=14<w.heap.size∧w.cell? ⟨14,0,none⟩=some (.int .i64 0)∧w.cell? ⟨14,1,none⟩=some (.int .i64 1)∧w.cell? ⟨14,2,none⟩=some (.int .i64 2)∧w.cell? ⟨14,3,none⟩=some (.int .i64 2)∧w.cell? ⟨14,4,none⟩=some (.int .i64 4)∧w.cell? ⟨14,5,none⟩=some (.int .i64 4)∧w.cell? ⟨14,6,none⟩=some (.int .i64 8)∧w.cell? ⟨14,7,none⟩=some (.int .i64 8)∧w.cell? ⟨14,8,none⟩=some (.int .i64 16)∧w.cell? ⟨14,9,none⟩=some (.int .i64 4)
theorem Lay.below{w w':World}(h:Lay w)(hb:Below w.heap.size w w'):Lay w':=by
 obtain ⟨h0,c0,c1,c2,c3,c4,c5,c6,c7,c8,c9⟩:=h;exact ⟨al h0 hb.size,(hb.cell h0).trans c0,(hb.cell h0).trans c1,(hb.cell h0).trans c2,(hb.cell h0).trans c3,(hb.cell h0).trans c4,(hb.cell h0).trans c5,(hb.cell h0).trans c6,(hb.cell h0).trans c7,(hb.cell h0).trans c8,(hb.cell h0).trans c9⟩
theorem rn(g hb o m k n cap:Nat)(l:List UInt8)(w:World)(hk:k<5)(hn:n<18446744073709551616)(h1:1≤m)(h8:m≤8)(eE:n<2 ^ (8*m))(hr:cG w g l)(FA:o+m≤l.length)(hc:w.cell? ⟨hb,k,none⟩=some (.int .u64 (n:Int))):Calls prog 216 #[.int .i64 (k:Int),.slice (some ⟨g,o,none⟩) m cap,.pointer (some ⟨hb,0,none⟩)] w fun e w'=>e = .returned (.tuple #[])∧cG w' g (splice l o (bI n m))∧bK g w w':=by
 have HR:Hid (cG w g l):=hr;have HP:Hid (o+m≤l.length):=FA;have HF:Hid (n<2 ^ (8*m)):=eE;have hl:=eD n m h8;have k0:(0:Int)≤(k:Int):=by omega
 have k5:(k:Int)<5:=by omega
 clear hr FA eE;go_enter func216,ntmps216;go_wp2_with (go_at_call 217;refine (wZ n m _ hn h1 h8 HF.out).mono ?_;rintro e w1 ⟨g2,c2,rfl,aD,aN⟩;have eN:=HR.out.below aN;obtain ⟨w2,zf,iK,j8⟩:=LF (o2:=0) (g2:=g2) (c2:=c2) (cap:=cap) (c:=bI n m) eN (fun j hj=>by rw [Nat.zero_add,aD.cellAt j (by omega),iz _ j hj]) (by rw [hl];exact HP.out);rw [hl] at zf;have HS:Hid (bK g w w2):=(bK.bx aN).trans j8;have oR:Hid (cG w2 g (splice l o (bI n m))):=iK;clear eN iK j8 aN aD)
 go_end0
 exact ⟨rfl,oR.out,HS.out⟩
theorem cG.alloc{w:World}{g:Nat}{l:List UInt8}(h:cG w g l)(o:Obj):cG (w.alloc o) g l:=h.below (ai w o)
def mr(h:Nat→Nat):Prop:=∀ k,k<5→h k<2 ^ (8*width k)
theorem mr.u64{h:Nat→Nat}(hf:mr h)(k:Nat)(hk:k<5):h k<18446744073709551616 :=
 al (hf k hk) (aq (mq (n:=2) (i:=8*width k) (j:=64) (by decide) (by have:=(CM k).2;omega)) (by decide))
@[reducible] def abr:Value:=.agg #[.int .i64 0,.int .i64 1,.int .i64 2,.int .i64 2,.int .i64 4,.int .i64 4,.int .i64 8,.int .i64 8,.int .i64 16,.int .i64 4]
theorem gx(w:World)(k:Nat)(hk:k<5):(Instr.index 327 abr (.int .i64 (k:Int))).run prog w = .ok (.agg #[.int .i64 (place k:Int),.int .i64 (width k:Int)]) w:=by
 obtain rfl | rfl | rfl | rfl | rfl:k=0∨k=1∨k=2∨k=3∨k=4:=by omega
 all_goals kernel_rfl
theorem Lq(g hb:Nat)(h:Nat→Nat)(l:List UInt8)(w:World)(hl:l.length=4096)(iq:g≠hb)(hL:Lay w)(hr:cG w g l)(hf:mr h)(hc:∀ k,k<5→w.cell? ⟨hb,k,none⟩=some (.int .u64 (h k:Int))):Calls prog 215 #[.slice (some ⟨g,0,none⟩) 4096 4096,.func (.func 216) #[] #[.pointer (some ⟨hb,0,none⟩)]] w fun e w'=>e = .returned (.tuple #[])∧cG w' g (eB l h 5)∧bK g w w':=by
 obtain ⟨Xi,c0,c1,c2,c3,c4,c5,c6,c7,c8,c9⟩:=hL;have HC:Hid (∀ k,k<5→w.cell? ⟨hb,k,none⟩=some (.int .u64 (h k:Int))):=hc;have HR:Hid (cG w g l):=hr;have HF:Hid (mr h):=hf;have HL:Hid (l.length=4096):=hl;clear hc hr hf hl Xi;go_enter func215,ntmps215;go_wp2_with fail;go_loopw [7] (fun i wr=>∃ k:Nat,k≤5∧i = .int .i64 (k:Int)∧cG wr g (eB l h k)∧bK g w wr) (fun i _=>5 - (intOf i).toNat)
 case atStart=>exact ⟨0,by omega,rfl,HR.out,bK.refl _ _⟩
 case round =>
  obtain ⟨k,hk,rfl,bV,hs⟩:=hrel;clear c0 c1 c2 c3 c4 c5 c6 c7 c8 c9;have HS:Hid (bK g w wr):=hs;have HW:Hid (cG wr g (eB l h k)):=bV;clear hs bV;by_cases bX:k<5
  ·have nR:Hid (∀ o,(wr.alloc o).cell? ⟨hb,k,none⟩=some (.int .u64 (h k:Int))):=fun o =>
    ((ai wr o).cell (p:=⟨hb,k,none⟩) (al (World.block_lt_of_cell? w _ (HC.out k bX)) HS.out.size)).trans (HS.out.cell (HC.out k bX) (fun e=>iq e.symm))
   have yW:Hid ((eB l h k).length=4096):=by show _=_;rw [G2 _ _ (by rw [HL.out];omega),HL.out]
   have WC:Hid (h k<2 ^ (8*width k)):=HF.out k bX;have ZM:Hid (h k<18446744073709551616):=HF.out.u64 k bX;obtain rfl | rfl | rfl | rfl | rfl:k=0∨k=1∨k=2∨k=3∨k=4:=by omega
   ·have li:=fun w=>gx w 0 (by decide)
    rw [show ((0:Nat):Int)=0 from rfl] at li ⊢
    simp only [place,width,dj] at li;go_wp2_with (go_at_call 216;refine (rn g hb 0 1 0 (h 0) 4096 (eB l h 0) _ (by decide) ZM.out (by decide) (by decide) WC.out (HW.out.alloc _) (by rw [yW.out];decide) (nR.out _)).mono ?_;rintro e w1 ⟨rfl,eN,jT⟩;have nK:Hid (cG w1 g (eB l h (0+1))):=eN;have qe:Hid (bK g w w1):=HS.out.trans ((bK.bx (ai wr _)).trans jT);clear eN jT)
    go_roundw
    case rel=>exact ⟨1,by omega,by go_num,nK.out,qe.out⟩
    case measure=>simp [intOf]
   ·have li:=fun w=>gx w 1 (by decide)
    rw [show ((1:Nat):Int)=1 from rfl] at li ⊢
    simp only [place,width,dj] at li;go_wp2_with (go_at_call 216;refine (rn g hb 2 2 1 (h 1) 4094 (eB l h 1) _ (by decide) ZM.out (by decide) (by decide) WC.out (HW.out.alloc _) (by rw [yW.out];decide) (nR.out _)).mono ?_;rintro e w1 ⟨rfl,eN,jT⟩;have nK:Hid (cG w1 g (eB l h (1+1))):=eN;have qe:Hid (bK g w w1):=HS.out.trans ((bK.bx (ai wr _)).trans jT);clear eN jT)
    go_roundw
    case rel=>exact ⟨2,by omega,by go_num,nK.out,qe.out⟩
    case measure=>simp [intOf]
   ·have li:=fun w=>gx w 2 (by decide)
    rw [show ((2:Nat):Int)=2 from rfl] at li ⊢
    simp only [place,width,dj] at li;go_wp2_with (go_at_call 216;refine (rn g hb 4 4 2 (h 2) 4092 (eB l h 2) _ (by decide) ZM.out (by decide) (by decide) WC.out (HW.out.alloc _) (by rw [yW.out];decide) (nR.out _)).mono ?_;rintro e w1 ⟨rfl,eN,jT⟩;have nK:Hid (cG w1 g (eB l h (2+1))):=eN;have qe:Hid (bK g w w1):=HS.out.trans ((bK.bx (ai wr _)).trans jT);clear eN jT)
    go_roundw
    case rel=>exact ⟨3,by omega,by go_num,nK.out,qe.out⟩
    case measure=>simp [intOf]
   ·have li:=fun w=>gx w 3 (by decide)
    rw [show ((3:Nat):Int)=3 from rfl] at li ⊢
    simp only [place,width,dj] at li;go_wp2_with (go_at_call 216;refine (rn g hb 8 8 3 (h 3) 4088 (eB l h 3) _ (by decide) ZM.out (by decide) (by decide) WC.out (HW.out.alloc _) (by rw [yW.out];decide) (nR.out _)).mono ?_;rintro e w1 ⟨rfl,eN,jT⟩;have nK:Hid (cG w1 g (eB l h (3+1))):=eN;have qe:Hid (bK g w w1):=HS.out.trans ((bK.bx (ai wr _)).trans jT);clear eN jT)
    go_roundw
    case rel=>exact ⟨4,by omega,by go_num,nK.out,qe.out⟩
    case measure=>simp [intOf]
   ·have li:=fun w=>gx w 4 (by decide)
    rw [show ((4:Nat):Int)=4 from rfl] at li ⊢
    simp only [place,width,dj] at li;go_wp2_with (go_at_call 216;refine (rn g hb 16 4 4 (h 4) 4080 (eB l h 4) _ (by decide) ZM.out (by decide) (by decide) WC.out (HW.out.alloc _) (by rw [yW.out];decide) (nR.out _)).mono ?_;rintro e w1 ⟨rfl,eN,jT⟩;have nK:Hid (cG w1 g (eB l h (4+1))):=eN;have qe:Hid (bK g w w1):=HS.out.trans ((bK.bx (ai wr _)).trans jT);clear eN jT)
    go_roundw
    case rel=>exact ⟨5,by omega,by go_num,nK.out,qe.out⟩
    case measure=>simp [intOf]
  ·obtain rfl:k=5:=by omega
   rw [show ((5:Nat):Int)=5 from rfl]
   go_wp2_with fail;go_end0
   exact ⟨rfl,HW.out,HS.out⟩
theorem sg(i:Int)(w:World):Calls prog 150 #[.int .i64 i] w fun e w'=>e = .returned (.bool (decide (2≤i∧i<1048576)))∧w=w':=by
 by_cases h1:2≤i
 ·by_cases h2:i<1048576
  ·have e1:decide (2≤i∧i<1048576)=true:=by simp [h1,h2]
   rw [e1];go_enter func150,ntmps150;go_wp2;go_ret;exact ⟨rfl,rfl⟩
  ·have e1:decide (2≤i∧i<1048576)=false:=by simp [h2]
   rw [e1];go_enter func150,ntmps150;go_wp2;go_ret;exact ⟨rfl,rfl⟩
 ·have e1:decide (2≤i∧i<1048576)=false:=by simp [h1]
  rw [e1];go_enter func150,ntmps150;go_wp2;go_ret;exact ⟨rfl,rfl⟩
theorem pq(s:Sh)(w:World)(hs:s.body.size≤140737488355328):Calls prog 131 #[.agg s.cells.toArray] w fun e w'=>e = .returned (.bool (decide (sS s)))∧Below w.heap.size w w':=by
 obtain ⟨k,i,t,c,b⟩:=s;simp only [Sh.cells] at hs ⊢;have cp:(b.size:Int)≤140737488355328:=by omega
 have oG:=ai w (.cells #[.int .i64 k,.int .i64 i,.int .u64 (t:Int),.int .i64 c,.string b] 87);have HB:Hid (Below w.heap.size w (w.alloc (.cells #[.int .i64 k,.int .i64 i,.int .u64 (t:Int),.int .i64 c,.string b] 87))):=oG;clear oG;by_cases hk:k=66∨k=76
 ·by_cases hc:0≤c∧c≤65535
  ·by_cases hi:2≤i∧i<1048576
   ·obtain ⟨AP,SI⟩:=hc;by_cases hb:b.size=4072
    ·have e1:decide (sS ⟨k,i,t,c,b⟩)=true:=decide_eq_true ⟨hk,⟨AP,SI⟩,hi,hb⟩;have aY:(b.size:Int)=4072:=by omega
     have HI:=sg i;rw [decide_eq_true hi] at HI;have HI2:Hid (∀ w,Calls prog 150 #[.int .i64 i] w fun e w'=>e = .returned (.bool true)∧w=w'):=HI
     rw [e1];clear e1 hi HI hb;rcases hk with rfl | rfl
     all_goals
      go_enter func131,ntmps131;go_wp2_with (go_at_call 150;refine (HI2.out _).mono ?_;rintro e w' ⟨rfl,rfl⟩)
      go_ret;exact ⟨rfl,HB.out⟩
    ·have e1:decide (sS ⟨k,i,t,c,b⟩)=false:=decide_eq_false fun h=>hb h.2.2.2
     have aY:((b.size:Int) == 4072)=false:=beq_eq_false_iff_ne.2 (by omega)
     have HI:=sg i;rw [decide_eq_true hi] at HI;have HI2:Hid (∀ w,Calls prog 150 #[.int .i64 i] w fun e w'=>e = .returned (.bool true)∧w=w'):=HI
     rw [e1];clear e1 hi HI hb;rcases hk with rfl | rfl
     all_goals
      go_enter func131,ntmps131;go_wp2_with (go_at_call 150;refine (HI2.out _).mono ?_;rintro e w' ⟨rfl,rfl⟩)
      go_ret;exact ⟨rfl,HB.out⟩
   ·obtain ⟨AP,SI⟩:=hc;have e1:decide (sS ⟨k,i,t,c,b⟩)=false:=decide_eq_false fun h=>hi h.2.2.1
    have HI:=sg i;rw [decide_eq_false hi] at HI;have HI2:Hid (∀ w,Calls prog 150 #[.int .i64 i] w fun e w'=>e = .returned (.bool false)∧w=w'):=HI
    rw [e1];clear e1 hi HI;rcases hk with rfl | rfl
    all_goals
     go_enter func131,ntmps131;go_wp2_with (go_at_call 150;refine (HI2.out _).mono ?_;rintro e w' ⟨rfl,rfl⟩)
     go_ret;exact ⟨rfl,HB.out⟩
  ·have e1:decide (sS ⟨k,i,t,c,b⟩)=false:=decide_eq_false fun h=>hc h.2.1
   rw [e1];clear e1;by_cases AP:0≤c
   ·have SI:¬ c≤65535:=fun h=>hc ⟨AP,h⟩
    clear hc;rcases hk with rfl | rfl
    all_goals
     go_enter func131,ntmps131;go_wp2_with fail;go_ret;exact ⟨rfl,HB.out⟩
   ·clear hc;rcases hk with rfl | rfl
    all_goals
     go_enter func131,ntmps131;go_wp2_with fail;go_ret;exact ⟨rfl,HB.out⟩
 ·have e1:decide (sS ⟨k,i,t,c,b⟩)=false:=decide_eq_false fun h=>hk h.1
  rw [e1];clear e1;have jm:¬ k=66:=fun h=>hk (.inl h)
  have pC:¬ k=76:=fun h=>hk (.inr h)
  clear hk;by_cases AP:0≤c
  ·by_cases SI:c≤65535
   ·go_enter func131,ntmps131;go_wp2_with fail;go_ret;exact ⟨rfl,HB.out⟩
   ·go_enter func131,ntmps131;go_wp2_with fail;go_ret;exact ⟨rfl,HB.out⟩
  ·go_enter func131,ntmps131;go_wp2_with fail;go_ret;exact ⟨rfl,HB.out⟩
theorem pV(g:Nat)(a b c d e:Nat)(l:List UInt8)(w:World)(hl:l.length=4096)(hL:Lay w)(hr:cG w g l)(hf:mr (Q5 a b c d e)):Calls prog 171 #[.slice (some ⟨g,0,none⟩) 4096 4096,.agg #[.int .u64 (a:Int),.int .u64 (b:Int),.int .u64 (c:Int),.int .u64 (d:Int),.int .u64 (e:Int)]] w fun x w'=>x = .returned (.tuple #[])∧cG w' g (eB l (Q5 a b c d e) 5)∧bK g w w':=by
 have bX:=hr.lt;have pO:=bM w #[.int .u64 (a:Int),.int .u64 (b:Int),.int .u64 (c:Int),.int .u64 (d:Int),.int .u64 (e:Int)] 256;have fh:=ai w (.cells #[.int .u64 (a:Int),.int .u64 (b:Int),.int .u64 (c:Int),.int .u64 (d:Int),.int .u64 (e:Int)] 256);have C:=Lq g w.heap.size (Q5 a b c d e) l (w.alloc (.cells #[.int .u64 (a:Int),.int .u64 (b:Int),.int .u64 (c:Int),.int .u64 (d:Int),.int .u64 (e:Int)] 256)) hl (by omega) (hL.below fh) (hr.below fh) hf (fun k hk=>by
  obtain rfl | rfl | rfl | rfl | rfl:k=0∨k=1∨k=2∨k=3∨k=4:=by omega
  ·exact pO.2 0 (by simp)
  ·exact pO.2 1 (by simp)
  ·exact pO.2 2 (by simp)
  ·exact pO.2 3 (by simp)
  ·exact pO.2 4 (by simp))
 have Fb:Hid (bK g w (w.alloc (.cells #[.int .u64 (a:Int),.int .u64 (b:Int),.int .u64 (c:Int),.int .u64 (d:Int),.int .u64 (e:Int)] 256))):=bK.bx fh;have HC:Hid (Calls prog 215 #[.slice (some ⟨g,0,none⟩) 4096 4096,.func (.func 216) #[] #[.pointer (some ⟨w.heap.size,0,none⟩)]] (w.alloc (.cells #[.int .u64 (a:Int),.int .u64 (b:Int),.int .u64 (c:Int),.int .u64 (d:Int),.int .u64 (e:Int)] 256)) fun x w'=>x = .returned (.tuple #[])∧cG w' g (eB l (Q5 a b c d e) 5)∧bK g (w.alloc (.cells #[.int .u64 (a:Int),.int .u64 (b:Int),.int .u64 (c:Int),.int .u64 (d:Int),.int .u64 (e:Int)] 256)) w'):=C
 clear C pO fh hL hr hf hl bX;go_enter func171,ntmps171;go_wp2_with (go_at_call 215;refine HC.out.mono ?_;rintro x w1 ⟨rfl,eN,jT⟩;have nK:Hid (cG w1 g (eB l (Q5 a b c d e) 5)):=eN;have qe:Hid (bK g w w1):=Fb.out.trans jT;clear eN jT)
 go_end0
 exact ⟨rfl,nK.out,qe.out⟩
theorem wK{ops:Array Oper}{o:Oper}{a:Act}{w:World}{K:Act→World→Prop}{Q:Exit→Act→World→Prop}{E:Prop}(nQ:o.guard=none)(d x:Operand)
  (ho:o.op = .call { callee:=.builtin .copy,args:=#[d,x],argTypes:=#[145,9] }) (BN:o.type=3) (g off n cap:Nat) (l:List UInt8) (s:ByteArray)
  (hd:a.eval d = .slice (some ⟨g,off,none⟩) n cap) (hx:a.eval x = .string s) (hr:cG w g l) (hn:n=s.size) (eE:off+s.size≤l.length)
  (h:∀ w2,Hid (cG w2 g (splice l off s.data.toList))→Hid (bK g w w2)→K (a.put o.dst (goInt s.size)) w2) :
  if Region.wanted o (yielded ops a.tmps)=true then Oper.wp prog o a w K Q else E:=by
 have hw:Region.wanted o (yielded ops a.tmps)=true:=by simp [Region.wanted,nQ]
 rw [if_pos hw];obtain ⟨w2,bo,h1,h2⟩:=LG (cap:=cap) s hr hn eE;unfold Oper.wp;simp [execOp,ho,resolve,invoke,builtin,hd,hx,BN,bo,Result.andThen]
 exact h w2 h1 h2
theorem ND{w:World}{g n:Nat}{l:List UInt8}(h:cG w g l)(hn:l.length=n)(hm:n≤maxLen):Rd w (.slice (some ⟨g,0,none⟩) n n) l:=by
 subst hn;exact .inr ⟨g,l.length,rfl,aj _,hm,h.lt,h.cell⟩
theorem BF(n:Nat):(madeCells #[Value.int .u8 0] n).toList=dR (List.replicate n 0):=by
 rw [dR,oQ];simp [madeCells,Nat.mod_one,List.map_const']
theorem Bu{w:World}{base g n:Nat}{l:List UInt8}(h:w.ownsRow base 5 1 (.slice (some ⟨g,0,none⟩) n n) n (dR l)):cG w g l:=by
 rcases h.2 with ⟨h',_⟩ | ⟨g',eO,cur,h',hb,hg,hn,hc,hs,ht⟩
 ·cases h'
 ·cases h'
  unfold cG;rw [hg,← ht,ar (by simpa using Nat.le_of_eq hs)]
theorem Th(b:List UInt8)(hb:b.length=4072):splice (List.replicate 4096 0) 24 b=List.replicate 24 0++b:=by
 unfold splice;rw [List.take_replicate,nB,hb,show 4096 - (24+4072)=0 from rfl,List.replicate_zero,List.append_nil,show min 24 4096=24 from rfl]
theorem AU{k c i t e:Nat}(hk:k<256)(hc:c≤65535)(hi:i<1048576)(ht:t<18446744073709551616)(he:e<4294967296):mr (Q5 k c i t e):=by
 intro j hj;obtain rfl | rfl | rfl | rfl | rfl:j=0∨j=1∨j=2∨j=3∨j=4:=by omega
 ·show k<2 ^ 8;omega
 ·show c<2 ^ 16;omega
 ·show i<2 ^ 32;omega
 ·show t<2 ^ 64;omega
 ·show e<2 ^ 32;omega
theorem Gn(k i t c:Nat)(b:ByteArray)(w:World)(hk:k<256)(hc:c≤65535)(hi:i<1048576)(QV:t<18446744073709551616)(hb:b.size=4072)(hL:Lay w)(ht:E7 w):Calls prog 132 #[.agg #[.int .i64 (k:Int),.int .i64 (i:Int),.int .u64 (t:Int),.int .i64 (c:Int),.string b]] w fun e w'=>∃ g,e = .returned (.slice (some ⟨g,0,none⟩) 4096 4096)∧cG w' g (bare k c i t (B3 (bare k c i t 0 b.data.toList)) b.data.toList)∧w.heap.size≤g∧Below w.heap.size w w':=by
 obtain ⟨i0,ace,nP,mB,pB⟩:=info_parts Tryz.info5;have HB:Hid (b.size=4072):=hb;have HL:Hid (Lay w):=hL;have HT:Hid (E7 w):=ht;have k64:(k:Int) % 18446744073709551616=(k:Int):=by omega
 have c64:(c:Int) % 18446744073709551616=(c:Int):=by omega
 have i64:(i:Int) % 18446744073709551616=(i:Int):=by omega
 have nN:Hid (Boxed w.heap.size [.int .i64 (k:Int),.int .i64 (i:Int),.int .u64 (t:Int),.int .i64 (c:Int),.string b] (w.alloc (.cells #[.int .i64 (k:Int),.int .i64 (i:Int),.int .u64 (t:Int),.int .i64 (c:Int),.string b] 87))):=bM w _ _;have wo:Hid (Below w.heap.size w (w.alloc (.cells #[.int .i64 (k:Int),.int .i64 (i:Int),.int .u64 (t:Int),.int .i64 (c:Int),.string b] 87))):=ai w _;clear hb hL ht;go_enter func132,ntmps132;go_wp2_with (at_make;refine wpList_make_full _ rfl _ _ 145 rfl 0 5 i0 (.int .u8 0) 1 underlying145 ace nP mB .i64 .i64 _ _ 4096 rfl rfl rfl rfl ?c1 ?c2 (aC _) ?_)
 case c1=>rw [pB];decide
 case c2=>decide
 intro w1 oy fJ;rw [BF] at oy;have eN:=Bu oy;have aN:Below (w.alloc (.cells #[.int .i64 (k:Int),.int .i64 (i:Int),.int .u64 (t:Int),.int .i64 (c:Int),.string b] 87)).heap.size (w.alloc (.cells #[.int .i64 (k:Int),.int .i64 (i:Int),.int .u64 (t:Int),.int .i64 (c:Int),.string b] 87)) w1:=⟨fJ.os,fJ.tape,fJ.output,fJ.size,fun k hk=>fJ.block k hk (by simp)⟩
 have WG:=nN.out.below aN;have bN:Hid (Below w.heap.size w w1):=Below.next wo.out aN;clear oy aN fJ nN wo;obtain ⟨g,hg⟩ : ∃ g,g=w.heap.size+1:=⟨_,rfl⟩;have Yo:cG w1 g (List.replicate 4096 0):=by rw [hg];exact eN
 rw [← hg];have HG:Hid (g=w.heap.size+1):=hg;clear eN hg;have x4:w1.cell? ⟨w.heap.size,4,none⟩=some (.string b):=WG.2 4 (by simp)
 have nK:Hid (cG w1 g (List.replicate 4096 0)):=Yo;have QQ:Hid (Boxed w.heap.size [.int .i64 (k:Int),.int .i64 (i:Int),.int .u64 (t:Int),.int .i64 (c:Int),.string b] w1):=WG;clear Yo WG;go_wp2_with fail;go_region_law (refine wK rfl (.tmp 7) (.tmp 9) rfl rfl g 24 4072 4072 (List.replicate 4096 0) b rfl rfl ?_ HB.out.symm ?_ ?_;(exact nK.out);(rw [bw,HB.out];exact aj _);intro w2 oR nJ)
 all_goals
  have j8:bK g w1 w2:=⟨nJ.out.os,nJ.out.tape,nJ.out.output,nJ.out.size,nJ.out.block⟩;have iK:=oR.out;rw [Th _ (by rw [bsize];exact HB.out)] at iK
  have Tv:Hid (cG w2 g (List.replicate 24 0++b.data.toList)):=iK;have aY:Below w.heap.size w w2:=j8.below bN.out (by have:=HG.out;omega)
  have bH:Hid (Below w.heap.size w w2):=aY;have ye:w.heap.size<g:=by have:=HG.out;omega
  have y0:w2.cell? ⟨w.heap.size,0,none⟩=some (.int .i64 (k:Int)):=j8.cell (QQ.out.2 0 (by simp)) (by show w.heap.size≠g;omega)
  have y1:w2.cell? ⟨w.heap.size,1,none⟩=some (.int .i64 (i:Int)):=j8.cell (QQ.out.2 1 (by simp)) (by show w.heap.size≠g;omega)
  have y2:w2.cell? ⟨w.heap.size,2,none⟩=some (.int .u64 (t:Int)):=j8.cell (QQ.out.2 2 (by simp)) (by show w.heap.size≠g;omega)
  have y3:w2.cell? ⟨w.heap.size,3,none⟩=some (.int .i64 (c:Int)):=j8.cell (QQ.out.2 3 (by simp)) (by show w.heap.size≠g;omega)
  have HGW:Hid (g<w2.heap.size):=iK.lt;have HN:Hid (Below w2.heap.size w2 (w2.alloc (.cells #[.int .u64 (k:Int),.int .u64 (c:Int),.int .u64 (i:Int),.int .u64 (t:Int),.int .u64 0] 256))):=ai w2 _;have HX:Hid ((w2.alloc (.cells #[.int .u64 (k:Int),.int .u64 (c:Int),.int .u64 (i:Int),.int .u64 (t:Int),.int .u64 0] 256)).heap[w2.heap.size]?=some (.cells #[.int .u64 (k:Int),.int .u64 (c:Int),.int .u64 (i:Int),.int .u64 (t:Int),.int .u64 0] 256 (0,0))):=heap_alloc_new w2 _;clear nJ oR j8 iK aY x4 nK QQ bN;go_wp2_with fail;generalize (w2.alloc (.cells #[.int .u64 (k:Int),.int .u64 (c:Int),.int .u64 (i:Int),.int .u64 (t:Int),.int .u64 0] 256))=w3 at *;have dH:Hid (Below w.heap.size w w3):=bH.out.trans (HN.out.mono bH.out.size);have YO:(List.replicate 24 (0:UInt8)++b.data.toList).length=4096:=by rw [ae,bw,bsize,HB.out]
  have C:=pV g k c i t 0 _ w3 YO (HL.out.below dH.out) (Tv.out.below HN.out) (AU hk hc hi QV (by decide))
  rw [G1] at C;have YE:w2.heap.size≠g:=by have:=HGW.out;omega
  refine C.mono ?_
  rintro x w4 ⟨rfl,AG,hs4⟩;have OJ:w4.heap[w2.heap.size]?=some (.cells #[.int .u64 (k:Int),.int .u64 (c:Int),.int .u64 (i:Int),.int .u64 (t:Int),.int .u64 0] 256 (0,0)):=by
   rw [hs4.block _ (by
    rcases aZ w2.heap.size w3.heap.size with h' | h'
    ·exact h'
    ·have:=HX.out;rw [aV h'] at this;cases this) YE]
   exact HX.out
  have gY:Hid (Below w.heap.size w w4):=hs4.below dH.out (by omega)
  have HR4:Hid (cG w4 g (bare k c i t 0 b.data.toList)):=AG;have jJ:(bare k c i t 0 b.data.toList).length=4096:=by rw [E3,bsize,HB.out]
  have HCR:Hid (Calls prog 172 #[.slice (some ⟨g,0,none⟩) 4096 4096] w4 fun e w'=>e = .returned (.int .u32 ((B3 (bare k c i t 0 b.data.toList):Nat):Int))∧w4=w') :=
   V3 _ _ w4 (by rw [jJ];decide) (ND AG jJ (by decide)) (HT.out.below gY.out)
  have yh:B3 (bare k c i t 0 b.data.toList)<4294967296:=N4 _;obtain ⟨cv,SH⟩ : ∃ cv,cv=B3 (bare k c i t 0 b.data.toList):=⟨_,rfl⟩;rw [← SH] at yh;have HCV:Hid (cv=B3 (bare k c i t 0 b.data.toList)):=SH;have adP:Hid (Calls prog 172 #[.slice (some ⟨g,0,none⟩) 4096 4096] w4 fun e w'=>e = .returned (.int .u32 (cv:Int))∧w4=w'):=by
   show Calls _ _ _ _ _
   rw [SH];exact HCR.out
  have ahz:(cv:Int) % 18446744073709551616=(cv:Int):=by omega
  have z0:w4.cell? ⟨w2.heap.size,0,none⟩=some (.int .u64 (k:Int)):=by rw [cell_of_row _ _ _ _ _ _ OJ];rfl
  have z1:w4.cell? ⟨w2.heap.size,1,none⟩=some (.int .u64 (c:Int)):=by rw [cell_of_row _ _ _ _ _ _ OJ];rfl
  have z2:w4.cell? ⟨w2.heap.size,2,none⟩=some (.int .u64 (i:Int)):=by rw [cell_of_row _ _ _ _ _ _ OJ];rfl
  have z3:w4.cell? ⟨w2.heap.size,3,none⟩=some (.int .u64 (t:Int)):=by rw [cell_of_row _ _ _ _ _ _ OJ];rfl
  have z4:w4.cell? ⟨w2.heap.size,4,none⟩=some (.int .u64 0):=by rw [cell_of_row _ _ _ _ _ _ OJ];rfl
  have fz:w4.frozen? ⟨w2.heap.size,4,none⟩=false:=frozen_of_row _ _ _ _ _ OJ;have Qv:Hid (w.heap.size≤w2.heap.size):=bH.out.size;clear C HX HN y0 y1 y2 y3 hs4 AG OJ HCR SH YO dH bH Tv HGW;go_wp2_with (go_at_call 172;refine adP.out.mono ?_;rintro e w' ⟨rfl,rfl⟩)
  have sU:Hid (Below w.heap.size w (w4.setCell ⟨w2.heap.size,4,none⟩ (.int .u64 (cv:Int)))):=gY.out.setCell Qv.out _;have HR5:Hid (cG (w4.setCell ⟨w2.heap.size,4,none⟩ (.int .u64 (cv:Int))) g (bare k c i t 0 b.data.toList)):=HR4.out.abo (bK.set w2.heap.size 4 w4 _) (fun e=>YE e.symm)
  have C:=pV g k c i t cv _ (w4.setCell ⟨w2.heap.size,4,none⟩ (.int .u64 (cv:Int))) jJ (HL.out.below sU.out) HR5.out (AU hk hc hi QV yh);rw [KW] at C;refine C.mono ?_
  rintro x w6 ⟨rfl,hr6,hs6⟩;have HR6:Hid (cG w6 g (bare k c i t cv b.data.toList)):=hr6;have Fm:Hid (Below w.heap.size w w6):=hs6.below sU.out (by omega)
  clear C hr6 hs6 sU HR5;go_wp2_with fail;go_ret;refine ⟨g,rfl,?_,by omega,Fm.out⟩
  rw [← HCV.out];exact HR6.out
theorem xn(s:Sh)(w:World)(hm:sS s)(hx:s.s7<18446744073709551616)(hL:Lay w)(ht:E7 w):Calls prog 132 #[.agg s.cells.toArray] w fun e w'=>∃ g,e = .returned (.slice (some ⟨g,0,none⟩) 4096 4096)∧cG w' g (hU s)∧w.heap.size≤g∧Below w.heap.size w w':=by
 obtain ⟨k,i,t,c,b⟩:=s;obtain ⟨hk,⟨AP,SI⟩,⟨Cu,sj⟩,hb⟩:=hm;simp only at hk AP SI Cu sj hb hx;obtain ⟨k,rfl⟩:=cz (show 0≤k by omega)
 obtain ⟨c,rfl⟩:=cz AP;obtain ⟨i,rfl⟩:=cz (show 0≤i by omega)
 exact Gn k i t c b w (by omega) (by omega) (by omega) hx hb hL ht
@[reducible] def shV(k i:Int)(t:Nat)(c:Int)(b:ByteArray):Value:=.agg #[.int .i64 k,.int .i64 i,.int .u64 (t:Int),.int .i64 c,.string b]
theorem RG(s:Sh)(w:World)(hm:sS s)(hx:s.s7<18446744073709551616)(hL:Lay w)(ht:E7 w):Calls prog 96 #[.agg s.cells.toArray] w fun e w'=>∃ g,e = .returned (.tuple #[.slice (some ⟨g,0,none⟩) 4096 4096,.nilIface])∧cG w' g (hU s)∧w.heap.size≤g∧Below w.heap.size w w':=by
 obtain ⟨k,i,t,c,b⟩:=s;have HM:Hid (∀ w,Calls prog 131 #[.agg #[.int .i64 k,.int .i64 i,.int .u64 (t:Int),.int .i64 c,.string b]] w fun e w'=>e = .returned (.bool true)∧Below w.heap.size w w'):=fun w=>by
  have h:=pq ⟨k,i,t,c,b⟩ w (by rw [hm.2.2.2];decide)
  rw [decide_eq_true hm] at h;exact h
 have HP:Hid (∀ w,Lay w→E7 w→Calls prog 132 #[.agg #[.int .i64 k,.int .i64 i,.int .u64 (t:Int),.int .i64 c,.string b]] w fun e w'=>∃ g,e = .returned (.slice (some ⟨g,0,none⟩) 4096 4096)∧cG w' g (hU ⟨k,i,t,c,b⟩)∧w.heap.size≤g∧Below w.heap.size w w'):=fun w h1 h2=>xn ⟨k,i,t,c,b⟩ w hm hx h1 h2
 have nN:Hid (Boxed w.heap.size [.int .i64 k,.int .i64 i,.int .u64 (t:Int),.int .i64 c,.string b] (w.alloc (.cells #[.int .i64 k,.int .i64 i,.int .u64 (t:Int),.int .i64 c,.string b] 87))):=bM w _ _;have wo:Hid (Below w.heap.size w (w.alloc (.cells #[.int .i64 k,.int .i64 i,.int .u64 (t:Int),.int .i64 c,.string b] 87))):=ai w _;have HL:Hid (Lay w):=hL;have HT:Hid (E7 w):=ht;clear hm hx hL ht;show Calls prog 96 #[.agg #[.int .i64 k,.int .i64 i,.int .u64 (t:Int),.int .i64 c,.string b]] w _
 go_enter func96,ntmps96;go_wp2_with fail;refine (HM.out _).mono ?_
 rintro e w1 ⟨rfl,aN⟩;have sM:=nN.out.below aN;have bN:Hid (Below w.heap.size w w1):=Below.next wo.out aN;have c0:w1.cell? ⟨w.heap.size,0,none⟩=some (.int .i64 k):=sM.2 0 (by simp)
 have c1:w1.cell? ⟨w.heap.size,1,none⟩=some (.int .i64 i):=sM.2 1 (by simp)
 have c2:w1.cell? ⟨w.heap.size,2,none⟩=some (.int .u64 (t:Int)):=sM.2 2 (by simp)
 have c3:w1.cell? ⟨w.heap.size,3,none⟩=some (.int .i64 c):=sM.2 3 (by simp)
 have c4:w1.cell? ⟨w.heap.size,4,none⟩=some (.string b):=sM.2 4 (by simp)
 clear sM aN nN wo;go_wp2_with fail;refine (HP.out _ (HL.out.below bN.out) (HT.out.below bN.out)).mono ?_
 rintro e w2 ⟨g,rfl,hr,hg,aY⟩;have HF:Hid (cG w2 g (hU ⟨k,i,t,c,b⟩)∧w.heap.size≤g∧Below w.heap.size w w2):=⟨hr,aq bN.out.size hg,Below.next bN.out aY⟩;clear hr hg aY c0 c1 c2 c3 c4;go_wp2_with fail;go_ret2;exact ⟨g,rfl,HF.out⟩
theorem RH(a:Addr)(s:Sh)(w:World)(hs:s.body.size≤140737488355328)(hm:¬ sS s)(hc:w.cell? ⟨0,0,none⟩=some (.iface 360 (.pointer (some a)))):Calls prog 96 #[.agg s.cells.toArray] w fun e w'=>e = .returned (.tuple #[.slice none 0 0,.iface 360 (.pointer (some a))])∧Below w.heap.size w w':=by
 obtain ⟨k,i,t,c,b⟩:=s;have HM:Hid (∀ w,Calls prog 131 #[.agg #[.int .i64 k,.int .i64 i,.int .u64 (t:Int),.int .i64 c,.string b]] w fun e w'=>e = .returned (.bool false)∧Below w.heap.size w w'):=fun w=>by
  have h:=pq ⟨k,i,t,c,b⟩ w hs;rw [decide_eq_false hm] at h;exact h
 have wo:Hid (Below w.heap.size w (w.alloc (.cells #[.int .i64 k,.int .i64 i,.int .u64 (t:Int),.int .i64 c,.string b] 87))):=ai w _;have HC:Hid (w.cell? ⟨0,0,none⟩=some (.iface 360 (.pointer (some a)))):=hc;clear hm hc;show Calls prog 96 #[.agg #[.int .i64 k,.int .i64 i,.int .u64 (t:Int),.int .i64 c,.string b]] w _
 go_enter func96,ntmps96;go_wp2_with fail;refine (HM.out _).mono ?_
 rintro e w1 ⟨rfl,aN⟩;have bN:Hid (Below w.heap.size w w1):=Below.next wo.out aN;have c0:w1.cell? ⟨0,0,none⟩=some (.iface 360 (.pointer (some a))):=(bN.out.cell (World.block_lt_of_cell? w _ HC.out)).trans HC.out;clear aN wo;go_wp2_with fail;go_quiet (fail)
 go_wp2_with fail;go_ret2;exact ⟨rfl,below_drewN bN.out _⟩
end S
end Go.Proofs.YtihmgigfkmofnaaGreatDoor
