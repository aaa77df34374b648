import Derived.Test.YtihmgigfkmofnaaGreatDoorG12
import Derived.Laws.BitsAllLaws
set_option maxHeartbeats 2000000
open Go.Proofs.Tryz
namespace Go.Proofs.YtihmgigfkmofnaaGreatDoor
namespace S
def JX:List Nat:=[0,274646895,549293790,820201905,1098587580,1361435347,1640403810,1905808397,2197175160,2460548119,2722870694,2987750089,3280807620,3553878443,3811616794,4084100981]
def tab(i:Nat):Nat:=JX.getD i 0
def vS(x:Nat):Nat:=(x / 16) ^^^ tab (x % 16)
def Jl(x b:Nat):Nat:=vS (vS (x ^^^ b))
def kZ(x:Nat)(l:List UInt8):Nat:=l.foldl (fun r b=>Jl r b.toNat) x
def nt(x:Nat):Nat:=4294967295 - x
theorem Od(x:Nat):nt x<4294967296:=by unfold nt;omega
theorem Vz(x:Nat)(hx:x<4294967296):4294967295 ^^^ x=nt x:=by
 unfold nt;apply eQ
 intro i;rw [Nat.testBit_xor];have h1:(4294967295:Nat)=2 ^ 32 - 1:=rfl;have h2:4294967295 - x=2 ^ 32 - (x+1):=by omega
 rw [h2,Nat.testBit_two_pow_sub_succ hx,h1,Nat.testBit_two_pow_sub_one];by_cases hi:i<32
 ·simp [hi]
 ·have:x.testBit i=false:=Nat.testBit_lt_two_pow (aq hx (my (n:=2) (i:=32) (by decide) (by omega)))
  simp [hi,this]
theorem Nn(i:Nat):tab i<4294967296:=by
 unfold tab JX;rcases bg i 16 with h | h
 ·have:∀ j:Fin 16,[0,274646895,549293790,820201905,1098587580,1361435347,1640403810,1905808397,2197175160,2460548119,2722870694,2987750089,3280807620,3553878443,3811616794,4084100981].getD j.1 0<4294967296:=by decide
  exact this ⟨i,h⟩
 ·rw [List.getD,bD (by simpa using h)];decide
theorem Cs(y:Nat)(hy:y<4294967296):vS y<4294967296:=by
 unfold vS;exact Nat.xor_lt_two_pow (n:=32) (by omega) (Nn _)
theorem Ey(x:Nat)(l:List UInt8)(c:UInt8):kZ x (l++[c])=Jl (kZ x l) c.toNat:=by
 simp [kZ,List.foldl_append]
open Go.RowKit
theorem R5{k:IntKind}{a b:Nat}(h:a=b):Ending.returned (.int k (a:Int)) = .returned (.int k (b:Int)):=by rw [h]
theorem vm(x:Nat)(hx:x<4294967296):bits BinOp.xor IntKind.u32 IntKind.u32.max (x:Int)=((nt x:Nat):Int):=by
 have h:IntKind.u32.max=((4294967295:Nat):Int):=rfl;rw [h,u32_xor_nat _ _ (by omega) hx]
 exact congrArg Nat.cast (Vz x hx)
theorem Ic(y:Nat)(hy:y<4294967296):bits BinOp.xor IntKind.u32 ((y:Int) / 16) ((tab (y % 16):Nat):Int)=((vS y:Nat):Int):=by
 have:=u32_xor_nat (y / 16) (tab (y % 16)) (by omega) (Nn _)
 rw [← show (((y / 16:Nat):Nat):Int)=(y:Int) / 16 from by omega]
 exact this
theorem US(y:Nat)(hy:y<4294967296):bits BinOp.and IntKind.u32 (y:Int) 15=((y % 16:Nat):Int):=by
 have:=u32_and_nat y 15 hy (by omega)
 rw [nat_mask4] at this;exact this
theorem Hd(x:Nat)(b off len cap:Nat)(l:List UInt8)(w:World)(hx:x<4294967296)(hlen:l.length=len)(hm:len≤140737488355328)(hc:∀ j (h:j<l.length),w.cell? ⟨b,off+j,none⟩=some (.int .u8 (l[j].toNat:Int)))(ht:∀ j,j<16→w.cell? ⟨15,j,none⟩=some (.int .u32 (tab j:Nat))):Calls prog 218 #[.int .u32 (x:Int),.slice (some ⟨b,off,none⟩) len cap] w fun e w'=>e = .returned (.int .u32 ((nt (kZ (nt x) l):Nat):Int))∧w=w':=by
 have hnt:=vm x hx;have hy:nt x<4294967296:=Od x;go_enter func218,ntmps218;go_wp2;go_loop [5,12] (fun r i=>∃ k y:Nat,k≤len∧y<4294967296∧i = .int .i64 k∧r = .int .u32 (y:Int)∧y=kZ (nt x) (l.take k)) (fun _ i=>len - (intOf i).toNat)
 case atStart=>exact ⟨0,nt x,aD _,hy,rfl,rfl,rfl⟩
 case round =>
  obtain ⟨k,y,hk,hy,rfl,rfl,VH⟩:=hrel;have HY:Hid (y=kZ (nt x) (l.take k)):=VH;clear VH;by_cases bN:k<len
  ·have lu:=hc k (by omega)
   obtain ⟨c,MF⟩ : ∃ c:Nat,c=(l[k]'(by omega)).toNat:=⟨_,rfl⟩
   have UM:c<256:=by rw [MF];exact UInt8.toNat_lt _
   rw [← MF] at lu;have HC:Hid (c=(l[k]'(by omega)).toNat):=MF
   clear MF;have sf:(c:Int) % 4294967296=(c:Int):=by omega
   obtain ⟨y1,Xj⟩ : ∃ y1:Nat,y1=y ^^^ c:=⟨_,rfl⟩;have VJ:y1<4294967296:=by rw [Xj];exact Nat.xor_lt_two_pow (n:=32) hy (by omega)
   have e1:bits BinOp.xor IntKind.u32 (y:Int) (c:Int)=(y1:Int):=by rw [Xj];exact u32_xor_nat y c hy (by omega)
   have e2:bits BinOp.and IntKind.u32 (y1:Int) 15=((y1 % 16:Nat):Int):=US y1 VJ;have t1:=ht (y1 % 16) (by omega)
   have b1:(0:Int)≤((y1 % 16:Nat):Int):=by omega
   have b2:((y1 % 16:Nat):Int)<16:=by omega
   obtain ⟨y2,Xi⟩ : ∃ y2:Nat,y2=vS y1:=⟨_,rfl⟩;have VI:y2<4294967296:=by rw [Xi];exact Cs y1 VJ
   have e3:bits BinOp.xor IntKind.u32 ((y1:Int) / 16) ((tab (y1 % 16):Nat):Int)=(y2:Int):=by rw [Xi];exact Ic y1 VJ
   have e4:bits BinOp.and IntKind.u32 (y2:Int) 15=((y2 % 16:Nat):Int):=US y2 VI;have t2:=ht (y2 % 16) (by omega)
   have b3:(0:Int)≤((y2 % 16:Nat):Int):=by omega
   have b4:((y2 % 16:Nat):Int)<16:=by omega
   obtain ⟨y3,hy3⟩ : ∃ y3:Nat,y3=vS y2:=⟨_,rfl⟩;have acq:y3<4294967296:=by rw [hy3];exact Cs y2 VI
   have e5:bits BinOp.xor IntKind.u32 ((y2:Int) / 16) ((tab (y2 % 16):Nat):Int)=(y3:Int):=by rw [hy3];exact Ic y2 VI
   have HR:Hid (y3=kZ (nt x) (l.take (k+1))):=by
    show y3=_
    rw [zC l k (by omega),Ey,← HY.out,← HC.out,hy3,Xi,Xj];rfl
   clear Xj Xi hy3 hc ht;go_wp2;go_round
   case rel=>exact ⟨k+1,y3,by omega,acq,by go_num,rfl,HR.out⟩
   case measure=>simp [intOf];omega
  ·have K6:l.take k=l:=al (by omega)
   have acO:=vm y hy;have HE:Hid (y=kZ (nt x) l):=by
    show y=_
    rw [HY.out,K6]
   clear K6 hc ht;go_wp2;go_ret;exact ⟨R5 (congrArg nt HE.out),rfl⟩
def Rd(w:World)(v:Value)(l:List UInt8):Prop :=
 (v = .slice none 0 0∧l=[])∨∃ g cap,v = .slice (some ⟨g,0,none⟩) l.length cap∧l.length≤cap∧cap≤maxLen∧g<w.heap.size∧(∀ j (h:j<l.length),w.cell? ⟨g,j,none⟩=some (.int .u8 (l[j].toNat:Int)))
def EW(w:World):Prop:=(∀ j,j<16→w.cell? ⟨15,j,none⟩=some (.int .u32 (tab j:Nat)))∧15<w.heap.size
def BH(l:List UInt8):Nat:=nt (kZ (nt 0) l)
theorem FW{w:World}{base n:Nat}{v:Value}{l:List UInt8}(h:w.ownsRow base 5 1 v n (dS l)):Rd w v l:=by
 have hl:=h.1;rw [aY,Nat.mul_one] at hl;subst hl;by_cases h0:l.length=0
 ·rcases h.2 with ⟨h',_⟩ | ⟨g,cap,cur,h',hb,hg,hn,hc,_,_⟩
  ·exact .inl ⟨h',List.length_eq_zero_iff.1 h0⟩
  ·refine .inr ⟨g,cap,h',hn,hc,?_,fun j hj=>by omega⟩
   rcases bg g w.heap.size with bN | Bw
   ·exact bN
   ·rw [aX Bw] at hg;cases hg
 ·obtain ⟨g,cap,rfl,hb,bN⟩:=h.form (by omega)
  refine .inr ⟨g,cap,rfl,?_,?_,bN,fun j hj=>by rw [h.cellAt j (by omega),iu l j hj]⟩
  ·rcases h.2 with ⟨h',_⟩ | ⟨g',eS,cur,h',_,_,hn,hc,_,_⟩
   ·cases h'
   ·cases h';exact hn
  ·rcases h.2 with ⟨h',_⟩ | ⟨g',eS,cur,h',_,_,hn,hc,_,_⟩
   ·cases h'
   ·cases h';exact hc
theorem EW.below{w w':World}(h:EW w)(hb:Below w.heap.size w w'):EW w' :=
 ⟨fun j hj=>(hb.cell (p:=⟨15,j,none⟩) h.2).trans (h.1 j hj),aq h.2 hb.size⟩
theorem Ez(x:Nat)(w:World)(hx:x<4294967296):Calls prog 218 #[.int .u32 (x:Int),.slice none 0 0] w fun e w'=>e = .returned (.int .u32 ((nt (nt x):Nat):Int))∧w=w':=by
 have hnt:=vm x hx;have acO:=vm (nt x) (Od x);go_enter func218,ntmps218;go_wp2;go_loop [5,12] (fun r i=>i = .int .i64 0∧r = .int .u32 (nt x:Int)) (fun _ i=>0)
 case atStart=>exact ⟨rfl,rfl⟩
 case round =>
  obtain ⟨rfl,rfl⟩:=hrel;go_wp2;go_ret;exact ⟨rfl,rfl⟩
theorem Hc(x:Nat)(X:Int)(v:Value)(l:List UInt8)(w:World)(hX:X=(x:Int))(hx:x<4294967296)(hm:l.length≤140737488355328)(hr:Rd w v l)(ht:EW w):Calls prog 218 #[.int .u32 X,v] w fun e w'=>e = .returned (.int .u32 ((nt (kZ (nt x) l):Nat):Int))∧w=w':=by
 subst hX;rcases hr with ⟨rfl,rfl⟩ | ⟨g,cap,rfl,h1,h2,h3,h4⟩
 ·exact Ez x w hx
 ·exact Hd x g 0 l.length cap l w hx rfl hm (fun j hj=>by rw [Nat.zero_add];exact h4 j hj) ht.1
theorem Wu(v:Value)(l:List UInt8)(w:World)(hm:l.length≤140737488355328)(hr:Rd w v l)(ht:EW w):Calls prog 172 #[v] w fun e w'=>e = .returned (.int .u32 ((BH l:Nat):Int))∧w=w':=by
 have H:=Hc 0 0 v l w rfl (by decide) hm hr ht
 have HH:Hid (Calls prog 218 #[.int .u32 0,v] w fun e w'=>e = .returned (.int .u32 ((nt (kZ (nt 0) l):Nat):Int))∧w=w'):=H
 clear H hr ht;go_enter func172,ntmps172;go_wp2_with (go_at_call 218;refine HH.out.mono ?_;rintro e w' ⟨rfl,rfl⟩)
 go_ret;exact ⟨rfl,rfl⟩
def fits(n:Nat)(width:Int):Prop:=1≤width∧width≤8∧n<2 ^ (8*width.toNat)
theorem ach(A:Nat→Addr)(n:Nat)(width:Int)(w:World)(hn:n<18446744073709551616)(vw : -9223372036854775808≤width)(Q6:width≤9223372036854775807)(hA:Xe A w)(fJ:¬ fits n width):Calls prog 217 #[.int .u64 (n:Int),.int .i64 width] w fun e w'=>e = .returned (.tuple #[.slice none 0 0,.iface 360 (.pointer (some (A 0)))])∧Below w.heap.size w w':=by
 have c0:w.cell? ⟨0,0,none⟩=some (.iface 360 (.pointer (some (A 0)))):=(hA.1 0 (by decide)).1
 clear hA;by_cases h1:width<1
 ·have Bz:decide (width<1)=true:=decide_eq_true h1;clear fJ;go_enter func217,ntmps217;go_wp2_with fail;go_quiet (fail)
  go_wp2_with fail;go_ret2;exact ⟨rfl,below_drewN (Below.refl _ _) _⟩
 ·have Bz:decide (width<1)=false:=decide_eq_false h1;by_cases h8:8<width
  ·have Ld:decide (8<width)=true:=decide_eq_true h8;clear fJ;go_enter func217,ntmps217;go_wp2_with fail;go_quiet (fail)
   go_wp2_with fail;go_ret2;exact ⟨rfl,below_drewN (Below.refl _ _) _⟩
  ·have Ld:decide (8<width)=false:=decide_eq_false h8;obtain ⟨m,rfl⟩:=cy (show 0≤width by omega)
   have hb:¬ Lib.bitLen n≤8*m:=by
    rw [uD n (8*m) (by omega) hn]
    intro h;exact fJ ⟨by omega,by omega,by simpa using h⟩
   have hd3:decide (8*(m:Int)<((Lib.bitLen n:Nat):Int))=true:=decide_eq_true (by omega)
   clear fJ;go_enter func217,ntmps217;go_wp2_with (go_at_call 146;refine (sO n _ hn).mono ?_;rintro e w' ⟨rfl,rfl⟩)
   go_quiet (fail)
   go_wp2_with fail;go_ret2;exact ⟨rfl,below_drewN (Below.refl _ _) _⟩
def cF(w:World)(g:Nat)(l:List UInt8):Prop:=w.heap[g]?=some (.cells (dS l).toArray 5 (0,0))
theorem cF.lt{w:World}{g:Nat}{l:List UInt8}(h:cF w g l):g<w.heap.size:=by
 rcases bg g w.heap.size with h' | h'
 ·exact h'
 ·unfold cF at h;rw [aX h'] at h;cases h
theorem cF.cell{w:World}{g:Nat}{l:List UInt8}(h:cF w g l)(j:Nat)(hj:j<l.length):w.cell? ⟨g,j,none⟩=some (.int .u8 (l[j].toNat:Int)):=by
 rw [cell_of_row w g j _ _ _ h];simpa using iu l j hj
theorem cF.below{w w':World}{g:Nat}{l:List UInt8}(h:cF w g l)(hb:Below w.heap.size w w'):cF w' g l:=by
 unfold cF;rw [hb.block g h.lt];exact h
theorem cF.ace{w w':World}{g rb:Nat}{l:List UInt8}(h:cF w g l)(hb:bJ rb w w')(hn:g≠rb):cF w' g l:=by
 unfold cF;rw [hb.block g h.lt hn];exact h
theorem LR{w:World}{g o cap g2 o2 c2:Nat}{l c:List UInt8}(hr:cF w g l)(hc:∀ j (h:j<c.length),w.cell? ⟨g2,o2+j,none⟩=some (.int .u8 (c[j].toNat:Int)))(eC:o+c.length≤l.length):∃ w2,(Builtin.copy_ #[145,145] 3 #[.slice (some ⟨g,o,none⟩) c.length cap,.slice (some ⟨g2,o2,none⟩) c.length c2]).run prog w = .ok (goInt c.length) w2∧cF w2 g (splice l o c)∧bJ g w w2:=by
 have bn:=run_copy_row (P:=prog) w 145 145 3 5 g o c.length cap ⟨g2,o2,none⟩ c.length c2 _ 5 (dS c) underlying145 tO hr (by rw [aY];exact (Nat.min_self _).symm)
  (fun j v hv=>by
   by_cases hj:j<c.length
   ·rw [iu c j hj] at hv;cases hv;rw [show (⟨g2,o2,none⟩ : Addr).add j=⟨g2,o2+j,none⟩ by simp [Addr.add]]
    exact hc j hj
   ·rw [bD (by rw [aY];omega)] at hv;cases hv)
  (by rw [aY];simp [aY];omega) (qR c)
 rw [aY] at bn;refine ⟨_,bn,?_,bJ.setRow g w _⟩;have bE:=setRow_heap w g _ ((dS l).toArray.toList.take o++dS c++(dS l).toArray.toList.drop (o+c.length)).toArray 5 _ hr;unfold cF;rw [bE,← pY,splice,aY,ax]
theorem LU{w:World}{g o cap n:Nat}{l:List UInt8}(s:ByteArray)(hr:cF w g l)(hn:n=s.size)(eC:o+s.size≤l.length):∃ w2,(Builtin.copy_ #[145,9] 3 #[.slice (some ⟨g,o,none⟩) n cap,.string s]).run prog w = .ok (goInt s.size) w2∧cF w2 g (splice l o s.data.toList)∧bJ g w w2:=by
 have bn:=Lib.run_copy_row_string (P:=prog) w 145 9 3 5 g o n cap s _ 5 underlying145 tO hr (by omega) (by simp [aY];omega)
 refine ⟨_,bn,?_,bJ.setRow g w _⟩;have bE:=setRow_heap w g _ ((dS l).toArray.toList.take o++Lib.byteCells s.data.toList++(dS l).toArray.toList.drop (o+s.size)).toArray 5 _ hr;unfold cF;rw [bE,← pY,splice,aY,bsize,ax];rfl
structure Sh where
 kind:Int
 id:Int
 sE:Nat
 count:Int
 body:ByteArray
def Sh.cells(s:Sh):List Value:=[.int .i64 s.kind,.int .i64 s.id,.int .u64 (s.sE:Int),.int .i64 s.count,.string s.body]
def sm(s:Sh):Prop:=(s.kind=66∨s.kind=76)∧(0≤s.count∧s.count≤65535)∧(2≤s.id∧s.id<1048576)∧s.body.size=4072
instance (s:Sh):Decidable (sm s):=inferInstanceAs (Decidable (_∧_))
def bare(k c i t sum:Nat)(body:List UInt8):List UInt8 :=
 bI k 1++([0]++(bI c 2++(bI i 4++(bI t 8++(bI sum 4++([0,0,0,0]++body))))))
def zU(s:Sh)(sum:Nat):List UInt8:=bare s.kind.toNat s.count.toNat s.id.toNat s.sE sum s.body.data.toList
def gW(s:Sh):List UInt8:=zU s (BH (zU s 0))
theorem ES(k c i t sum:Nat)(body:List UInt8):(bare k c i t sum body).length=24+body.length:=by
 simp [bare,eA];omega
theorem Ko(s:Sh)(sum:Nat)(h:sm s):(zU s sum).length=4096:=by
 rw [zU,ES,bsize,h.2.2.2]
theorem l8(s:Sh)(h:sm s):(gW s).length=4096:=Ko s _ h
def place(k:Nat):Nat:=match k with | 0=>0 | 1=>2 | 2=>4 | 3=>8 | _=>16
def width(k:Nat):Nat:=match k with | 0=>1 | 1=>2 | 2=>4 | 3=>8 | _=>4
def ey(l:List UInt8)(h:Nat→Nat):Nat→List UInt8
 | 0=>l
 | k+1=>splice (ey l h k) (place k) (bI (h k) (width k))
def Eg(a b c d e:Nat):Nat→Nat:=fun k=>match k with | 0=>a | 1=>b | 2=>c | 3=>d | _=>e
theorem NW(k:Nat):place k+width k≤20:=by
 unfold place width;split <;> simp_all
theorem Cm(k:Nat):1≤width k∧width k≤8:=by
 unfold width;split <;> simp
theorem GV(l:List UInt8)(h:Nat→Nat)(hl:20≤l.length)(k:Nat):(ey l h k).length=l.length:=by
 induction k with
 | zero=>rfl
 | succ k ih =>
  have h1:=NW k;have h2:=eA (h k) (width k) (Cm k).2;rw [ey,length_splice _ _ _ (by rw [h2,ih];omega),ih]
theorem tZ(x0 x1 x2 x3 x4 x5 x6 x7 x8 x9 x10 x11 x12 x13 x14 x15 x16 x17 x18 x19 x20 x21 x22 x23:UInt8)(body:List UInt8)(a b c d e:Nat) :
  ey (x0::x1::x2::x3::x4::x5::x6::x7::x8::x9::x10::x11::x12::x13::x14::x15::x16::x17::x18::x19::x20::x21::x22::x23::body) (Eg a b c d e) 5 =
   ko a 7::x1::ko b 6::ko b 7::ko c 4::ko c 5::ko c 6::ko c 7::ko d 0::ko d 1::ko d 2::ko d 3::ko d 4::ko d 5::ko d 6::ko d 7::ko e 4::ko e 5::ko e 6::ko e 7::x20::x21::x22::x23::body:=rfl
theorem BR(a b c d e:Nat)(body:List UInt8):bare a b c d e body =
   ko a 7::0::ko b 6::ko b 7::ko c 4::ko c 5::ko c 6::ko c 7::ko d 0::ko d 1::ko d 2::ko d 3::ko d 4::ko d 5::ko d 6::ko d 7::ko e 4::ko e 5::ko e 6::ko e 7::0::0::0::0::body:=rfl
theorem GU(a b c d:Nat)(body:List UInt8):ey (List.replicate 24 0++body) (Eg a b c d 0) 5=bare a b c d 0 body:=by
 show ey (0::0::0::0::0::0::0::0::0::0::0::0::0::0::0::0::0::0::0::0::0::0::0::0::body) (Eg a b c d 0) 5=_
 rw [tZ,BR]
theorem La(a b c d e e':Nat)(body:List UInt8):ey (bare a b c d e body) (Eg a b c d e') 5=bare a b c d e' body:=by
 rw [BR,tZ,BR]
def Lay(w:World):Prop:=14<w.heap.size∧w.cell? ⟨14,0,none⟩=some (.int .i64 0)∧w.cell? ⟨14,1,none⟩=some (.int .i64 1)∧w.cell? ⟨14,2,none⟩=some (.int .i64 2)∧w.cell? ⟨14,3,none⟩=some (.int .i64 2)∧w.cell? ⟨14,4,none⟩=some (.int .i64 4)∧w.cell? ⟨14,5,none⟩=some (.int .i64 4)∧w.cell? ⟨14,6,none⟩=some (.int .i64 8)∧w.cell? ⟨14,7,none⟩=some (.int .i64 8)∧w.cell? ⟨14,8,none⟩=some (.int .i64 16)∧w.cell? ⟨14,9,none⟩=some (.int .i64 4)
theorem Lay.below{w w':World}(h:Lay w)(hb:Below w.heap.size w w'):Lay w':=by
 obtain ⟨h0,c0,c1,c2,c3,c4,c5,c6,c7,c8,c9⟩:=h;exact ⟨aq h0 hb.size,(hb.cell h0).trans c0,(hb.cell h0).trans c1,(hb.cell h0).trans c2,(hb.cell h0).trans c3,(hb.cell h0).trans c4,(hb.cell h0).trans c5,(hb.cell h0).trans c6,(hb.cell h0).trans c7,(hb.cell h0).trans c8,(hb.cell h0).trans c9⟩
theorem qQ(g hb o m k n cap:Nat)(l:List UInt8)(w:World)(hk:k<5)(hn:n<18446744073709551616)(h1:1≤m)(h8:m≤8)(eC:n<2 ^ (8*m))(hr:cF w g l)(Fg:o+m≤l.length)(hc:w.cell? ⟨hb,k,none⟩=some (.int .u64 (n:Int))):Calls prog 216 #[.int .i64 (k:Int),.slice (some ⟨g,o,none⟩) m cap,.pointer (some ⟨hb,0,none⟩)] w fun e w'=>e = .returned (.tuple #[])∧cF w' g (splice l o (bI n m))∧bJ g w w':=by
 have HR:Hid (cF w g l):=hr;have HP:Hid (o+m≤l.length):=Fg;have HF:Hid (n<2 ^ (8*m)):=eC;have hl:=eA n m h8;have k0:(0:Int)≤(k:Int):=by omega
 have k5:(k:Int)<5:=by omega
 clear hr Fg eC;go_enter func216,ntmps216;go_wp2_with (go_at_call 217;refine (wF n m _ hn h1 h8 HF.out).mono ?_;rintro e w1 ⟨g2,c2,rfl,aE,aL⟩;have fV:=HR.out.below aL;obtain ⟨w2,yz,iG,jm⟩:=LR (o2:=0) (g2:=g2) (c2:=c2) (cap:=cap) (c:=bI n m) fV (fun j hj=>by rw [Nat.zero_add,aE.cellAt j (by omega),iu _ j hj]) (by rw [hl];exact HP.out);rw [hl] at yz;have HS:Hid (bJ g w w2):=(bJ.bw aL).trans jm;have oL:Hid (cF w2 g (splice l o (bI n m))):=iG;clear fV iG jm aL aE)
 go_end0
 exact ⟨rfl,oL.out,HS.out⟩
theorem cF.alloc{w:World}{g:Nat}{l:List UInt8}(h:cF w g l)(o:Obj):cF (w.alloc o) g l:=h.below (ai w o)
def mz(h:Nat→Nat):Prop:=∀ k,k<5→h k<2 ^ (8*width k)
theorem mz.u64{h:Nat→Nat}(hf:mz h)(k:Nat)(hk:k<5):h k<18446744073709551616 :=
 aq (hf k hk) (ar (my (n:=2) (i:=8*width k) (j:=64) (by decide) (by have:=(Cm k).2;omega)) (by decide))
@[reducible] def ack:Value:=.agg #[.int .i64 0,.int .i64 1,.int .i64 2,.int .i64 2,.int .i64 4,.int .i64 4,.int .i64 8,.int .i64 8,.int .i64 16,.int .i64 4]
theorem gu(w:World)(k:Nat)(hk:k<5):(Instr.index 327 ack (.int .i64 (k:Int))).run prog w = .ok (.agg #[.int .i64 (place k:Int),.int .i64 (width k:Int)]) w:=by
 obtain rfl | rfl | rfl | rfl | rfl:k=0∨k=1∨k=2∨k=3∨k=4:=by omega
 all_goals kernel_rfl
theorem LF(g hb:Nat)(h:Nat→Nat)(l:List UInt8)(w:World)(hl:l.length=4096)(ib:g≠hb)(hL:Lay w)(hr:cF w g l)(hf:mz h)(hc:∀ k,k<5→w.cell? ⟨hb,k,none⟩=some (.int .u64 (h k:Int))):Calls prog 215 #[.slice (some ⟨g,0,none⟩) 4096 4096,.func (.func 216) #[] #[.pointer (some ⟨hb,0,none⟩)]] w fun e w'=>e = .returned (.tuple #[])∧cF w' g (ey l h 5)∧bJ g w w':=by
 obtain ⟨Z9,c0,c1,c2,c3,c4,c5,c6,c7,c8,c9⟩:=hL;have HC:Hid (∀ k,k<5→w.cell? ⟨hb,k,none⟩=some (.int .u64 (h k:Int))):=hc;have HR:Hid (cF w g l):=hr;have HF:Hid (mz h):=hf;have HL:Hid (l.length=4096):=hl;clear hc hr hf hl Z9;go_enter func215,ntmps215;go_wp2_with fail;go_loopw [7] (fun i wr=>∃ k:Nat,k≤5∧i = .int .i64 (k:Int)∧cF wr g (ey l h k)∧bJ g w wr) (fun i _=>5 - (intOf i).toNat)
 case atStart=>exact ⟨0,by omega,rfl,HR.out,bJ.refl _ _⟩
 case round =>
  obtain ⟨k,hk,rfl,bE,hs⟩:=hrel;clear c0 c1 c2 c3 c4 c5 c6 c7 c8 c9;have HS:Hid (bJ g w wr):=hs;have HW:Hid (cF wr g (ey l h k)):=bE;clear hs bE;by_cases bN:k<5
  ·have nO:Hid (∀ o,(wr.alloc o).cell? ⟨hb,k,none⟩=some (.int .u64 (h k:Int))):=fun o =>
    ((ai wr o).cell (p:=⟨hb,k,none⟩) (aq (World.block_lt_of_cell? w _ (HC.out k bN)) HS.out.size)).trans (HS.out.cell (HC.out k bN) (fun e=>ib e.symm))
   have yq:Hid ((ey l h k).length=4096):=by show _=_;rw [GV _ _ (by rw [HL.out];omega),HL.out]
   have WY:Hid (h k<2 ^ (8*width k)):=HF.out k bN;have HUK:Hid (h k<18446744073709551616):=HF.out.u64 k bN;obtain rfl | rfl | rfl | rfl | rfl:k=0∨k=1∨k=2∨k=3∨k=4:=by omega
   ·have li:=fun w=>gu w 0 (by decide)
    rw [show ((0:Nat):Int)=0 from rfl] at li ⊢
    simp only [place,width,dn] at li;go_wp2_with (go_at_call 216;refine (qQ g hb 0 1 0 (h 0) 4096 (ey l h 0) _ (by decide) HUK.out (by decide) (by decide) WY.out (HW.out.alloc _) (by rw [yq.out];decide) (nO.out _)).mono ?_;rintro e w1 ⟨rfl,fV,kn⟩;have nH:Hid (cF w1 g (ey l h (0+1))):=fV;have lT:Hid (bJ g w w1):=HS.out.trans ((bJ.bw (ai wr _)).trans kn);clear fV kn)
    go_roundw
    case rel=>exact ⟨1,by omega,by go_num,nH.out,lT.out⟩
    case measure=>simp [intOf]
   ·have li:=fun w=>gu w 1 (by decide)
    rw [show ((1:Nat):Int)=1 from rfl] at li ⊢
    simp only [place,width,dn] at li;go_wp2_with (go_at_call 216;refine (qQ g hb 2 2 1 (h 1) 4094 (ey l h 1) _ (by decide) HUK.out (by decide) (by decide) WY.out (HW.out.alloc _) (by rw [yq.out];decide) (nO.out _)).mono ?_;rintro e w1 ⟨rfl,fV,kn⟩;have nH:Hid (cF w1 g (ey l h (1+1))):=fV;have lT:Hid (bJ g w w1):=HS.out.trans ((bJ.bw (ai wr _)).trans kn);clear fV kn)
    go_roundw
    case rel=>exact ⟨2,by omega,by go_num,nH.out,lT.out⟩
    case measure=>simp [intOf]
   ·have li:=fun w=>gu w 2 (by decide)
    rw [show ((2:Nat):Int)=2 from rfl] at li ⊢
    simp only [place,width,dn] at li;go_wp2_with (go_at_call 216;refine (qQ g hb 4 4 2 (h 2) 4092 (ey l h 2) _ (by decide) HUK.out (by decide) (by decide) WY.out (HW.out.alloc _) (by rw [yq.out];decide) (nO.out _)).mono ?_;rintro e w1 ⟨rfl,fV,kn⟩;have nH:Hid (cF w1 g (ey l h (2+1))):=fV;have lT:Hid (bJ g w w1):=HS.out.trans ((bJ.bw (ai wr _)).trans kn);clear fV kn)
    go_roundw
    case rel=>exact ⟨3,by omega,by go_num,nH.out,lT.out⟩
    case measure=>simp [intOf]
   ·have li:=fun w=>gu w 3 (by decide)
    rw [show ((3:Nat):Int)=3 from rfl] at li ⊢
    simp only [place,width,dn] at li;go_wp2_with (go_at_call 216;refine (qQ g hb 8 8 3 (h 3) 4088 (ey l h 3) _ (by decide) HUK.out (by decide) (by decide) WY.out (HW.out.alloc _) (by rw [yq.out];decide) (nO.out _)).mono ?_;rintro e w1 ⟨rfl,fV,kn⟩;have nH:Hid (cF w1 g (ey l h (3+1))):=fV;have lT:Hid (bJ g w w1):=HS.out.trans ((bJ.bw (ai wr _)).trans kn);clear fV kn)
    go_roundw
    case rel=>exact ⟨4,by omega,by go_num,nH.out,lT.out⟩
    case measure=>simp [intOf]
   ·have li:=fun w=>gu w 4 (by decide)
    rw [show ((4:Nat):Int)=4 from rfl] at li ⊢
    simp only [place,width,dn] at li;go_wp2_with (go_at_call 216;refine (qQ g hb 16 4 4 (h 4) 4080 (ey l h 4) _ (by decide) HUK.out (by decide) (by decide) WY.out (HW.out.alloc _) (by rw [yq.out];decide) (nO.out _)).mono ?_;rintro e w1 ⟨rfl,fV,kn⟩;have nH:Hid (cF w1 g (ey l h (4+1))):=fV;have lT:Hid (bJ g w w1):=HS.out.trans ((bJ.bw (ai wr _)).trans kn);clear fV kn)
    go_roundw
    case rel=>exact ⟨5,by omega,by go_num,nH.out,lT.out⟩
    case measure=>simp [intOf]
  ·obtain rfl:k=5:=by omega
   rw [show ((5:Nat):Int)=5 from rfl]
   go_wp2_with fail;go_end0
   exact ⟨rfl,HW.out,HS.out⟩
theorem rE(i:Int)(w:World):Calls prog 150 #[.int .i64 i] w fun e w'=>e = .returned (.bool (decide (2≤i∧i<1048576)))∧w=w':=by
 by_cases h1:2≤i
 ·by_cases h2:i<1048576
  ·have e1:decide (2≤i∧i<1048576)=true:=by simp [h1,h2]
   rw [e1];go_enter func150,ntmps150;go_wp2;go_ret;exact ⟨rfl,rfl⟩
  ·have e1:decide (2≤i∧i<1048576)=false:=by simp [h2]
   rw [e1];go_enter func150,ntmps150;go_wp2;go_ret;exact ⟨rfl,rfl⟩
 ·have e1:decide (2≤i∧i<1048576)=false:=by simp [h1]
  rw [e1];go_enter func150,ntmps150;go_wp2;go_ret;exact ⟨rfl,rfl⟩
theorem oV(s:Sh)(w:World)(hs:s.body.size≤140737488355328):Calls prog 131 #[.agg s.cells.toArray] w fun e w'=>e = .returned (.bool (decide (sm s)))∧Below w.heap.size w w':=by
 obtain ⟨k,i,t,c,b⟩:=s;simp only [Sh.cells] at hs ⊢;have b7:(b.size:Int)≤140737488355328:=by omega
 have jX:=ai w (.cells #[.int .i64 k,.int .i64 i,.int .u64 (t:Int),.int .i64 c,.string b] 87);have HB:Hid (Below w.heap.size w (w.alloc (.cells #[.int .i64 k,.int .i64 i,.int .u64 (t:Int),.int .i64 c,.string b] 87))):=jX;clear jX;by_cases hk:k=66∨k=76
 ·by_cases hc:0≤c∧c≤65535
  ·by_cases hi:2≤i∧i<1048576
   ·obtain ⟨Av,S4⟩:=hc;by_cases hb:b.size=4072
    ·have e1:decide (sm ⟨k,i,t,c,b⟩)=true:=decide_eq_true ⟨hk,⟨Av,S4⟩,hi,hb⟩;have aU:(b.size:Int)=4072:=by omega
     have HI:=rE i;rw [decide_eq_true hi] at HI;have HI2:Hid (∀ w,Calls prog 150 #[.int .i64 i] w fun e w'=>e = .returned (.bool true)∧w=w'):=HI
     rw [e1];clear e1 hi HI hb;rcases hk with rfl | rfl
     all_goals
      go_enter func131,ntmps131;go_wp2_with (go_at_call 150;refine (HI2.out _).mono ?_;rintro e w' ⟨rfl,rfl⟩)
      go_ret;exact ⟨rfl,HB.out⟩
    ·have e1:decide (sm ⟨k,i,t,c,b⟩)=false:=decide_eq_false fun h=>hb h.2.2.2
     have aU:((b.size:Int) == 4072)=false:=beq_eq_false_iff_ne.2 (by omega)
     have HI:=rE i;rw [decide_eq_true hi] at HI;have HI2:Hid (∀ w,Calls prog 150 #[.int .i64 i] w fun e w'=>e = .returned (.bool true)∧w=w'):=HI
     rw [e1];clear e1 hi HI hb;rcases hk with rfl | rfl
     all_goals
      go_enter func131,ntmps131;go_wp2_with (go_at_call 150;refine (HI2.out _).mono ?_;rintro e w' ⟨rfl,rfl⟩)
      go_ret;exact ⟨rfl,HB.out⟩
   ·obtain ⟨Av,S4⟩:=hc;have e1:decide (sm ⟨k,i,t,c,b⟩)=false:=decide_eq_false fun h=>hi h.2.2.1
    have HI:=rE i;rw [decide_eq_false hi] at HI;have HI2:Hid (∀ w,Calls prog 150 #[.int .i64 i] w fun e w'=>e = .returned (.bool false)∧w=w'):=HI
    rw [e1];clear e1 hi HI;rcases hk with rfl | rfl
    all_goals
     go_enter func131,ntmps131;go_wp2_with (go_at_call 150;refine (HI2.out _).mono ?_;rintro e w' ⟨rfl,rfl⟩)
     go_ret;exact ⟨rfl,HB.out⟩
  ·have e1:decide (sm ⟨k,i,t,c,b⟩)=false:=decide_eq_false fun h=>hc h.2.1
   rw [e1];clear e1;by_cases Av:0≤c
   ·have S4:¬ c≤65535:=fun h=>hc ⟨Av,h⟩
    clear hc;rcases hk with rfl | rfl
    all_goals
     go_enter func131,ntmps131;go_wp2_with fail;go_ret;exact ⟨rfl,HB.out⟩
   ·clear hc;rcases hk with rfl | rfl
    all_goals
     go_enter func131,ntmps131;go_wp2_with fail;go_ret;exact ⟨rfl,HB.out⟩
 ·have e1:decide (sm ⟨k,i,t,c,b⟩)=false:=decide_eq_false fun h=>hk h.1
  rw [e1];clear e1;have jv:¬ k=66:=fun h=>hk (.inl h)
  have qM:¬ k=76:=fun h=>hk (.inr h)
  clear hk;by_cases Av:0≤c
  ·by_cases S4:c≤65535
   ·go_enter func131,ntmps131;go_wp2_with fail;go_ret;exact ⟨rfl,HB.out⟩
   ·go_enter func131,ntmps131;go_wp2_with fail;go_ret;exact ⟨rfl,HB.out⟩
  ·go_enter func131,ntmps131;go_wp2_with fail;go_ret;exact ⟨rfl,HB.out⟩
theorem pL(g:Nat)(a b c d e:Nat)(l:List UInt8)(w:World)(hl:l.length=4096)(hL:Lay w)(hr:cF w g l)(hf:mz (Eg a b c d e)):Calls prog 171 #[.slice (some ⟨g,0,none⟩) 4096 4096,.agg #[.int .u64 (a:Int),.int .u64 (b:Int),.int .u64 (c:Int),.int .u64 (d:Int),.int .u64 (e:Int)]] w fun x w'=>x = .returned (.tuple #[])∧cF w' g (ey l (Eg a b c d e) 5)∧bJ g w w':=by
 have bN:=hr.lt;have mU:=bL w #[.int .u64 (a:Int),.int .u64 (b:Int),.int .u64 (c:Int),.int .u64 (d:Int),.int .u64 (e:Int)] 256;have eU:=ai w (.cells #[.int .u64 (a:Int),.int .u64 (b:Int),.int .u64 (c:Int),.int .u64 (d:Int),.int .u64 (e:Int)] 256);have C:=LF g w.heap.size (Eg a b c d e) l (w.alloc (.cells #[.int .u64 (a:Int),.int .u64 (b:Int),.int .u64 (c:Int),.int .u64 (d:Int),.int .u64 (e:Int)] 256)) hl (by omega) (hL.below eU) (hr.below eU) hf (fun k hk=>by
  obtain rfl | rfl | rfl | rfl | rfl:k=0∨k=1∨k=2∨k=3∨k=4:=by omega
  ·exact mU.2 0 (by simp)
  ·exact mU.2 1 (by simp)
  ·exact mU.2 2 (by simp)
  ·exact mU.2 3 (by simp)
  ·exact mU.2 4 (by simp))
 have HS0:Hid (bJ g w (w.alloc (.cells #[.int .u64 (a:Int),.int .u64 (b:Int),.int .u64 (c:Int),.int .u64 (d:Int),.int .u64 (e:Int)] 256))):=bJ.bw eU;have HC:Hid (Calls prog 215 #[.slice (some ⟨g,0,none⟩) 4096 4096,.func (.func 216) #[] #[.pointer (some ⟨w.heap.size,0,none⟩)]] (w.alloc (.cells #[.int .u64 (a:Int),.int .u64 (b:Int),.int .u64 (c:Int),.int .u64 (d:Int),.int .u64 (e:Int)] 256)) fun x w'=>x = .returned (.tuple #[])∧cF w' g (ey l (Eg a b c d e) 5)∧bJ g (w.alloc (.cells #[.int .u64 (a:Int),.int .u64 (b:Int),.int .u64 (c:Int),.int .u64 (d:Int),.int .u64 (e:Int)] 256)) w'):=C
 clear C mU eU hL hr hf hl bN;go_enter func171,ntmps171;go_wp2_with (go_at_call 215;refine HC.out.mono ?_;rintro x w1 ⟨rfl,fV,kn⟩;have nH:Hid (cF w1 g (ey l (Eg a b c d e) 5)):=fV;have lT:Hid (bJ g w w1):=HS0.out.trans kn;clear fV kn)
 go_end0
 exact ⟨rfl,nH.out,lT.out⟩
theorem vY{ops:Array Oper}{o:Oper}{a:Act}{w:World}{K:Act→World→Prop}{Q:Exit→Act→World→Prop}{E:Prop}(nx:o.guard=none)(d x:Operand)
  (ho:o.op = .call { callee:=.builtin .copy,args:=#[d,x],argTypes:=#[145,9] }) (yS:o.type=3) (g off n cap:Nat) (l:List UInt8) (s:ByteArray)
  (hd:a.eval d = .slice (some ⟨g,off,none⟩) n cap) (hx:a.eval x = .string s) (hr:cF w g l) (hn:n=s.size) (eC:off+s.size≤l.length)
  (h:∀ w2,Hid (cF w2 g (splice l off s.data.toList))→Hid (bJ g w w2)→K (a.put o.dst (goInt s.size)) w2) :
  if Region.wanted o (yielded ops a.tmps)=true then Oper.wp prog o a w K Q else E:=by
 have hw:Region.wanted o (yielded ops a.tmps)=true:=by simp [Region.wanted,nx]
 rw [if_pos hw];obtain ⟨w2,bn,h1,h2⟩:=LU (cap:=cap) s hr hn eC;unfold Oper.wp;simp [execOp,ho,resolve,invoke,builtin,hd,hx,yS,bn,Result.andThen]
 exact h w2 h1 h2
theorem NO{w:World}{g n:Nat}{l:List UInt8}(h:cF w g l)(hn:l.length=n)(hm:n≤maxLen):Rd w (.slice (some ⟨g,0,none⟩) n n) l:=by
 subst hn;exact .inr ⟨g,l.length,rfl,aj _,hm,h.lt,h.cell⟩
theorem Bf(n:Nat):(madeCells #[Value.int .u8 0] n).toList=dS (List.replicate n 0):=by
 rw [dS,oJ];simp [madeCells,Nat.mod_one,List.map_const']
theorem A7{w:World}{base g n:Nat}{l:List UInt8}(h:w.ownsRow base 5 1 (.slice (some ⟨g,0,none⟩) n n) n (dS l)):cF w g l:=by
 rcases h.2 with ⟨h',_⟩ | ⟨g',eS,cur,h',hb,hg,hn,hc,hs,ht⟩
 ·cases h'
 ·cases h'
  unfold cF;rw [hg,← ht,al (by simpa using Nat.le_of_eq hs)]
theorem Tz(b:List UInt8)(hb:b.length=4072):splice (List.replicate 4096 0) 24 b=List.replicate 24 0++b:=by
 unfold splice;rw [List.take_replicate,nA,hb,show 4096 - (24+4072)=0 from rfl,List.replicate_zero,List.append_nil,show min 24 4096=24 from rfl]
theorem Ay{k c i t e:Nat}(hk:k<256)(hc:c≤65535)(hi:i<1048576)(ht:t<18446744073709551616)(he:e<4294967296):mz (Eg k c i t e):=by
 intro j hj;obtain rfl | rfl | rfl | rfl | rfl:j=0∨j=1∨j=2∨j=3∨j=4:=by omega
 ·show k<2 ^ 8;omega
 ·show c<2 ^ 16;omega
 ·show i<2 ^ 32;omega
 ·show t<2 ^ 64;omega
 ·show e<2 ^ 32;omega
theorem Ga(k i t c:Nat)(b:ByteArray)(w:World)(hk:k<256)(hc:c≤65535)(hi:i<1048576)(Q7:t<18446744073709551616)(hb:b.size=4072)(hL:Lay w)(ht:EW w):Calls prog 132 #[.agg #[.int .i64 (k:Int),.int .i64 (i:Int),.int .u64 (t:Int),.int .i64 (c:Int),.string b]] w fun e w'=>∃ g,e = .returned (.slice (some ⟨g,0,none⟩) 4096 4096)∧cF w' g (bare k c i t (BH (bare k c i t 0 b.data.toList)) b.data.toList)∧w.heap.size≤g∧Below w.heap.size w w':=by
 obtain ⟨i0,ac5,nK,mG,o7⟩:=info_parts Tryz.info5;have HB:Hid (b.size=4072):=hb;have HL:Hid (Lay w):=hL;have HT:Hid (EW w):=ht;have k64:(k:Int) % 18446744073709551616=(k:Int):=by omega
 have c64:(c:Int) % 18446744073709551616=(c:Int):=by omega
 have i64:(i:Int) % 18446744073709551616=(i:Int):=by omega
 have vI:Hid (Boxed w.heap.size [.int .i64 (k:Int),.int .i64 (i:Int),.int .u64 (t:Int),.int .i64 (c:Int),.string b] (w.alloc (.cells #[.int .i64 (k:Int),.int .i64 (i:Int),.int .u64 (t:Int),.int .i64 (c:Int),.string b] 87))):=bL w _ _;have uY:Hid (Below w.heap.size w (w.alloc (.cells #[.int .i64 (k:Int),.int .i64 (i:Int),.int .u64 (t:Int),.int .i64 (c:Int),.string b] 87))):=ai w _;clear hb hL ht;go_enter func132,ntmps132;go_wp2_with (at_make;refine wpList_make_full _ rfl _ _ 145 rfl 0 5 i0 (.int .u8 0) 1 underlying145 ac5 nK mG .i64 .i64 _ _ 4096 rfl rfl rfl rfl ?c1 ?c2 (aD _) ?_)
 case c1=>rw [o7];decide
 case c2=>decide
 intro w1 oA fG;rw [Bf] at oA;have fV:=A7 oA;have aL:Below (w.alloc (.cells #[.int .i64 (k:Int),.int .i64 (i:Int),.int .u64 (t:Int),.int .i64 (c:Int),.string b] 87)).heap.size (w.alloc (.cells #[.int .i64 (k:Int),.int .i64 (i:Int),.int .u64 (t:Int),.int .i64 (c:Int),.string b] 87)) w1:=⟨fG.os,fG.tape,fG.output,fG.size,fun k hk=>fG.block k hk (by simp)⟩
 have Xb:=vI.out.below aL;have bP:Hid (Below w.heap.size w w1):=Below.next uY.out aL;clear oA aL fG vI uY;obtain ⟨g,hg⟩ : ∃ g,g=w.heap.size+1:=⟨_,rfl⟩;have YV:cF w1 g (List.replicate 4096 0):=by rw [hg];exact fV
 rw [← hg];have HG:Hid (g=w.heap.size+1):=hg;clear fV hg;have x4:w1.cell? ⟨w.heap.size,4,none⟩=some (.string b):=Xb.2 4 (by simp)
 have nH:Hid (cF w1 g (List.replicate 4096 0)):=YV;have QX:Hid (Boxed w.heap.size [.int .i64 (k:Int),.int .i64 (i:Int),.int .u64 (t:Int),.int .i64 (c:Int),.string b] w1):=Xb;clear YV Xb;go_wp2_with fail;go_region_law (refine vY rfl (.tmp 7) (.tmp 9) rfl rfl g 24 4072 4072 (List.replicate 4096 0) b rfl rfl ?_ HB.out.symm ?_ ?_;(exact nH.out);(rw [bu,HB.out];exact aj _);intro w2 oL ll)
 all_goals
  have jm:bJ g w1 w2:=⟨ll.out.os,ll.out.tape,ll.out.output,ll.out.size,ll.out.block⟩;have iG:=oL.out;rw [Tz _ (by rw [bsize];exact HB.out)] at iG
  have TR:Hid (cF w2 g (List.replicate 24 0++b.data.toList)):=iG;have aU:Below w.heap.size w w2:=jm.below bP.out (by have:=HG.out;omega)
  have bH:Hid (Below w.heap.size w w2):=aU;have xH:w.heap.size<g:=by have:=HG.out;omega
  have y0:w2.cell? ⟨w.heap.size,0,none⟩=some (.int .i64 (k:Int)):=jm.cell (QX.out.2 0 (by simp)) (by show w.heap.size≠g;omega)
  have y1:w2.cell? ⟨w.heap.size,1,none⟩=some (.int .i64 (i:Int)):=jm.cell (QX.out.2 1 (by simp)) (by show w.heap.size≠g;omega)
  have y2:w2.cell? ⟨w.heap.size,2,none⟩=some (.int .u64 (t:Int)):=jm.cell (QX.out.2 2 (by simp)) (by show w.heap.size≠g;omega)
  have y3:w2.cell? ⟨w.heap.size,3,none⟩=some (.int .i64 (c:Int)):=jm.cell (QX.out.2 3 (by simp)) (by show w.heap.size≠g;omega)
  have HGW:Hid (g<w2.heap.size):=iG.lt;have HN:Hid (Below w2.heap.size w2 (w2.alloc (.cells #[.int .u64 (k:Int),.int .u64 (c:Int),.int .u64 (i:Int),.int .u64 (t:Int),.int .u64 0] 256))):=ai w2 _;have HX:Hid ((w2.alloc (.cells #[.int .u64 (k:Int),.int .u64 (c:Int),.int .u64 (i:Int),.int .u64 (t:Int),.int .u64 0] 256)).heap[w2.heap.size]?=some (.cells #[.int .u64 (k:Int),.int .u64 (c:Int),.int .u64 (i:Int),.int .u64 (t:Int),.int .u64 0] 256 (0,0))):=heap_alloc_new w2 _;clear ll oL jm iG aU x4 nH QX bP;go_wp2_with fail;generalize (w2.alloc (.cells #[.int .u64 (k:Int),.int .u64 (c:Int),.int .u64 (i:Int),.int .u64 (t:Int),.int .u64 0] 256))=w3 at *;have eG:Hid (Below w.heap.size w w3):=bH.out.trans (HN.out.mono bH.out.size);have Zu:(List.replicate 24 (0:UInt8)++b.data.toList).length=4096:=by rw [ae,bu,bsize,HB.out]
  have C:=pL g k c i t 0 _ w3 Zu (HL.out.below eG.out) (TR.out.below HN.out) (Ay hk hc hi Q7 (by decide))
  rw [GU] at C;have Zg:w2.heap.size≠g:=by have:=HGW.out;omega
  refine C.mono ?_
  rintro x w4 ⟨rfl,O4,hs4⟩;have OV:w4.heap[w2.heap.size]?=some (.cells #[.int .u64 (k:Int),.int .u64 (c:Int),.int .u64 (i:Int),.int .u64 (t:Int),.int .u64 0] 256 (0,0)):=by
   rw [hs4.block _ (by
    rcases bg w2.heap.size w3.heap.size with h' | h'
    ·exact h'
    ·have:=HX.out;rw [aX h'] at this;cases this) Zg]
   exact HX.out
  have iU:Hid (Below w.heap.size w w4):=hs4.below eG.out (by omega)
  have HR4:Hid (cF w4 g (bare k c i t 0 b.data.toList)):=O4;have jt:(bare k c i t 0 b.data.toList).length=4096:=by rw [ES,bsize,HB.out]
  have HCR:Hid (Calls prog 172 #[.slice (some ⟨g,0,none⟩) 4096 4096] w4 fun e w'=>e = .returned (.int .u32 ((BH (bare k c i t 0 b.data.toList):Nat):Int))∧w4=w') :=
   Wu _ _ w4 (by rw [jt];decide) (NO O4 jt (by decide)) (HT.out.below iU.out)
  have xJ:BH (bare k c i t 0 b.data.toList)<4294967296:=Od _;obtain ⟨cv,S2⟩ : ∃ cv,cv=BH (bare k c i t 0 b.data.toList):=⟨_,rfl⟩;rw [← S2] at xJ;have HCV:Hid (cv=BH (bare k c i t 0 b.data.toList)):=S2;have aeT:Hid (Calls prog 172 #[.slice (some ⟨g,0,none⟩) 4096 4096] w4 fun e w'=>e = .returned (.int .u32 (cv:Int))∧w4=w'):=by
   show Calls _ _ _ _ _
   rw [S2];exact HCR.out
  have aiZ:(cv:Int) % 18446744073709551616=(cv:Int):=by omega
  have z0:w4.cell? ⟨w2.heap.size,0,none⟩=some (.int .u64 (k:Int)):=by rw [cell_of_row _ _ _ _ _ _ OV];rfl
  have z1:w4.cell? ⟨w2.heap.size,1,none⟩=some (.int .u64 (c:Int)):=by rw [cell_of_row _ _ _ _ _ _ OV];rfl
  have z2:w4.cell? ⟨w2.heap.size,2,none⟩=some (.int .u64 (i:Int)):=by rw [cell_of_row _ _ _ _ _ _ OV];rfl
  have z3:w4.cell? ⟨w2.heap.size,3,none⟩=some (.int .u64 (t:Int)):=by rw [cell_of_row _ _ _ _ _ _ OV];rfl
  have z4:w4.cell? ⟨w2.heap.size,4,none⟩=some (.int .u64 0):=by rw [cell_of_row _ _ _ _ _ _ OV];rfl
  have fz:w4.frozen? ⟨w2.heap.size,4,none⟩=false:=frozen_of_row _ _ _ _ _ OV;have XI:Hid (w.heap.size≤w2.heap.size):=bH.out.size;clear C HX HN y0 y1 y2 y3 hs4 O4 OV HCR S2 Zu eG bH TR HGW;go_wp2_with (go_at_call 172;refine aeT.out.mono ?_;rintro e w' ⟨rfl,rfl⟩)
  have sq:Hid (Below w.heap.size w (w4.setCell ⟨w2.heap.size,4,none⟩ (.int .u64 (cv:Int)))):=iU.out.setCell XI.out _;have XM:Hid (cF (w4.setCell ⟨w2.heap.size,4,none⟩ (.int .u64 (cv:Int))) g (bare k c i t 0 b.data.toList)):=HR4.out.ace (bJ.set w2.heap.size 4 w4 _) (fun e=>Zg e.symm)
  have C:=pL g k c i t cv _ (w4.setCell ⟨w2.heap.size,4,none⟩ (.int .u64 (cv:Int))) jt (HL.out.below sq.out) XM.out (Ay hk hc hi Q7 xJ);rw [La] at C;refine C.mono ?_
  rintro x w6 ⟨rfl,hr6,hs6⟩;have HR6:Hid (cF w6 g (bare k c i t cv b.data.toList)):=hr6;have HB6:Hid (Below w.heap.size w w6):=hs6.below sq.out (by omega)
  clear C hr6 hs6 sq XM;go_wp2_with fail;go_ret;refine ⟨g,rfl,?_,by omega,HB6.out⟩
  rw [← HCV.out];exact HR6.out
theorem wQ(s:Sh)(w:World)(hm:sm s)(hx:s.sE<18446744073709551616)(hL:Lay w)(ht:EW w):Calls prog 132 #[.agg s.cells.toArray] w fun e w'=>∃ g,e = .returned (.slice (some ⟨g,0,none⟩) 4096 4096)∧cF w' g (gW s)∧w.heap.size≤g∧Below w.heap.size w w':=by
 obtain ⟨k,i,t,c,b⟩:=s;obtain ⟨hk,⟨Av,S4⟩,⟨B8,uS⟩,hb⟩:=hm;simp only at hk Av S4 B8 uS hb hx;obtain ⟨k,rfl⟩:=cy (show 0≤k by omega)
 obtain ⟨c,rfl⟩:=cy Av;obtain ⟨i,rfl⟩:=cy (show 0≤i by omega)
 exact Ga k i t c b w (by omega) (by omega) (by omega) hx hb hL ht
@[reducible] def shV(k i:Int)(t:Nat)(c:Int)(b:ByteArray):Value:=.agg #[.int .i64 k,.int .i64 i,.int .u64 (t:Int),.int .i64 c,.string b]
theorem RZ(s:Sh)(w:World)(hm:sm s)(hx:s.sE<18446744073709551616)(hL:Lay w)(ht:EW w):Calls prog 96 #[.agg s.cells.toArray] w fun e w'=>∃ g,e = .returned (.tuple #[.slice (some ⟨g,0,none⟩) 4096 4096,.nilIface])∧cF w' g (gW s)∧w.heap.size≤g∧Below w.heap.size w w':=by
 obtain ⟨k,i,t,c,b⟩:=s;have HM:Hid (∀ w,Calls prog 131 #[.agg #[.int .i64 k,.int .i64 i,.int .u64 (t:Int),.int .i64 c,.string b]] w fun e w'=>e = .returned (.bool true)∧Below w.heap.size w w'):=fun w=>by
  have h:=oV ⟨k,i,t,c,b⟩ w (by rw [hm.2.2.2];decide)
  rw [decide_eq_true hm] at h;exact h
 have HP:Hid (∀ w,Lay w→EW w→Calls prog 132 #[.agg #[.int .i64 k,.int .i64 i,.int .u64 (t:Int),.int .i64 c,.string b]] w fun e w'=>∃ g,e = .returned (.slice (some ⟨g,0,none⟩) 4096 4096)∧cF w' g (gW ⟨k,i,t,c,b⟩)∧w.heap.size≤g∧Below w.heap.size w w'):=fun w h1 h2=>wQ ⟨k,i,t,c,b⟩ w hm hx h1 h2
 have vI:Hid (Boxed w.heap.size [.int .i64 k,.int .i64 i,.int .u64 (t:Int),.int .i64 c,.string b] (w.alloc (.cells #[.int .i64 k,.int .i64 i,.int .u64 (t:Int),.int .i64 c,.string b] 87))):=bL w _ _;have uY:Hid (Below w.heap.size w (w.alloc (.cells #[.int .i64 k,.int .i64 i,.int .u64 (t:Int),.int .i64 c,.string b] 87))):=ai w _;have HL:Hid (Lay w):=hL;have HT:Hid (EW w):=ht;clear hm hx hL ht;show Calls prog 96 #[.agg #[.int .i64 k,.int .i64 i,.int .u64 (t:Int),.int .i64 c,.string b]] w _
 go_enter func96,ntmps96;go_wp2_with fail;refine (HM.out _).mono ?_
 rintro e w1 ⟨rfl,aL⟩;have sd:=vI.out.below aL;have bP:Hid (Below w.heap.size w w1):=Below.next uY.out aL;have c0:w1.cell? ⟨w.heap.size,0,none⟩=some (.int .i64 k):=sd.2 0 (by simp)
 have c1:w1.cell? ⟨w.heap.size,1,none⟩=some (.int .i64 i):=sd.2 1 (by simp)
 have c2:w1.cell? ⟨w.heap.size,2,none⟩=some (.int .u64 (t:Int)):=sd.2 2 (by simp)
 have c3:w1.cell? ⟨w.heap.size,3,none⟩=some (.int .i64 c):=sd.2 3 (by simp)
 have c4:w1.cell? ⟨w.heap.size,4,none⟩=some (.string b):=sd.2 4 (by simp)
 clear sd aL vI uY;go_wp2_with fail;refine (HP.out _ (HL.out.below bP.out) (HT.out.below bP.out)).mono ?_
 rintro e w2 ⟨g,rfl,hr,hg,aU⟩;have HF:Hid (cF w2 g (gW ⟨k,i,t,c,b⟩)∧w.heap.size≤g∧Below w.heap.size w w2):=⟨hr,ar bP.out.size hg,Below.next bP.out aU⟩;clear hr hg aU c0 c1 c2 c3 c4;go_wp2_with fail;go_ret2;exact ⟨g,rfl,HF.out⟩
theorem R0(a:Addr)(s:Sh)(w:World)(hs:s.body.size≤140737488355328)(hm:¬ sm s)(hc:w.cell? ⟨0,0,none⟩=some (.iface 360 (.pointer (some a)))):Calls prog 96 #[.agg s.cells.toArray] w fun e w'=>e = .returned (.tuple #[.slice none 0 0,.iface 360 (.pointer (some a))])∧Below w.heap.size w w':=by
 obtain ⟨k,i,t,c,b⟩:=s;have HM:Hid (∀ w,Calls prog 131 #[.agg #[.int .i64 k,.int .i64 i,.int .u64 (t:Int),.int .i64 c,.string b]] w fun e w'=>e = .returned (.bool false)∧Below w.heap.size w w'):=fun w=>by
  have h:=oV ⟨k,i,t,c,b⟩ w hs;rw [decide_eq_false hm] at h;exact h
 have uY:Hid (Below w.heap.size w (w.alloc (.cells #[.int .i64 k,.int .i64 i,.int .u64 (t:Int),.int .i64 c,.string b] 87))):=ai w _;have HC:Hid (w.cell? ⟨0,0,none⟩=some (.iface 360 (.pointer (some a)))):=hc;clear hm hc;show Calls prog 96 #[.agg #[.int .i64 k,.int .i64 i,.int .u64 (t:Int),.int .i64 c,.string b]] w _
 go_enter func96,ntmps96;go_wp2_with fail;refine (HM.out _).mono ?_
 rintro e w1 ⟨rfl,aL⟩;have bP:Hid (Below w.heap.size w w1):=Below.next uY.out aL;have c0:w1.cell? ⟨0,0,none⟩=some (.iface 360 (.pointer (some a))):=(bP.out.cell (World.block_lt_of_cell? w _ HC.out)).trans HC.out;clear aL uY;go_wp2_with fail;go_quiet (fail)
 go_wp2_with fail;go_ret2;exact ⟨rfl,below_drewN bP.out _⟩
end S
end Go.Proofs.YtihmgigfkmofnaaGreatDoor
