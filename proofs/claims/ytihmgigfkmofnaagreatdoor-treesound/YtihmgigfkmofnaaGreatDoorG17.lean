import Derived.Test.YtihmgigfkmofnaaGreatDoorG16
import Derived.Laws.BitsAllLaws
set_option maxHeartbeats 2000000
open Go.Proofs.Tryz
namespace Go.Proofs.YtihmgigfkmofnaaGreatDoor
namespace S
open Go.RowKit
theorem Tq{k:IntKind}{a b:Nat}(h:a=b):Ending.returned (.int k (a:Int)) = .returned (.int k (b:Int)):=by rw [h]
theorem wz(x:Nat)(hx:x<4294967296):bits BinOp.xor IntKind.u32 IntKind.u32.max (x:Int)=((nt x:Nat):Int):=by
 have h:IntKind.u32.max=((4294967295:Nat):Int):=rfl;rw [h,u32_xor_nat _ _ (by omega) hx]
 exact congrArg Nat.cast (Xc x hx)
theorem I8(y:Nat)(hy:y<4294967296):bits BinOp.xor IntKind.u32 ((y:Int) / 16) ((tab (y % 16):Nat):Int)=((xj y:Nat):Int):=by
 have:=u32_xor_nat (y / 16) (tab (y % 16)) (by omega) (OG _)
 rw [← show (((y / 16:Nat):Nat):Int)=(y:Int) / 16 from by omega]
 exact this
theorem Wf(y:Nat)(hy:y<4294967296):bits BinOp.and IntKind.u32 (y:Int) 15=((y % 16:Nat):Int):=by
 have:=u32_and_nat y 15 hy (by omega)
 rw [nat_mask4] at this;exact this
theorem ID(x:Nat)(b off len cap:Nat)(l:List UInt8)(w:World)(hx:x<4294967296)(hlen:l.length=len)(hm:len≤140737488355328)(hc:∀ j (h:j<l.length),w.cell? ⟨b,off+j,none⟩=some (.int .u8 (l[j].toNat:Int)))(ht:∀ j,j<16→w.cell? ⟨15,j,none⟩=some (.int .u32 (tab j:Nat))):Calls prog 218 #[.int .u32 (x:Int),.slice (some ⟨b,off,none⟩) len cap] w fun e w'=>e = .returned (.int .u32 ((nt (ly (nt x) l):Nat):Int))∧w=w':=by
 have hnt:=wz x hx;have hy:nt x<4294967296:=Py x;go_enter func218,ntmps218;go_wp2;go_loop [5,12] (fun r i=>∃ k y:Nat,k≤len∧y<4294967296∧i = .int .i64 k∧r = .int .u32 (y:Int)∧y=ly (nt x) (l.take k)) (fun _ i=>len - (intOf i).toNat)
 case atStart=>exact ⟨0,nt x,aB _,hy,rfl,rfl,rfl⟩
 case round =>
  obtain ⟨k,y,hk,hy,rfl,rfl,Xl⟩:=hrel;have HY:Hid (y=ly (nt x) (l.take k)):=Xl;clear Xl;by_cases bO:k<len
  ·have kV:=hc k (by omega)
   obtain ⟨c,NW⟩ : ∃ c:Nat,c=(l[k]'(by omega)).toNat:=⟨_,rfl⟩
   have V4:c<256:=by rw [NW];exact UInt8.toNat_lt _
   rw [← NW] at kV;have HC:Hid (c=(l[k]'(by omega)).toNat):=NW
   clear NW;have sA:(c:Int) % 4294967296=(c:Int):=by omega
   obtain ⟨y1,YX⟩ : ∃ y1:Nat,y1=y ^^^ c:=⟨_,rfl⟩;have Xn:y1<4294967296:=by rw [YX];exact Nat.xor_lt_two_pow (n:=32) hy (by omega)
   have e1:bits BinOp.xor IntKind.u32 (y:Int) (c:Int)=(y1:Int):=by rw [YX];exact u32_xor_nat y c hy (by omega)
   have e2:bits BinOp.and IntKind.u32 (y1:Int) 15=((y1 % 16:Nat):Int):=Wf y1 Xn;have t1:=ht (y1 % 16) (by omega)
   have b1:(0:Int)≤((y1 % 16:Nat):Int):=by omega
   have b2:((y1 % 16:Nat):Int)<16:=by omega
   obtain ⟨y2,YW⟩ : ∃ y2:Nat,y2=xj y1:=⟨_,rfl⟩;have Xm:y2<4294967296:=by rw [YW];exact Dd y1 Xn
   have e3:bits BinOp.xor IntKind.u32 ((y1:Int) / 16) ((tab (y1 % 16):Nat):Int)=(y2:Int):=by rw [YW];exact I8 y1 Xn
   have e4:bits BinOp.and IntKind.u32 (y2:Int) 15=((y2 % 16:Nat):Int):=Wf y2 Xm;have t2:=ht (y2 % 16) (by omega)
   have b3:(0:Int)≤((y2 % 16:Nat):Int):=by omega
   have b4:((y2 % 16:Nat):Int)<16:=by omega
   obtain ⟨y3,hy3⟩ : ∃ y3:Nat,y3=xj y2:=⟨_,rfl⟩;have aen:y3<4294967296:=by rw [hy3];exact Dd y2 Xm
   have e5:bits BinOp.xor IntKind.u32 ((y2:Int) / 16) ((tab (y2 % 16):Nat):Int)=(y3:Int):=by rw [hy3];exact I8 y2 Xm
   have HR:Hid (y3=ly (nt x) (l.take (k+1))):=by
    show y3=_
    rw [Ar l k (by omega),Fo,← HY.out,← HC.out,hy3,YW,YX];rfl
   clear YX YW hy3 hc ht;go_wp2;go_round
   case rel=>exact ⟨k+1,y3,by omega,aen,by go_num,rfl,HR.out⟩
   case measure=>simp [intOf];omega
  ·have Me:l.take k=l:=ao (by omega)
   have aeM:=wz y hy;have HE:Hid (y=ly (nt x) l):=by
    show y=_
    rw [HY.out,Me]
   clear Me hc ht;go_wp2;go_ret;exact ⟨Tq (congrArg nt HE.out),rfl⟩
def Rd(w:World)(v:Value)(l:List UInt8):Prop :=
 (v = .slice none 0 0∧l=[])∨∃ g cap,v = .slice (some ⟨g,0,none⟩) l.length cap∧l.length≤cap∧cap≤maxLen∧g<w.heap.size∧(∀ j (h:j<l.length),w.cell? ⟨g,j,none⟩=some (.int .u8 (l[j].toNat:Int)))
def FQ(w:World):Prop:=(∀ j,j<16→w.cell? ⟨15,j,none⟩=some (.int .u32 (tab j:Nat)))∧15<w.heap.size
def Cu(l:List UInt8):Nat:=nt (ly (nt 0) l)
theorem GU{w:World}{base n:Nat}{v:Value}{l:List UInt8}(h:w.ownsRow base 5 1 v n (dW l)):Rd w v l:=by
 have hl:=h.1;rw [a7,Nat.mul_one] at hl;subst hl;by_cases h0:l.length=0
 ·rcases h.2 with ⟨h',_⟩ | ⟨g,cap,cur,h',hb,hg,hn,hc,_,_⟩
  ·exact .inl ⟨h',List.length_eq_zero_iff.1 h0⟩
  ·refine .inr ⟨g,cap,h',hn,hc,?_,fun j hj=>by omega⟩
   rcases a6 g w.heap.size with bO | zp
   ·exact bO
   ·rw [aZ zp] at hg;cases hg
 ·obtain ⟨g,cap,rfl,hb,bO⟩:=h.form (by omega)
  refine .inr ⟨g,cap,rfl,?_,?_,bO,fun j hj=>by rw [h.cellAt j (by omega),iC l j hj]⟩
  ·rcases h.2 with ⟨h',_⟩ | ⟨g',eO,cur,h',_,_,hn,hc,_,_⟩
   ·cases h'
   ·cases h';exact hn
  ·rcases h.2 with ⟨h',_⟩ | ⟨g',eO,cur,h',_,_,hn,hc,_,_⟩
   ·cases h'
   ·cases h';exact hc
theorem FQ.below{w w':World}(h:FQ w)(hb:Below w.heap.size w w'):FQ w' :=
 ⟨fun j hj=>(hb.cell (p:=⟨15,j,none⟩) h.2).trans (h.1 j hj),aq h.2 hb.size⟩
theorem Fp(x:Nat)(w:World)(hx:x<4294967296):Calls prog 218 #[.int .u32 (x:Int),.slice none 0 0] w fun e w'=>e = .returned (.int .u32 ((nt (nt x):Nat):Int))∧w=w':=by
 have hnt:=wz x hx;have aeM:=wz (nt x) (Py x);go_enter func218,ntmps218;go_wp2;go_loop [5,12] (fun r i=>i = .int .i64 0∧r = .int .u32 (nt x:Int)) (fun _ i=>0)
 case atStart=>exact ⟨rfl,rfl⟩
 case round =>
  obtain ⟨rfl,rfl⟩:=hrel;go_wp2;go_ret;exact ⟨rfl,rfl⟩
theorem IC(x:Nat)(X:Int)(v:Value)(l:List UInt8)(w:World)(hX:X=(x:Int))(hx:x<4294967296)(hm:l.length≤140737488355328)(hr:Rd w v l)(ht:FQ w):Calls prog 218 #[.int .u32 X,v] w fun e w'=>e = .returned (.int .u32 ((nt (ly (nt x) l):Nat):Int))∧w=w':=by
 subst hX;rcases hr with ⟨rfl,rfl⟩ | ⟨g,cap,rfl,h1,h2,h3,h4⟩
 ·exact Fp x w hx
 ·exact ID x g 0 l.length cap l w hx rfl hm (fun j hj=>by rw [Nat.zero_add];exact h4 j hj) ht.1
theorem Yb(v:Value)(l:List UInt8)(w:World)(hm:l.length≤140737488355328)(hr:Rd w v l)(ht:FQ w):Calls prog 172 #[v] w fun e w'=>e = .returned (.int .u32 ((Cu l:Nat):Int))∧w=w':=by
 have H:=IC 0 0 v l w rfl (by decide) hm hr ht
 have HH:Hid (Calls prog 218 #[.int .u32 0,v] w fun e w'=>e = .returned (.int .u32 ((nt (ly (nt 0) l):Nat):Int))∧w=w'):=H
 clear H hr ht;go_enter func172,ntmps172;go_wp2_with (go_at_call 218;refine HH.out.mono ?_;rintro e w' ⟨rfl,rfl⟩)
 go_ret;exact ⟨rfl,rfl⟩
def fits(n:Nat)(width:Int):Prop:=1≤width∧width≤8∧n<2^(8*width.toNat)
theorem aee(A:Nat→Addr)(n:Nat)(width:Int)(w:World)(hn:n<18446744073709551616)(sS : -9223372036854775808≤width)(Sw:width≤9223372036854775807)(hA:YS A w)(fl:¬ fits n width):Calls prog 217 #[.int .u64 (n:Int),.int .i64 width] w fun e w'=>e = .returned (.tuple #[.slice none 0 0,.iface 360 (.pointer (some (A 0)))])∧Below w.heap.size w w':=by
 have c0:w.cell? ⟨0,0,none⟩=some (.iface 360 (.pointer (some (A 0)))):=(hA.1 0 (by decide)).1
 clear hA;by_cases h1:width<1
 ·have zq:decide (width<1)=true:=decide_eq_true h1;clear fl;go_enter func217,ntmps217;go_wp2_with fail;go_quiet (fail)
  go_wp2_with fail;go_ret2;exact ⟨rfl,below_drewN (Below.refl _ _) _⟩
 ·have zq:decide (width<1)=false:=decide_eq_false h1;by_cases h8:8<width
  ·have Ml:decide (8<width)=true:=decide_eq_true h8;clear fl;go_enter func217,ntmps217;go_wp2_with fail;go_quiet (fail)
   go_wp2_with fail;go_ret2;exact ⟨rfl,below_drewN (Below.refl _ _) _⟩
  ·have Ml:decide (8<width)=false:=decide_eq_false h8;obtain ⟨m,rfl⟩:=cB (show 0≤width by omega)
   have hb:¬ Lib.bitLen n≤8*m:=by
    rw [vH n (8*m) (by omega) hn]
    intro h;exact fl ⟨by omega,by omega,by simpa using h⟩
   have hd3:decide (8*(m:Int)<((Lib.bitLen n:Nat):Int))=true:=decide_eq_true (by omega)
   clear fl;go_enter func217,ntmps217;go_wp2_with (go_at_call 146;refine (tO n _ hn).mono ?_;rintro e w' ⟨rfl,rfl⟩)
   go_quiet (fail)
   go_wp2_with fail;go_ret2;exact ⟨rfl,below_drewN (Below.refl _ _) _⟩
variable {rb:Nat} {w w':World} {l:List UInt8} {o:Nat}
structure bG(rb:Nat)(w w':World):Prop where
 os:w'.os=w.os
 tape:w'.tape=w.tape
 output:w'.output=w.output
 size:w.heap.size≤w'.heap.size
 block:∀ k,k<w.heap.size→k≠rb→w'.heap[k]?=w.heap[k]?
theorem bG.refl(rb:Nat)(w:World):bG rb w w:=⟨rfl,rfl,rfl,aj _,fun _ _ _=>rfl⟩
theorem bG.bD(h:Below w.heap.size w w'):bG rb w w':=⟨h.os,h.tape,h.output,h.size,fun k hk _=>h.block k hk⟩
theorem bG.trans{rb:Nat}{a b c:World}(h:bG rb a b)(k:bG rb b c):bG rb a c :=
 ⟨k.os.trans h.os,k.tape.trans h.tape,k.output.trans h.output,ar h.size k.size,fun i hi hn=>(k.block i (aq hi h.size) hn).trans (h.block i hi hn)⟩
theorem bG.set(rb o:Nat)(w:World)(u:Value):bG rb w (w.setCell ⟨rb,o,none⟩ u) :=
 ⟨rfl,rfl,rfl,by simp [World.setCell],fun k _ hn=>Below.heap_setCell w ⟨rb,o,none⟩ u k (fun e=>hn e)⟩
theorem bG.setRow(rb:Nat)(w:World)(cs:Array Value):bG rb w (w.setRow rb cs) :=
 ⟨rfl,rfl,rfl,by simp [World.setRow],fun k _ hn=>setRow_other w rb k cs hn⟩
theorem bG.below{w0:World}(h:bG rb w w')(hb:Below w0.heap.size w0 w)(hr:w0.heap.size≤rb):Below w0.heap.size w0 w' :=
 hb.trans ⟨h.os,h.tape,h.output,h.size,fun k hk=>h.block k (aq hk hb.size) (by omega)⟩
theorem bG.cell{rb:Nat}{w w':World}(h:bG rb w w'){a:Addr}{v:Value}(hc:w.cell? a=some v)(hn:a.block≠rb):w'.cell? a=some v :=
 (World.cell?_of_block (a:=a) (h.block a.block (World.block_lt_of_cell? w a hc) hn)).trans hc
def cJ(w:World)(g:Nat)(l:List UInt8):Prop:=w.heap[g]?=some (.cells (dW l).toArray 5 (0,0))
theorem cJ.lt{g:Nat}(h:cJ w g l):g<w.heap.size:=by
 rcases a6 g w.heap.size with h' | h'
 ·exact h'
 ·unfold cJ at h;rw [aZ h'] at h;cases h
theorem cJ.cell{w:World}{g:Nat}{l:List UInt8}(h:cJ w g l)(j:Nat)(hj:j<l.length):w.cell? ⟨g,j,none⟩=some (.int .u8 (l[j].toNat:Int)):=by
 rw [cell_of_row w g j _ _ _ h];simpa using iC l j hj
theorem cJ.below{g:Nat}(h:cJ w g l)(hb:Below w.heap.size w w'):cJ w' g l:=by
 unfold cJ;rw [hb.block g h.lt];exact h
theorem cJ.aec{g:Nat}(h:cJ w g l)(hb:bG rb w w')(hn:g≠rb):cJ w' g l:=by
 unfold cJ;rw [hb.block g h.lt hn];exact h
theorem MY{g cap g2 o2 c2:Nat}{c:List UInt8}(hr:cJ w g l)(hc:∀ j (h:j<c.length),w.cell? ⟨g2,o2+j,none⟩=some (.int .u8 (c[j].toNat:Int)))(eF:o+c.length≤l.length):∃ w2,(Builtin.copy_ #[145,145] 3 #[.slice (some ⟨g,o,none⟩) c.length cap,.slice (some ⟨g2,o2,none⟩) c.length c2]).run prog w = .ok (goInt c.length) w2∧cJ w2 g (splice l o c)∧bG g w w2:=by
 have bw:=run_copy_row (P:=prog) w 145 145 3 5 g o c.length cap ⟨g2,o2,none⟩ c.length c2 _ 5 (dW c) underlying145 uT hr (by rw [a7];exact (Nat.min_self _).symm)
  (fun j v hv=>by
   by_cases hj:j<c.length
   ·rw [iC c j hj] at hv;cases hv;rw [show (⟨g2,o2,none⟩ : Addr).add j=⟨g2,o2+j,none⟩ by simp [Addr.add]]
    exact hc j hj
   ·rw [bu (by rw [a7];omega)] at hv;cases hv)
  (by rw [a7];simp [a7];omega) (rC c)
 rw [a7] at bw;refine ⟨_,bw,?_,bG.setRow g w _⟩;have bH:=setRow_heap w g _ ((dW l).toArray.toList.take o++dW c++(dW l).toArray.toList.drop (o+c.length)).toArray 5 _ hr;unfold cJ;rw [bH,← qu,splice,a7,ay]
theorem MZ{g cap n:Nat}(s:ByteArray)(hr:cJ w g l)(hn:n=s.size)(eF:o+s.size≤l.length):∃ w2,(Builtin.copy_ #[145,9] 3 #[.slice (some ⟨g,o,none⟩) n cap,.string s]).run prog w = .ok (goInt s.size) w2∧cJ w2 g (splice l o s.data.toList)∧bG g w w2:=by
 have bw:=Lib.run_copy_row_string (P:=prog) w 145 9 3 5 g o n cap s _ 5 underlying145 uT hr (by omega) (by simp [a7];omega)
 refine ⟨_,bw,?_,bG.setRow g w _⟩;have bH:=setRow_heap w g _ ((dW l).toArray.toList.take o++Lib.byteCells s.data.toList++(dW l).toArray.toList.drop (o+s.size)).toArray 5 _ hr;unfold cJ;rw [bH,← qu,splice,a7,bsize,ay];rfl
structure Sh where
 kind:Int
 id:Int
 rD:Nat
 count:Int
 body:ByteArray
def Sh.cells(s:Sh):List Value:=[.int .i64 s.kind,.int .i64 s.id,.int .u64 (s.rD:Int),.int .i64 s.count,.string s.body]
def td(s:Sh):Prop:=(s.kind=66∨s.kind=76)∧(0≤s.count∧s.count≤65535)∧(2≤s.id∧s.id<1048576)∧s.body.size=4072
instance (s:Sh):Decidable (td s):=inferInstanceAs (Decidable (_∧_))
def bare(k c i t sum:Nat)(body:List UInt8):List UInt8 :=
 bN k 1++([0]++(bN c 2++(bN i 4++(bN t 8++(bN sum 4++([0,0,0,0]++body))))))
def AI(s:Sh)(sum:Nat):List UInt8:=bare s.kind.toNat s.count.toNat s.id.toNat s.rD sum s.body.data.toList
def gX(s:Sh):List UInt8:=AI s (Cu (AI s 0))
theorem FK(k c i t sum:Nat)(body:List UInt8):(bare k c i t sum body).length=24+body.length:=by
 simp [bare,eE];omega
theorem Lt(s:Sh)(sum:Nat)(h:td s):(AI s sum).length=4096:=by
 rw [AI,FK,bsize,h.2.2.2]
theorem mq(s:Sh)(h:td s):(gX s).length=4096:=Lt s _ h
def place(k:Nat):Nat:=match k with | 0=>0 | 1=>2 | 2=>4 | 3=>8 | _=>16
def width(k:Nat):Nat:=match k with | 0=>1 | 1=>2 | 2=>4 | 3=>8 | _=>4
def eC(l:List UInt8)(h:Nat→Nat):Nat→List UInt8
 | 0=>l
 | k+1=>splice (eC l h k) (place k) (bN (h k) (width k))
def SI(a b c d e:Nat):Nat→Nat:=fun k=>match k with | 0=>a | 1=>b | 2=>c | 3=>d | _=>e
theorem Pg(k:Nat):place k+width k≤20:=by
 unfold place width;split <;> simp_all
theorem C7(k:Nat):1≤width k∧width k≤8:=by
 unfold width;split <;> simp
theorem Il(l:List UInt8)(h:Nat→Nat)(hl:20≤l.length)(k:Nat):(eC l h k).length=l.length:=by
 induction k with
 | zero=>rfl
 | succ k ih =>
  have h1:=Pg k;have h2:=eE (h k) (width k) (C7 k).2;rw [eC,length_splice _ _ _ (by rw [h2,ih];omega),ih]
theorem vh(x0 x1 x2 x3 x4 x5 x6 x7 x8 x9 x10 x11 x12 x13 x14 x15 x16 x17 x18 x19 x20 x21 x22 x23:UInt8)(body:List UInt8)(a b c d e:Nat) :
  eC (x0::x1::x2::x3::x4::x5::x6::x7::x8::x9::x10::x11::x12::x13::x14::x15::x16::x17::x18::x19::x20::x21::x22::x23::body) (SI a b c d e) 5 =
   kF a 7::x1::kF b 6::kF b 7::kF c 4::kF c 5::kF c 6::kF c 7::kF d 0::kF d 1::kF d 2::kF d 3::kF d 4::kF d 5::kF d 6::kF d 7::kF e 4::kF e 5::kF e 6::kF e 7::x20::x21::x22::x23::body:=rfl
theorem CE(a b c d e:Nat)(body:List UInt8):bare a b c d e body =
   kF a 7::0::kF b 6::kF b 7::kF c 4::kF c 5::kF c 6::kF c 7::kF d 0::kF d 1::kF d 2::kF d 3::kF d 4::kF d 5::kF d 6::kF d 7::kF e 4::kF e 5::kF e 6::kF e 7::0::0::0::0::body:=rfl
theorem Ik(a b c d:Nat)(body:List UInt8):eC (List.replicate 24 0++body) (SI a b c d 0) 5=bare a b c d 0 body:=by
 show eC (0::0::0::0::0::0::0::0::0::0::0::0::0::0::0::0::0::0::0::0::0::0::0::0::body) (SI a b c d 0) 5=_
 rw [vh,CE]
theorem Mj(a b c d e e':Nat)(body:List UInt8):eC (bare a b c d e body) (SI a b c d e') 5=bare a b c d e' body:=by
 rw [CE,vh,CE]
def Lay(w:World):Prop:=14<w.heap.size∧w.cell? ⟨14,0,none⟩=some (.int .i64 0)∧w.cell? ⟨14,1,none⟩=some (.int .i64 1)∧w.cell? ⟨14,2,none⟩=some (.int .i64 2)∧w.cell? ⟨14,3,none⟩=some (.int .i64 2)∧w.cell? ⟨14,4,none⟩=some (.int .i64 4)∧w.cell? ⟨14,5,none⟩=some (.int .i64 4)∧w.cell? ⟨14,6,none⟩=some (.int .i64 8)∧w.cell? ⟨14,7,none⟩=some (.int .i64 8)∧w.cell? ⟨14,8,none⟩=some (.int .i64 16)∧w.cell? ⟨14,9,none⟩=some (.int .i64 4)
theorem Lay.below{w w':World}(h:Lay w)(hb:Below w.heap.size w w'):Lay w':=by
 obtain ⟨h0,c0,c1,c2,c3,c4,c5,c6,c7,c8,c9⟩:=h;exact ⟨aq h0 hb.size,(hb.cell h0).trans c0,(hb.cell h0).trans c1,(hb.cell h0).trans c2,(hb.cell h0).trans c3,(hb.cell h0).trans c4,(hb.cell h0).trans c5,(hb.cell h0).trans c6,(hb.cell h0).trans c7,(hb.cell h0).trans c8,(hb.cell h0).trans c9⟩
theorem rB(g hb o m k n cap:Nat)(l:List UInt8)(w:World)(hk:k<5)(hn:n<18446744073709551616)(h1:1≤m)(h8:m≤8)(eF:n<2 ^ (8*m))(hr:cJ w g l)(Gc:o+m≤l.length)(hc:w.cell? ⟨hb,k,none⟩=some (.int .u64 (n:Int))):Calls prog 216 #[.int .i64 (k:Int),.slice (some ⟨g,o,none⟩) m cap,.pointer (some ⟨hb,0,none⟩)] w fun e w'=>e = .returned (.tuple #[])∧cJ w' g (splice l o (bN n m))∧bG g w w':=by
 have HR:Hid (cJ w g l):=hr;have HP:Hid (o+m≤l.length):=Gc;have HF:Hid (n<2 ^ (8*m)):=eF;have hl:=eE n m h8;have k0:(0:Int)≤(k:Int):=by omega
 have k5:(k:Int)<5:=by omega
 clear hr Gc eF;go_enter func216,ntmps216;go_wp2_with (go_at_call 217;refine (xH n m _ hn h1 h8 HF.out).mono ?_;rintro e w1 ⟨g2,c2,rfl,aE,aO⟩;have fX:=HR.out.below aO;obtain ⟨w2,zr,iM,iL⟩:=MY (o2:=0) (g2:=g2) (c2:=c2) (cap:=cap) (c:=bN n m) fX (fun j hj=>by rw [Nat.zero_add,aE.cellAt j (by omega),iC _ j hj]) (by rw [hl];exact HP.out);rw [hl] at zr;have HS:Hid (bG g w w2):=(bG.bD aO).trans iL;have pe:Hid (cJ w2 g (splice l o (bN n m))):=iM;clear fX iM iL aO aE)
 go_end0
 exact ⟨rfl,pe.out,HS.out⟩
theorem cJ.alloc{w:World}{g:Nat}{l:List UInt8}(h:cJ w g l)(o:Obj):cJ (w.alloc o) g l:=h.below (ai w o)
def mK(h:Nat→Nat):Prop:=∀ k,k<5→h k<2 ^ (8*width k)
theorem mK.u64{h:Nat→Nat}(hf:mK h)(k:Nat)(hk:k<5):h k<18446744073709551616 :=
 aq (hf k hk) (ar (mJ (n:=2) (i:=8*width k) (j:=64) (by decide) (by have:=(C7 k).2;omega)) (by decide))
@[reducible] def aei:Value:=.agg #[.int .i64 0,.int .i64 1,.int .i64 2,.int .i64 2,.int .i64 4,.int .i64 4,.int .i64 8,.int .i64 8,.int .i64 16,.int .i64 4]
theorem gA(w:World)(k:Nat)(hk:k<5):(Instr.index 327 aei (.int .i64 (k:Int))).run prog w = .ok (.agg #[.int .i64 (place k:Int),.int .i64 (width k:Int)]) w:=by
 obtain rfl | rfl | rfl | rfl | rfl:k=0∨k=1∨k=2∨k=3∨k=4:=by omega
 all_goals kernel_rfl
theorem MM(g hb:Nat)(h:Nat→Nat)(l:List UInt8)(w:World)(hl:l.length=4096)(gJ:g≠hb)(hL:Lay w)(hr:cJ w g l)(hf:mK h)(hc:∀ k,k<5→w.cell? ⟨hb,k,none⟩=some (.int .u64 (h k:Int))):Calls prog 215 #[.slice (some ⟨g,0,none⟩) 4096 4096,.func (.func 216) #[] #[.pointer (some ⟨hb,0,none⟩)]] w fun e w'=>e = .returned (.tuple #[])∧cJ w' g (eC l h 5)∧bG g w w':=by
 obtain ⟨hL0,c0,c1,c2,c3,c4,c5,c6,c7,c8,c9⟩:=hL;have HC:Hid (∀ k,k<5→w.cell? ⟨hb,k,none⟩=some (.int .u64 (h k:Int))):=hc;have HR:Hid (cJ w g l):=hr;have HF:Hid (mK h):=hf;have HL:Hid (l.length=4096):=hl;clear hc hr hf hl hL0;go_enter func215,ntmps215;go_wp2_with fail;go_loopw [7] (fun i wr=>∃ k:Nat,k≤5∧i = .int .i64 (k:Int)∧cJ wr g (eC l h k)∧bG g w wr) (fun i _=>5 - (intOf i).toNat)
 case atStart=>exact ⟨0,by omega,rfl,HR.out,bG.refl _ _⟩
 case round =>
  obtain ⟨k,hk,rfl,bH,hs⟩:=hrel;clear c0 c1 c2 c3 c4 c5 c6 c7 c8 c9;have HS:Hid (bG g w wr):=hs;have HW:Hid (cJ wr g (eC l h k)):=bH;clear hs bH;by_cases bO:k<5
  ·have nM:Hid (∀ o,(wr.alloc o).cell? ⟨hb,k,none⟩=some (.int .u64 (h k:Int))):=fun o =>
    ((ai wr o).cell (p:=⟨hb,k,none⟩) (aq (World.block_lt_of_cell? w _ (HC.out k bO)) HS.out.size)).trans (HS.out.cell (HC.out k bO) (fun e=>gJ e.symm))
   have zi:Hid ((eC l h k).length=4096):=by show _=_;rw [Il _ _ (by rw [HL.out];omega),HL.out]
   have YL:Hid (h k<2 ^ (8*width k)):=HF.out k bO;have HUK:Hid (h k<18446744073709551616):=HF.out.u64 k bO;obtain rfl | rfl | rfl | rfl | rfl:k=0∨k=1∨k=2∨k=3∨k=4:=by omega
   ·have li:=fun w=>gA w 0 (by decide)
    rw [show ((0:Nat):Int)=0 from rfl] at li ⊢
    simp only [place,width,dw] at li;go_wp2_with (go_at_call 216;refine (rB g hb 0 1 0 (h 0) 4096 (eC l h 0) _ (by decide) HUK.out (by decide) (by decide) YL.out (HW.out.alloc _) (by rw [zi.out];decide) (nM.out _)).mono ?_;rintro e w1 ⟨rfl,fX,ja⟩;have nT:Hid (cJ w1 g (eC l h (0+1))):=fX;have mf:Hid (bG g w w1):=HS.out.trans ((bG.bD (ai wr _)).trans ja);clear fX ja)
    go_roundw
    case rel=>exact ⟨1,by omega,by go_num,nT.out,mf.out⟩
    case measure=>simp [intOf]
   ·have li:=fun w=>gA w 1 (by decide)
    rw [show ((1:Nat):Int)=1 from rfl] at li ⊢
    simp only [place,width,dw] at li;go_wp2_with (go_at_call 216;refine (rB g hb 2 2 1 (h 1) 4094 (eC l h 1) _ (by decide) HUK.out (by decide) (by decide) YL.out (HW.out.alloc _) (by rw [zi.out];decide) (nM.out _)).mono ?_;rintro e w1 ⟨rfl,fX,ja⟩;have nT:Hid (cJ w1 g (eC l h (1+1))):=fX;have mf:Hid (bG g w w1):=HS.out.trans ((bG.bD (ai wr _)).trans ja);clear fX ja)
    go_roundw
    case rel=>exact ⟨2,by omega,by go_num,nT.out,mf.out⟩
    case measure=>simp [intOf]
   ·have li:=fun w=>gA w 2 (by decide)
    rw [show ((2:Nat):Int)=2 from rfl] at li ⊢
    simp only [place,width,dw] at li;go_wp2_with (go_at_call 216;refine (rB g hb 4 4 2 (h 2) 4092 (eC l h 2) _ (by decide) HUK.out (by decide) (by decide) YL.out (HW.out.alloc _) (by rw [zi.out];decide) (nM.out _)).mono ?_;rintro e w1 ⟨rfl,fX,ja⟩;have nT:Hid (cJ w1 g (eC l h (2+1))):=fX;have mf:Hid (bG g w w1):=HS.out.trans ((bG.bD (ai wr _)).trans ja);clear fX ja)
    go_roundw
    case rel=>exact ⟨3,by omega,by go_num,nT.out,mf.out⟩
    case measure=>simp [intOf]
   ·have li:=fun w=>gA w 3 (by decide)
    rw [show ((3:Nat):Int)=3 from rfl] at li ⊢
    simp only [place,width,dw] at li;go_wp2_with (go_at_call 216;refine (rB g hb 8 8 3 (h 3) 4088 (eC l h 3) _ (by decide) HUK.out (by decide) (by decide) YL.out (HW.out.alloc _) (by rw [zi.out];decide) (nM.out _)).mono ?_;rintro e w1 ⟨rfl,fX,ja⟩;have nT:Hid (cJ w1 g (eC l h (3+1))):=fX;have mf:Hid (bG g w w1):=HS.out.trans ((bG.bD (ai wr _)).trans ja);clear fX ja)
    go_roundw
    case rel=>exact ⟨4,by omega,by go_num,nT.out,mf.out⟩
    case measure=>simp [intOf]
   ·have li:=fun w=>gA w 4 (by decide)
    rw [show ((4:Nat):Int)=4 from rfl] at li ⊢
    simp only [place,width,dw] at li;go_wp2_with (go_at_call 216;refine (rB g hb 16 4 4 (h 4) 4080 (eC l h 4) _ (by decide) HUK.out (by decide) (by decide) YL.out (HW.out.alloc _) (by rw [zi.out];decide) (nM.out _)).mono ?_;rintro e w1 ⟨rfl,fX,ja⟩;have nT:Hid (cJ w1 g (eC l h (4+1))):=fX;have mf:Hid (bG g w w1):=HS.out.trans ((bG.bD (ai wr _)).trans ja);clear fX ja)
    go_roundw
    case rel=>exact ⟨5,by omega,by go_num,nT.out,mf.out⟩
    case measure=>simp [intOf]
  ·obtain rfl:k=5:=by omega
   rw [show ((5:Nat):Int)=5 from rfl]
   go_wp2_with fail;go_end0
   exact ⟨rfl,HW.out,HS.out⟩
theorem sr(i:Int)(w:World):Calls prog 150 #[.int .i64 i] w fun e w'=>e = .returned (.bool (decide (2≤i∧i<1048576)))∧w=w':=by
 by_cases h1:2≤i
 ·by_cases h2:i<1048576
  ·have e1:decide (2≤i∧i<1048576)=true:=by simp [h1,h2]
   rw [e1];go_enter func150,ntmps150;go_wp2;go_ret;exact ⟨rfl,rfl⟩
  ·have e1:decide (2≤i∧i<1048576)=false:=by simp [h2]
   rw [e1];go_enter func150,ntmps150;go_wp2;go_ret;exact ⟨rfl,rfl⟩
 ·have e1:decide (2≤i∧i<1048576)=false:=by simp [h1]
  rw [e1];go_enter func150,ntmps150;go_wp2;go_ret;exact ⟨rfl,rfl⟩
theorem pG(s:Sh)(w:World)(hs:s.body.size≤140737488355328):Calls prog 131 #[.agg s.cells.toArray] w fun e w'=>e = .returned (.bool (decide (td s)))∧Below w.heap.size w w':=by
 obtain ⟨k,i,t,c,b⟩:=s;simp only [Sh.cells] at hs ⊢;have b8:(b.size:Int)≤140737488355328:=by omega
 have km:=ai w (.cells #[.int .i64 k,.int .i64 i,.int .u64 (t:Int),.int .i64 c,.string b] 87);have HB:Hid (Below w.heap.size w (w.alloc (.cells #[.int .i64 k,.int .i64 i,.int .u64 (t:Int),.int .i64 c,.string b] 87))):=km;clear km;by_cases hk:k=66∨k=76
 ·by_cases hc:0≤c∧c≤65535
  ·by_cases hi:2≤i∧i<1048576
   ·obtain ⟨Bf,Uu⟩:=hc;by_cases hb:b.size=4072
    ·have e1:decide (td ⟨k,i,t,c,b⟩)=true:=decide_eq_true ⟨hk,⟨Bf,Uu⟩,hi,hb⟩;have aV:(b.size:Int)=4072:=by omega
     have HI:=sr i;rw [decide_eq_true hi] at HI;have HI2:Hid (∀ w,Calls prog 150 #[.int .i64 i] w fun e w'=>e = .returned (.bool true)∧w=w'):=HI
     rw [e1];clear e1 hi HI hb;rcases hk with rfl | rfl
     all_goals
      go_enter func131,ntmps131;go_wp2_with (go_at_call 150;refine (HI2.out _).mono ?_;rintro e w' ⟨rfl,rfl⟩)
      go_ret;exact ⟨rfl,HB.out⟩
    ·have e1:decide (td ⟨k,i,t,c,b⟩)=false:=decide_eq_false fun h=>hb h.2.2.2
     have aV:((b.size:Int) == 4072)=false:=beq_eq_false_iff_ne.2 (by omega)
     have HI:=sr i;rw [decide_eq_true hi] at HI;have HI2:Hid (∀ w,Calls prog 150 #[.int .i64 i] w fun e w'=>e = .returned (.bool true)∧w=w'):=HI
     rw [e1];clear e1 hi HI hb;rcases hk with rfl | rfl
     all_goals
      go_enter func131,ntmps131;go_wp2_with (go_at_call 150;refine (HI2.out _).mono ?_;rintro e w' ⟨rfl,rfl⟩)
      go_ret;exact ⟨rfl,HB.out⟩
   ·obtain ⟨Bf,Uu⟩:=hc;have e1:decide (td ⟨k,i,t,c,b⟩)=false:=decide_eq_false fun h=>hi h.2.2.1
    have HI:=sr i;rw [decide_eq_false hi] at HI;have HI2:Hid (∀ w,Calls prog 150 #[.int .i64 i] w fun e w'=>e = .returned (.bool false)∧w=w'):=HI
    rw [e1];clear e1 hi HI;rcases hk with rfl | rfl
    all_goals
     go_enter func131,ntmps131;go_wp2_with (go_at_call 150;refine (HI2.out _).mono ?_;rintro e w' ⟨rfl,rfl⟩)
     go_ret;exact ⟨rfl,HB.out⟩
  ·have e1:decide (td ⟨k,i,t,c,b⟩)=false:=decide_eq_false fun h=>hc h.2.1
   rw [e1];clear e1;by_cases Bf:0≤c
   ·have Uu:¬ c≤65535:=fun h=>hc ⟨Bf,h⟩
    clear hc;rcases hk with rfl | rfl
    all_goals
     go_enter func131,ntmps131;go_wp2_with fail;go_ret;exact ⟨rfl,HB.out⟩
   ·clear hc;rcases hk with rfl | rfl
    all_goals
     go_enter func131,ntmps131;go_wp2_with fail;go_ret;exact ⟨rfl,HB.out⟩
 ·have e1:decide (td ⟨k,i,t,c,b⟩)=false:=decide_eq_false fun h=>hk h.1
  rw [e1];clear e1;have iV:¬ k=66:=fun h=>hk (.inl h)
  have qk:¬ k=76:=fun h=>hk (.inr h)
  clear hk;by_cases Bf:0≤c
  ·by_cases Uu:c≤65535
   ·go_enter func131,ntmps131;go_wp2_with fail;go_ret;exact ⟨rfl,HB.out⟩
   ·go_enter func131,ntmps131;go_wp2_with fail;go_ret;exact ⟨rfl,HB.out⟩
  ·go_enter func131,ntmps131;go_wp2_with fail;go_ret;exact ⟨rfl,HB.out⟩
theorem qe(g:Nat)(a b c d e:Nat)(l:List UInt8)(w:World)(hl:l.length=4096)(hL:Lay w)(hr:cJ w g l)(hf:mK (SI a b c d e)):Calls prog 171 #[.slice (some ⟨g,0,none⟩) 4096 4096,.agg #[.int .u64 (a:Int),.int .u64 (b:Int),.int .u64 (c:Int),.int .u64 (d:Int),.int .u64 (e:Int)]] w fun x w'=>x = .returned (.tuple #[])∧cJ w' g (eC l (SI a b c d e) 5)∧bG g w w':=by
 have bO:=hr.lt;have me:=bM w #[.int .u64 (a:Int),.int .u64 (b:Int),.int .u64 (c:Int),.int .u64 (d:Int),.int .u64 (e:Int)] 256;have fc:=ai w (.cells #[.int .u64 (a:Int),.int .u64 (b:Int),.int .u64 (c:Int),.int .u64 (d:Int),.int .u64 (e:Int)] 256);have C:=MM g w.heap.size (SI a b c d e) l (w.alloc (.cells #[.int .u64 (a:Int),.int .u64 (b:Int),.int .u64 (c:Int),.int .u64 (d:Int),.int .u64 (e:Int)] 256)) hl (by omega) (hL.below fc) (hr.below fc) hf (fun k hk=>by
  obtain rfl | rfl | rfl | rfl | rfl:k=0∨k=1∨k=2∨k=3∨k=4:=by omega
  ·exact me.2 0 (by simp)
  ·exact me.2 1 (by simp)
  ·exact me.2 2 (by simp)
  ·exact me.2 3 (by simp)
  ·exact me.2 4 (by simp))
 have HS0:Hid (bG g w (w.alloc (.cells #[.int .u64 (a:Int),.int .u64 (b:Int),.int .u64 (c:Int),.int .u64 (d:Int),.int .u64 (e:Int)] 256))):=bG.bD fc;have HC:Hid (Calls prog 215 #[.slice (some ⟨g,0,none⟩) 4096 4096,.func (.func 216) #[] #[.pointer (some ⟨w.heap.size,0,none⟩)]] (w.alloc (.cells #[.int .u64 (a:Int),.int .u64 (b:Int),.int .u64 (c:Int),.int .u64 (d:Int),.int .u64 (e:Int)] 256)) fun x w'=>x = .returned (.tuple #[])∧cJ w' g (eC l (SI a b c d e) 5)∧bG g (w.alloc (.cells #[.int .u64 (a:Int),.int .u64 (b:Int),.int .u64 (c:Int),.int .u64 (d:Int),.int .u64 (e:Int)] 256)) w'):=C
 clear C me fc hL hr hf hl bO;go_enter func171,ntmps171;go_wp2_with (go_at_call 215;refine HC.out.mono ?_;rintro x w1 ⟨rfl,fX,ja⟩;have nT:Hid (cJ w1 g (eC l (SI a b c d e) 5)):=fX;have mf:Hid (bG g w w1):=HS0.out.trans ja;clear fX ja)
 go_end0
 exact ⟨rfl,nT.out,mf.out⟩
theorem xq{ops:Array Oper}{o:Oper}{a:Act}{w:World}{K:Act→World→Prop}{Q:Exit→Act→World→Prop}{E:Prop}(nH:o.guard=none)(d x:Operand)
  (ho:o.op = .call { callee:=.builtin .copy,args:=#[d,x],argTypes:=#[145,9] }) (zR:o.type=3) (g off n cap:Nat) (l:List UInt8) (s:ByteArray)
  (hd:a.eval d = .slice (some ⟨g,off,none⟩) n cap) (hx:a.eval x = .string s) (hr:cJ w g l) (hn:n=s.size) (eF:off+s.size≤l.length)
  (h:∀ w2,Hid (cJ w2 g (splice l off s.data.toList))→Hid (bG g w w2)→K (a.put o.dst (goInt s.size)) w2) :
  if Region.wanted o (yielded ops a.tmps)=true then Oper.wp prog o a w K Q else E:=by
 have hw:Region.wanted o (yielded ops a.tmps)=true:=by simp [Region.wanted,nH]
 rw [if_pos hw];obtain ⟨w2,bw,h1,h2⟩:=MZ (cap:=cap) s hr hn eF;unfold Oper.wp;simp [execOp,ho,resolve,invoke,builtin,hd,hx,zR,bw,Result.andThen]
 exact h w2 h1 h2
theorem O7{w:World}{g n:Nat}{l:List UInt8}(h:cJ w g l)(hn:l.length=n)(hm:n≤maxLen):Rd w (.slice (some ⟨g,0,none⟩) n n) l:=by
 subst hn;exact .inr ⟨g,l.length,rfl,aj _,hm,h.lt,h.cell⟩
theorem B7(n:Nat):(madeCells #[Value.int .u8 0] n).toList=dW (List.replicate n 0):=by
 rw [dW,pd];simp [madeCells,Nat.mod_one,List.map_const']
theorem BZ{w:World}{base g n:Nat}{l:List UInt8}(h:w.ownsRow base 5 1 (.slice (some ⟨g,0,none⟩) n n) n (dW l)):cJ w g l:=by
 rcases h.2 with ⟨h',_⟩ | ⟨g',eO,cur,h',hb,hg,hn,hc,hs,ht⟩
 ·cases h'
 ·cases h'
  unfold cJ;rw [hg,← ht,ao (by simpa using Nat.le_of_eq hs)]
theorem U1(b:List UInt8)(hb:b.length=4072):splice (List.replicate 4096 0) 24 b=List.replicate 24 0++b:=by
 unfold splice;rw [List.take_replicate,nK,hb,show 4096 - (24+4072)=0 from rfl,List.replicate_zero,List.append_nil,show min 24 4096=24 from rfl]
theorem Bk{k c i t e:Nat}(hk:k<256)(hc:c≤65535)(hi:i<1048576)(ht:t<18446744073709551616)(he:e<4294967296):mK (SI k c i t e):=by
 intro j hj;obtain rfl | rfl | rfl | rfl | rfl:j=0∨j=1∨j=2∨j=3∨j=4:=by omega
 ·show k<2 ^ 8;omega
 ·show c<2 ^ 16;omega
 ·show i<2 ^ 32;omega
 ·show t<2 ^ 64;omega
 ·show e<2 ^ 32;omega
theorem G2(k i t c:Nat)(b:ByteArray)(w:World)(hk:k<256)(hc:c≤65535)(hi:i<1048576)(Sx:t<18446744073709551616)(hb:b.size=4072)(hL:Lay w)(ht:FQ w):Calls prog 132 #[.agg #[.int .i64 (k:Int),.int .i64 (i:Int),.int .u64 (t:Int),.int .i64 (c:Int),.string b]] w fun e w'=>∃ g,e = .returned (.slice (some ⟨g,0,none⟩) 4096 4096)∧cJ w' g (bare k c i t (Cu (bare k c i t 0 b.data.toList)) b.data.toList)∧w.heap.size≤g∧Below w.heap.size w w':=by
 obtain ⟨i0,ae0,nY,mR,pL⟩:=info_parts Tryz.info5;have HB:Hid (b.size=4072):=hb;have HL:Hid (Lay w):=hL;have HT:Hid (FQ w):=ht;have k64:(k:Int) % 18446744073709551616=(k:Int):=by omega
 have c64:(c:Int) % 18446744073709551616=(c:Int):=by omega
 have i64:(i:Int) % 18446744073709551616=(i:Int):=by omega
 have wU:Hid (Boxed w.heap.size [.int .i64 (k:Int),.int .i64 (i:Int),.int .u64 (t:Int),.int .i64 (c:Int),.string b] (w.alloc (.cells #[.int .i64 (k:Int),.int .i64 (i:Int),.int .u64 (t:Int),.int .i64 (c:Int),.string b] 87))):=bM w _ _;have vY:Hid (Below w.heap.size w (w.alloc (.cells #[.int .i64 (k:Int),.int .i64 (i:Int),.int .u64 (t:Int),.int .i64 (c:Int),.string b] 87))):=ai w _;clear hb hL ht;go_enter func132,ntmps132;go_wp2_with (at_make;refine wpList_make_full _ rfl _ _ 145 rfl 0 5 i0 (.int .u8 0) 1 underlying145 ae0 nY mR .i64 .i64 _ _ 4096 rfl rfl rfl rfl ?c1 ?c2 (aB _) ?_)
 case c1=>rw [pL];decide
 case c2=>decide
 intro w1 oP fM;rw [B7] at oP;have fX:=BZ oP;have aO:Below (w.alloc (.cells #[.int .i64 (k:Int),.int .i64 (i:Int),.int .u64 (t:Int),.int .i64 (c:Int),.string b] 87)).heap.size (w.alloc (.cells #[.int .i64 (k:Int),.int .i64 (i:Int),.int .u64 (t:Int),.int .i64 (c:Int),.string b] 87)) w1:=⟨fM.os,fM.tape,fM.output,fM.size,fun k hk=>fM.block k hk (by simp)⟩
 have YP:=wU.out.below aO;have bT:Hid (Below w.heap.size w w1):=Below.next vY.out aO;clear oP aO fM wU vY;obtain ⟨g,hg⟩ : ∃ g,g=w.heap.size+1:=⟨_,rfl⟩;have aaO:cJ w1 g (List.replicate 4096 0):=by rw [hg];exact fX
 rw [← hg];have HG:Hid (g=w.heap.size+1):=hg;clear fX hg;have x4:w1.cell? ⟨w.heap.size,4,none⟩=some (.string b):=YP.2 4 (by simp)
 have nT:Hid (cJ w1 g (List.replicate 4096 0)):=aaO;have Sr:Hid (Boxed w.heap.size [.int .i64 (k:Int),.int .i64 (i:Int),.int .u64 (t:Int),.int .i64 (c:Int),.string b] w1):=YP;clear aaO YP;go_wp2_with fail;go_region_law (refine xq rfl (.tmp 7) (.tmp 9) rfl rfl g 24 4072 4072 (List.replicate 4096 0) b rfl rfl ?_ HB.out.symm ?_ ?_;(exact nT.out);(rw [bB,HB.out];exact aj _);intro w2 pe lD)
 all_goals
  have iL:bG g w1 w2:=⟨lD.out.os,lD.out.tape,lD.out.output,lD.out.size,lD.out.block⟩;have iM:=pe.out;rw [U1 _ (by rw [bsize];exact HB.out)] at iM
  have Vh:Hid (cJ w2 g (List.replicate 24 0++b.data.toList)):=iM;have aV:Below w.heap.size w w2:=iL.below bT.out (by have:=HG.out;omega)
  have bL:Hid (Below w.heap.size w w2):=aV;have yy:w.heap.size<g:=by have:=HG.out;omega
  have y0:w2.cell? ⟨w.heap.size,0,none⟩=some (.int .i64 (k:Int)):=iL.cell (Sr.out.2 0 (by simp)) (by show w.heap.size≠g;omega)
  have y1:w2.cell? ⟨w.heap.size,1,none⟩=some (.int .i64 (i:Int)):=iL.cell (Sr.out.2 1 (by simp)) (by show w.heap.size≠g;omega)
  have y2:w2.cell? ⟨w.heap.size,2,none⟩=some (.int .u64 (t:Int)):=iL.cell (Sr.out.2 2 (by simp)) (by show w.heap.size≠g;omega)
  have y3:w2.cell? ⟨w.heap.size,3,none⟩=some (.int .i64 (c:Int)):=iL.cell (Sr.out.2 3 (by simp)) (by show w.heap.size≠g;omega)
  have HGW:Hid (g<w2.heap.size):=iM.lt;have HN:Hid (Below w2.heap.size w2 (w2.alloc (.cells #[.int .u64 (k:Int),.int .u64 (c:Int),.int .u64 (i:Int),.int .u64 (t:Int),.int .u64 0] 256))):=ai w2 _;have HX:Hid ((w2.alloc (.cells #[.int .u64 (k:Int),.int .u64 (c:Int),.int .u64 (i:Int),.int .u64 (t:Int),.int .u64 0] 256)).heap[w2.heap.size]?=some (.cells #[.int .u64 (k:Int),.int .u64 (c:Int),.int .u64 (i:Int),.int .u64 (t:Int),.int .u64 0] 256 (0,0))):=heap_alloc_new w2 _;clear lD pe iL iM aV x4 nT Sr bT;go_wp2_with fail;generalize (w2.alloc (.cells #[.int .u64 (k:Int),.int .u64 (c:Int),.int .u64 (i:Int),.int .u64 (t:Int),.int .u64 0] 256))=w3 at *;have eH:Hid (Below w.heap.size w w3):=bL.out.trans (HN.out.mono bL.out.size);have abh:(List.replicate 24 (0:UInt8)++b.data.toList).length=4096:=by rw [ae,bB,bsize,HB.out]
  have C:=qe g k c i t 0 _ w3 abh (HL.out.below eH.out) (Vh.out.below HN.out) (Bk hk hc hi Sx (by decide))
  rw [Ik] at C;have aa4:w2.heap.size≠g:=by have:=HGW.out;omega
  refine C.mono ?_
  rintro x w4 ⟨rfl,EK,hs4⟩;have Qg:w4.heap[w2.heap.size]?=some (.cells #[.int .u64 (k:Int),.int .u64 (c:Int),.int .u64 (i:Int),.int .u64 (t:Int),.int .u64 0] 256 (0,0)):=by
   rw [hs4.block _ (by
    rcases a6 w2.heap.size w3.heap.size with h' | h'
    ·exact h'
    ·have:=HX.out;rw [aZ h'] at this;cases this) aa4]
   exact HX.out
  have iY:Hid (Below w.heap.size w w4):=hs4.below eH.out (by omega)
  have Zw:Hid (cJ w4 g (bare k c i t 0 b.data.toList)):=EK;have jB:(bare k c i t 0 b.data.toList).length=4096:=by rw [FK,bsize,HB.out]
  have HCR:Hid (Calls prog 172 #[.slice (some ⟨g,0,none⟩) 4096 4096] w4 fun e w'=>e = .returned (.int .u32 ((Cu (bare k c i t 0 b.data.toList):Nat):Int))∧w4=w') :=
   Yb _ _ w4 (by rw [jB];decide) (O7 EK jB (by decide)) (HT.out.below iY.out)
  have yA:Cu (bare k c i t 0 b.data.toList)<4294967296:=Py _;obtain ⟨cv,Us⟩ : ∃ cv,cv=Cu (bare k c i t 0 b.data.toList):=⟨_,rfl⟩;rw [← Us] at yA;have HCV:Hid (cv=Cu (bare k c i t 0 b.data.toList)):=Us;have agI:Hid (Calls prog 172 #[.slice (some ⟨g,0,none⟩) 4096 4096] w4 fun e w'=>e = .returned (.int .u32 (cv:Int))∧w4=w'):=by
   show Calls _ _ _ _ _
   rw [Us];exact HCR.out
  have ale:(cv:Int) % 18446744073709551616=(cv:Int):=by omega
  have z0:w4.cell? ⟨w2.heap.size,0,none⟩=some (.int .u64 (k:Int)):=by rw [cell_of_row _ _ _ _ _ _ Qg];rfl
  have z1:w4.cell? ⟨w2.heap.size,1,none⟩=some (.int .u64 (c:Int)):=by rw [cell_of_row _ _ _ _ _ _ Qg];rfl
  have z2:w4.cell? ⟨w2.heap.size,2,none⟩=some (.int .u64 (i:Int)):=by rw [cell_of_row _ _ _ _ _ _ Qg];rfl
  have z3:w4.cell? ⟨w2.heap.size,3,none⟩=some (.int .u64 (t:Int)):=by rw [cell_of_row _ _ _ _ _ _ Qg];rfl
  have z4:w4.cell? ⟨w2.heap.size,4,none⟩=some (.int .u64 0):=by rw [cell_of_row _ _ _ _ _ _ Qg];rfl
  have fz:w4.frozen? ⟨w2.heap.size,4,none⟩=false:=frozen_of_row _ _ _ _ _ Qg;have Zr:Hid (w.heap.size≤w2.heap.size):=bL.out.size;clear C HX HN y0 y1 y2 y3 hs4 EK Qg HCR Us abh eH bL Vh HGW;go_wp2_with (go_at_call 172;refine agI.out.mono ?_;rintro e w' ⟨rfl,rfl⟩)
  have te:Hid (Below w.heap.size w (w4.setCell ⟨w2.heap.size,4,none⟩ (.int .u64 (cv:Int)))):=iY.out.setCell Zr.out _;have Wo:Hid (cJ (w4.setCell ⟨w2.heap.size,4,none⟩ (.int .u64 (cv:Int))) g (bare k c i t 0 b.data.toList)):=Zw.out.aec (bG.set w2.heap.size 4 w4 _) (fun e=>aa4 e.symm)
  have C:=qe g k c i t cv _ (w4.setCell ⟨w2.heap.size,4,none⟩ (.int .u64 (cv:Int))) jB (HL.out.below te.out) Wo.out (Bk hk hc hi Sx yA);rw [Mj] at C;refine C.mono ?_
  rintro x w6 ⟨rfl,hr6,hs6⟩;have HR6:Hid (cJ w6 g (bare k c i t cv b.data.toList)):=hr6;have HB6:Hid (Below w.heap.size w w6):=hs6.below te.out (by omega)
  clear C hr6 hs6 te Wo;go_wp2_with fail;go_ret;refine ⟨g,rfl,?_,by omega,HB6.out⟩
  rw [← HCV.out];exact HR6.out
theorem xQ(s:Sh)(w:World)(hm:td s)(hx:s.rD<18446744073709551616)(hL:Lay w)(ht:FQ w):Calls prog 132 #[.agg s.cells.toArray] w fun e w'=>∃ g,e = .returned (.slice (some ⟨g,0,none⟩) 4096 4096)∧cJ w' g (gX s)∧w.heap.size≤g∧Below w.heap.size w w':=by
 obtain ⟨k,i,t,c,b⟩:=s;obtain ⟨hk,⟨Bf,Uu⟩,⟨CT,vU⟩,hb⟩:=hm;simp only at hk Bf Uu CT vU hb hx;obtain ⟨k,rfl⟩:=cB (show 0≤k by omega)
 obtain ⟨c,rfl⟩:=cB Bf;obtain ⟨i,rfl⟩:=cB (show 0≤i by omega)
 exact G2 k i t c b w (by omega) (by omega) (by omega) hx hb hL ht
@[reducible] def shV(k i:Int)(t:Nat)(c:Int)(b:ByteArray):Value:=.agg #[.int .i64 k,.int .i64 i,.int .u64 (t:Int),.int .i64 c,.string b]
theorem Tn(s:Sh)(w:World)(hm:td s)(hx:s.rD<18446744073709551616)(hL:Lay w)(ht:FQ w):Calls prog 96 #[.agg s.cells.toArray] w fun e w'=>∃ g,e = .returned (.tuple #[.slice (some ⟨g,0,none⟩) 4096 4096,.nilIface])∧cJ w' g (gX s)∧w.heap.size≤g∧Below w.heap.size w w':=by
 obtain ⟨k,i,t,c,b⟩:=s;have HM:Hid (∀ w,Calls prog 131 #[.agg #[.int .i64 k,.int .i64 i,.int .u64 (t:Int),.int .i64 c,.string b]] w fun e w'=>e = .returned (.bool true)∧Below w.heap.size w w'):=fun w=>by
  have h:=pG ⟨k,i,t,c,b⟩ w (by rw [hm.2.2.2];decide)
  rw [decide_eq_true hm] at h;exact h
 have HP:Hid (∀ w,Lay w→FQ w→Calls prog 132 #[.agg #[.int .i64 k,.int .i64 i,.int .u64 (t:Int),.int .i64 c,.string b]] w fun e w'=>∃ g,e = .returned (.slice (some ⟨g,0,none⟩) 4096 4096)∧cJ w' g (gX ⟨k,i,t,c,b⟩)∧w.heap.size≤g∧Below w.heap.size w w'):=fun w h1 h2=>xQ ⟨k,i,t,c,b⟩ w hm hx h1 h2
 have wU:Hid (Boxed w.heap.size [.int .i64 k,.int .i64 i,.int .u64 (t:Int),.int .i64 c,.string b] (w.alloc (.cells #[.int .i64 k,.int .i64 i,.int .u64 (t:Int),.int .i64 c,.string b] 87))):=bM w _ _;have vY:Hid (Below w.heap.size w (w.alloc (.cells #[.int .i64 k,.int .i64 i,.int .u64 (t:Int),.int .i64 c,.string b] 87))):=ai w _;have HL:Hid (Lay w):=hL;have HT:Hid (FQ w):=ht;clear hm hx hL ht;show Calls prog 96 #[.agg #[.int .i64 k,.int .i64 i,.int .u64 (t:Int),.int .i64 c,.string b]] w _
 go_enter func96,ntmps96;go_wp2_with fail;refine (HM.out _).mono ?_
 rintro e w1 ⟨rfl,aO⟩;have sR:=wU.out.below aO;have bT:Hid (Below w.heap.size w w1):=Below.next vY.out aO;have c0:w1.cell? ⟨w.heap.size,0,none⟩=some (.int .i64 k):=sR.2 0 (by simp)
 have c1:w1.cell? ⟨w.heap.size,1,none⟩=some (.int .i64 i):=sR.2 1 (by simp)
 have c2:w1.cell? ⟨w.heap.size,2,none⟩=some (.int .u64 (t:Int)):=sR.2 2 (by simp)
 have c3:w1.cell? ⟨w.heap.size,3,none⟩=some (.int .i64 c):=sR.2 3 (by simp)
 have c4:w1.cell? ⟨w.heap.size,4,none⟩=some (.string b):=sR.2 4 (by simp)
 clear sR aO wU vY;go_wp2_with fail;refine (HP.out _ (HL.out.below bT.out) (HT.out.below bT.out)).mono ?_
 rintro e w2 ⟨g,rfl,hr,hg,aV⟩;have HF:Hid (cJ w2 g (gX ⟨k,i,t,c,b⟩)∧w.heap.size≤g∧Below w.heap.size w w2):=⟨hr,ar bT.out.size hg,Below.next bT.out aV⟩;clear hr hg aV c0 c1 c2 c3 c4;go_wp2_with fail;go_ret2;exact ⟨g,rfl,HF.out⟩
theorem To(a:Addr)(s:Sh)(w:World)(hs:s.body.size≤140737488355328)(hm:¬ td s)(hc:w.cell? ⟨0,0,none⟩=some (.iface 360 (.pointer (some a)))):Calls prog 96 #[.agg s.cells.toArray] w fun e w'=>e = .returned (.tuple #[.slice none 0 0,.iface 360 (.pointer (some a))])∧Below w.heap.size w w':=by
 obtain ⟨k,i,t,c,b⟩:=s;have HM:Hid (∀ w,Calls prog 131 #[.agg #[.int .i64 k,.int .i64 i,.int .u64 (t:Int),.int .i64 c,.string b]] w fun e w'=>e = .returned (.bool false)∧Below w.heap.size w w'):=fun w=>by
  have h:=pG ⟨k,i,t,c,b⟩ w hs;rw [decide_eq_false hm] at h;exact h
 have vY:Hid (Below w.heap.size w (w.alloc (.cells #[.int .i64 k,.int .i64 i,.int .u64 (t:Int),.int .i64 c,.string b] 87))):=ai w _;have HC:Hid (w.cell? ⟨0,0,none⟩=some (.iface 360 (.pointer (some a)))):=hc;clear hm hc;show Calls prog 96 #[.agg #[.int .i64 k,.int .i64 i,.int .u64 (t:Int),.int .i64 c,.string b]] w _
 go_enter func96,ntmps96;go_wp2_with fail;refine (HM.out _).mono ?_
 rintro e w1 ⟨rfl,aO⟩;have bT:Hid (Below w.heap.size w w1):=Below.next vY.out aO;have c0:w1.cell? ⟨0,0,none⟩=some (.iface 360 (.pointer (some a))):=(bT.out.cell (World.block_lt_of_cell? w _ HC.out)).trans HC.out;clear aO vY;go_wp2_with fail;go_quiet (fail)
 go_wp2_with fail;go_ret2;exact ⟨rfl,below_drewN bT.out _⟩
end S
end Go.Proofs.YtihmgigfkmofnaaGreatDoor
