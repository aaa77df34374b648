import Derived.Test.YtdieacdkomiooabDoorLikeB
import Derived.Test.YtdieacdkomiooabDoorLikeM
namespace Go.Proofs.YtdieacdkomiooabDoor
open Go.RowKit Go.Maps

theorem Two.swap {A : Nat → Addr} {W wr : World} {b c : Nat} {F G : Nat → Prop} {d o : Dev} (h : Two A W wr b F d c G o) : Two A W wr c G o b F d := ⟨h.two, h.one, fun k hg hf => h.no k hf hg⟩
theorem RowAt.imp {w : World} {F G : Nat → Prop} {base e size n : Nat} {v : Value} {xs : List Value} (h : RowAt w F base e size v n xs) (hi : ∀ k, G k → F k) : RowAt w G base e size v n xs := ⟨h.1, fun g hg hf => h.2 g hg (hi g hf)⟩
/-- What a step of one of two devices leaves. -/
structure ActT (A : Nat → Addr) (W wr : World) (b : Nat) (F : Nat → Prop) (c : Nat) (G : Nat → Prop) (o : Dev) (r : Dev × SaidD) (e : Ending) (w' : World) (vb vs : Value) (F' : Nat → Prop) : Prop where
  ret : e = .returned (.agg #[.int .i64 (r.2.err : Int), vb, vs, .int .i64 r.2.a, .int .i64 r.2.b, .int .i64 r.2.c])
  two : Two A W w' b F' r.1 c G o
  step : Step F F' wr w'
  rb : RowAt w' (fun k => F' k ∨ G k) wr.heap.size 5 1 vb r.2.bytes.length (u8s r.2.bytes)
  rs : RowAt w' (fun k => F' k ∨ G k) wr.heap.size 68 2 vs r.2.secs.length (secCells r.2.secs)
theorem Two.act1 {A : Nat → Addr} {W wr : World} {b c : Nat} {F G : Nat → Prop} {d o : Dev} (h : Two A W wr b F d c G o) (s : Stp) (fv : Value) (hl : FatesIn wr fv s.fates) (hs : StpOk d s) (hq : (d.arms.length + 1) * 32 ≤ 140737488355328) :
    Calls Tryd.prog 11 #[.pointer (some ⟨b, 0, none⟩), .agg #[.int .i64 s.kind, .int .i64 s.sector, .int .i64 s.n, .string s.data, fv]] wr fun e w' => ∃ vb vs F', ActT A W wr b F c G o (d.act s) e w' vb vs F' := by
  refine (act_all W.heap.size A b F d wr h.one.dev h.one.err h.one.far s fv hl hs hq).mono ?_
  rintro e w' ⟨vb, vs, F', P⟩
  have hn : ∀ (g base e size n : Nat) (v : Value) (xs : List Value), w'.ownsRow wr.heap.size e size v n xs → v.ownBlock = some g → ¬ G g := fun g base e size n v xs hr hg hG => by
    have := (owns_blk hr g hg).1; have := h.two.dev.lt g hG; omega
  exact ⟨vb, vs, F', P.ret, h.go1 (h.one.go P.dev P.step) P.step, P.step, ⟨P.rb, fun g hg hf => hf.elim (P.nb g hg) (hn g 0 _ _ _ _ _ P.rb hg)⟩, ⟨P.rs, fun g hg hf => hf.elim (P.ns g hg) (hn g 0 _ _ _ _ _ P.rs hg)⟩⟩
theorem Two.act2 {A : Nat → Addr} {W wr : World} {b c : Nat} {F G : Nat → Prop} {d o : Dev} (h : Two A W wr b F d c G o) (s : Stp) (fv : Value) (hl : FatesIn wr fv s.fates) (hs : StpOk o s) (hq : (o.arms.length + 1) * 32 ≤ 140737488355328) :
    Calls Tryd.prog 11 #[.pointer (some ⟨c, 0, none⟩), .agg #[.int .i64 s.kind, .int .i64 s.sector, .int .i64 s.n, .string s.data, fv]] wr fun e w' => ∃ vb vs G', ActT A W wr c G b F d (o.act s) e w' vb vs G' := h.swap.act1 s fv hl hs hq

/-- The boxes that a round holds: a step's and an answer's. -/
structure Held (w : World) (p : Nat) (s : Stp) (fv : Value) (q : Nat) (E : Int) (vb vs : Value) (x y z : Int) : Prop where
  s0 : w.cell? ⟨p, 0, none⟩ = some (.int .i64 s.kind)
  s1 : w.cell? ⟨p, 1, none⟩ = some (.int .i64 s.sector)
  s2 : w.cell? ⟨p, 2, none⟩ = some (.int .i64 s.n)
  s3 : w.cell? ⟨p, 3, none⟩ = some (.string s.data)
  s4 : w.cell? ⟨p, 4, none⟩ = some fv
  q0 : w.cell? ⟨q, 0, none⟩ = some (.int .i64 E)
  q1 : w.cell? ⟨q, 1, none⟩ = some vb
  q2 : w.cell? ⟨q, 2, none⟩ = some vs
  q3 : w.cell? ⟨q, 3, none⟩ = some (.int .i64 x)
  q4 : w.cell? ⟨q, 4, none⟩ = some (.int .i64 y)
  q5 : w.cell? ⟨q, 5, none⟩ = some (.int .i64 z)
theorem Held.step {w w' : World} {p q : Nat} {s : Stp} {fv vb vs : Value} {E x y z : Int} {G G' : Nat → Prop} (h : Held w p s fv q E vb vs x y z) (hs : Step G G' w w') (hp : ¬ G p) (hq : ¬ G q) : Held w' p s fv q E vb vs x y z :=
  ⟨hs.cell h.s0 hp, hs.cell h.s1 hp, hs.cell h.s2 hp, hs.cell h.s3 hp, hs.cell h.s4 hp, hs.cell h.q0 hq, hs.cell h.q1 hq, hs.cell h.q2 hq, hs.cell h.q3 hq, hs.cell h.q4 hq, hs.cell h.q5 hq⟩
theorem Held.below {w w' : World} {p q : Nat} {s : Stp} {fv vb vs : Value} {E x y z : Int} (h : Held w p s fv q E vb vs x y z) (hb : Below w.heap.size w w') : Held w' p s fv q E vb vs x y z :=
  h.step (Step.of_below (F := fun _ => False) hb) id id
/-- What a round has when both devices have made their step. -/
structure Both (w : World) (r : SaidD) (va1 va2 vb1 vb2 : Value) : Prop where
  a1 : BytesIn w va1 r.bytes
  a2 : SecsIn w va2 r.secs
  b1 : BytesIn w vb1 r.bytes
  b2 : SecsIn w vb2 r.secs
theorem Both.keep {w w' : World} {r : SaidD} {va1 va2 vb1 vb2 : Value} (h : Both w r va1 va2 vb1 vb2) (hb : Below w.heap.size w w') : Both w' r va1 va2 vb1 vb2 := ⟨h.a1.keep hb, h.a2.keep hb, h.b1.keep hb, h.b2.keep hb⟩
theorem stpOk_of {d : Dev} {s : Stp} {k : Nat} (hn : s.n < 9223372036854775808) (hd : s.data.size ≤ 1048576) (hp : d.pend.length ≤ k * 2048) (hk : k ≤ 1048576) : StpOk d s := ⟨hn, by omega, by omega⟩

end Go.Proofs.YtdieacdkomiooabDoor
