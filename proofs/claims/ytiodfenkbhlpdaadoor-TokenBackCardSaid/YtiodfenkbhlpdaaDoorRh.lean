/-
  WHAT IS PROVED HERE: what the document's And, Or, Xor hand back, in whatever world.
-/
import Derived.Test.YtiodfenkbhlpdaaDoorRg
namespace Go.Proofs.YtiodfenkbhlpdaaDoor
open Go.RowKit
theorem neqB_run (p q : Bool) (w : World) : (binOp .neq 4 (.bool p) (.bool q)).run Tryd.prog w = .ok (.bool (bne p q)) w := by
  cases p <;> cases q <;> go_simp
/-- A loop over two rows: the first is written, the second stands beside. -/
structure R3 (w : World) (rb p q : Nat) (f g : Nat → Bool) (V : World) : Prop where
  one : R1 w rb p f V
  apart : p ≠ q
  y : RowAt V q g
theorem R3.set {w V : World} {rb p q : Nat} {f g : Nat → Bool} (h : R3 w rb p q f g V) (k : Nat) (hk : k < 128) (x : Bool) : R3 w rb p q (fun i => if i = k then x else f i) g (V.setCell ⟨p, k, none⟩ (.bool x)) :=
  ⟨h.one.set k hk x, h.apart, h.y.other _ h.apart _⟩
theorem R3.yl {w V : World} {rb p q : Nat} {f g : Nat → Bool} (h : R3 w rb p q f g V) : q < V.heap.size := World.block_lt_of_cell? V ⟨q, 0, none⟩ (h.y.c 0 (by omega))
theorem R3.grow {w V : World} {rb p q : Nat} {f g : Nat → Bool} (h : R3 w rb p q f g V) (x : Ext) : R3 w rb p q f g (plus V x) :=
  ⟨⟨h.one.below.trans ((below_plus V x).mono h.one.below.size), h.one.le, h.one.lt, Nat.lt_of_lt_of_le h.one.blt (size_plus V x), h.one.p0 x, h.one.p1 x, h.one.pf x, h.one.row.plus h.one.blt x⟩, h.apart, h.y.plus h.yl x⟩
theorem R3.congr {w V : World} {rb p q : Nat} {f f' g : Nat → Bool} (h : R3 w rb p q f g V) (e : ∀ i, i < 128 → f i = f' i) : R3 w rb p q f' g V := ⟨h.one.congr e, h.apart, h.y⟩
/-- Behind the region that makes them. -/
theorem R3.make {w W V : World} {p q : Nat} {f g : Nat → Bool} {rb : Nat} (hB : Below w.heap.size w W) (hrb : w.heap.size ≤ rb) (hs : rb < W.heap.size) (r0 : ∀ y, (plus W y).cell? ⟨rb, 0, none⟩ = some (.int .u64 0)) (r1 : ∀ y, (plus W y).cell? ⟨rb, 1, none⟩ = some (.int .u64 0)) (fr : ∀ y o, (plus W y).frozen? ⟨rb, o, none⟩ = false)
    (hV : Below W.heap.size W V) (p1 : W.heap.size ≤ p) (p2 : p < V.heap.size) (p3 : RowAt V p f) (q3 : RowAt V q g) (hpq : p ≠ q) : R3 w rb p q f g V := by
  have e0 := r0 ⟨#[], W.drawn⟩
  have e1 := r1 ⟨#[], W.drawn⟩
  have e2 := fr ⟨#[], W.drawn⟩
  rw [plus_self] at e0 e1 e2
  exact ⟨⟨hB.trans (hV.mono hB.size), hrb, by omega, p2, (hV.cell (p := ⟨rb, 0, none⟩) hs).trans e0, (hV.cell (p := ⟨rb, 1, none⟩) hs).trans e1, fun o => (hV.frozen (p := ⟨rb, o, none⟩) hs).trans (e2 o), p3⟩, hpq, q3⟩
def andF (m n i : Nat) : Bool := and (bitF m i) (bitF n i)
theorem and_lt128 (m n : Nat) (hm : m < B128) (hn : n < B128) : m &&& n < B128 := by
  rw [b128] at *
  exact (have _ := hm; Nat.and_lt_two_pow _ hn)
theorem and_num (m n : Nat) (hm : m < B128) (hn : n < B128) : numF (andF m n) = m &&& n := by
  refine numF_eq _ _ (and_lt128 m n hm hn) fun i hi => ?_
  rw [Nat.testBit_and]
  unfold andF bitF
  cases m.testBit i <;> cases n.testBit i <;> rfl
def orF (m n i : Nat) : Bool := or (bitF m i) (bitF n i)
theorem or_lt128 (m n : Nat) (hm : m < B128) (hn : n < B128) : m ||| n < B128 := by
  rw [b128] at *
  exact Nat.or_lt_two_pow hm hn
theorem or_num (m n : Nat) (hm : m < B128) (hn : n < B128) : numF (orF m n) = m ||| n := by
  refine numF_eq _ _ (or_lt128 m n hm hn) fun i hi => ?_
  rw [Nat.testBit_or]
  unfold orF bitF
  cases m.testBit i <;> cases n.testBit i <;> rfl
def xorF (m n i : Nat) : Bool := bne (bitF m i) (bitF n i)
theorem xor_lt128 (m n : Nat) (hm : m < B128) (hn : n < B128) : m ^^^ n < B128 := by
  rw [b128] at *
  exact Nat.xor_lt_two_pow hm hn
theorem xor_num (m n : Nat) (hm : m < B128) (hn : n < B128) : numF (xorF m n) = m ^^^ n := by
  refine numF_eq _ _ (xor_lt128 m n hm hn) fun i hi => ?_
  rw [Nat.testBit_xor]
  unfold xorF bitF
  cases m.testBit i <;> cases n.testBit i <;> rfl
end Go.Proofs.YtiodfenkbhlpdaaDoor
