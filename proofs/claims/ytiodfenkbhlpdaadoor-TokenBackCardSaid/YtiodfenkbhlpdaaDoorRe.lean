/-
  WHAT IS PROVED HERE: what the document's shifts hand back, in whatever world.
-/
import Derived.Test.YtiodfenkbhlpdaaDoorRd
namespace Go.Proofs.YtiodfenkbhlpdaaDoor
open Go.RowKit
/-- A loop from one row to another: the row that is read stands beside. -/
structure R2 (w : World) (rb bx b : Nat) (f g : Nat → Bool) (V : World) : Prop where
  one : R1 w rb b g V
  lx : rb < bx
  xb : bx < b
  x : RowAt V bx f
theorem R2.set {w V : World} {rb bx b : Nat} {f g : Nat → Bool} (h : R2 w rb bx b f g V) (k : Nat) (hk : k < 128) (x : Bool) : R2 w rb bx b f (fun i => if i = k then x else g i) (V.setCell ⟨b, k, none⟩ (.bool x)) := by
  have := h.xb
  exact ⟨h.one.set k hk x, h.lx, h.xb, h.x.other _ (by simp; omega) _⟩
theorem R2.congr {w V : World} {rb bx b : Nat} {f g g' : Nat → Bool} (h : R2 w rb bx b f g V) (e : ∀ i, i < 128 → g i = g' i) : R2 w rb bx b f g' V := ⟨h.one.congr e, h.lx, h.xb, h.x⟩
/-- A row of noughts is made beside a row. -/
theorem R2.make {w V : World} {rb bx : Nat} {f : Nat → Bool} (h : R1 w rb bx f V) (T : TypeId) : R2 w rb bx V.heap.size f (fun _ => false) (V.alloc (.cells (rowL fun _ => false).toArray T)) := by
  have h1 := h.lt
  have h2 := h.blt
  have h3 := h.below.size
  exact ⟨⟨h.below.alloc (by omega) _, h.le, by omega, by simp, (cell_old _ _ _ 0 (by omega)).trans h.r0, (cell_old _ _ _ 1 (by omega)).trans h.r1, fun o => (frozen_old _ _ _ o (by omega)).trans (h.fr o), RowAt.new V _ T⟩, h1, h2, h.row.old h2 _⟩
/-- So many bits of f, from s on, laid from d on. -/
def copyF (f : Nat → Bool) (d s k i : Nat) : Bool := if d ≤ i ∧ i < d + k then f (i - d + s) else false
theorem copyF_zero (f : Nat → Bool) (d s i : Nat) : copyF f d s 0 i = false := if_neg (by omega)
theorem copyF_succ (f : Nat → Bool) (d s k i : Nat) : (if i = d + k then f (s + k) else copyF f d s k i) = copyF f d s (k + 1) i := by
  unfold copyF
  by_cases h : i = d + k
  · subst h; rw [if_pos rfl, if_pos (by omega), show d + k - d + s = s + k by omega]
  · rw [if_neg h]
    by_cases h1 : d ≤ i ∧ i < d + k
    · rw [if_pos h1, if_pos (by omega)]
    · rw [if_neg h1, if_neg (by omega)]
theorem copyF_at (f : Nat → Bool) (d s k a b i : Nat) (ha : a = d + k) (hb : b = s + k) : (if i = a then f b else copyF f d s k i) = copyF f d s (k + 1) i := by subst ha hb; exact copyF_succ f d s k i
theorem hw_nat' (k : Nat) (h : k ≤ 128) : hw (k : Int) = k := by unfold hw heldZ; omega
theorem shr_num (n K : Nat) (hK : K ≤ 128) (hn : n < B128) : numF (copyF (bitF n) 0 K (128 - K)) = n / 2 ^ K := by
  refine numF_eq _ _ (Nat.lt_of_le_of_lt (Nat.div_le_self _ _) hn) fun i hi => ?_
  rw [Nat.testBit_div_two_pow]
  unfold copyF bitF
  split
  · rfl
  · symm
    rw [b128] at hn
    exact Nat.testBit_lt_two_pow (Nat.lt_of_lt_of_le hn (Nat.pow_le_pow_right (by decide) (by omega)))
theorem shl_num (n K : Nat) (hK : K ≤ 128) : numF (copyF (bitF n) K 0 (128 - K)) = n * 2 ^ K % 2 ^ 128 := by
  refine numF_eq _ _ (mod_128_lt _) fun i hi => ?_
  rw [Nat.testBit_mod_two_pow, Nat.testBit_mul_two_pow]
  unfold copyF bitF
  by_cases h : K ≤ i
  · rw [if_pos (by omega)]; simp [h, hi]
  · rw [if_neg (by omega)]; simp [h]
end Go.Proofs.YtiodfenkbhlpdaaDoor
