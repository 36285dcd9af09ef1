/-
  WHAT IS PROVED HERE: what the document's Slice hands back, in whatever world.
-/
import Derived.Test.YtiodfenkbhlpdaaDoorRe
namespace Go.Proofs.YtiodfenkbhlpdaaDoor
open Go.RowKit
theorem numF_zero (f : Nat → Bool) (h : ∀ i, i < 128 → f i = false) : numF f = 0 :=
  numF_eq _ _ (by decide) fun i hi => by rw [h i hi, Nat.zero_testBit]
/-- How many bits a slice holds. -/
def manyN (u : Int) (K : Nat) : Nat := (min u 127 + 1 - K).toNat
theorem slice_num (n K : Nat) (u : Int) (hn : n < B128) : numF (copyF (bitF n) 0 K (manyN u K)) = sliceN n u (K : Int) := by
  by_cases h : u < (K : Int)
  · rw [numF_zero]
    · unfold sliceN; rw [if_pos (Or.inr h)]
    · intro i _; unfold copyF manyN; rw [if_neg (by omega)]
  · unfold sliceN
    rw [if_neg (by omega)]
    refine numF_eq _ _ (mod_hw_lt _ _) fun i hi => ?_
    rw [Nat.testBit_mod_two_pow, Nat.testBit_div_two_pow]
    rw [b128] at hn
    by_cases hb : i + hw (K : Int) < 128
    · have hK : hw (K : Int) = K := by unfold hw heldZ at *; omega
      rw [hK] at hb ⊢
      have e : decide (i < hw (min (u - (K : Int)) 128 + 1)) = decide (i < manyN u K) := by unfold hw heldZ manyN; rw [decide_eq_decide]; omega
      rw [e]
      unfold copyF bitF
      by_cases hm : i < manyN u K
      · rw [if_pos ⟨Nat.zero_le _, by omega⟩]; simp [hm]
      · rw [if_neg (by omega)]; simp [hm]
    · rw [Nat.testBit_lt_two_pow (Nat.lt_of_lt_of_le hn (Nat.pow_le_pow_right (by decide) (by omega))), Bool.and_false]
      unfold copyF
      rw [if_neg]
      unfold manyN
      unfold hw heldZ at hb
      omega
end Go.Proofs.YtiodfenkbhlpdaaDoor
