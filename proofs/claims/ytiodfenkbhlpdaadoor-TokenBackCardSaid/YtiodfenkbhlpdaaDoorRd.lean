/-
  WHAT IS PROVED HERE: what more of the document's calls of layer 1 hand back: a number turned, one bit, a fit, in whatever world.
-/
import Derived.Test.YtiodfenkbhlpdaaDoorRc
namespace Go.Proofs.YtiodfenkbhlpdaaDoor
open Go.RowKit
/-- The bits below a width, turned. -/
def notF (n : Nat) (k : Int) (i : Nat) : Bool := !(bitF n i) && decide ((i : Int) < k)
theorem not_lt (n : Nat) (k : Int) : n % 2 ^ hw k ^^^ (2 ^ hw k - 1) < B128 := by
  have h1 := mod_hw_lt n k
  have h2 := mask_lt k
  rw [b128] at *
  exact Nat.xor_lt_two_pow h1 h2
theorem not_num (n : Nat) (k : Int) : numF (notF n k) = n % 2 ^ hw k ^^^ (2 ^ hw k - 1) := by
  refine numF_eq _ _ (not_lt n k) fun i hi => ?_
  rw [Nat.testBit_xor, Nat.testBit_mod_two_pow, Nat.testBit_two_pow_sub_one]
  unfold notF bitF
  have e : decide ((i : Int) < k) = decide (i < hw k) := by unfold hw heldZ; rw [decide_eq_decide]; omega
  rw [e]
  cases n.testBit i <;> cases decide (i < hw k) <;> rfl
theorem bit_same (n : Nat) (k : Int) (h0 : 0 ≤ k) (h1 : k < 128) : bitF n k.toNat = bitN n k := by
  rw [bitN_pos n k h0]
  have e : hw k = k.toNat := by unfold hw heldZ; omega
  rw [e]
  unfold bitF
  rw [Nat.testBit_eq_decide_div_mod_eq, Bool.eq_iff_iff, beq_iff_eq, decide_eq_true_eq, div_cast]
  omega
theorem bit_out (n : Nat) (k : Int) (hn : n < B128) (h1 : 128 ≤ k) : bitN n k = false := by
  rw [bitN_pos n k (by omega)]
  have e : hw k = 128 := by unfold hw heldZ; omega
  rw [e, div_cast, Nat.div_eq_of_lt (by rwa [b128] at hn)]
  rfl
theorem wpList_world {P : Program} {ops : Array Oper} {Q : Exit → Act → World → Prop} {l : List Oper} {a : Act} {V U : World} (e : V = U) (h : wpList P ops Q l a U) : wpList P ops Q l a V := by rw [e]; exact h
end Go.Proofs.YtiodfenkbhlpdaaDoor
