/-
  WHAT IS PROVED HERE: sums bit by bit, with what is carried; nothing of any function.
-/
import Derived.Test.YtiodfenkbhlpdaaDoorRj
namespace Go.Proofs.YtiodfenkbhlpdaaDoor
open Go.RowKit
/-- What is carried into the bit j; the sum's bits. -/
def carF (m n j : Nat) : Bool := BitVec.carry j (BitVec.ofNat 128 m) (BitVec.ofNat 128 n) false
def addF (m n j : Nat) : Bool := bitF ((m + n) % 2 ^ 128) j
theorem car_zero (m n : Nat) : carF m n 0 = false := by unfold carF; simp [BitVec.carry_zero]
theorem bit_vec (m j : Nat) (hj : j < 128) : (BitVec.ofNat 128 m).getLsbD j = bitF m j := by
  unfold bitF; rw [BitVec.getLsbD_ofNat]; simp [hj]
theorem car_succ (m n j : Nat) (hj : j < 128) : carF m n (j + 1) = (bitF m j && bitF n j || bitF m j && carF m n j || bitF n j && carF m n j) := by
  unfold carF
  rw [BitVec.carry_succ, bit_vec m j hj, bit_vec n j hj]
theorem add_bit (m n j : Nat) (hj : j < 128) : addF m n j = bne (bne (bitF m j) (bitF n j)) (carF m n j) := by
  have h := BitVec.getLsbD_add (w := 128) hj (BitVec.ofNat 128 m) (BitVec.ofNat 128 n)
  rw [bit_vec m j hj, bit_vec n j hj, ← BitVec.ofNat_add, bit_vec _ j hj] at h
  unfold addF carF
  have e : bitF ((m + n) % 2 ^ 128) j = bitF (m + n) j := by unfold bitF; rw [Nat.testBit_mod_two_pow]; simp [hj]
  rw [e, h]
  cases bitF m j <;> cases bitF n j <;> cases BitVec.carry j (BitVec.ofNat 128 m) (BitVec.ofNat 128 n) false <;> rfl
theorem add_num (m n : Nat) : numF (addF m n) = (m + n) % 2 ^ 128 :=
  numF_eq _ _ (mod_128_lt _) fun _ _ => rfl
end Go.Proofs.YtiodfenkbhlpdaaDoor
