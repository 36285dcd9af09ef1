/-
  WHAT IS PROVED HERE: the document's Num hands back the number of bits, in whatever world.
-/
import Derived.Test.YtiodfenkbhlpdaaDoorRa
namespace Go.Proofs.YtiodfenkbhlpdaaDoor
open Go.RowKit
/-- So many of the highest of 64 bits from b on. -/
def accF (f : Nat → Bool) (b : Nat) : Nat → Nat
  | 0 => 0
  | k + 1 => 2 * accF f b k + (f (b + 63 - k)).toNat
theorem accF_lt (f : Nat → Bool) (b : Nat) : ∀ k, accF f b k < 2 ^ k
  | 0 => by simp [accF]
  | k + 1 => by
    have := accF_lt f b k
    have h2 : (f (b + 63 - k)).toNat ≤ 1 := by cases f (b + 63 - k) <;> simp
    rw [accF, Nat.pow_succ]; omega
theorem accF_bit (f : Nat → Bool) (b : Nat) : ∀ k i, k ≤ 64 → (accF f b k).testBit i = (decide (i < k) && f (b + (64 - k) + i))
  | 0, i, _ => by simp [accF]
  | k + 1, 0, hk => by
    rw [accF, Nat.testBit_zero]
    cases h : f (b + 63 - k) <;> rw [show b + (64 - (k + 1)) + 0 = b + 63 - k by omega, h] <;> simp
  | k + 1, i + 1, hk => by
    rw [accF, Nat.testBit_succ]
    have : (2 * accF f b k + (f (b + 63 - k)).toNat) / 2 = accF f b k := by
      have h2 : (f (b + 63 - k)).toNat ≤ 1 := by cases f (b + 63 - k) <;> simp
      omega
    rw [this, accF_bit f b k i (by omega), show b + (64 - (k + 1)) + (i + 1) = b + (64 - k) + i by omega]
    simp
/-- The number of a row's bits. -/
def numF (f : Nat → Bool) : Nat := accF f 64 64 * 2 ^ 64 + accF f 0 64
theorem numF_lt (f : Nat → Bool) : numF f < B128 := by
  have h1 := accF_lt f 64 64
  have h2 := accF_lt f 0 64
  unfold numF; rw [b128]; omega
theorem numF_hi (f : Nat → Bool) : hi (numF f) = (accF f 64 64 : Nat) := by
  have h2 := accF_lt f 0 64
  unfold hi numF; omega
theorem numF_lo (f : Nat → Bool) : lo (numF f) = (accF f 0 64 : Nat) := by
  have h2 := accF_lt f 0 64
  unfold lo numF; omega
theorem numF_bit (f : Nat → Bool) (i : Nat) : (numF f).testBit i = (decide (i < 128) && f i) := by
  have h2 := accF_lt f 0 64
  unfold numF
  rw [Nat.mul_comm, Nat.testBit_two_pow_mul_add _ h2]
  split
  · rename_i h
    rw [accF_bit f 0 64 i (by omega), show 0 + (64 - 64) + i = i by omega]
    simp [h, show i < 128 by omega]
  · rename_i h
    rw [accF_bit f 64 64 (i - 64) (by omega), show 64 + (64 - 64) + (i - 64) = i by omega]
    congr 1
    rw [decide_eq_decide]; omega
/-- A number whose bits are a row's is the row's. -/
theorem numF_eq (f : Nat → Bool) (n : Nat) (hn : n < B128) (h : ∀ i, i < 128 → f i = n.testBit i) : numF f = n := by
  apply Nat.eq_of_testBit_eq
  intro i
  rw [numF_bit]
  by_cases hi : i < 128
  · simp [hi, h i hi]
  · rw [b128] at hn
    have : n.testBit i = false := Nat.testBit_lt_two_pow (Nat.lt_of_lt_of_le hn (Nat.pow_le_pow_right (by decide) (by omega)))
    simp [hi, this]
/-- The world in Num's loop: the row's block, the result's, the number's, these its halves. -/
structure N2 (w : World) (f : Nat → Bool) (h l : Int) (V : World) : Prop where
  below : Below w.heap.size w V
  size : w.heap.size + 1 + 1 + 1 ≤ V.heap.size
  n0 : V.cell? ⟨w.heap.size + 1 + 1, 0, none⟩ = some (.int .u64 h)
  n1 : V.cell? ⟨w.heap.size + 1 + 1, 1, none⟩ = some (.int .u64 l)
  r0 : V.cell? ⟨w.heap.size + 1, 0, none⟩ = some (.int .u64 0)
  r1 : V.cell? ⟨w.heap.size + 1, 1, none⟩ = some (.int .u64 0)
  fn : ∀ o, V.frozen? ⟨w.heap.size + 1 + 1, o, none⟩ = false
  fr : ∀ o, V.frozen? ⟨w.heap.size + 1, o, none⟩ = false
  row : RowAt V w.heap.size f
theorem N2.set0 {w V : World} {f : Nat → Bool} {h l : Int} (H : N2 w f h l V) (v : Int) : N2 w f v l (V.setCell ⟨w.heap.size + 1 + 1, 0, none⟩ (.int .u64 v)) :=
  ⟨H.below.setCell (Nat.le_add_right _ 2) _, by have := H.size; simp [World.setCell]; omega, World.cell?_setCell_same _ _ _ H.n0, (World.cell?_setCell_other _ _ _ _ (by simp)).trans H.n1, (World.cell?_setCell_other _ _ _ _ (by simp)).trans H.r0, (World.cell?_setCell_other _ _ _ _ (by simp)).trans H.r1,
    fun o => by rw [World.frozen?_setCell]; exact H.fn o, fun o => by rw [World.frozen?_setCell]; exact H.fr o, H.row.other _ (by simp <;> omega) _⟩
theorem N2.set1 {w V : World} {f : Nat → Bool} {h l : Int} (H : N2 w f h l V) (v : Int) : N2 w f h v (V.setCell ⟨w.heap.size + 1 + 1, 1, none⟩ (.int .u64 v)) :=
  ⟨H.below.setCell (Nat.le_add_right _ 2) _, by have := H.size; simp [World.setCell]; omega, (World.cell?_setCell_other _ _ _ _ (by simp)).trans H.n0, World.cell?_setCell_same _ _ _ H.n1, (World.cell?_setCell_other _ _ _ _ (by simp)).trans H.r0, (World.cell?_setCell_other _ _ _ _ (by simp)).trans H.r1,
    fun o => by rw [World.frozen?_setCell]; exact H.fn o, fun o => by rw [World.frozen?_setCell]; exact H.fr o, H.row.other _ (by simp <;> omega) _⟩
theorem N2.cast {w V : World} {f : Nat → Bool} {h l h' l' : Int} (H : N2 w f h l V) (e : h = h') (e' : l = l') : N2 w f h' l' V := by subst e e'; exact H
end Go.Proofs.YtiodfenkbhlpdaaDoor
