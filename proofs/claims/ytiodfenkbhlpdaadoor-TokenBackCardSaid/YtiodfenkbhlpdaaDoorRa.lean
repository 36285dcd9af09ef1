/-
  WHAT IS PROVED HERE: the document's Bits and Num hand back a number's bits, and the number of bits, in whatever world.
-/
import Derived.Test.YtiodfenkbhlpdaaDoorRow
import Derived.WalkSpells
import Derived.WalkLawsBesides
namespace Go.Proofs.YtiodfenkbhlpdaaDoor
open Go.RowKit
/-- A number's bits. -/
def bitF (n i : Nat) : Bool := n.testBit i
theorem lo_bit (n k : Nat) (hk : k < 64) : (((n % 2 ^ 64 / 2 ^ k : Nat) : Int) % 2 == 1) = bitF n k := by
  unfold bitF
  rw [Nat.testBit_eq_decide_div_mod_eq]
  have h : n % 2 ^ 64 / 2 ^ k % 2 = n / 2 ^ k % 2 := by
    have e1 := Nat.testBit_mod_two_pow n 64 k
    rw [Nat.testBit_eq_decide_div_mod_eq, Nat.testBit_eq_decide_div_mod_eq, decide_eq_true hk, Bool.true_and, decide_eq_decide] at e1
    omega
  rw [← h, Bool.eq_iff_iff, beq_iff_eq, decide_eq_true_eq]
  omega
theorem hi_bit (n k : Nat) : (((n / 2 ^ 64 / 2 ^ k : Nat) : Int) % 2 == 1) = bitF n (64 + k) := by
  unfold bitF
  rw [Nat.testBit_eq_decide_div_mod_eq, Nat.pow_add, ← Nat.div_div_eq_div_mul, Bool.eq_iff_iff, beq_iff_eq, decide_eq_true_eq]
  omega
theorem half (a k : Nat) : ((a / 2 ^ k : Nat) : Int) / 2 = ((a / 2 ^ (k + 1) : Nat) : Int) := by rw [Nat.pow_succ, ← Nat.div_div_eq_div_mul]; rfl
/-- The row behind k rounds of Bits. -/
def bitsF (n k i : Nat) : Bool := (decide (i < k) || (decide (64 ≤ i) && decide (i < 64 + k))) && bitF n i
theorem bitsF_all (n i : Nat) (h : i < 128) : bitsF n 64 i = bitF n i := by
  unfold bitsF
  by_cases h1 : i < 64
  · simp [h1]
  · simp [h1, h, show 64 ≤ i by omega]
theorem bitsF_zero (n i : Nat) : bitsF n 0 i = false := by
  unfold bitsF
  by_cases h1 : 64 ≤ i
  · simp; omega
  · simp [h1]
theorem bitsF_succ (n k i : Nat) (hk : k < 64) : (if i = 64 + k then bitF n (64 + k) else if i = k then bitF n k else bitsF n k i) = bitsF n (k + 1) i := by
  unfold bitsF
  by_cases h1 : i = 64 + k
  · subst h1; rw [if_pos rfl]; simp
  · rw [if_neg h1]
    by_cases h2 : i = k
    · subst h2; rw [if_pos rfl]; simp
    · rw [if_neg h2]
      congr 1
      rw [Bool.eq_iff_iff]
      simp only [Bool.or_eq_true, Bool.and_eq_true, decide_eq_true_eq]
      omega
/-- The world in Bits' loop: the number's block, the result's, the row's. -/
structure BitsInv (w : World) (n k : Nat) (V : World) : Prop where
  below : Below w.heap.size w V
  size : w.heap.size + 1 + 1 + 1 ≤ V.heap.size
  n0 : V.cell? ⟨w.heap.size, 0, none⟩ = some (.int .u64 ((n / 2 ^ 64 / 2 ^ k : Nat) : Int))
  n1 : V.cell? ⟨w.heap.size, 1, none⟩ = some (.int .u64 ((n % 2 ^ 64 / 2 ^ k : Nat) : Int))
  fn : ∀ o, V.frozen? ⟨w.heap.size, o, none⟩ = false
  res : RowAt V (w.heap.size + 1) fun _ => false
  row : RowAt V (w.heap.size + 1 + 1) (bitsF n k)
theorem BitsInv.step {w V : World} {n k : Nat} (h : BitsInv w n k V) (hk : k < 64) (N M : Int) (hN : N = ((n / 2 ^ 64 / 2 ^ (k + 1) : Nat) : Int)) (hM : M = ((n % 2 ^ 64 / 2 ^ (k + 1) : Nat) : Int)) :
    BitsInv w n (k + 1) ((((V.setCell ⟨w.heap.size + 1 + 1, k, none⟩ (.bool (bitF n k))).setCell ⟨w.heap.size + 1 + 1, 64 + k, none⟩ (.bool (bitF n (64 + k)))).setCell ⟨w.heap.size, 1, none⟩ (.int .u64 M)).setCell ⟨w.heap.size, 0, none⟩ (.int .u64 N)) := by
  subst hN hM
  refine ⟨(((h.below.setCell (Nat.le_add_right _ 2) _).setCell (Nat.le_add_right _ 2) _).setCell (Nat.le_refl _) _).setCell (Nat.le_refl _) _, by have := h.size; simp [World.setCell]; omega, ?_, ?_, ?_, ?_, ?_⟩
  · refine World.cell?_setCell_same _ _ _ (u := .int .u64 ((n / 2 ^ 64 / 2 ^ k : Nat) : Int)) ?_
    rw [World.cell?_setCell_other _ _ _ _ (by simp), World.cell?_setCell_other _ _ _ _ (by simp), World.cell?_setCell_other _ _ _ _ (by simp)]; exact h.n0
  · rw [World.cell?_setCell_other _ _ _ _ (by simp)]
    refine World.cell?_setCell_same _ _ _ (u := .int .u64 ((n % 2 ^ 64 / 2 ^ k : Nat) : Int)) ?_
    rw [World.cell?_setCell_other _ _ _ _ (by simp), World.cell?_setCell_other _ _ _ _ (by simp)]; exact h.n1
  · intro o; simp only [World.frozen?_setCell]; exact h.fn o
  · exact (((h.res.other _ (by simp) _).other _ (by simp) _).other _ (by simp) _).other _ (by simp) _
  · refine (((((h.row.set k (by omega) _).set (64 + k) (by omega) _).other _ (by simp <;> omega) _).other _ (by simp <;> omega) _)).congr fun i _ => ?_
    exact bitsF_succ n k i hk
end Go.Proofs.YtiodfenkbhlpdaaDoor
