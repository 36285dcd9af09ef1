/-
  WHAT IS PROVED HERE: plain words on patterns, that are two numbers each: which may be, what agrees, which is within, or meets, which; nothing of any program.
-/
import Derived.Test.YtjfkkikbcmglnaaPN
namespace Go.Proofs.Ytjfkkikbcmglnaa
open Go.RowKit
def wideB (x : Int) : Bool := decide (1 ≤ x) && decide (x ≤ 128)
def fitB (n : Nat) (x : Int) : Bool := decide (n % 2 ^ hw x = n)
def mayB (v m : Nat) (x : Int) : Bool := wideB x && (fitB m x && decide (v &&& m = v))
def agrB (v m n : Nat) : Bool := decide (n &&& m = v)
def withinB (a m b n : Nat) (x : Int) : Bool := mayB a m x && (mayB b n x && (decide (a &&& n = b) && decide (m &&& n = n)))
def meetB (a m b n : Nat) (x : Int) : Bool := mayB a m x && (mayB b n x && (decide (a &&& n = b &&& m) && decide (m &&& n = n &&& m)))
/-- A pattern, as it is made: of two numbers, and a width; what was wrong, as a number. -/
def maskE (n m : Nat) (x : Int) : Int := if wideB x = true then (if (fitB n x && fitB m x) = true then 0 else 5) else 2
def maskV (n m : Nat) (x : Int) : Nat := if maskE n m x = 0 then n &&& m else 0
def maskM (n m : Nat) (x : Int) : Nat := if maskE n m x = 0 then m else 0
theorem may_and {v m : Nat} {x : Int} (h : mayB v m x = true) : v &&& m = v ∧ m % 2 ^ hw x = m ∧ 1 ≤ x ∧ x ≤ 128 := by
  unfold mayB wideB fitB at h
  simp only [Bool.and_eq_true, decide_eq_true_eq] at h
  exact ⟨h.2.2, h.2.1, h.1.1, h.1.2⟩
theorem within_of {a m b n : Nat} {x : Int} (h : withinB a m b n x = true) : mayB a m x = true ∧ mayB b n x = true ∧ a &&& n = b ∧ m &&& n = n := by
  unfold withinB at h
  simp only [Bool.and_eq_true, decide_eq_true_eq] at h
  exact ⟨h.1, h.2.1, h.2.2.1, h.2.2.2⟩
theorem within_mk {a m b n : Nat} {x : Int} (h0 : mayB a m x = true) (h1 : mayB b n x = true) (h2 : a &&& n = b) (h3 : m &&& n = n) : withinB a m b n x = true := by
  unfold withinB
  rw [h0, h1, decide_eq_true h2, decide_eq_true h3]; rfl
theorem meet_mk {a m b n : Nat} {x : Int} (h0 : mayB a m x = true) (h1 : mayB b n x = true) (h2 : a &&& n = b &&& m) : meetB a m b n x = true := by
  unfold meetB
  rw [h0, h1, decide_eq_true h2, decide_eq_true (Nat.and_comm m n)]; rfl
theorem within_meet {a m b n : Nat} {x : Int} (h : withinB a m b n x = true) : meetB a m b n x = true := by
  obtain ⟨h0, h1, h2, h3⟩ := within_of h
  refine meet_mk h0 h1 ?_
  have := (may_and h0).1
  rw [← h2, Nat.and_assoc, Nat.and_comm n m, ← Nat.and_assoc, this]
theorem within_agr {a m b n k : Nat} {x : Int} (h : withinB a m b n x = true) (g : agrB a m k = true) : agrB b n k = true := by
  obtain ⟨h0, h1, h2, h3⟩ := within_of h
  unfold agrB at *
  rw [decide_eq_true_eq] at *
  rw [← h2, ← g, Nat.and_assoc, h3]
theorem within_trans {a m b n c o : Nat} {x : Int} (h : withinB a m b n x = true) (g : withinB b n c o x = true) : withinB a m c o x = true := by
  obtain ⟨h0, h1, h2, h3⟩ := within_of h
  obtain ⟨g0, g1, g2, g3⟩ := within_of g
  refine within_mk h0 g1 ?_ ?_
  · rw [← g2, ← h2, Nat.and_assoc, g3]
  · rw [← g3, ← Nat.and_assoc, h3]
theorem within_back {a m b n : Nat} {x : Int} (h : withinB a m b n x = true) (g : withinB b n a m x = true) : a = b ∧ m = n := by
  obtain ⟨h0, h1, h2, h3⟩ := within_of h
  obtain ⟨g0, g1, g2, g3⟩ := within_of g
  have e : m = n := by rw [← h3, Nat.and_comm, g3]
  refine ⟨?_, e⟩
  rw [← h2, ← e, (may_and h0).1]
theorem agr_meet {a m b n k : Nat} {x : Int} (h0 : mayB a m x = true) (h1 : mayB b n x = true) (g0 : agrB a m k = true) (g1 : agrB b n k = true) : meetB a m b n x = true := by
  refine meet_mk h0 h1 ?_
  unfold agrB at *
  rw [decide_eq_true_eq] at *
  rw [← g0, ← g1, Nat.and_assoc, Nat.and_assoc, Nat.and_comm m n]
theorem may_self {a m : Nat} {x : Int} (h0 : mayB a m x = true) : withinB a m a m x = true ∧ meetB a m a m x = true :=
  ⟨within_mk h0 h0 (may_and h0).1 (Nat.and_self m), meet_mk h0 h0 rfl⟩
theorem mask_may {n m : Nat} {x : Int} (h : maskE n m x = 0) : mayB (maskV n m x) (maskM n m x) x = true ∧ agrB (maskV n m x) (maskM n m x) n = true := by
  unfold maskV maskM
  rw [if_pos h, if_pos h]
  unfold maskE at h
  split at h
  · rename_i h1
    split at h
    · rename_i h2
      unfold mayB agrB
      rw [Bool.and_eq_true] at h2
      rw [h1, h2.2, decide_eq_true (show n &&& m &&& m = n &&& m by rw [Nat.and_assoc, Nat.and_self])]
      exact ⟨rfl, decide_eq_true rfl⟩
    · exact absurd h (by decide)
  · exact absurd h (by decide)
theorem maskE_cases (n m : Nat) (x : Int) : (wideB x = false ∧ maskE n m x = 2) ∨ (wideB x = true ∧ fitB n x = false ∧ maskE n m x = 5) ∨ (wideB x = true ∧ fitB n x = true ∧ fitB m x = false ∧ maskE n m x = 5) ∨ (wideB x = true ∧ fitB n x = true ∧ fitB m x = true ∧ maskE n m x = 0) := by
  unfold maskE
  cases wideB x <;> cases fitB n x <;> cases fitB m x <;> simp
theorem maskV_lt {n m : Nat} {x : Int} (hn : n < B128) : maskV n m x < B128 := by
  unfold maskV
  split
  · exact Nat.lt_of_le_of_lt Nat.and_le_left hn
  · decide
theorem maskM_lt {n m : Nat} {x : Int} (hm : m < B128) : maskM n m x < B128 := by
  unfold maskM
  split
  · exact hm
  · decide
end Go.Proofs.Ytjfkkikbcmglnaa
