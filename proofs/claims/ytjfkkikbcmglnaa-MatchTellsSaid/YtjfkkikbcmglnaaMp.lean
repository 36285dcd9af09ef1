/-
  WHAT IS PROVED HERE: plain words on patterns, bit by bit: what may be, agrees, is within, meets; and on prefixes' lengths; nothing of any program.
-/
import Derived.Test.YtjfkkikbcmglnaaMa
namespace Go.Proofs.Ytjfkkikbcmglnaa
open Go.RowKit
theorem bit_high {n i : Nat} (hn : n < B128) (hi : 128 ≤ i) : n.testBit i = false := by
  rw [b128] at hn
  exact Nat.testBit_lt_two_pow (Nat.lt_of_lt_of_le hn (Nat.pow_le_pow_right (by decide) hi))
theorem eq_bits {a b : Nat} (ha : a < B128) (hb : b < B128) (h : ∀ i, i < 128 → a.testBit i = b.testBit i) : a = b := by
  apply Nat.eq_of_testBit_eq
  intro i
  by_cases hi : i < 128
  · exact h i hi
  · rw [bit_high ha (by omega), bit_high hb (by omega)]
theorem and_lt11 {a b : Nat} (h : a < B128) : a &&& b < B128 := Nat.lt_of_le_of_lt Nat.and_le_left h
def agrAt (v m n i : Nat) : Bool := (n.testBit i && m.testBit i) == v.testBit i
theorem agr_bits {v m n : Nat} (hv : v < B128) (hn : n < B128) : agrB v m n = true ↔ ∀ i, i < 128 → agrAt v m n i = true := by
  unfold agrB agrAt
  rw [decide_eq_true_eq]
  constructor
  · intro h i _
    rw [← h, Nat.testBit_and]; simp
  · intro h
    exact eq_bits (and_lt11 hn) hv fun i hi => by rw [Nat.testBit_and]; simpa using h i hi
theorem fit_bits {m x : Nat} (hx : x ≤ 128) : fitB m (x : Int) = true ↔ ∀ i, x ≤ i → m.testBit i = false := by
  unfold fitB
  have hw : hw (x : Int) = x := by unfold hw heldZ; omega
  rw [decide_eq_true_eq, hw]
  constructor
  · intro h i hi
    rw [← h, Nat.testBit_mod_two_pow]
    have : ¬ i < x := by omega
    simp [this]
  · intro h
    apply Nat.eq_of_testBit_eq
    intro i
    rw [Nat.testBit_mod_two_pow]
    by_cases hi : i < x
    · simp [hi]
    · rw [h i (by omega)]; simp
def mayAt (v m x i : Nat) : Bool := v.testBit i && !m.testBit i || decide (x ≤ i) && m.testBit i
theorem may_bits {v m x : Nat} (hv : v < B128) (hm : m < B128) (h1 : 1 ≤ x) (h2 : x ≤ 128) : mayB v m (x : Int) = true ↔ ∀ i, i < 128 → mayAt v m x i = false := by
  unfold mayB mayAt wideB
  rw [Bool.and_eq_true, Bool.and_eq_true, Bool.and_eq_true, decide_eq_true_eq, decide_eq_true_eq, decide_eq_true_eq, fit_bits h2]
  constructor
  · rintro ⟨-, h3, h4⟩ i _
    have e := congrArg (fun n => n.testBit i) h4
    simp only [Nat.testBit_and] at e
    by_cases hi : x ≤ i
    · rw [h3 i hi] at e ⊢
      revert e
      cases v.testBit i <;> simp
    · simp only [hi, decide_false, Bool.false_and, Bool.or_false]
      revert e
      cases v.testBit i <;> cases m.testBit i <;> simp
  · intro h
    refine ⟨⟨by omega, by omega⟩, fun i hi => ?_, eq_bits (and_lt11 hv) hv fun i hi => ?_⟩
    · by_cases h128 : i < 128
      · have e := h i h128
        simp only [hi, decide_true, Bool.true_and] at e
        revert e
        cases m.testBit i <;> simp
      · exact bit_high hm (by omega)
    · have e := h i hi
      rw [Nat.testBit_and]
      revert e
      cases v.testBit i <;> cases m.testBit i <;> simp
theorem may_off {v m x i : Nat} (h2 : x ≤ 128) (h : mayB v m (x : Int) = true) (hi : x ≤ i) : m.testBit i = false ∧ v.testBit i = false := by
  obtain ⟨e1, e2, -⟩ := may_and h
  have hm0 : m.testBit i = false := (fit_bits h2).1 (by unfold fitB; exact decide_eq_true e2) i hi
  refine ⟨hm0, ?_⟩
  have e := congrArg (fun n => n.testBit i) e1
  simp only [Nat.testBit_and, hm0, Bool.and_false] at e
  exact e.symm
theorem may_sub {v m i : Nat} {x : Int} (h : mayB v m x = true) : (v.testBit i && m.testBit i) = v.testBit i := by
  have e := congrArg (fun n => n.testBit i) (may_and h).1
  simpa only [Nat.testBit_and] using e
def witAt (a m b n i : Nat) : Bool := n.testBit i && (!m.testBit i || (a.testBit i != b.testBit i))
def meeAt (a m b n i : Nat) : Bool := m.testBit i && n.testBit i && (a.testBit i != b.testBit i)
theorem within_bits {a m b n x : Nat} (h2 : x ≤ 128) (h0 : mayB a m (x : Int) = true) (h1 : mayB b n (x : Int) = true) : withinB a m b n (x : Int) = true ↔ ∀ i, i < x → witAt a m b n i = false := by
  unfold witAt
  constructor
  · intro h i _
    obtain ⟨-, -, g1, g2⟩ := within_of h
    have e1 := congrArg (fun n => n.testBit i) g1
    have e2 := congrArg (fun n => n.testBit i) g2
    simp only [Nat.testBit_and] at e1 e2
    revert e1 e2
    cases a.testBit i <;> cases m.testBit i <;> cases b.testBit i <;> cases n.testBit i <;> simp
  · intro h
    have key : ∀ i, (a.testBit i && n.testBit i) = b.testBit i ∧ (m.testBit i && n.testBit i) = n.testBit i := fun i => by
      by_cases hi : i < x
      · have e0 := h i hi
        have e1 := may_sub (i := i) h1
        revert e0 e1
        cases a.testBit i <;> cases m.testBit i <;> cases b.testBit i <;> cases n.testBit i <;> simp
      · obtain ⟨z1, z2⟩ := may_off h2 h1 (i := i) (by omega)
        rw [z1, z2]; simp
    exact within_mk h0 h1 (Nat.eq_of_testBit_eq fun i => by rw [Nat.testBit_and]; exact (key i).1) (Nat.eq_of_testBit_eq fun i => by rw [Nat.testBit_and]; exact (key i).2)
theorem meet_bits {a m b n x : Nat} (h2 : x ≤ 128) (h0 : mayB a m (x : Int) = true) (h1 : mayB b n (x : Int) = true) : meetB a m b n (x : Int) = true ↔ ∀ i, i < x → meeAt a m b n i = false := by
  unfold meeAt
  constructor
  · intro h i _
    unfold meetB at h
    simp only [Bool.and_eq_true, decide_eq_true_eq] at h
    have e1 := congrArg (fun n => n.testBit i) h.2.2.1
    simp only [Nat.testBit_and] at e1
    revert e1
    cases a.testBit i <;> cases m.testBit i <;> cases b.testBit i <;> cases n.testBit i <;> simp
  · intro h
    refine meet_mk h0 h1 (Nat.eq_of_testBit_eq fun i => ?_)
    rw [Nat.testBit_and, Nat.testBit_and]
    have e1 := may_sub (i := i) h0
    have e2 := may_sub (i := i) h1
    by_cases hi : i < x
    · have e0 := h i hi
      revert e0 e1 e2
      cases a.testBit i <;> cases m.testBit i <;> cases b.testBit i <;> cases n.testBit i <;> simp
    · obtain ⟨z1, z2⟩ := may_off h2 h1 (i := i) (by omega)
      obtain ⟨z3, z4⟩ := may_off h2 h0 (i := i) (by omega)
      rw [z1, z2, z3, z4]
end Go.Proofs.Ytjfkkikbcmglnaa
