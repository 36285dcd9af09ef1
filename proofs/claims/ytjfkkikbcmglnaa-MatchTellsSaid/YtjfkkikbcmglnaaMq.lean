/-
  WHAT IS PROVED HERE: plain words on a prefix's length: the first length whose mask a pattern has, said by the mask's bits from the highest one down; nothing of any program.
-/
import Derived.Test.YtjfkkikbcmglnaaMp
import Derived.Test.YtjfkkikbcmglnaaMc
namespace Go.Proofs.Ytjfkkikbcmglnaa
open Go.RowKit
theorem topN_bit (l w i : Nat) (h1 : l ≤ w) (h2 : w ≤ 128) : (topN (l : Int) (w : Int)).testBit i = decide (w - l ≤ i ∧ i < w) := by
  unfold topN
  have e1 : hw (w : Int) = w := by unfold hw heldZ; omega
  have e2 : hw ((w : Int) - (l : Int)) = w - l := by unfold hw heldZ; omega
  rw [e1, e2, Nat.testBit_xor, Nat.testBit_two_pow_sub_one, Nat.testBit_two_pow_sub_one]
  by_cases h3 : i < w <;> by_cases h4 : i < w - l <;> simp [h3, h4] <;> omega
/-- The first length whose mask this is. -/
def lenF (m w : Nat) : Option Nat := (List.range (w + 1)).find? fun l => decide (topN (l : Int) (w : Int) = m)
theorem lenF_some {m w l : Nat} (hl : l ≤ w) (h : topN (l : Int) (w : Int) = m) (hf : ∀ j, j < l → topN (j : Int) (w : Int) ≠ m) : lenF m w = some l := by
  unfold lenF
  rw [List.find?_eq_some_iff_getElem]
  refine ⟨decide_eq_true h, l, by simp; omega, by simp, fun j hj => ?_⟩
  simp only [List.getElem_range, Bool.not_eq_true', decide_eq_false_iff_not]
  exact hf j hj
theorem lenF_none {m w : Nat} (h : ∀ l, l ≤ w → topN (l : Int) (w : Int) ≠ m) : lenF m w = none := by
  unfold lenF
  rw [List.find?_eq_none]
  intro l hl
  rw [List.mem_range] at hl
  simpa using h l (by omega)
/-- So many ones from the highest bit down. -/
def Ones (m w n : Nat) : Prop := ∀ j, j < n → m.testBit (w - 1 - j) = true
theorem Ones.zero (m w : Nat) : Ones m w 0 := fun j hj => absurd hj (Nat.not_lt_zero j)
theorem Ones.succ {m w n : Nat} (h : Ones m w n) (hb : m.testBit (w - 1 - n) = true) : Ones m w (n + 1) := fun j hj => by
  by_cases e : j < n
  · exact h j e
  · obtain rfl : j = n := by omega
    exact hb
/-- Noughts from one on, up to another one. -/
def Noughts (m w n i : Nat) : Prop := ∀ j, n ≤ j → j < i → m.testBit (w - 1 - j) = false
theorem Noughts.zero (m w n : Nat) : Noughts m w n n := fun j h1 h2 => absurd h2 (by omega)
theorem Noughts.succ {m w n i : Nat} (h : Noughts m w n i) (hb : m.testBit (w - 1 - i) = false) : Noughts m w n (i + 1) := fun j h1 h2 => by
  by_cases e : j < i
  · exact h j h1 e
  · obtain rfl : j = i := by omega
    exact hb
theorem top_ne {m w l j : Nat} (hl : l ≤ w) (h2 : w ≤ 128) (hj : j < w) (h : m.testBit (w - 1 - j) = !decide (j < l)) : topN (l : Int) (w : Int) ≠ m := by
  intro e
  have e1 := topN_bit l w (w - 1 - j) hl h2
  rw [e, h] at e1
  by_cases hjl : j < l
  · have : w - l ≤ w - 1 - j ∧ w - 1 - j < w := by omega
    simp [hjl, this] at e1
  · have : ¬ (w - l ≤ w - 1 - j) := by omega
    simp [hjl, this] at e1
theorem len_yes {m w n : Nat} (hn : n ≤ w) (h2 : w ≤ 128) (hm : ∀ i, w ≤ i → m.testBit i = false) (h1 : Ones m w n) (h0 : Noughts m w n w) : lenF m w = some n := by
  refine lenF_some hn (Nat.eq_of_testBit_eq fun i => ?_) (fun j hj => top_ne (by omega) h2 (j := j) (by omega) (by rw [h1 j hj]; simp))
  rw [topN_bit n w i hn h2]
  by_cases hi : i < w
  · by_cases h3 : w - n ≤ i
    · have := h1 (w - 1 - i) (by omega)
      rw [show w - 1 - (w - 1 - i) = i by omega] at this
      rw [this]; simp [h3, hi]
    · have := h0 (w - 1 - i) (by omega) (by omega)
      rw [show w - 1 - (w - 1 - i) = i by omega] at this
      rw [this]; simp [h3]
  · rw [hm i (by omega)]; simp [hi]
theorem len_no {m w n i : Nat} (h2 : w ≤ 128) (hni : n < i) (hi : i < w) (hb : m.testBit (w - 1 - n) = false) (hc : m.testBit (w - 1 - i) = true) : lenF m w = none := by
  refine lenF_none fun l hl => ?_
  by_cases h : l ≤ n
  · exact top_ne hl h2 hi (by rw [hc]; have : ¬ i < l := by omega
                              simp [this])
  · exact top_ne hl h2 (j := n) (by omega) (by rw [hb]; have : n < l := by omega
                                               simp [this])
/-- A prefix's length, if it is one. -/
def lenL (v m : Nat) (x : Int) : Int := if mayB v m x = true then (match lenF m x.toNat with | some l => (l : Int) | none => 0) else 0
def lenB (v m : Nat) (x : Int) : Bool := mayB v m x && (lenF m x.toNat).isSome
end Go.Proofs.Ytjfkkikbcmglnaa
