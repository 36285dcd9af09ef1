/-
  WHAT IS PROVED HERE: what the document's Cmp hands back, in whatever world.
-/
import Derived.Test.YtiodfenkbhlpdaaDoorRh
namespace Go.Proofs.YtiodfenkbhlpdaaDoor
open Go.RowKit
theorem bit_above (n i : Nat) (hn : n < B128) (hi : 128 ≤ i) : n.testBit i = false := by
  rw [b128] at hn
  exact Nat.testBit_lt_two_pow (Nat.lt_of_lt_of_le hn (Nat.pow_le_pow_right (by decide) hi))
theorem cmp_same (m n : Nat) (hm : m < B128) (hn : n < B128) (h : ∀ i, 0 ≤ i → i < 128 → bitF m i = bitF n i) : cmpN m n = 0 := by
  have : m = n := Nat.eq_of_testBit_eq fun i => by
    by_cases hi : i < 128
    · exact h i (Nat.zero_le _) hi
    · rw [bit_above m i hm (by omega), bit_above n i hn (by omega)]
  unfold cmpN; rw [if_pos this]
theorem cmp_less (m n k : Nat) (hm : m < B128) (hn : n < B128) (h : ∀ i, k + 1 ≤ i → i < 128 → bitF m i = bitF n i) (h1 : bitF m k = false) (h2 : bitF n k = true) : m < n := by
  have e : m / 2 ^ (k + 1) = n / 2 ^ (k + 1) := Nat.eq_of_testBit_eq fun i => by
    rw [Nat.testBit_div_two_pow, Nat.testBit_div_two_pow]
    by_cases h8 : i + (k + 1) < 128
    · exact h _ (by omega) h8
    · rw [bit_above m _ hm (by omega), bit_above n _ hn (by omega)]
  rw [Nat.pow_succ, ← Nat.div_div_eq_div_mul, ← Nat.div_div_eq_div_mul] at e
  unfold bitF at h1 h2
  rw [Nat.testBit_eq_decide_div_mod_eq, decide_eq_false_iff_not] at h1
  rw [Nat.testBit_eq_decide_div_mod_eq, decide_eq_true_eq] at h2
  rcases Nat.lt_or_ge m n with h3 | h3
  · exact h3
  · have := Nat.div_le_div_right (c := 2 ^ k) h3
    omega
theorem cmp_up (m n k : Nat) (hm : m < B128) (hn : n < B128) (h : ∀ i, k + 1 ≤ i → i < 128 → bitF m i = bitF n i) (h1 : bitF m k = true) (h2 : bitF n k = false) : cmpN m n = 1 := by
  have := cmp_less n m k hn hm (fun i a b => (h i a b).symm) h2 h1
  unfold cmpN; rw [if_neg (by omega), if_neg (by omega)]
theorem cmp_down (m n k : Nat) (hm : m < B128) (hn : n < B128) (h : ∀ i, k + 1 ≤ i → i < 128 → bitF m i = bitF n i) (h1 : bitF m k = false) (h2 : bitF n k = true) : cmpN m n = -1 := by
  have := cmp_less m n k hm hn h h1 h2
  unfold cmpN; rw [if_neg (by omega), if_pos this]
end Go.Proofs.YtiodfenkbhlpdaaDoor
