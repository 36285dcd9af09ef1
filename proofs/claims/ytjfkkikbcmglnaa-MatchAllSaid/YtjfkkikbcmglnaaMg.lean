/-
  WHAT IS PROVED HERE: plain words on all numbers of a width of at most 10 bits, and patterns of that width: one pattern is within another one just if each number that agrees with it agrees with that; two meet just if some number agrees with both.
-/
import Derived.Test.YtjfkkikbcmglnaaMa
namespace Go.Proofs.Ytjfkkikbcmglnaa
open Go.RowKit
/-- Of the numbers below k: does each that agrees with the one agree with the other? Does any agree with both? -/
def allIn (a m b n k : Nat) : Bool := (List.range k).all fun i => !agrB a m i || agrB b n i
def anyIn (a m b n k : Nat) : Bool := (List.range k).any fun i => agrB a m i && agrB b n i
theorem allIn_succ (a m b n k : Nat) : allIn a m b n (k + 1) = (allIn a m b n k && (!agrB a m k || agrB b n k)) := by
  unfold allIn
  rw [List.range_succ, List.all_append]
  simp
theorem anyIn_succ (a m b n k : Nat) : anyIn a m b n (k + 1) = (anyIn a m b n k || (agrB a m k && agrB b n k)) := by
  unfold anyIn
  rw [List.range_succ, List.any_append]
  simp
theorem hw_small {w : Nat} (h : w ≤ 10) : hw (w : Int) = w := by unfold hw heldZ; omega
theorem may_lt {v m w : Nat} (h1 : w ≤ 10) (h : mayB v m (w : Int) = true) : m < 2 ^ w ∧ v < 2 ^ w := by
  obtain ⟨h2, h3, -⟩ := may_and h
  rw [hw_small h1] at h3
  have hm : m < 2 ^ w := by rw [← h3]; exact Nat.mod_lt _ (Nat.two_pow_pos w)
  exact ⟨hm, by rw [← h2]; exact Nat.lt_of_le_of_lt Nat.and_le_right hm⟩
theorem bit_and {x y z : Nat} (h : x &&& y = z) (i : Nat) : (x.testBit i && y.testBit i) = z.testBit i := by rw [← h, Nat.testBit_and]
theorem meet_some {a m b n : Nat} (g1 : a &&& m = a) (g2 : b &&& n = b) (h : a &&& n = b &&& m) : agrB a m (a ||| b) = true ∧ agrB b n (a ||| b) = true := by
  have h' : ∀ i, (a.testBit i && n.testBit i) = (b.testBit i && m.testBit i) := fun i => by rw [← Nat.testBit_and, h, Nat.testBit_and]
  constructor
  · unfold agrB
    rw [decide_eq_true_eq]
    apply Nat.eq_of_testBit_eq
    intro i
    have e1 := bit_and g1 i
    have e2 := bit_and g2 i
    have e3 := h' i
    rw [Nat.testBit_and, Nat.testBit_or]
    revert e1 e2 e3
    cases a.testBit i <;> cases b.testBit i <;> cases m.testBit i <;> cases n.testBit i <;> simp
  · unfold agrB
    rw [decide_eq_true_eq]
    apply Nat.eq_of_testBit_eq
    intro i
    have e1 := bit_and g1 i
    have e2 := bit_and g2 i
    have e3 := h' i
    rw [Nat.testBit_and, Nat.testBit_or]
    revert e1 e2 e3
    cases a.testBit i <;> cases b.testBit i <;> cases m.testBit i <;> cases n.testBit i <;> simp
/-- The one's bits, and all that the other one asks beside. -/
theorem all_within {a m b n : Nat} (g1 : a &&& m = a) (e1 : agrB b n a = true) (e2 : agrB a m (a ||| (n ^^^ (n &&& m))) = true → agrB b n (a ||| (n ^^^ (n &&& m))) = true) : a &&& n = b ∧ m &&& n = n := by
  unfold agrB at e1 e2
  rw [decide_eq_true_eq] at e1
  rw [decide_eq_true_eq, decide_eq_true_eq] at e2
  refine ⟨e1, ?_⟩
  have e3 := e2 (by
    apply Nat.eq_of_testBit_eq
    intro i
    have f1 := bit_and g1 i
    rw [Nat.testBit_and, Nat.testBit_or, Nat.testBit_xor, Nat.testBit_and]
    revert f1
    cases a.testBit i <;> cases m.testBit i <;> cases n.testBit i <;> simp)
  apply Nat.eq_of_testBit_eq
  intro i
  have f1 := bit_and g1 i
  have f2 := bit_and e1 i
  have f3 := bit_and e3 i
  rw [Nat.testBit_or, Nat.testBit_xor, Nat.testBit_and] at f3
  rw [Nat.testBit_and]
  revert f1 f2 f3
  cases a.testBit i <;> cases b.testBit i <;> cases m.testBit i <;> cases n.testBit i <;> simp
theorem within_all {a m b n w : Nat} (hw10 : w ≤ 10) (h0 : mayB a m (w : Int) = true) (h1 : mayB b n (w : Int) = true) : withinB a m b n (w : Int) = allIn a m b n (2 ^ w) := by
  obtain ⟨l1, l2⟩ := may_lt hw10 h0
  obtain ⟨l3, l4⟩ := may_lt hw10 h1
  obtain ⟨g1, -⟩ := may_and h0
  rw [Bool.eq_iff_iff]
  constructor
  · intro h
    unfold allIn
    rw [List.all_eq_true]
    intro k _
    cases hk : agrB a m k with
    | false => rfl
    | true => rw [within_agr h hk]; rfl
  · intro h
    unfold allIn at h
    rw [List.all_eq_true] at h
    have key : ∀ k, k < 2 ^ w → agrB a m k = true → agrB b n k = true := fun k hk hg => by
      have := h k (List.mem_range.2 hk)
      rw [hg] at this
      simpa using this
    obtain ⟨e1, e2⟩ := all_within g1 (key a l2 (by unfold agrB; rw [decide_eq_true_eq]; exact g1)) (key _ (Nat.or_lt_two_pow l2 (Nat.xor_lt_two_pow l3 (Nat.lt_of_le_of_lt Nat.and_le_left l3))))
    exact within_mk h0 h1 e1 e2
theorem meet_any {a m b n w : Nat} (hw10 : w ≤ 10) (h0 : mayB a m (w : Int) = true) (h1 : mayB b n (w : Int) = true) : meetB a m b n (w : Int) = anyIn a m b n (2 ^ w) := by
  obtain ⟨l1, l2⟩ := may_lt hw10 h0
  obtain ⟨l3, l4⟩ := may_lt hw10 h1
  rw [Bool.eq_iff_iff]
  unfold anyIn
  rw [List.any_eq_true]
  constructor
  · intro h
    have he : a &&& n = b &&& m := by
      unfold meetB at h
      simp only [Bool.and_eq_true, decide_eq_true_eq] at h
      exact h.2.2.1
    obtain ⟨e1, e2⟩ := meet_some (may_and h0).1 (may_and h1).1 he
    exact ⟨a ||| b, List.mem_range.2 (Nat.or_lt_two_pow l2 l4), by rw [e1, e2]; rfl⟩
  · rintro ⟨k, _, hk⟩
    rw [Bool.and_eq_true] at hk
    exact agr_meet h0 h1 hk.1 hk.2
end Go.Proofs.Ytjfkkikbcmglnaa
