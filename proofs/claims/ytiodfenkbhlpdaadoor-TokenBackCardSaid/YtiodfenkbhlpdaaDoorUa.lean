/-
  WHAT IS PROVED HERE: plain laws for the document's Parse of layer 1: sums made again and again, and whether one of them was too great; nothing of any program.
-/
import Derived.Test.YtiodfenkbhlpdaaDoorPlain3
namespace Go.Proofs.YtiodfenkbhlpdaaDoor
open Go.RowKit
/-- The document's value of a byte as a digit: 99 where it is none. -/
def rdig (c : Nat) (b : Nat) : Int := if digV (c : Int) b < b then digV (c : Int) b else 99
theorem sum_lt (a n : Nat) (ha : a < B128) (hn : n < B128) : (a + n) % 2 ^ 128 < a ↔ B128 ≤ a + n := by
  unfold B128 at *
  omega
/-- What is there behind j sums, and whether one of them was too great. -/
theorem sums_step (d n j : Nat) : ((d + j * n) % 2 ^ 128 + n) % 2 ^ 128 = (d + (j + 1) * n) % 2 ^ 128 := by
  rw [Nat.mod_add_mod, Nat.add_mul, Nat.one_mul, Nat.add_assoc]
theorem sums_over (o : Bool) (d n j : Nat) (hn : n < B128) :
    ((o || decide (B128 ≤ d + j * n)) || decide (((d + j * n) % 2 ^ 128 + n) % 2 ^ 128 < (d + j * n) % 2 ^ 128)) = (o || decide (B128 ≤ d + (j + 1) * n)) := by
  have e : d + (j + 1) * n = (d + j * n) + n := by rw [Nat.add_mul, Nat.one_mul, Nat.add_assoc]
  rw [e]
  generalize d + j * n = t
  cases o with
  | true => simp
  | false =>
    simp only [Bool.false_or]
    by_cases h : B128 ≤ t
    · have h2 : B128 ≤ t + n := by omega
      simp [h, h2]
    · have h3 : t % 2 ^ 128 = t := Nat.mod_eq_of_lt (by unfold B128 at h; omega)
      rw [h3]
      have := sum_lt t n (by omega) hn
      by_cases h4 : B128 ≤ t + n
      · simp [h, h4, this.2 h4]
      · have h5 : ¬ (t + n) % 2 ^ 128 < t := fun hh => h4 (this.1 hh)
        simp only [h, h4, h5, decide_false, Bool.or_self]
theorem step_over (v N d b : Nat) (hb : 1 ≤ b) (h : ¬ 2 ^ 128 ≤ v → N = v) : (ovB v || decide (B128 ≤ d + b * N)) = ovB (v * b + d) := by
  by_cases hv : 2 ^ 128 ≤ v
  · have := val_over b v d hb hv
    rw [ovB_true hv, ovB_true this]; rfl
  · rw [ovB_false hv, h hv, Bool.false_or, Nat.mul_comm b v, Nat.add_comm d]
    rfl
theorem step_val (v N d b : Nat) (hb : 1 ≤ b) (h : ¬ 2 ^ 128 ≤ v → N = v) (ho : ¬ 2 ^ 128 ≤ v * b + d) : (d + b * N) % 2 ^ 128 = v * b + d := by
  have hv : ¬ 2 ^ 128 ≤ v := fun hv => ho (val_over b v d hb hv)
  rw [h hv, Nat.mul_comm b v, Nat.add_comm d]
  exact Nat.mod_eq_of_lt (by omega)
end Go.Proofs.YtiodfenkbhlpdaaDoor
