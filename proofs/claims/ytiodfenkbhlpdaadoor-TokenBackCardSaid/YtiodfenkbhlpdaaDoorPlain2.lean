/-
  WHAT IS PROVED HERE: plain arithmetic of digits, products' halves, a division by 10; nothing of any program.
-/
import Derived.Test.YtiodfenkbhlpdaaDoorPlain
namespace Go.Proofs.YtiodfenkbhlpdaaDoor
open Go.RowKit
theorem div10_end (h l : Nat) (U V R : Int) (hU : U = h * 1152921504606846976 + l / 16) (hV : V = l % 16 * 1152921504606846976) (hR : R = U % 2684354560 * 4294967296 + V / 4294967296) :
    U / 2684354560 * 4294967296 + R / 2684354560 = (((h * 18446744073709551616 + l) / 10 : Nat) : Int) ∧
    IntKind.u64.wrap (IntKind.u64.wrap (IntKind.u64.wrap (R * 4294967296)) - IntKind.u64.wrap (R / 2684354560 * 11529215046068469760)) / 1152921504606846976 = (((h * 18446744073709551616 + l) % 10 : Nat) : Int) := by
  simp only [IntKind.wrap_u64]
  constructor <;> omega
theorem div_or32 (h l : Nat) (hh : h < 10) (hl : l < 18446744073709551616) : bits .or .u64 ((h : Int) * 1152921504606846976) ((l : Int) / 16) = h * 1152921504606846976 + l / 16 := by
  have h1 := u64_or_nat (h * 1152921504606846976) (l / 16) (by omega) (by omega)
  have h2 : h * 1152921504606846976 ||| l / 16 = h * 1152921504606846976 + l / 16 := by
    have := Nat.two_pow_add_eq_or_of_lt (i := 60) (b := l / 16) (by omega) h
    rw [Nat.mul_comm]; exact this.symm
  rw [h2] at h1
  exact h1.trans (by omega)
theorem div_and0 (l : Nat) (V : Int) (hV : V = l % 16 * 1152921504606846976) : bits .and .u64 V 4294967295 = 0 := by
  subst hV
  have h1 := u64_and_nat (l % 16 * 1152921504606846976) 4294967295 (by omega) (by decide)
  have h2 : l % 16 * 1152921504606846976 &&& 4294967295 = 0 := by
    have := Nat.and_two_pow_sub_one_eq_mod (l % 16 * 1152921504606846976) 32
    rw [show (2 : Nat) ^ 32 - 1 = 4294967295 from rfl] at this
    rw [this]; omega
  rw [h2] at h1
  exact (show _ = _ from h1 ▸ (by congr 1))

/-- The upper, the lower half of a product. -/
def mH (x y : Nat) : Nat := x * y / 18446744073709551616
def mL (x y : Nat) : Nat := x * y % 18446744073709551616
theorem mL_lt (x y : Nat) : mL x y < 2 ^ 64 := Nat.mod_lt _ (by decide)
theorem mH_le (x y : Nat) (hx : x < 2 ^ 64) (hy : y ≤ 16) : mH x y ≤ 15 := by
  unfold mH
  have : x * y ≤ (2 ^ 64 - 1) * 16 := Nat.mul_le_mul (by omega) hy
  omega
/-- One digit more: lower half, what is carried, upper half, what is carried. -/
def wLo (n b d : Nat) : Nat := (mL (n % 2 ^ 64) b + d + 0) % 2 ^ 64
def wC (n b d : Nat) : Nat := (mL (n % 2 ^ 64) b + d + 0) / 2 ^ 64
def wHi (n b d : Nat) : Nat := (mL (n / 2 ^ 64) b + mH (n % 2 ^ 64) b + wC n b d) % 2 ^ 64
def wD (n b d : Nat) : Nat := (mL (n / 2 ^ 64) b + mH (n % 2 ^ 64) b + wC n b d) / 2 ^ 64
theorem wC_le (n b d : Nat) (hd : d < 16) : wC n b d ≤ 1 := by
  have := mL_lt (n % 2 ^ 64) b
  unfold wC; omega
theorem w_sum (n b d : Nat) : n * b + d = (mH (n / 2 ^ 64) b + wD n b d) * 2 ^ 128 + wHi n b d * 2 ^ 64 + wLo n b d := by
  have e : n * b = n / 2 ^ 64 * b * 2 ^ 64 + n % 2 ^ 64 * b := by
    conv => lhs; rw [hi_lo n]
    rw [Nat.add_mul, Nat.mul_assoc, Nat.mul_comm (2 ^ 64) b, ← Nat.mul_assoc]
  rw [e]
  unfold wD wHi wLo wC mL mH
  generalize n / 2 ^ 64 * b = p
  generalize n % 2 ^ 64 * b = q
  omega
theorem w_lt (n b d : Nat) : wHi n b d < 2 ^ 64 ∧ wLo n b d < 2 ^ 64 := ⟨Nat.mod_lt _ (by decide), Nat.mod_lt _ (by decide)⟩
theorem w_nv (n b d : Nat) : Value.agg #[.int .u64 (wHi n b d : Nat), .int .u64 (wLo n b d : Nat)] = nv ((n * b + d) % 2 ^ 128) := by
  obtain ⟨h1, h2⟩ := w_lt n b d
  have e := w_sum n b d
  have e1 : (n * b + d) % 2 ^ 128 / 2 ^ 64 = wHi n b d := by rw [e]; omega
  have e2 : (n * b + d) % 2 ^ 128 % 2 ^ 64 = wLo n b d := by rw [e]; omega
  unfold nv
  rw [hi_cast, lo_cast, e1, e2]
theorem w_over (n b d : Nat) : decide ((0 : Int) < (mH (n / 2 ^ 64) b : Nat) + (wD n b d : Nat)) = decide (2 ^ 128 ≤ n * b + d) := by
  obtain ⟨h1, h2⟩ := w_lt n b d
  have e := w_sum n b d
  rw [decide_eq_decide, e]
  omega
theorem dig_ret (r b x : Int) (e : digV r b = x) : Ending.returned (.tuple #[.int .u64 x, .bool (decide (x < b))]) = .returned (.tuple #[.int .u64 (digV r b), .bool (decide (digV r b < b))]) := by rw [e]
theorem dig_ret' (r b : Int) (e : digV r b = b) : Ending.returned (.tuple #[.int .u64 b, .bool false]) = .returned (.tuple #[.int .u64 (digV r b), .bool (decide (digV r b < b))]) := by rw [e]; simp
end Go.Proofs.YtiodfenkbhlpdaaDoor
