/-
  WHAT IS PROVED HERE: a part of the proof of the claim's theorem: PN; Plain2.
-/
import Derived.WalkKit
import Derived.Lib.Hide
import Derived.Laws.BitsAllLaws
import Derived.Test.YtkffjjlmoojffaaGreatDoorRows
import Derived.Test.YtkffjjlmoojffaaGreatDoorB1
import Derived.WalkSpells
import Derived.WalkLawsBesides
import Derived.Shelf.Spec.BitsCarry
set_option linter.all false
namespace Go.Proofs.YtkffjjlmoojffaaGreatDoor
open Go.RowKit
def B128 : Nat := 340282366920938463463374607431768211456
def hi (n : Nat) : Int := ((n / 18446744073709551616 : Nat) : Int)
def lo (n : Nat) : Int := ((n % 18446744073709551616 : Nat) : Int)
abbrev nv (n : Nat) : Value := .agg #[.int .u64 (hi n), .int .u64 (lo n)]
def heldZ (n m : Int) : Int := min (max n 0) m
def hw (k : Int) : Nat := (heldZ k 128).toNat
theorem heldZ_eq (n m : Int) : heldZ n m = if m < (if n < 0 then 0 else n) then m else (if n < 0 then 0 else n) := by
  unfold heldZ; simp only [Int.min_def, Int.max_def]; repeat' split
  all_goals omega
theorem div_and (a b : Nat) : (a &&& b) / 18446744073709551616 = (a / 18446744073709551616) &&& (b / 18446744073709551616) := Nat.and_div_two_pow (n := 64)
theorem mod_and (a b : Nat) : (a &&& b) % 18446744073709551616 = (a % 18446744073709551616) &&& (b % 18446744073709551616) := Nat.and_mod_two_pow (n := 64)
theorem and_nv (a b : Nat) (ha : a < B128) (hb : b < B128) : Value.agg #[.int .u64 (bits .and .u64 (hi a) (hi b)), .int .u64 (bits .and .u64 (lo a) (lo b))] = nv (a &&& b) := by
  unfold B128 at *
  unfold nv hi lo
  rw [u64_and_nat _ _ (by omega) (by omega), u64_and_nat _ _ (by omega) (by omega), div_and, mod_and]
theorem two64 : (18446744073709551616 : Nat) = 2 ^ 64 := by decide
theorem b128 : B128 = 2 ^ 128 := by decide
theorem hw_le (k : Int) : hw k ≤ 128 := by unfold hw heldZ; omega
theorem toNat_pow (m : Nat) : ((2 : Int) ^ m) = ((2 ^ m : Nat) : Int) := by simp
theorem shr_hi_eq (n m : Nat) (hn : n < B128) : n / 2 ^ (m + 64) / 2 ^ 64 = 0 ∧ n / 2 ^ (m + 64) % 2 ^ 64 = n / 2 ^ 64 / 2 ^ m := by
  have h : n / 2 ^ (m + 64) < 2 ^ 64 := by
    rw [Nat.div_lt_iff_lt_mul (Nat.two_pow_pos _), ← Nat.pow_add]
    refine Nat.lt_of_lt_of_le hn ?_
    rw [b128]
    exact Nat.pow_le_pow_right (by decide) (by omega)
  rw [Nat.div_eq_of_lt h, Nat.mod_eq_of_lt h, Nat.div_div_eq_div_mul, ← Nat.pow_add, Nat.add_comm]
  exact ⟨rfl, rfl⟩
theorem shr_lo_eq (n k : Nat) (hk : k < 64) : n / 2 ^ k % 2 ^ 64 = (n % 2 ^ 64) / 2 ^ k ||| (n / 2 ^ 64 * 2 ^ (64 - k)) % 2 ^ 64 := by
  apply Nat.eq_of_testBit_eq
  intro i
  simp only [Nat.testBit_mod_two_pow, Nat.testBit_or, Nat.testBit_div_two_pow, Nat.testBit_mul_two_pow]
  by_cases h1 : i < 64
  · by_cases h2 : 64 - k ≤ i
    · have e : i - (64 - k) + 64 = i + k := by omega
      have h3 : ¬ (i + k < 64) := by omega
      simp [h1, h2, h3, e]
    · have h3 : i + k < 64 := by omega
      simp [h1, h2, h3]
  · have h3 : ¬ (i + k < 64) := by omega
    simp [h1, h3]
theorem div_cast (a m : Nat) : ((a : Nat) : Int) / 2 ^ m = ((a / 2 ^ m : Nat) : Int) := by rw [toNat_pow]; rfl
theorem wrap_mul (a m : Nat) : IntKind.u64.wrap (((a : Nat) : Int) * 2 ^ m) = ((a * 2 ^ m % 2 ^ 64 : Nat) : Int) := by
  rw [IntKind.wrap_u64, toNat_pow, ← Int.natCast_mul]; rfl
theorem shr_nv1 (n : Nat) (j : Int) (h : 64 ≤ j) (hn : n < B128) : Value.agg #[.int .u64 0, .int .u64 (hi n / 2 ^ (j - 64).toNat)] = nv (n / 2 ^ j.toNat) := by
  obtain ⟨m, rfl⟩ : ∃ m : Nat, j = ((m + 64 : Nat) : Int) := ⟨(j - 64).toNat, by omega⟩
  obtain ⟨h1, h2⟩ := shr_hi_eq n m hn
  have e : (((m + 64 : Nat) : Int) - 64).toNat = m := by omega
  unfold nv hi lo
  rw [e, Int.toNat_natCast, two64, h1, h2, div_cast]
  rfl
theorem shr_nv2 (n : Nat) (j : Int) (h0 : 0 ≤ j) (h : j < 64) : Value.agg #[.int .u64 (hi n / 2 ^ j.toNat), .int .u64 (bits .or .u64 (lo n / 2 ^ j.toNat) (IntKind.u64.wrap (hi n * 2 ^ (64 - j).toNat)))] = nv (n / 2 ^ j.toNat) := by
  obtain ⟨m, rfl⟩ : ∃ m : Nat, j = (m : Int) := ⟨j.toNat, by omega⟩
  have e : ((64 : Int) - (m : Int)).toNat = 64 - m := by omega
  have hl : n % 2 ^ 64 < 2 ^ 64 := Nat.mod_lt _ (Nat.two_pow_pos _)
  have hl2 : n % 2 ^ 64 / 2 ^ m < 2 ^ 64 := Nat.lt_of_le_of_lt (Nat.div_le_self _ _) hl
  unfold nv hi lo
  rw [e, Int.toNat_natCast, two64, div_cast, div_cast, wrap_mul, u64_or_nat _ _ (by rw [two64]; exact hl2) (by rw [two64]; exact Nat.mod_lt _ (Nat.two_pow_pos _)), shr_lo_eq n m (by omega),
    Nat.div_div_eq_div_mul, Nat.div_div_eq_div_mul, Nat.mul_comm (2 ^ 64)]
theorem mod_128_lt (n : Nat) : n % 2 ^ 128 < B128 := by rw [b128]; exact Nat.mod_lt _ (Nat.two_pow_pos _)
theorem mask_lt (k : Int) : 2 ^ hw k - 1 < B128 := by
  have : 2 ^ hw k ≤ 2 ^ 128 := Nat.pow_le_pow_right (by decide) (hw_le k)
  rw [b128]; have := Nat.two_pow_pos (hw k); omega
theorem ones_shr (k : Int) (j : Int) (hj : j = 128 - heldZ k 128) : (B128 - 1) / 2 ^ hw j = 2 ^ hw k - 1 := by
  have h1 : hw j = 128 - hw k := by subst hj; unfold hw heldZ; omega
  have h2 := hw_le k
  rw [h1, b128]
  have e : 2 ^ 128 = 2 ^ hw k * 2 ^ (128 - hw k) := by rw [← Nat.pow_add]; congr 1; omega
  have hp := Nat.two_pow_pos (128 - hw k)
  have hq := Nat.two_pow_pos (hw k)
  rw [e]
  apply Nat.div_eq_of_lt_le
  · rw [Nat.sub_mul, Nat.one_mul]; omega
  · rw [Nat.sub_add_cancel hq]; omega
theorem and_mask (n : Nat) (k : Int) : n &&& (2 ^ hw k - 1) = n % 2 ^ hw k := Nat.and_two_pow_sub_one_eq_mod _ _
theorem hi_lo (n : Nat) : n = n / 2 ^ 64 * 2 ^ 64 + n % 2 ^ 64 := by omega
theorem hi_cast (n : Nat) : hi n = ((n / 2 ^ 64 : Nat) : Int) := rfl
theorem lo_cast (n : Nat) : lo n = ((n % 2 ^ 64 : Nat) : Int) := rfl
theorem cmp_eq (a b : Nat) (h1 : hi a = hi b) (h2 : lo a = lo b) : a = b := by unfold hi lo at *; omega
def digV (r b : Int) : Int := if 48 ≤ r ∧ r ≤ 57 then r - 48 else if 97 ≤ r ∧ r ≤ 102 then r - 97 + 10 else if 65 ≤ r ∧ r ≤ 70 then r - 65 + 10 else b
theorem digV_eq (r b : Int) : (48 ≤ r → r ≤ 57 → digV r b = r - 48) ∧ (97 ≤ r → r ≤ 102 → digV r b = r - 97 + 10) ∧ (65 ≤ r → r ≤ 70 → digV r b = r - 65 + 10) ∧ (¬ (48 ≤ r ∧ r ≤ 57) → ¬ (97 ≤ r ∧ r ≤ 102) → ¬ (65 ≤ r ∧ r ≤ 70) → digV r b = b) := by
  unfold digV
  refine ⟨fun h1 h2 => ?_, fun h1 h2 => ?_, fun h1 h2 => ?_, fun h1 h2 h3 => ?_⟩
  · rw [if_pos ⟨h1, h2⟩]
  · rw [if_neg (by omega), if_pos ⟨h1, h2⟩]
  · rw [if_neg (by omega), if_neg (by omega), if_pos ⟨h1, h2⟩]
  · rw [if_neg h1, if_neg h2, if_neg h3]
end Go.Proofs.YtkffjjlmoojffaaGreatDoor
namespace Go.Proofs.YtkffjjlmoojffaaGreatDoor
open Go.RowKit
set_option maxHeartbeats 400000 in
theorem held_any (n m : Int) : Pure Tryz.prog 190 #[.int .i64 n, .int .i64 m] (.int .i64 (heldZ n m)) := by
  intro w
  have H : Hid (heldZ n m = if m < (if n < 0 then 0 else n) then m else (if n < 0 then 0 else n)) := heldZ_eq n m
  go_enter Tryz.func190, Tryz.ntmps190
  go_wp2
  all_goals
    go_ret
    refine ⟨?_, _, (plus_self w).symm⟩
    rw [H.out]
    simp_all
    try omega
set_option maxHeartbeats 400000 in
theorem and1 (x y : Int) : Pure Tryz.prog 188 #[.int .u64 x, .int .u64 y] (.int .u64 (bits .and .u64 x y)) := by
  intro w
  go_enter Tryz.func188, Tryz.ntmps188
  go_wp2
  go_ret
  exact ⟨rfl, _, (plus_self w).symm⟩
set_option maxHeartbeats 400000 in
theorem halves_and (a b : Nat) : Pure Tryz.prog 187 #[nv a, nv b, .func (.func 188) #[] #[]] (.agg #[.int .u64 (bits .and .u64 (hi a) (hi b)), .int .u64 (bits .and .u64 (lo a) (lo b))]) := by
  intro w
  go_enter Tryz.func187, Tryz.ntmps187
  go_wp2
  obtain ⟨W, hW, hB, hs, ca, cb, cr, fa, fb, fr⟩ := box3 w _ _ _ 58 58 58
  rw [← hW]
  have ca0 := ca 0 (some (.int .u64 (hi a))) rfl
  have ca1 := ca 1 (some (.int .u64 (lo a))) rfl
  have cb0 := cb 0 (some (.int .u64 (hi b))) rfl
  have cb1 := cb 1 (some (.int .u64 (lo b))) rfl
  have cr0 := cr 0 (some (.int .u64 0)) rfl
  have cr1 := cr 1 (some (.int .u64 0)) rfl
  clear hW fa fb ca cb cr
  refine wp_region_own_tail0 13 (by kernel_rfl) (by kernel_rfl) ?_
  simp only [List.take_succ_cons, List.take_zero, List.drop_succ_cons, List.drop_zero]
  repeat (go_big_quiet_step (exact (and1 _ _).at _ _))
  refine wpQuiet_nil ?_
  rintro _ ⟨y, rfl⟩
  go_wp2
  exact bodyPost_ret (v := .agg #[.int .u64 (bits .and .u64 (hi a) (hi b)), .int .u64 (bits .and .u64 (lo a) (lo b))]) (by simp [results, Tryz.results187, go_sem, cr0, cr1]) rfl ⟨rfl, own_end hB (by omega) _ _⟩
set_option maxHeartbeats 400000 in
theorem num_and (a b : Nat) (ha : a < B128) (hb : b < B128) : Pure Tryz.prog 173 #[nv a, nv b] (nv (a &&& b)) := by
  intro w
  have H := Lib.hid (and_nv a b ha hb)
  clear ha hb
  go_enter Tryz.func173, Tryz.ntmps173
  go_wp2_with fail
  obtain ⟨W, hW, hB, hs, ca, cb, cr, fa, fb, fr⟩ := box3 w _ _ _ 58 58 58
  rw [← hW]
  have ca0 := ca 0 (some (.int .u64 (hi a))) rfl
  have ca1 := ca 1 (some (.int .u64 (lo a))) rfl
  have cb0 := cb 0 (some (.int .u64 (hi b))) rfl
  have cb1 := cb 1 (some (.int .u64 (lo b))) rfl
  have cr0 := cr 0 (some (.int .u64 0)) rfl
  have cr1 := cr 1 (some (.int .u64 0)) rfl
  clear hW fa fb ca cb cr
  refine ((halves_and a b).eqv H.out W).mono ?_
  rintro e w' ⟨rfl, y, rfl⟩
  go_wp2
  exact bodyPost_ret (v := .agg #[.int .u64 (hi (a &&& b)), .int .u64 (lo (a &&& b))]) (by simp [results, Tryz.results173, go_sem, cr0, cr1]) rfl ⟨rfl, own_end hB (by omega) _ _⟩
end Go.Proofs.YtkffjjlmoojffaaGreatDoor
namespace Go.Proofs.YtkffjjlmoojffaaGreatDoor
open Go.RowKit
set_option maxHeartbeats 400000 in
theorem num_shr (n : Nat) (k : Int) (hn : n < B128) : Pure Tryz.prog 189 #[nv n, .int .i64 k] (nv (n / 2 ^ hw k)) := by
  intro w
  have h0 : 0 ≤ heldZ k 128 := by unfold heldZ; omega
  have h1 : heldZ k 128 ≤ 128 := by unfold heldZ; omega
  go_enter Tryz.func189, Tryz.ntmps189
  go_wp2_with fail
  obtain ⟨W, hW, hB, hs, ca, cr, fa, fr⟩ := box2 w _ _ 58 58
  rw [← hW]
  have ca0 := ca 0 (some (.int .u64 (hi n))) rfl
  have ca1 := ca 1 (some (.int .u64 (lo n))) rfl
  have cr0 := cr 0 (some (.int .u64 0)) rfl
  have cr1 := cr 1 (some (.int .u64 0)) rfl
  clear hW fa ca cr
  refine (held_any _ _ W).mono ?_
  rintro e w' ⟨rfl, y, rfl⟩
  go_wp2
  · have hk : 64 ≤ heldZ k 128 := by assumption
    exact bodyPost_ret (v := .agg #[.int .u64 0, .int .u64 (hi n / 2 ^ (heldZ k 128 - 64).toNat)]) (by simp [results, Tryz.results189, go_sem, cr0, cr1]) rfl ⟨congrArg Ending.returned (shr_nv1 n _ hk hn), own_end hB (by omega) _ _⟩
  · have hk : heldZ k 128 < 64 := by assumption
    refine wp_region_own_tail 15 (by kernel_rfl) (by kernel_rfl) ?_
    simp only [List.take_succ_cons, List.take_zero, List.drop_succ_cons, List.drop_zero]
    repeat (go_big_quiet_step (fail))
    refine wpQuiet_nil ?_
    rintro _ ⟨y, rfl⟩
    go_wp2
    exact bodyPost_ret (v := .agg #[.int .u64 (hi n / 2 ^ (heldZ k 128).toNat), .int .u64 (bits .or .u64 (lo n / 2 ^ (heldZ k 128).toNat) (IntKind.u64.wrap (hi n * 2 ^ (64 - heldZ k 128).toNat)))]) (by simp [results, Tryz.results189, go_sem, cr0, cr1]) rfl ⟨congrArg Ending.returned (shr_nv2 n _ h0 hk), own_end hB (by omega) _ _⟩
theorem ones_hi : hi (B128 - 1) = 18446744073709551615 := by decide +kernel
theorem ones_lo : lo (B128 - 1) = 18446744073709551615 := by decide +kernel
theorem ones_nv : Value.agg #[.int .u64 18446744073709551615, .int .u64 18446744073709551615] = nv (B128 - 1) := by
  unfold nv; rw [ones_hi, ones_lo]
theorem shr_ones (k : Int) : Pure Tryz.prog 189 #[.agg #[.int .u64 18446744073709551615, .int .u64 18446744073709551615], .int .i64 (128 - heldZ k 128)] (nv (2 ^ hw k - 1)) := by
  rw [ones_nv, ← ones_shr k _ rfl]
  exact num_shr (B128 - 1) (128 - heldZ k 128) (by decide)
set_option maxHeartbeats 400000 in
theorem num_mask (k : Int) : Pure Tryz.prog 174 #[.int .i64 k] (nv (2 ^ hw k - 1)) := by
  intro w
  have h0 : 0 ≤ heldZ k 128 := by unfold heldZ; omega
  have h1 : heldZ k 128 ≤ 128 := by unfold heldZ; omega
  go_enter Tryz.func174, Tryz.ntmps174
  go_wp2
  obtain ⟨W, hW, hB, hs, cr, co, fr, fo⟩ := box2 w _ _ 58 58
  rw [← hW]
  have cr0 := cr 0 (some (.int .u64 0)) rfl
  have cr1 := cr 1 (some (.int .u64 0)) rfl
  have co0 := co 0 (some (.int .u64 18446744073709551615)) rfl
  have co1 := co 1 (some (.int .u64 18446744073709551615)) rfl
  clear hW fo cr co
  refine wp_region_own_tail0 5 (by kernel_rfl) (by kernel_rfl) ?_
  simp only [List.take_succ_cons, List.take_zero, List.drop_succ_cons, List.drop_zero]
  repeat (go_big_quiet_step (first | (go_at_call 190; exact (held_any _ _).at _ _) | (go_at_call 189; exact (shr_ones _).at _ _)))
  refine wpQuiet_nil ?_
  rintro _ ⟨y, rfl⟩
  go_wp2
  exact bodyPost_ret (v := .agg #[.int .u64 (hi (2 ^ hw k - 1)), .int .u64 (lo (2 ^ hw k - 1))]) (by simp [results, Tryz.results174, go_sem, cr0, cr1]) rfl ⟨rfl, own_end hB (by omega) _ _⟩
set_option maxHeartbeats 400000 in
theorem num_cut (n : Nat) (k : Int) (hn : n < B128) : Pure Tryz.prog 161 #[nv n, .int .i64 k] (nv (n % 2 ^ hw k)) := by
  intro w
  have S := Lib.hid ((num_and n (2 ^ hw k - 1) hn (mask_lt k)).eqv (congrArg nv (and_mask n k)))
  clear hn
  go_enter Tryz.func161, Tryz.ntmps161
  go_wp2
  obtain ⟨W, hW, hB, hs, ca, cr, fa, fr⟩ := box2 w _ _ 58 58
  rw [← hW]
  have ca0 := ca 0 (some (.int .u64 (hi n))) rfl
  have ca1 := ca 1 (some (.int .u64 (lo n))) rfl
  have cr0 := cr 0 (some (.int .u64 0)) rfl
  have cr1 := cr 1 (some (.int .u64 0)) rfl
  clear hW fa ca cr
  refine wp_region_own_tail0 4 (by kernel_rfl) (by kernel_rfl) ?_
  simp only [List.take_succ_cons, List.take_zero, List.drop_succ_cons, List.drop_zero]
  repeat (go_big_quiet_step (first | (go_at_call 174; exact (num_mask _).at _ _) | (go_at_call 173; exact S.out.at _ _)))
  refine wpQuiet_nil ?_
  rintro _ ⟨y, rfl⟩
  go_wp2
  exact bodyPost_ret (v := .agg #[.int .u64 (hi (n % 2 ^ hw k)), .int .u64 (lo (n % 2 ^ hw k))]) (by simp [results, Tryz.results161, go_sem, cr0, cr1]) rfl ⟨rfl, own_end hB (by omega) _ _⟩
theorem nv_beq (a b : Nat) : (decide (hi a = hi b) && decide (lo a = lo b)) = decide (a = b) := by
  rw [Bool.eq_iff_iff]; simp only [Bool.and_eq_true, decide_eq_true_eq]
  exact ⟨fun h => cmp_eq a b h.1 h.2, fun h => by subst h; exact ⟨rfl, rfl⟩⟩
theorem eql_nv (a b : Nat) (w : World) : (binOp .eql 58 (nv a) (nv b)).run Tryz.prog w = .ok (.bool (decide (a = b))) w := by
  rw [← nv_beq]
  go_simp
  split <;> (try split) <;> simp_all
set_option maxHeartbeats 400000 in
theorem num_fits (n : Nat) (k : Int) (hn : n < B128) : Pure Tryz.prog 153 #[nv n, .int .i64 k] (.bool (decide (n % 2 ^ hw k = n))) := by
  intro w
  have S := Lib.hid (num_cut n k hn)
  have eqN := eql_nv
  clear hn
  go_enter Tryz.func153, Tryz.ntmps153
  go_wp2
  obtain ⟨W, hW, hB, hs, ca, fa⟩ := box1 w _ 58
  rw [← hW]
  have ca0 := ca 0 (some (.int .u64 (hi n))) rfl
  have ca1 := ca 1 (some (.int .u64 (lo n))) rfl
  clear hW fa ca
  refine wp_region_own0 (by kernel_rfl) (by kernel_rfl) ?_
  repeat (go_big_quiet_step (exact S.out.at _ _))
  refine wpQuiet_nil ?_
  rintro _ ⟨y, rfl⟩
  go_wp2
  go_ret
  exact ⟨rfl, plus_of_below (hB.trans ((below_plus W y).mono hB.size))⟩
theorem add64_run (x y c : Nat) (hc : c ≤ 1) (w : World) :
    (callFunc 181 #[.int .u64 x, .int .u64 y, .int .u64 c]).run Tryz.prog w =
      .ok (.value (.tuple #[.int .u64 (((x + y + c) % 2 ^ 64 : Nat) : Int), .int .u64 (((x + y + c) / 2 ^ 64 : Nat) : Int)])) w := by
  rw [run_callFunc_extern Tryz.func181 (by kernel_rfl) (by kernel_rfl) (by kernel_rfl) (e := add64Entry) (by kernel_rfl), run_add64 x y c (by omega) (by omega) (by omega) (by omega)]
  simp only [Result.andThen]
  congr 5 <;> omega
end Go.Proofs.YtkffjjlmoojffaaGreatDoor
namespace Go.Proofs.YtkffjjlmoojffaaGreatDoor
open Go.RowKit
def mH (x y : Nat) : Nat := x * y / 18446744073709551616
def mL (x y : Nat) : Nat := x * y % 18446744073709551616
theorem mL_lt (x y : Nat) : mL x y < 2 ^ 64 := Nat.mod_lt _ (by decide)
theorem mH_le (x y : Nat) (hx : x < 2 ^ 64) (hy : y ≤ 16) : mH x y ≤ 15 := by
  unfold mH
  have : x * y ≤ (2 ^ 64 - 1) * 16 := Nat.mul_le_mul (by omega) hy
  omega
def wLo (n b d : Nat) : Nat := (mL (n % 2 ^ 64) b + d + 0) % 2 ^ 64
def wC (n b d : Nat) : Nat := (mL (n % 2 ^ 64) b + d + 0) / 2 ^ 64
def wHi (n b d : Nat) : Nat := (mL (n / 2 ^ 64) b + mH (n % 2 ^ 64) b + wC n b d) % 2 ^ 64
def wD (n b d : Nat) : Nat := (mL (n / 2 ^ 64) b + mH (n % 2 ^ 64) b + wC n b d) / 2 ^ 64
theorem wC_le (n b d : Nat) (hd : d < 16) : wC n b d ≤ 1 := by
  have := mL_lt (n % 2 ^ 64) b
  unfold wC; omega
theorem w_sum (n b d : Nat) : n * b + d = (mH (n / 2 ^ 64) b + wD n b d) * 2 ^ 128 + wHi n b d * 2 ^ 64 + wLo n b d := by
  have e : n * b = n / 2 ^ 64 * b * 2 ^ 64 + n % 2 ^ 64 * b := by
    conv => lhs; rw [hi_lo n]
    rw [Nat.add_mul, Nat.mul_assoc, Nat.mul_comm (2 ^ 64) b, ← Nat.mul_assoc]
  rw [e]
  unfold wD wHi wLo wC mL mH
  generalize n / 2 ^ 64 * b = p
  generalize n % 2 ^ 64 * b = q
  omega
theorem w_lt (n b d : Nat) : wHi n b d < 2 ^ 64 ∧ wLo n b d < 2 ^ 64 := ⟨Nat.mod_lt _ (by decide), Nat.mod_lt _ (by decide)⟩
theorem w_nv (n b d : Nat) : Value.agg #[.int .u64 (wHi n b d : Nat), .int .u64 (wLo n b d : Nat)] = nv ((n * b + d) % 2 ^ 128) := by
  obtain ⟨h1, h2⟩ := w_lt n b d
  have e := w_sum n b d
  have e1 : (n * b + d) % 2 ^ 128 / 2 ^ 64 = wHi n b d := by rw [e]; omega
  have e2 : (n * b + d) % 2 ^ 128 % 2 ^ 64 = wLo n b d := by rw [e]; omega
  unfold nv
  rw [hi_cast, lo_cast, e1, e2]
theorem w_over (n b d : Nat) : decide ((0 : Int) < (mH (n / 2 ^ 64) b : Nat) + (wD n b d : Nat)) = decide (2 ^ 128 ≤ n * b + d) := by
  obtain ⟨h1, h2⟩ := w_lt n b d
  have e := w_sum n b d
  rw [decide_eq_decide, e]
  omega
theorem dig_ret (r b x : Int) (e : digV r b = x) : Ending.returned (.tuple #[.int .u64 x, .bool (decide (x < b))]) = .returned (.tuple #[.int .u64 (digV r b), .bool (decide (digV r b < b))]) := by rw [e]
theorem dig_ret' (r b : Int) (e : digV r b = b) : Ending.returned (.tuple #[.int .u64 b, .bool false]) = .returned (.tuple #[.int .u64 (digV r b), .bool (decide (digV r b < b))]) := by rw [e]; simp
end Go.Proofs.YtkffjjlmoojffaaGreatDoor
