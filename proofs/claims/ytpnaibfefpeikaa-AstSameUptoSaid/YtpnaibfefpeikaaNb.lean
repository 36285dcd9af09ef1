/-
  WHAT IS PROVED HERE: what the calls of package num hand back (shifts, masks, cuts, sums), for all numbers of 128 bits and all widths, in whatever world; a call makes memory of its own and nothing else. No condition but that the halves are of 64 bits.
-/
import Derived.Test.YtpnaibfefpeikaaRows
import Derived.Test.YtpnaibfefpeikaaKit
import Derived.Test.YtpnaibfefpeikaaPlain
import Derived.Test.YtpnaibfefpeikaaNa
import Derived.WalkKit
import Derived.Shelf.Spec.BitsCarry
import Derived.WalkSpells
import Derived.WalkLawsBesides
namespace Go.Proofs.Ytpnaibfefpeikaa
open Go.RowKit
set_option maxHeartbeats 400000 in
theorem num_shr (n : Nat) (k : Int) (hn : n < B128) : Pure Try.prog 96 #[nv n, .int .i64 k] (nv (n / 2 ^ hw k)) := by
  intro w
  have h0 : 0 ≤ heldZ k 128 := by unfold heldZ; omega
  have h1 : heldZ k 128 ≤ 128 := by unfold heldZ; omega
  go_enter Try.func96, Try.ntmps96
  go_wp2_with fail
  obtain ⟨W, hW, hB, hs, ca, cr, fa, fr⟩ := box2 w _ _ 33 33
  rw [← hW]
  have ca0 := ca 0 (some (.int .u64 (hi n))) rfl
  have ca1 := ca 1 (some (.int .u64 (lo n))) rfl
  have cr0 := cr 0 (some (.int .u64 0)) rfl
  have cr1 := cr 1 (some (.int .u64 0)) rfl
  clear hW fa ca cr
  refine (held_any _ _ W).mono ?_
  rintro e w' ⟨rfl, y, rfl⟩
  go_wp2
  · have hk : 64 ≤ heldZ k 128 := by assumption
    exact bodyPost_ret (v := .agg #[.int .u64 0, .int .u64 (hi n / 2 ^ (heldZ k 128 - 64).toNat)]) (by simp [results, Try.results96, go_sem, cr0, cr1]) rfl ⟨congrArg Ending.returned (shr_nv1 n _ hk hn), own_end hB (by omega) _ _⟩
  · have hk : heldZ k 128 < 64 := by assumption
    refine wp_region_own_tail 15 (by kernel_rfl) (by kernel_rfl) ?_
    simp only [List.take_succ_cons, List.take_zero, List.drop_succ_cons, List.drop_zero]
    repeat (go_big_quiet_step (fail))
    refine wpQuiet_nil ?_
    rintro _ ⟨y, rfl⟩
    go_wp2
    exact bodyPost_ret (v := .agg #[.int .u64 (hi n / 2 ^ (heldZ k 128).toNat), .int .u64 (bits .or .u64 (lo n / 2 ^ (heldZ k 128).toNat) (IntKind.u64.wrap (hi n * 2 ^ (64 - heldZ k 128).toNat)))]) (by simp [results, Try.results96, go_sem, cr0, cr1]) rfl ⟨congrArg Ending.returned (shr_nv2 n _ h0 hk), own_end hB (by omega) _ _⟩
theorem ones_hi : hi (B128 - 1) = 18446744073709551615 := by decide +kernel
theorem ones_lo : lo (B128 - 1) = 18446744073709551615 := by decide +kernel
theorem ones_nv : Value.agg #[.int .u64 18446744073709551615, .int .u64 18446744073709551615] = nv (B128 - 1) := by
  unfold nv; rw [ones_hi, ones_lo]
theorem shr_ones (k : Int) : Pure Try.prog 96 #[.agg #[.int .u64 18446744073709551615, .int .u64 18446744073709551615], .int .i64 (128 - heldZ k 128)] (nv (2 ^ hw k - 1)) := by
  rw [ones_nv, ← ones_shr k _ rfl]
  exact num_shr (B128 - 1) (128 - heldZ k 128) (by decide)
set_option maxHeartbeats 400000 in
theorem num_mask (k : Int) : Pure Try.prog 93 #[.int .i64 k] (nv (2 ^ hw k - 1)) := by
  intro w
  have h0 : 0 ≤ heldZ k 128 := by unfold heldZ; omega
  have h1 : heldZ k 128 ≤ 128 := by unfold heldZ; omega
  go_enter Try.func93, Try.ntmps93
  go_wp2
  obtain ⟨W, hW, hB, hs, cr, co, fr, fo⟩ := box2 w _ _ 33 33
  rw [← hW]
  have cr0 := cr 0 (some (.int .u64 0)) rfl
  have cr1 := cr 1 (some (.int .u64 0)) rfl
  have co0 := co 0 (some (.int .u64 18446744073709551615)) rfl
  have co1 := co 1 (some (.int .u64 18446744073709551615)) rfl
  clear hW fo cr co
  refine wp_region_own_tail0 5 (by kernel_rfl) (by kernel_rfl) ?_
  simp only [List.take_succ_cons, List.take_zero, List.drop_succ_cons, List.drop_zero]
  repeat (go_big_quiet_step (first | (go_at_call 97; exact (held_any _ _).at _ _) | (go_at_call 96; exact (shr_ones _).at _ _)))
  refine wpQuiet_nil ?_
  rintro _ ⟨y, rfl⟩
  go_wp2
  exact bodyPost_ret (v := .agg #[.int .u64 (hi (2 ^ hw k - 1)), .int .u64 (lo (2 ^ hw k - 1))]) (by simp [results, Try.results93, go_sem, cr0, cr1]) rfl ⟨rfl, own_end hB (by omega) _ _⟩
set_option maxHeartbeats 400000 in
theorem num_cut (n : Nat) (k : Int) (hn : n < B128) : Pure Try.prog 90 #[nv n, .int .i64 k] (nv (n % 2 ^ hw k)) := by
  intro w
  have S := Lib.hid ((num_and n (2 ^ hw k - 1) hn (mask_lt k)).eqv (congrArg nv (and_mask n k)))
  clear hn
  go_enter Try.func90, Try.ntmps90
  go_wp2
  obtain ⟨W, hW, hB, hs, ca, cr, fa, fr⟩ := box2 w _ _ 33 33
  rw [← hW]
  have ca0 := ca 0 (some (.int .u64 (hi n))) rfl
  have ca1 := ca 1 (some (.int .u64 (lo n))) rfl
  have cr0 := cr 0 (some (.int .u64 0)) rfl
  have cr1 := cr 1 (some (.int .u64 0)) rfl
  clear hW fa ca cr
  refine wp_region_own_tail0 4 (by kernel_rfl) (by kernel_rfl) ?_
  simp only [List.take_succ_cons, List.take_zero, List.drop_succ_cons, List.drop_zero]
  repeat (go_big_quiet_step (first | (go_at_call 93; exact (num_mask _).at _ _) | (go_at_call 92; exact S.out.at _ _)))
  refine wpQuiet_nil ?_
  rintro _ ⟨y, rfl⟩
  go_wp2
  exact bodyPost_ret (v := .agg #[.int .u64 (hi (n % 2 ^ hw k)), .int .u64 (lo (n % 2 ^ hw k))]) (by simp [results, Try.results90, go_sem, cr0, cr1]) rfl ⟨rfl, own_end hB (by omega) _ _⟩
set_option maxHeartbeats 400000 in
theorem num_of (n : Nat) (hn : n < 18446744073709551616) : Pure Try.prog 87 #[.int .u64 (n : Int)] (nv n) := by
  intro w
  have e : Hid (Value.agg #[.int .u64 0, .int .u64 (n : Int)] = nv n) := by
    show _ = _
    unfold nv hi lo
    rw [Nat.div_eq_of_lt hn, Nat.mod_eq_of_lt hn]
    rfl
  clear hn
  go_enter Try.func87, Try.ntmps87
  go_wp2
  refine bodyPost_ret (v := .agg #[.int .u64 0, .int .u64 (n : Int)]) (by simp [results, Try.results87, go_sem]) rfl ⟨congrArg Ending.returned e.out, ?_⟩
  exact plus_of_below ((Below.refl _ _).alloc (Nat.le_refl _) _)
set_option maxHeartbeats 400000 in
theorem num_cmp (a b : Nat) : Pure Try.prog 86 #[nv a, nv b] (.int .i64 (cmpN a b)) := by
  intro w
  have E0 := Lib.hid (fun h => show cmpN a b = 0 from if_pos (h : a = b))
  have E1 := Lib.hid (fun (h : a < b) => show cmpN a b = -1 from (if_neg (by omega)).trans (if_pos h))
  have E2 := Lib.hid (fun (h : ¬ a = b ∧ ¬ a < b) => show cmpN a b = 1 from (if_neg h.1).trans (if_neg h.2))
  have C0 := Lib.hid (cmp_eq a b)
  have C1 := Lib.hid (cmp_hi a b)
  have C2 := Lib.hid (cmp_lo a b)
  have C3 := Lib.hid (cmp_hi' a b)
  have C4 := Lib.hid (cmp_lo' a b)
  go_enter Try.func86, Try.ntmps86
  go_wp2
  all_goals
    go_ret
    refine ⟨?_, plus_of_below (((Below.refl _ _).alloc (Nat.le_refl _) _).alloc (by simp) _)⟩
    refine (congrArg (fun z : Int => Ending.returned (Value.int .i64 z)) (?_ : cmpN a b = _)).symm
    first
      | exact E0.out (C0.out (by assumption) (by assumption))
      | exact E1.out (C1.out (by assumption))
      | exact E1.out (C2.out (by assumption) (by assumption))
      | exact E2.out (C3.out (by assumption) (by assumption))
      | exact E2.out (C4.out (by assumption) (by assumption) (by assumption))
theorem nv_beq (a b : Nat) : (decide (hi a = hi b) && decide (lo a = lo b)) = decide (a = b) := by
  rw [Bool.eq_iff_iff]; simp only [Bool.and_eq_true, decide_eq_true_eq]
  exact ⟨fun h => cmp_eq a b h.1 h.2, fun h => by subst h; exact ⟨rfl, rfl⟩⟩
/-- Two numbers are held against each other. -/
theorem eql_nv (a b : Nat) (w : World) : (binOp .eql 33 (nv a) (nv b)).run Try.prog w = .ok (.bool (decide (a = b))) w := by
  rw [← nv_beq]
  go_simp
  split <;> (try split) <;> simp_all
theorem neq_nv (a b : Nat) (w : World) : (binOp .neq 33 (nv a) (nv b)).run Try.prog w = .ok (.bool (!decide (a = b))) w := by
  rw [← nv_beq]
  go_simp
  split <;> (try split) <;> simp_all
set_option maxHeartbeats 400000 in
theorem num_fits (n : Nat) (k : Int) (hn : n < B128) : Pure Try.prog 83 #[nv n, .int .i64 k] (.bool (decide (n % 2 ^ hw k = n))) := by
  intro w
  have S := Lib.hid (num_cut n k hn)
  have eqN := eql_nv
  clear hn
  go_enter Try.func83, Try.ntmps83
  go_wp2
  obtain ⟨W, hW, hB, hs, ca, fa⟩ := box1 w _ 33
  rw [← hW]
  have ca0 := ca 0 (some (.int .u64 (hi n))) rfl
  have ca1 := ca 1 (some (.int .u64 (lo n))) rfl
  clear hW fa ca
  refine wp_region_own0 (by kernel_rfl) (by kernel_rfl) ?_
  repeat (go_big_quiet_step (exact S.out.at _ _))
  refine wpQuiet_nil ?_
  rintro _ ⟨y, rfl⟩
  go_wp2
  go_ret
  exact ⟨rfl, plus_of_below (hB.trans ((below_plus W y).mono hB.size))⟩
def subB (a b : Nat) : Nat := if a / 2 ^ 64 < b / 2 ^ 64 + subC a b then 1 else 0
def catN (a b : Nat) (k : Int) : Nat := a * 2 ^ hw k % 2 ^ 128 ||| b % 2 ^ hw k
theorem catN_eq (a b : Nat) (k : Int) : a * 2 ^ hw k % 2 ^ 128 % 2 ^ hw 128 ||| b % 2 ^ hw k = catN a b k := by
  unfold catN
  rw [show hw 128 = 128 from rfl, Nat.mod_mod]
/-- The bits u down to v. -/
def sliceN (n : Nat) (u v : Int) : Nat := if v < 0 ∨ u < v then 0 else n / 2 ^ hw v % 2 ^ hw (min (u - v) 128 + 1)
theorem sliceN_neg (n : Nat) (u v : Int) (h : v < 0) : Value.agg #[.int .u64 0, .int .u64 0] = nv (sliceN n u v) := by
  unfold sliceN; rw [if_pos (Or.inl h)]; rfl
theorem sliceN_less (n : Nat) (u v : Int) (h : u < v) : Value.agg #[.int .u64 0, .int .u64 0] = nv (sliceN n u v) := by
  unfold sliceN; rw [if_pos (Or.inr h)]; rfl
theorem div_lt128 (n m : Nat) (hn : n < B128) : n / m < B128 := Nat.lt_of_le_of_lt (Nat.div_le_self _ _) hn
/-- Is the bit k 1? -/
def bitN (n : Nat) (k : Int) : Bool := decide (0 ≤ k) && ((n : Int) / 2 ^ hw k % 2 == 1)
theorem bitN_neg (n : Nat) (k : Int) (h : k < 0) : bitN n k = false := by unfold bitN; rw [decide_eq_false (by omega)]; rfl
theorem bitN_pos (n : Nat) (k : Int) (h : 0 ≤ k) : bitN n k = ((n : Int) / 2 ^ hw k % 2 == 1) := by unfold bitN; rw [decide_eq_true h]; rfl
theorem field_lo (n : Nat) (w : World) : (Instr.field 33 (.agg #[.int .u64 (hi n), .int .u64 (lo n)]) 1).run Try.prog w = .ok (.int .u64 (lo n)) w := by kernel_rfl
end Go.Proofs.Ytpnaibfefpeikaa
