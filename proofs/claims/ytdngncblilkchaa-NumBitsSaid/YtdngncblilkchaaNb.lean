/-
  WHAT IS PROVED HERE: what the calls of package num hand back (shifts, masks, cuts, sums), for all numbers of 128 bits and all widths, in whatever world; a call makes memory of its own and nothing else. No condition but that the halves are of 64 bits.
-/
import Derived.Test.YtdngncblilkchaaRows
import Derived.Test.YtdngncblilkchaaKit
import Derived.Test.YtdngncblilkchaaPlain
import Derived.Test.YtdngncblilkchaaNa
import Derived.WalkKit
import Derived.Shelf.Spec.BitsCarry
import Derived.WalkSpells
import Derived.WalkLawsBesides
namespace Go.Proofs.Ytdngncblilkchaa
open Go.RowKit
set_option maxHeartbeats 400000 in
theorem num_shr (n : Nat) (k : Int) (hn : n < B128) : Pure Try.prog 30 #[nv n, .int .i64 k] (nv (n / 2 ^ hw k)) := by
  intro w
  have h0 : 0 ≤ heldZ k 128 := by unfold heldZ; omega
  have h1 : heldZ k 128 ≤ 128 := by unfold heldZ; omega
  go_enter Try.func30, Try.ntmps30
  go_wp2_with fail
  obtain ⟨W, hW, hB, hs, ca, cr, fa, fr⟩ := box2 w _ _ 24 24
  rw [← hW]
  have ca0 := ca 0 (some (.int .u64 (hi n))) rfl
  have ca1 := ca 1 (some (.int .u64 (lo n))) rfl
  have cr0 := cr 0 (some (.int .u64 0)) rfl
  have cr1 := cr 1 (some (.int .u64 0)) rfl
  clear hW fa ca cr
  refine (held_any _ _ W).mono ?_
  rintro e w' ⟨rfl, y, rfl⟩
  go_wp2
  · have hk : 64 ≤ heldZ k 128 := by assumption
    exact bodyPost_ret (v := .agg #[.int .u64 0, .int .u64 (hi n / 2 ^ (heldZ k 128 - 64).toNat)]) (by simp [results, Try.results30, go_sem, cr0, cr1]) rfl ⟨congrArg Ending.returned (shr_nv1 n _ hk hn), own_end hB (by omega) _ _⟩
  · have hk : heldZ k 128 < 64 := by assumption
    refine wp_region_own_tail 15 (by kernel_rfl) (by kernel_rfl) ?_
    simp only [List.take_succ_cons, List.take_zero, List.drop_succ_cons, List.drop_zero]
    repeat (go_big_quiet_step (fail))
    refine wpQuiet_nil ?_
    rintro _ ⟨y, rfl⟩
    go_wp2
    exact bodyPost_ret (v := .agg #[.int .u64 (hi n / 2 ^ (heldZ k 128).toNat), .int .u64 (bits .or .u64 (lo n / 2 ^ (heldZ k 128).toNat) (IntKind.u64.wrap (hi n * 2 ^ (64 - heldZ k 128).toNat)))]) (by simp [results, Try.results30, go_sem, cr0, cr1]) rfl ⟨congrArg Ending.returned (shr_nv2 n _ h0 hk), own_end hB (by omega) _ _⟩
theorem ones_hi : hi (B128 - 1) = 18446744073709551615 := by decide +kernel
theorem ones_lo : lo (B128 - 1) = 18446744073709551615 := by decide +kernel
theorem ones_nv : Value.agg #[.int .u64 18446744073709551615, .int .u64 18446744073709551615] = nv (B128 - 1) := by
  unfold nv; rw [ones_hi, ones_lo]
theorem shr_ones (k : Int) : Pure Try.prog 30 #[.agg #[.int .u64 18446744073709551615, .int .u64 18446744073709551615], .int .i64 (128 - heldZ k 128)] (nv (2 ^ hw k - 1)) := by
  rw [ones_nv, ← ones_shr k _ rfl]
  exact num_shr (B128 - 1) (128 - heldZ k 128) (by decide)
set_option maxHeartbeats 400000 in
theorem num_mask (k : Int) : Pure Try.prog 8 #[.int .i64 k] (nv (2 ^ hw k - 1)) := by
  intro w
  have h0 : 0 ≤ heldZ k 128 := by unfold heldZ; omega
  have h1 : heldZ k 128 ≤ 128 := by unfold heldZ; omega
  go_enter Try.func8, Try.ntmps8
  go_wp2
  obtain ⟨W, hW, hB, hs, cr, co, fr, fo⟩ := box2 w _ _ 24 24
  rw [← hW]
  have cr0 := cr 0 (some (.int .u64 0)) rfl
  have cr1 := cr 1 (some (.int .u64 0)) rfl
  have co0 := co 0 (some (.int .u64 18446744073709551615)) rfl
  have co1 := co 1 (some (.int .u64 18446744073709551615)) rfl
  clear hW fo cr co
  refine wp_region_own_tail0 5 (by kernel_rfl) (by kernel_rfl) ?_
  simp only [List.take_succ_cons, List.take_zero, List.drop_succ_cons, List.drop_zero]
  repeat (go_big_quiet_step (first | (go_at_call 44; exact (held_any _ _).at _ _) | (go_at_call 30; exact (shr_ones _).at _ _)))
  refine wpQuiet_nil ?_
  rintro _ ⟨y, rfl⟩
  go_wp2
  exact bodyPost_ret (v := .agg #[.int .u64 (hi (2 ^ hw k - 1)), .int .u64 (lo (2 ^ hw k - 1))]) (by simp [results, Try.results8, go_sem, cr0, cr1]) rfl ⟨rfl, own_end hB (by omega) _ _⟩
set_option maxHeartbeats 400000 in
theorem num_cut (n : Nat) (k : Int) (hn : n < B128) : Pure Try.prog 10 #[nv n, .int .i64 k] (nv (n % 2 ^ hw k)) := by
  intro w
  have S := Lib.hid ((num_and n (2 ^ hw k - 1) hn (mask_lt k)).eqv (congrArg nv (and_mask n k)))
  clear hn
  go_enter Try.func10, Try.ntmps10
  go_wp2
  obtain ⟨W, hW, hB, hs, ca, cr, fa, fr⟩ := box2 w _ _ 24 24
  rw [← hW]
  have ca0 := ca 0 (some (.int .u64 (hi n))) rfl
  have ca1 := ca 1 (some (.int .u64 (lo n))) rfl
  have cr0 := cr 0 (some (.int .u64 0)) rfl
  have cr1 := cr 1 (some (.int .u64 0)) rfl
  clear hW fa ca cr
  refine wp_region_own_tail0 4 (by kernel_rfl) (by kernel_rfl) ?_
  simp only [List.take_succ_cons, List.take_zero, List.drop_succ_cons, List.drop_zero]
  repeat (go_big_quiet_step (first | (go_at_call 8; exact (num_mask _).at _ _) | (go_at_call 16; exact S.out.at _ _)))
  refine wpQuiet_nil ?_
  rintro _ ⟨y, rfl⟩
  go_wp2
  exact bodyPost_ret (v := .agg #[.int .u64 (hi (n % 2 ^ hw k)), .int .u64 (lo (n % 2 ^ hw k))]) (by simp [results, Try.results10, go_sem, cr0, cr1]) rfl ⟨rfl, own_end hB (by omega) _ _⟩
set_option maxHeartbeats 400000 in
theorem num_not (n : Nat) (k : Int) (hn : n < B128) : Pure Try.prog 22 #[nv n, .int .i64 k] (nv (n % 2 ^ hw k ^^^ (2 ^ hw k - 1))) := by
  intro w
  go_enter Try.func22, Try.ntmps22
  go_wp2_with fail
  obtain ⟨W, hW, hB, hs, ca, cr, fa, fr⟩ := box2 w _ _ 24 24
  rw [← hW]
  have ca0 := ca 0 (some (.int .u64 (hi n))) rfl
  have ca1 := ca 1 (some (.int .u64 (lo n))) rfl
  have cr0 := cr 0 (some (.int .u64 0)) rfl
  have cr1 := cr 1 (some (.int .u64 0)) rfl
  clear hW fa ca cr
  refine (num_cut n k hn W).mono ?_
  rintro e w' ⟨rfl, y, rfl⟩
  go_wp2_with fail
  refine ((num_mask k).at W y).mono ?_
  rintro e w' ⟨rfl, z, rfl⟩
  go_wp2_with fail
  refine ((num_xor _ _ (mod_hw_lt n k) (mask_lt k)).at W z).mono ?_
  rintro e w' ⟨rfl, u, rfl⟩
  go_wp2
  exact bodyPost_ret (v := .agg #[.int .u64 (hi (n % 2 ^ hw k ^^^ (2 ^ hw k - 1))), .int .u64 (lo (n % 2 ^ hw k ^^^ (2 ^ hw k - 1)))]) (by simp [results, Try.results22, go_sem, cr0, cr1]) rfl ⟨rfl, own_end hB (by omega) _ _⟩
set_option maxHeartbeats 400000 in
theorem num_of (n : Nat) (hn : n < 18446744073709551616) : Pure Try.prog 14 #[.int .u64 (n : Int)] (nv n) := by
  intro w
  have e : Hid (Value.agg #[.int .u64 0, .int .u64 (n : Int)] = nv n) := by
    show _ = _
    unfold nv hi lo
    rw [Nat.div_eq_of_lt hn, Nat.mod_eq_of_lt hn]
    rfl
  clear hn
  go_enter Try.func14, Try.ntmps14
  go_wp2
  refine bodyPost_ret (v := .agg #[.int .u64 0, .int .u64 (n : Int)]) (by simp [results, Try.results14, go_sem]) rfl ⟨congrArg Ending.returned e.out, ?_⟩
  exact plus_of_below ((Below.refl _ _).alloc (Nat.le_refl _) _)
set_option maxHeartbeats 400000 in
theorem num_cmp (a b : Nat) : Pure Try.prog 6 #[nv a, nv b] (.int .i64 (cmpN a b)) := by
  intro w
  have E0 := Lib.hid (fun h => show cmpN a b = 0 from if_pos (h : a = b))
  have E1 := Lib.hid (fun (h : a < b) => show cmpN a b = -1 from (if_neg (by omega)).trans (if_pos h))
  have E2 := Lib.hid (fun (h : ¬ a = b ∧ ¬ a < b) => show cmpN a b = 1 from (if_neg h.1).trans (if_neg h.2))
  have C0 := Lib.hid (cmp_eq a b)
  have C1 := Lib.hid (cmp_hi a b)
  have C2 := Lib.hid (cmp_lo a b)
  have C3 := Lib.hid (cmp_hi' a b)
  have C4 := Lib.hid (cmp_lo' a b)
  go_enter Try.func6, Try.ntmps6
  go_wp2
  all_goals
    go_ret
    refine ⟨?_, plus_of_below (((Below.refl _ _).alloc (Nat.le_refl _) _).alloc (by simp) _)⟩
    refine (congrArg (fun z : Int => Ending.returned (Value.int .i64 z)) (?_ : cmpN a b = _)).symm
    first
      | exact E0.out (C0.out (by assumption) (by assumption))
      | exact E1.out (C1.out (by assumption))
      | exact E1.out (C2.out (by assumption) (by assumption))
      | exact E2.out (C3.out (by assumption) (by assumption))
      | exact E2.out (C4.out (by assumption) (by assumption) (by assumption))
theorem nv_beq (a b : Nat) : (decide (hi a = hi b) && decide (lo a = lo b)) = decide (a = b) := by
  rw [Bool.eq_iff_iff]; simp only [Bool.and_eq_true, decide_eq_true_eq]
  exact ⟨fun h => cmp_eq a b h.1 h.2, fun h => by subst h; exact ⟨rfl, rfl⟩⟩
/-- Two numbers are held against each other. -/
theorem eql_nv (a b : Nat) (w : World) : (binOp .eql 24 (nv a) (nv b)).run Try.prog w = .ok (.bool (decide (a = b))) w := by
  rw [← nv_beq]
  go_simp
  split <;> (try split) <;> simp_all
theorem neq_nv (a b : Nat) (w : World) : (binOp .neq 24 (nv a) (nv b)).run Try.prog w = .ok (.bool (!decide (a = b))) w := by
  rw [← nv_beq]
  go_simp
  split <;> (try split) <;> simp_all
set_option maxHeartbeats 400000 in
theorem num_fits (n : Nat) (k : Int) (hn : n < B128) : Pure Try.prog 12 #[nv n, .int .i64 k] (.bool (decide (n % 2 ^ hw k = n))) := by
  intro w
  have S := Lib.hid (num_cut n k hn)
  have eqN := eql_nv
  clear hn
  go_enter Try.func12, Try.ntmps12
  go_wp2
  obtain ⟨W, hW, hB, hs, ca, fa⟩ := box1 w _ 24
  rw [← hW]
  have ca0 := ca 0 (some (.int .u64 (hi n))) rfl
  have ca1 := ca 1 (some (.int .u64 (lo n))) rfl
  clear hW fa ca
  refine wp_region_own0 (by kernel_rfl) (by kernel_rfl) ?_
  repeat (go_big_quiet_step (exact S.out.at _ _))
  refine wpQuiet_nil ?_
  rintro _ ⟨y, rfl⟩
  go_wp2
  go_ret
  exact ⟨rfl, plus_of_below (hB.trans ((below_plus W y).mono hB.size))⟩
theorem add64_run (x y c : Nat) (hc : c ≤ 1) (w : World) :
    (callFunc 50 #[.int .u64 x, .int .u64 y, .int .u64 c]).run Try.prog w =
      .ok (.value (.tuple #[.int .u64 (((x + y + c) % 2 ^ 64 : Nat) : Int), .int .u64 (((x + y + c) / 2 ^ 64 : Nat) : Int)])) w := by
  rw [run_callFunc_extern Try.func50 (by kernel_rfl) (by kernel_rfl) (by kernel_rfl) (e := add64Entry) (by kernel_rfl), run_add64 x y c (by omega) (by omega) (by omega) (by omega)]
  simp only [Result.andThen]
  congr 5 <;> omega
theorem add_lo_run (a b : Nat) (w : World) : (callFunc 50 #[.int .u64 (lo a), .int .u64 (lo b), .int .u64 0]).run Try.prog w = .ok (.value (.tuple #[.int .u64 (addLo a b : Nat), .int .u64 (addC a b : Nat)])) w :=
  by unfold addLo addC; exact add64_run (a % 2 ^ 64) (b % 2 ^ 64) 0 (by decide) w
theorem add_hi_run (a b : Nat) (w : World) : (callFunc 50 #[.int .u64 (hi a), .int .u64 (hi b), .int .u64 (addC a b : Nat)]).run Try.prog w = .ok (.value (.tuple #[.int .u64 (addHi a b : Nat), .int .u64 ((a / 2 ^ 64 + b / 2 ^ 64 + addC a b) / 2 ^ 64 : Nat)])) w :=
  by unfold addHi; exact add64_run (a / 2 ^ 64) (b / 2 ^ 64) (addC a b) (addC_le a b) w
set_option maxHeartbeats 400000 in
theorem num_add (a b : Nat) (k : Int) : Pure Try.prog 24 #[nv a, nv b, .int .i64 k] (nv ((a + b) % 2 ^ 128 % 2 ^ hw k)) := by
  intro w
  have S : Hid (Pure Try.prog 10 #[.agg #[.int .u64 (addHi a b : Nat), .int .u64 (addLo a b : Nat)], .int .i64 k] (nv ((a + b) % 2 ^ 128 % 2 ^ hw k))) := by
    show Pure _ _ _ _
    rw [add_nv]
    exact num_cut _ k (mod_128_lt _)
  have L1 := add_lo_run a b
  have L2 := add_hi_run a b
  go_enter Try.func24, Try.ntmps24
  go_wp2_with fail
  obtain ⟨W, hW, hB, hs, ca, cb, cr, fa, fb, fr⟩ := box3 w _ _ _ 24 24 24
  rw [← hW]
  have ca0 := ca 0 (some (.int .u64 (hi a))) rfl
  have ca1 := ca 1 (some (.int .u64 (lo a))) rfl
  have cb0 := cb 0 (some (.int .u64 (hi b))) rfl
  have cb1 := cb 1 (some (.int .u64 (lo b))) rfl
  have cr0 := cr 0 (some (.int .u64 0)) rfl
  have cr1 := cr 1 (some (.int .u64 0)) rfl
  clear hW fa fb ca cb cr
  refine (S.out W).mono ?_
  rintro e w' ⟨rfl, y, rfl⟩
  go_wp2
  exact bodyPost_ret (v := .agg #[.int .u64 (hi ((a + b) % 2 ^ 128 % 2 ^ hw k)), .int .u64 (lo ((a + b) % 2 ^ 128 % 2 ^ hw k))]) (by simp [results, Try.results24, go_sem, cr0, cr1]) rfl ⟨rfl, own_end hB (by omega) _ _⟩
theorem sub64_run (x y c : Nat) (hc : c ≤ 1) (w : World) :
    (callFunc 51 #[.int .u64 x, .int .u64 y, .int .u64 c]).run Try.prog w =
      .ok (.value (.tuple #[.int .u64 (((x + 2 ^ 64 - y - c) % 2 ^ 64 : Nat) : Int), .int .u64 ((if x < y + c then 1 else 0 : Nat) : Int)])) w := by
  rw [run_callFunc_extern Try.func51 (by kernel_rfl) (by kernel_rfl) (by kernel_rfl) (e := sub64Entry) (by kernel_rfl), run_sub64 x y c hc]
  rfl
def subB (a b : Nat) : Nat := if a / 2 ^ 64 < b / 2 ^ 64 + subC a b then 1 else 0
theorem sub_lo_run (a b : Nat) (w : World) : (callFunc 51 #[.int .u64 (lo a), .int .u64 (lo b), .int .u64 0]).run Try.prog w = .ok (.value (.tuple #[.int .u64 (subLo a b : Nat), .int .u64 (subC a b : Nat)])) w :=
  by unfold subLo subC; exact sub64_run (a % 2 ^ 64) (b % 2 ^ 64) 0 (by decide) w
theorem sub_hi_run (a b : Nat) (w : World) : (callFunc 51 #[.int .u64 (hi a), .int .u64 (hi b), .int .u64 (subC a b : Nat)]).run Try.prog w = .ok (.value (.tuple #[.int .u64 (subHi a b : Nat), .int .u64 (subB a b : Nat)])) w :=
  by unfold subHi subB; exact sub64_run (a / 2 ^ 64) (b / 2 ^ 64) (subC a b) (subC_le a b) w
set_option maxHeartbeats 400000 in
theorem num_sub (a b : Nat) (k : Int) (hb : b < B128) : Pure Try.prog 26 #[nv a, nv b, .int .i64 k] (nv ((a + (B128 - b)) % 2 ^ 128 % 2 ^ hw k)) := by
  intro w
  have S : Hid (Pure Try.prog 10 #[.agg #[.int .u64 (subHi a b : Nat), .int .u64 (subLo a b : Nat)], .int .i64 k] (nv ((a + (B128 - b)) % 2 ^ 128 % 2 ^ hw k))) := by
    show Pure _ _ _ _
    rw [sub_nv a b hb]
    exact num_cut _ k (mod_128_lt _)
  clear hb
  have L1 := sub_lo_run a b
  have L2 := sub_hi_run a b
  go_enter Try.func26, Try.ntmps26
  go_wp2_with fail
  obtain ⟨W, hW, hB, hs, ca, cb, cr, fa, fb, fr⟩ := box3 w _ _ _ 24 24 24
  rw [← hW]
  have ca0 := ca 0 (some (.int .u64 (hi a))) rfl
  have ca1 := ca 1 (some (.int .u64 (lo a))) rfl
  have cb0 := cb 0 (some (.int .u64 (hi b))) rfl
  have cb1 := cb 1 (some (.int .u64 (lo b))) rfl
  have cr0 := cr 0 (some (.int .u64 0)) rfl
  have cr1 := cr 1 (some (.int .u64 0)) rfl
  clear hW fa fb ca cb cr
  refine (S.out W).mono ?_
  rintro e w' ⟨rfl, y, rfl⟩
  go_wp2
  exact bodyPost_ret (v := .agg #[.int .u64 (hi ((a + (B128 - b)) % 2 ^ 128 % 2 ^ hw k)), .int .u64 (lo ((a + (B128 - b)) % 2 ^ 128 % 2 ^ hw k))]) (by simp [results, Try.results26, go_sem, cr0, cr1]) rfl ⟨rfl, own_end hB (by omega) _ _⟩
set_option maxHeartbeats 400000 in
theorem num_shl (n : Nat) (k v : Int) : Pure Try.prog 28 #[nv n, .int .i64 k, .int .i64 v] (nv (n * 2 ^ hw k % 2 ^ 128 % 2 ^ hw v)) := by
  intro w
  have h0 : 0 ≤ heldZ k 128 := by unfold heldZ; omega
  have h1 : heldZ k 128 ≤ 128 := by unfold heldZ; omega
  have S1 : Hid (64 ≤ heldZ k 128 → Pure Try.prog 10 #[.agg #[.int .u64 (IntKind.u64.wrap (lo n * 2 ^ (heldZ k 128 - 64).toNat)), .int .u64 0], .int .i64 v] (nv (n * 2 ^ hw k % 2 ^ 128 % 2 ^ hw v))) := fun h => by
    rw [shl_nv1 n _ h]
    exact num_cut _ v (mod_128_lt _)
  have S2 : Hid (heldZ k 128 < 64 → Pure Try.prog 10 #[.agg #[.int .u64 (bits .or .u64 (IntKind.u64.wrap (hi n * 2 ^ (heldZ k 128).toNat)) (lo n / 2 ^ (64 - heldZ k 128).toNat)), .int .u64 (IntKind.u64.wrap (lo n * 2 ^ (heldZ k 128).toNat))], .int .i64 v] (nv (n * 2 ^ hw k % 2 ^ 128 % 2 ^ hw v))) := fun h => by
    rw [shl_nv2 n _ h0 h]
    exact num_cut _ v (mod_128_lt _)
  go_enter Try.func28, Try.ntmps28
  go_wp2_with fail
  obtain ⟨W, hW, hB, hs, ca, cr, fa, fr⟩ := box2 w _ _ 24 24
  rw [← hW]
  have ca0 := ca 0 (some (.int .u64 (hi n))) rfl
  have ca1 := ca 1 (some (.int .u64 (lo n))) rfl
  have cr0 := cr 0 (some (.int .u64 0)) rfl
  have cr1 := cr 1 (some (.int .u64 0)) rfl
  clear hW fa ca cr
  refine (held_any _ _ W).mono ?_
  rintro e w' ⟨rfl, y, rfl⟩
  go_wp2_with fail
  · have hk : 64 ≤ heldZ k 128 := by assumption
    refine ((S1.out hk).at W y).mono ?_
    rintro e w' ⟨rfl, z, rfl⟩
    go_wp2
    exact bodyPost_ret (v := .agg #[.int .u64 (hi (n * 2 ^ hw k % 2 ^ 128 % 2 ^ hw v)), .int .u64 (lo (n * 2 ^ hw k % 2 ^ 128 % 2 ^ hw v))]) (by simp [results, Try.results28, go_sem, cr0, cr1]) rfl ⟨rfl, own_end hB (by omega) _ _⟩
  · have hk : heldZ k 128 < 64 := by assumption
    have S3 := Lib.hid (S2.out hk)
    refine wp_region_own_tail 17 (by kernel_rfl) (by kernel_rfl) ?_
    simp only [List.take_succ_cons, List.take_zero, List.drop_succ_cons, List.drop_zero]
    repeat (go_big_quiet_step (exact S3.out.at _ _))
    refine wpQuiet_nil ?_
    rintro _ ⟨z, rfl⟩
    go_wp2
    exact bodyPost_ret (v := .agg #[.int .u64 (hi (n * 2 ^ hw k % 2 ^ 128 % 2 ^ hw v)), .int .u64 (lo (n * 2 ^ hw k % 2 ^ 128 % 2 ^ hw v))]) (by simp [results, Try.results28, go_sem, cr0, cr1]) rfl ⟨rfl, own_end hB (by omega) _ _⟩
def catN (a b : Nat) (k : Int) : Nat := a * 2 ^ hw k % 2 ^ 128 ||| b % 2 ^ hw k
theorem catN_eq (a b : Nat) (k : Int) : a * 2 ^ hw k % 2 ^ 128 % 2 ^ hw 128 ||| b % 2 ^ hw k = catN a b k := by
  unfold catN
  rw [show hw 128 = 128 from rfl, Nat.mod_mod]
set_option maxHeartbeats 400000 in
theorem num_cat (a b : Nat) (k : Int) (hb : b < B128) : Pure Try.prog 36 #[nv a, nv b, .int .i64 k] (nv (catN a b k)) := by
  intro w
  have S1 := Lib.hid (num_shl a k 128)
  have S2 := Lib.hid (num_cut b k hb)
  have S3 := Lib.hid ((num_or _ _ (mod_hw_lt (a * 2 ^ hw k % 2 ^ 128) 128) (mod_hw_lt b k)).eqv (congrArg nv (catN_eq a b k)))
  clear hb
  go_enter Try.func36, Try.ntmps36
  go_wp2
  obtain ⟨W, hW, hB, hs, ca, cb, cr, fa, fb, fr⟩ := box3 w _ _ _ 24 24 24
  rw [← hW]
  have ca0 := ca 0 (some (.int .u64 (hi a))) rfl
  have ca1 := ca 1 (some (.int .u64 (lo a))) rfl
  have cb0 := cb 0 (some (.int .u64 (hi b))) rfl
  have cb1 := cb 1 (some (.int .u64 (lo b))) rfl
  have cr0 := cr 0 (some (.int .u64 0)) rfl
  have cr1 := cr 1 (some (.int .u64 0)) rfl
  clear hW fa fb ca cb cr
  refine wp_region_own_tail0 7 (by kernel_rfl) (by kernel_rfl) ?_
  simp only [List.take_succ_cons, List.take_zero, List.drop_succ_cons, List.drop_zero]
  repeat (go_big_quiet_step (first | (go_at_call 28; exact S1.out.at _ _) | (go_at_call 10; exact S2.out.at _ _) | (go_at_call 18; exact S3.out.at _ _)))
  refine wpQuiet_nil ?_
  rintro _ ⟨y, rfl⟩
  go_wp2
  exact bodyPost_ret (v := .agg #[.int .u64 (hi (catN a b k)), .int .u64 (lo (catN a b k))]) (by simp [results, Try.results36, go_sem, cr0, cr1]) rfl ⟨rfl, own_end hB (by omega) _ _⟩
/-- The bits u down to v. -/
def sliceN (n : Nat) (u v : Int) : Nat := if v < 0 ∨ u < v then 0 else n / 2 ^ hw v % 2 ^ hw (min (u - v) 128 + 1)
theorem sliceN_neg (n : Nat) (u v : Int) (h : v < 0) : Value.agg #[.int .u64 0, .int .u64 0] = nv (sliceN n u v) := by
  unfold sliceN; rw [if_pos (Or.inl h)]; rfl
theorem sliceN_less (n : Nat) (u v : Int) (h : u < v) : Value.agg #[.int .u64 0, .int .u64 0] = nv (sliceN n u v) := by
  unfold sliceN; rw [if_pos (Or.inr h)]; rfl
theorem div_lt128 (n m : Nat) (hn : n < B128) : n / m < B128 := Nat.lt_of_le_of_lt (Nat.div_le_self _ _) hn
set_option maxHeartbeats 400000 in
theorem num_slice (n : Nat) (u v : Int) (hn : n < B128) (hu : u ≤ 9223372036854775807) : Pure Try.prog 34 #[nv n, .int .i64 u, .int .i64 v] (nv (sliceN n u v)) := by
  intro w
  by_cases h1 : v < 0
  · have E := Lib.hid (sliceN_neg n u v h1)
    clear hn
    go_enter Try.func34, Try.ntmps34
    go_wp2
    refine bodyPost_ret (v := .agg #[.int .u64 0, .int .u64 0]) (by simp [results, Try.results34, go_sem]) rfl ⟨congrArg Ending.returned E.out, ?_⟩
    exact plus_of_below (((Below.refl _ _).alloc (Nat.le_refl _) _).alloc (by simp) _)
  by_cases h2 : u < v
  · have E := Lib.hid (sliceN_less n u v h2)
    clear hn
    go_enter Try.func34, Try.ntmps34
    go_wp2
    refine bodyPost_ret (v := .agg #[.int .u64 0, .int .u64 0]) (by simp [results, Try.results34, go_sem]) rfl ⟨congrArg Ending.returned E.out, ?_⟩
    exact plus_of_below (((Below.refl _ _).alloc (Nat.le_refl _) _).alloc (by simp) _)
  have g1 : 0 ≤ v := by omega
  have g2 : v ≤ u := by omega
  have S1 := Lib.hid (num_shr n v hn)
  have S2 : Hid (128 ≤ u - v → Pure Try.prog 10 #[nv (n / 2 ^ hw v), .int .i64 129] (nv (sliceN n u v))) := fun h => by
    unfold sliceN; rw [if_neg (by omega), show min (u - v) 128 + 1 = 129 by omega]
    exact num_cut _ _ (div_lt128 _ _ hn)
  have S3 : Hid (u - v ≤ 128 → Pure Try.prog 10 #[nv (n / 2 ^ hw v), .int .i64 (u - v + 1)] (nv (sliceN n u v))) := fun h => by
    unfold sliceN; rw [if_neg (by omega), show min (u - v) 128 = u - v by omega]
    exact num_cut _ _ (div_lt128 _ _ hn)
  clear hn h1 h2
  go_enter Try.func34, Try.ntmps34
  go_wp2_with fail
  obtain ⟨W, hW, hB, hs, ca, cr, fa, fr⟩ := box2 w _ _ 24 24
  rw [← hW]
  have ca0 := ca 0 (some (.int .u64 (hi n))) rfl
  have ca1 := ca 1 (some (.int .u64 (lo n))) rfl
  have cr0 := cr 0 (some (.int .u64 0)) rfl
  have cr1 := cr 1 (some (.int .u64 0)) rfl
  clear hW fa ca cr
  refine (S1.out W).mono ?_
  rintro e w' ⟨rfl, y, rfl⟩
  go_wp2_with fail
  · refine ((S2.out (by omega)).at W y).mono ?_
    rintro e w' ⟨rfl, z, rfl⟩
    go_wp2
    exact bodyPost_ret (v := .agg #[.int .u64 (hi (sliceN n u v)), .int .u64 (lo (sliceN n u v))]) (by simp [results, Try.results34, go_sem, cr0, cr1]) rfl ⟨rfl, own_end hB (by omega) _ _⟩
  · refine ((S3.out (by omega)).at W y).mono ?_
    rintro e w' ⟨rfl, z, rfl⟩
    go_wp2
    exact bodyPost_ret (v := .agg #[.int .u64 (hi (sliceN n u v)), .int .u64 (lo (sliceN n u v))]) (by simp [results, Try.results34, go_sem, cr0, cr1]) rfl ⟨rfl, own_end hB (by omega) _ _⟩
/-- Is the bit k 1? -/
def bitN (n : Nat) (k : Int) : Bool := decide (0 ≤ k) && ((n : Int) / 2 ^ hw k % 2 == 1)
theorem bitN_neg (n : Nat) (k : Int) (h : k < 0) : bitN n k = false := by unfold bitN; rw [decide_eq_false (by omega)]; rfl
theorem bitN_pos (n : Nat) (k : Int) (h : 0 ≤ k) : bitN n k = ((n : Int) / 2 ^ hw k % 2 == 1) := by unfold bitN; rw [decide_eq_true h]; rfl
theorem field_lo (n : Nat) (w : World) : (Instr.field 24 (.agg #[.int .u64 (hi n), .int .u64 (lo n)]) 1).run Try.prog w = .ok (.int .u64 (lo n)) w := by kernel_rfl
set_option maxHeartbeats 400000 in
theorem num_bit (n : Nat) (k : Int) (hn : n < B128) : Pure Try.prog 32 #[nv n, .int .i64 k] (.bool (bitN n k)) := by
  intro w
  have S : Hid (Pure Try.prog 30 #[nv n, .int .i64 k] (.agg #[.int .u64 (hi (n / 2 ^ hw k)), .int .u64 (lo (n / 2 ^ hw k))])) := num_shr n k hn
  have L := bit_lo n k
  have HF := field_lo (n / 2 ^ hw k)
  have E1 := Lib.hid (bitN_neg n k)
  have E2 := Lib.hid (bitN_pos n k)
  clear hn
  go_enter Try.func32, Try.ntmps32
  go_wp2_with (go_at_call 30; refine (S.out _).mono ?_; rintro e w' ⟨rfl, y, rfl⟩)
  · go_ret
    exact ⟨congrArg (fun z => Ending.returned (.bool z)) (E2.out (by assumption)).symm, plus_of_below (((Below.refl _ _).alloc (Nat.le_refl _) _).trans ((below_plus _ y).mono (by simp)))⟩
  · go_ret
    exact ⟨congrArg (fun z => Ending.returned (.bool z)) (E1.out (by assumption)).symm, plus_of_below ((Below.refl _ _).alloc (Nat.le_refl _) _)⟩
end Go.Proofs.Ytdngncblilkchaa
