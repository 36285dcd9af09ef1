/-
  WHAT IS PROVED HERE: what the document's Sub hands back, in whatever world.
-/
import Derived.Test.YtdngncblilkchaaRl
namespace Go.Proofs.Ytdngncblilkchaa
open Go.RowKit
theorem hw_128 : hw 128 = 128 := by unfold hw heldZ; omega
theorem not_all (b : Nat) (hb : b < B128) : b % 2 ^ hw 128 ^^^ (2 ^ hw 128 - 1) = 2 ^ 128 - (b + 1) := by
  rw [b128] at hb
  rw [hw_128, Nat.mod_eq_of_lt hb]
  refine Nat.eq_of_testBit_eq fun i => ?_
  rw [Nat.testBit_xor, Nat.testBit_two_pow_sub_one, Nat.testBit_two_pow_sub_succ hb]
  by_cases h : i < 128
  · simp [h]
  · rw [Nat.testBit_lt_two_pow (Nat.lt_of_lt_of_le hb (Nat.pow_le_pow_right (by decide) (by omega)))]; simp [h]
theorem sub_same (a b : Nat) (hb : b < B128) : ((a + (2 ^ 128 - (b + 1))) % 2 ^ 128 + 1) % 2 ^ 128 = (a + (B128 - b)) % 2 ^ 128 := by
  rw [b128] at *
  rw [Nat.mod_add_mod]
  congr 1
  generalize 2 ^ 128 = p at *
  omega
set_option maxRecDepth 100000 in
set_option maxHeartbeats 1000000 in
theorem ref_sub (a b : Nat) (k : Int) (ha : a < B128) (hb : b < B128) : Pure Try.prog 27 #[nv a, nv b, .int .i64 k] (nv ((a + (B128 - b)) % 2 ^ 128 % 2 ^ hw k)) := by
  intro w
  obtain ⟨N, hN⟩ : ∃ N, 2 ^ 128 - (b + 1) = N := ⟨_, rfl⟩
  have hN1 : N < B128 := by rw [b128] at *; subst hN; generalize 2 ^ 128 = p at *; omega
  obtain ⟨T, hT⟩ : ∃ T, (a + N) % 2 ^ 128 = T := ⟨_, rfl⟩
  have hT1 : T < B128 := hT ▸ mod_128_lt _
  obtain ⟨R, hR⟩ : ∃ R, (a + (B128 - b)) % 2 ^ 128 % 2 ^ hw k = R := ⟨_, rfl⟩
  have S1 : Hid (Pure Try.prog 23 #[nv b, .int .i64 128] (nv N)) := (ref_not b 128 hb).eqv (by rw [not_all b hb, hN])
  have S2 : Hid (Pure Try.prog 25 #[nv a, nv N, .int .i64 128] (nv T)) := (ref_add a N 128 ha hN1).eqv (by rw [hw_128, Nat.mod_mod, hT])
  have S3 : Hid (Pure Try.prog 15 #[.int .u64 1] (nv 1)) := ref_of 1 (by decide)
  have S4 : Hid (Pure Try.prog 25 #[nv T, nv 1, .int .i64 k] (nv R)) := (ref_add T 1 k hT1 (by decide)).eqv (by rw [← hR, ← sub_same a b hb, hN, hT])
  rw [hR]
  clear ha hb hN hN1 hT hT1 hR
  go_enter Try.func27, Try.ntmps27
  go_wp2
  obtain ⟨W, hW, hB, hs, ca, cb, cr, fa, fb, fr⟩ := box3 w _ _ _ 24 24 24
  rw [← hW]
  have ca0 := ca 0 (some (.int .u64 (hi a))) rfl
  have ca1 := ca 1 (some (.int .u64 (lo a))) rfl
  have cb0 := cb 0 (some (.int .u64 (hi b))) rfl
  have cb1 := cb 1 (some (.int .u64 (lo b))) rfl
  have cr0 := cr 0 (some (.int .u64 0)) rfl
  have cr1 := cr 1 (some (.int .u64 0)) rfl
  clear hW fa fb ca cb cr
  refine wp_region_own_tail0 7 (by kernel_rfl) (by kernel_rfl) ?_
  simp only [List.take_succ_cons, List.take_zero, List.drop_succ_cons, List.drop_zero]
  repeat (go_big_quiet_step (first | (go_at_call 23; exact S1.out.at _ _) | (go_at_call 15; exact S3.out.at _ _) | (with_reducible exact S2.out.at _ _) | (with_reducible exact S4.out.at _ _)))
  refine wpQuiet_nil ?_
  rintro _ ⟨y, rfl⟩
  go_wp2
  exact bodyPost_ret (v := .agg #[.int .u64 (hi R), .int .u64 (lo R)]) (by simp [results, Try.results27, go_sem, cr0, cr1]) rfl ⟨rfl, own_end hB (by omega) _ _⟩
end Go.Proofs.Ytdngncblilkchaa
