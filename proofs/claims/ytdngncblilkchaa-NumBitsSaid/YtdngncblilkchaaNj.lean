/-
  WHAT IS PROVED HERE: the law NumBits is true of any two numbers of 128 bits and any two amounts that an int holds, in whatever world.
-/
import Derived.Test.YtdngncblilkchaaRm
import Derived.Test.YtdngncblilkchaaNg
namespace Go.Proofs.Ytdngncblilkchaa
open Go.RowKit
theorem eql_same (v : Nat) (w : World) : (binOp .eql 24 (nv v) (nv v)).run Try.prog w = .ok (.bool true) w := by rw [eql_nv]; simp
theorem eql_bool (p : Bool) (w : World) : (binOp .eql 4 (.bool p) (.bool p)).run Try.prog w = .ok (.bool true) w := by
  cases p <;> go_simp
theorem neq_int (c : Int) (w : World) : (binOp .neq 3 (.int .i64 c) (.int .i64 c)).run Try.prog w = .ok (.bool false) w := by
  go_simp
set_option maxRecDepth 100000 in
set_option maxHeartbeats 8000000 in
theorem bits_walk (a b : Nat) (u k : Int) (ha : a < B128) (hb : b < B128) (hu : u ≤ 9223372036854775807) : Pure Try.prog 3 #[nv a, nv b, .int .i64 u, .int .i64 k] (.bool true) := by
  intro w
  obtain ⟨v0, s0, t0⟩ : ∃ v : Int, Hid (Pure Try.prog 6 #[nv a, nv b] (.int .i64 v)) ∧ Hid (Pure Try.prog 7 #[nv a, nv b] (.int .i64 v)) := ⟨_, num_cmp a b, ref_cmp a b ha hb⟩
  obtain ⟨v1, s1, t1⟩ : ∃ v : Nat, Hid (Pure Try.prog 8 #[.int .i64 u] (nv v)) ∧ Hid (Pure Try.prog 9 #[.int .i64 u] (nv v)) := ⟨_, num_mask u, ref_mask u⟩
  obtain ⟨v2, s2, t2⟩ : ∃ v : Nat, Hid (Pure Try.prog 10 #[nv a, .int .i64 u] (nv v)) ∧ Hid (Pure Try.prog 11 #[nv a, .int .i64 u] (nv v)) := ⟨_, num_cut a u ha, ref_cut a u ha⟩
  obtain ⟨v3, s3, t3⟩ : ∃ v : Bool, Hid (Pure Try.prog 12 #[nv a, .int .i64 u] (.bool v)) ∧ Hid (Pure Try.prog 13 #[nv a, .int .i64 u] (.bool v)) := ⟨_, num_fits a u ha, ref_fits a u ha⟩
  obtain ⟨v4, s4, t4⟩ : ∃ v : Nat, Hid (Pure Try.prog 14 #[.int .u64 (lo a)] (nv v)) ∧ Hid (Pure Try.prog 15 #[.int .u64 (lo a)] (nv v)) := ⟨_, num_of _ (by omega), ref_of _ (by omega)⟩
  obtain ⟨v5, s5, t5⟩ : ∃ v : Nat, Hid (Pure Try.prog 16 #[nv a, nv b] (nv v)) ∧ Hid (Pure Try.prog 17 #[nv a, nv b] (nv v)) := ⟨_, num_and a b ha hb, ref_and a b ha hb⟩
  obtain ⟨v6, s6, t6⟩ : ∃ v : Nat, Hid (Pure Try.prog 18 #[nv a, nv b] (nv v)) ∧ Hid (Pure Try.prog 19 #[nv a, nv b] (nv v)) := ⟨_, num_or a b ha hb, ref_or a b ha hb⟩
  obtain ⟨v7, s7, t7⟩ : ∃ v : Nat, Hid (Pure Try.prog 20 #[nv a, nv b] (nv v)) ∧ Hid (Pure Try.prog 21 #[nv a, nv b] (nv v)) := ⟨_, num_xor a b ha hb, ref_xor a b ha hb⟩
  obtain ⟨v8, s8, t8⟩ : ∃ v : Nat, Hid (Pure Try.prog 22 #[nv a, .int .i64 u] (nv v)) ∧ Hid (Pure Try.prog 23 #[nv a, .int .i64 u] (nv v)) := ⟨_, num_not a u ha, ref_not a u ha⟩
  obtain ⟨v9, s9, t9⟩ : ∃ v : Nat, Hid (Pure Try.prog 24 #[nv a, nv b, .int .i64 u] (nv v)) ∧ Hid (Pure Try.prog 25 #[nv a, nv b, .int .i64 u] (nv v)) := ⟨_, num_add a b u, ref_add a b u ha hb⟩
  obtain ⟨v10, s10, t10⟩ : ∃ v : Nat, Hid (Pure Try.prog 26 #[nv a, nv b, .int .i64 u] (nv v)) ∧ Hid (Pure Try.prog 27 #[nv a, nv b, .int .i64 u] (nv v)) := ⟨_, num_sub a b u hb, ref_sub a b u ha hb⟩
  obtain ⟨v11, s11, t11⟩ : ∃ v : Nat, Hid (Pure Try.prog 28 #[nv a, .int .i64 k, .int .i64 u] (nv v)) ∧ Hid (Pure Try.prog 29 #[nv a, .int .i64 k, .int .i64 u] (nv v)) := ⟨_, num_shl a k u, ref_shl a k u ha⟩
  obtain ⟨v12, s12, t12⟩ : ∃ v : Nat, Hid (Pure Try.prog 30 #[nv a, .int .i64 k] (nv v)) ∧ Hid (Pure Try.prog 31 #[nv a, .int .i64 k] (nv v)) := ⟨_, num_shr a k ha, ref_shr a k ha⟩
  obtain ⟨v13, s13, t13⟩ : ∃ v : Bool, Hid (Pure Try.prog 32 #[nv a, .int .i64 k] (.bool v)) ∧ Hid (Pure Try.prog 33 #[nv a, .int .i64 k] (.bool v)) := ⟨_, num_bit a k ha, ref_bit a k ha⟩
  obtain ⟨v14, s14, t14⟩ : ∃ v : Nat, Hid (Pure Try.prog 34 #[nv a, .int .i64 u, .int .i64 k] (nv v)) ∧ Hid (Pure Try.prog 35 #[nv a, .int .i64 u, .int .i64 k] (nv v)) := ⟨_, num_slice a u k ha hu, ref_slice a u k ha hu⟩
  obtain ⟨v15, s15, t15⟩ : ∃ v : Nat, Hid (Pure Try.prog 36 #[nv a, nv b, .int .i64 u] (nv v)) ∧ Hid (Pure Try.prog 37 #[nv a, nv b, .int .i64 u] (nv v)) := ⟨_, num_cat a b u hb, ref_cat a b u ha hb⟩
  have n1 := fun v => neq_run v v rfl
  have n2 := fun p => neq_bool p p rfl
  have n3 := neq_int
  have n4 := eql_same
  have n5 := eql_bool
  clear ha hb hu
  go_enter Try.func3, Try.ntmps3
  go_wp2
  obtain ⟨W, hW, hB, hs, ca, cb, fa, fb⟩ := box2 w _ _ 24 24
  rw [← hW]
  have a0 := ca 0 (some (.int .u64 (hi a))) rfl
  have a1 := ca 1 (some (.int .u64 (lo a))) rfl
  have b0 := cb 0 (some (.int .u64 (hi b))) rfl
  have b1 := cb 1 (some (.int .u64 (lo b))) rfl
  clear hW ca cb fa fb
  refine wp_region_own0 (by kernel_rfl) (by kernel_rfl) ?_
  repeat (go_big_quiet_step (first | (go_at_call 6; exact s0.out.at _ _) | (go_at_call 7; exact t0.out.at _ _) | (go_at_call 8; exact s1.out.at _ _) | (go_at_call 9; exact t1.out.at _ _) | (go_at_call 10; exact s2.out.at _ _) | (go_at_call 11; exact t2.out.at _ _) | (go_at_call 12; exact s3.out.at _ _) | (go_at_call 13; exact t3.out.at _ _) | (go_at_call 14; exact s4.out.at _ _) | (go_at_call 15; exact t4.out.at _ _)))
  refine wpQuiet_nil ?_
  rintro _ ⟨y1, rfl⟩
  go_wp2
  refine wp_region_own (by kernel_rfl) (by kernel_rfl) ?_
  repeat (go_big_quiet_step (first | (go_at_call 16; exact s5.out.at _ _) | (go_at_call 17; exact t5.out.at _ _) | (go_at_call 18; exact s6.out.at _ _) | (go_at_call 19; exact t6.out.at _ _) | (go_at_call 20; exact s7.out.at _ _) | (go_at_call 21; exact t7.out.at _ _) | (go_at_call 22; exact s8.out.at _ _) | (go_at_call 23; exact t8.out.at _ _)))
  refine wpQuiet_nil ?_
  rintro _ ⟨y2, rfl⟩
  go_wp2
  refine wp_region_own (by kernel_rfl) (by kernel_rfl) ?_
  repeat (go_big_quiet_step (first | (go_at_call 24; exact s9.out.at _ _) | (go_at_call 25; exact t9.out.at _ _) | (go_at_call 26; exact s10.out.at _ _) | (go_at_call 27; exact t10.out.at _ _) | (go_at_call 28; exact s11.out.at _ _) | (go_at_call 29; exact t11.out.at _ _) | (go_at_call 30; exact s12.out.at _ _) | (go_at_call 31; exact t12.out.at _ _)))
  refine wpQuiet_nil ?_
  rintro _ ⟨y3, rfl⟩
  go_wp2
  refine wp_region_own (by kernel_rfl) (by kernel_rfl) ?_
  repeat (go_big_quiet_step (first | (go_at_call 32; exact s13.out.at _ _) | (go_at_call 33; exact t13.out.at _ _) | (go_at_call 34; exact s14.out.at _ _) | (go_at_call 35; exact t14.out.at _ _) | (go_at_call 36; exact s15.out.at _ _) | (go_at_call 37; exact t15.out.at _ _) | (go_at_call 38; exact known_any.at _ _)))
  refine wpQuiet_nil ?_
  rintro _ ⟨y4, rfl⟩
  go_wp2
  go_ret
  exact ⟨rfl, plus_of_below (hB.trans ((below_plus W y4).mono hB.size))⟩
end Go.Proofs.Ytdngncblilkchaa
