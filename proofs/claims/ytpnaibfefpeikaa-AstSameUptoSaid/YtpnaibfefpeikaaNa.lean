import Derived.Test.YtpnaibfefpeikaaRows
import Derived.Test.YtpnaibfefpeikaaKit
import Derived.Test.YtpnaibfefpeikaaPlain
import Derived.WalkKit
import Derived.WalkSpells
import Derived.WalkLawsBesides
namespace Go.Proofs.Ytpnaibfefpeikaa
open Go.RowKit
set_option maxHeartbeats 400000 in
theorem held_any (n m : Int) : Pure Try.prog 97 #[.int .i64 n, .int .i64 m] (.int .i64 (heldZ n m)) := by
  intro w
  have H : Hid (heldZ n m = if m < (if n < 0 then 0 else n) then m else (if n < 0 then 0 else n)) := heldZ_eq n m
  go_enter Try.func97, Try.ntmps97
  go_wp2
  all_goals
    go_ret
    refine ⟨?_, _, (plus_self w).symm⟩
    rw [H.out]
    simp_all
    try omega
set_option maxHeartbeats 400000 in
theorem and1 (x y : Int) : Pure Try.prog 95 #[.int .u64 x, .int .u64 y] (.int .u64 (bits .and .u64 x y)) := by
  intro w
  go_enter Try.func95, Try.ntmps95
  go_wp2
  go_ret
  exact ⟨rfl, _, (plus_self w).symm⟩
set_option maxHeartbeats 400000 in
theorem halves_and (a b : Nat) : Pure Try.prog 94 #[nv a, nv b, .func (.func 95) #[] #[]] (.agg #[.int .u64 (bits .and .u64 (hi a) (hi b)), .int .u64 (bits .and .u64 (lo a) (lo b))]) := by
  intro w
  go_enter Try.func94, Try.ntmps94
  go_wp2
  obtain ⟨W, hW, hB, hs, ca, cb, cr, fa, fb, fr⟩ := box3 w _ _ _ 33 33 33
  rw [← hW]
  have ca0 := ca 0 (some (.int .u64 (hi a))) rfl
  have ca1 := ca 1 (some (.int .u64 (lo a))) rfl
  have cb0 := cb 0 (some (.int .u64 (hi b))) rfl
  have cb1 := cb 1 (some (.int .u64 (lo b))) rfl
  have cr0 := cr 0 (some (.int .u64 0)) rfl
  have cr1 := cr 1 (some (.int .u64 0)) rfl
  clear hW fa fb ca cb cr
  refine wp_region_own_tail0 13 (by kernel_rfl) (by kernel_rfl) ?_
  simp only [List.take_succ_cons, List.take_zero, List.drop_succ_cons, List.drop_zero]
  repeat (go_big_quiet_step (exact (and1 _ _).at _ _))
  refine wpQuiet_nil ?_
  rintro _ ⟨y, rfl⟩
  go_wp2
  exact bodyPost_ret (v := .agg #[.int .u64 (bits .and .u64 (hi a) (hi b)), .int .u64 (bits .and .u64 (lo a) (lo b))]) (by simp [results, Try.results94, go_sem, cr0, cr1]) rfl ⟨rfl, own_end hB (by omega) _ _⟩
set_option maxHeartbeats 400000 in
theorem num_and (a b : Nat) (ha : a < B128) (hb : b < B128) : Pure Try.prog 92 #[nv a, nv b] (nv (a &&& b)) := by
  intro w
  have H := Lib.hid (and_nv a b ha hb)
  clear ha hb
  go_enter Try.func92, Try.ntmps92
  go_wp2_with fail
  obtain ⟨W, hW, hB, hs, ca, cb, cr, fa, fb, fr⟩ := box3 w _ _ _ 33 33 33
  rw [← hW]
  have ca0 := ca 0 (some (.int .u64 (hi a))) rfl
  have ca1 := ca 1 (some (.int .u64 (lo a))) rfl
  have cb0 := cb 0 (some (.int .u64 (hi b))) rfl
  have cb1 := cb 1 (some (.int .u64 (lo b))) rfl
  have cr0 := cr 0 (some (.int .u64 0)) rfl
  have cr1 := cr 1 (some (.int .u64 0)) rfl
  clear hW fa fb ca cb cr
  refine ((halves_and a b).eqv H.out W).mono ?_
  rintro e w' ⟨rfl, y, rfl⟩
  go_wp2
  exact bodyPost_ret (v := .agg #[.int .u64 (hi (a &&& b)), .int .u64 (lo (a &&& b))]) (by simp [results, Try.results92, go_sem, cr0, cr1]) rfl ⟨rfl, own_end hB (by omega) _ _⟩
end Go.Proofs.Ytpnaibfefpeikaa
