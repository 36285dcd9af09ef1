/-
  WHAT IS PROVED HERE: the law NumSums is true of any three numbers of 128 bits and any width, in whatever world. No condition.
-/
import Derived.Test.YtdngncblilkchaaRows
import Derived.Test.YtdngncblilkchaaNf
import Derived.Test.YtdngncblilkchaaPlain5
import Derived.WalkKit
import Derived.WalkSpells
import Derived.WalkLawsBesides
namespace Go.Proofs.Ytdngncblilkchaa
open Go.RowKit
theorem neq_run (p q : Nat) (h : p = q) (w : World) : (binOp .neq 24 (nv p) (nv q)).run Try.prog w = .ok (.bool false) w := by rw [neq_nv, h]; simp
theorem neq_bool (p q : Bool) (h : p = q) (w : World) : (binOp .neq 4 (.bool p) (.bool q)).run Try.prog w = .ok (.bool false) w := by
  subst h; cases p <;> go_simp
theorem width_of (x : Int) : ∃ m : Nat, 1 ≤ m ∧ m ≤ 128 ∧ wrap64 (1 + wrap64 ((IntKind.u64.wrap x).tmod 128)) = (m : Int) := by
  have h1 : 0 ≤ IntKind.u64.wrap x := by rw [IntKind.wrap_u64]; omega
  have h2 : (IntKind.u64.wrap x).tmod 128 = IntKind.u64.wrap x % 128 := Int.tmod_eq_emod_of_nonneg h1
  refine ⟨(1 + IntKind.u64.wrap x % 128).toNat, by omega, by omega, ?_⟩
  rw [h2]
  unfold wrap64
  omega
set_option maxRecDepth 100000 in
set_option maxHeartbeats 4000000 in
theorem sums_walk (a b c : Nat) (x : Int) (ha : a < B128) (hb : b < B128) (hc : c < B128) : Pure Try.prog 4 #[nv a, nv b, nv c, .int .i64 x] (.bool true) := by
  intro w
  obtain ⟨m, hm1, hm2, hE⟩ := width_of x
  have hwm := hw_nat m hm2
  obtain ⟨A, hAd⟩ : ∃ A, A = a % 2 ^ m := ⟨_, rfl⟩
  obtain ⟨B, hBd⟩ : ∃ B, B = b % 2 ^ m := ⟨_, rfl⟩
  obtain ⟨D, hDd⟩ : ∃ D, D = c % 2 ^ m := ⟨_, rfl⟩
  have h128 : 2 ^ m ≤ B128 := by rw [b128]; exact Nat.pow_le_pow_right (by decide) hm2
  have hp := Nat.two_pow_pos m
  have hA : A < 2 ^ m := by rw [hAd]; exact Nat.mod_lt _ hp
  have hB' : B < 2 ^ m := by rw [hBd]; exact Nat.mod_lt _ hp
  have cA : Hid (Pure Try.prog 10 #[nv a, .int .i64 (m : Int)] (nv A)) := (num_cut a m ha).eqv (by rw [hAd, hwm])
  have cB : Hid (Pure Try.prog 10 #[nv b, .int .i64 (m : Int)] (nv B)) := (num_cut b m hb).eqv (by rw [hBd, hwm])
  have cD : Hid (Pure Try.prog 10 #[nv c, .int .i64 (m : Int)] (nv D)) := (num_cut c m hc).eqv (by rw [hDd, hwm])
  have dA : Hid (∀ p q, Pure Try.prog 24 #[nv p, nv q, .int .i64 (m : Int)] (nv (addN p q m))) := fun p q => (num_add p q m).eqv (by rw [hwm]; rfl)
  have dS : Hid (Pure Try.prog 26 #[nv A, nv B, .int .i64 (m : Int)] (nv (subN A B m))) := (num_sub A B m (by omega)).eqv (by rw [hwm]; rfl)
  have dN : Hid (Pure Try.prog 22 #[nv B, .int .i64 (m : Int)] (nv (B % 2 ^ m ^^^ (2 ^ m - 1)))) := (num_not B m (by omega)).eqv (by rw [hwm])
  have dO : Hid (Pure Try.prog 14 #[.int .u64 1] (nv 1)) := num_of 1 (by decide)
  have dC : Hid (∀ p q, Pure Try.prog 6 #[nv p, nv q] (.int .i64 (cmpN p q))) := num_cmp
  have dT : Hid (Pure Try.prog 12 #[nv (addN A B m), .int .i64 (m : Int)] (.bool true)) := (num_fits _ m (addN_lt A B)).eqv (by rw [hwm, addN_mod]; simp)
  have n1 := neq_run _ _ (addN_comm A B m)
  have n2 := neq_run _ _ (addN_assoc A B D hm2)
  have n3 := neq_run _ _ (add_sub A B hm2 (by omega) hA)
  have n4 := neq_run _ _ (sub_not A B hm2 hB')
  have n5 := neq_bool _ _ (cmp_turned A B)
  have hA' := Lib.hid hA
  have h128' := Lib.hid h128
  clear ha hb hc hAd hBd hDd hA hB' hwm h128 hp
  go_enter Try.func4, Try.ntmps4
  go_wp2
  rw [hE]
  clear hE
  refine abs_world (T := Three w a b c) ?_ (Three.start w a b c _)
  intro W hT
  have hX := fun y => hT.plus y
  have a0 := fun y => (hX y).a0
  have a1 := fun y => (hX y).a1
  have b0 := fun y => (hX y).b0
  have b1 := fun y => (hX y).b1
  have c0 := fun y => (hX y).c0
  have c1 := fun y => (hX y).c1
  have fa := fun y => (hX y).fa
  have fb := fun y => (hX y).fb
  have fc := fun y => (hX y).fc
  have hX' := Lib.hid hX
  clear hX hT
  refine wp_region_own_tail0 9 (by kernel_rfl) (by kernel_rfl) ?_
  simp only [List.take_succ_cons, List.take_zero, List.drop_succ_cons, List.drop_zero]
  repeat (go_big_quiet_step (first | (with_reducible exact cA.out.at _ _) | (with_reducible exact cB.out.at _ _) | (with_reducible exact cD.out.at _ _)))
  refine wpQuiet_nil ?_
  rintro _ ⟨y, rfl⟩
  go_wp2
  refine abs_world (T := Three w A B D) ?_ ((hX'.out y).store A B D)
  clear a0 a1 b0 b1 c0 c1 fa fb fc
  clear hX' cA cB cD
  intro V hT
  have hX := fun y => hT.plus y
  have a0 := fun y => (hX y).a0
  have a1 := fun y => (hX y).a1
  have b0 := fun y => (hX y).b0
  have b1 := fun y => (hX y).b1
  have c0 := fun y => (hX y).c0
  have c1 := fun y => (hX y).c1
  have hX' := Lib.hid hX
  clear hX hT
  refine wp_region_own0 (by kernel_rfl) (by kernel_rfl) ?_
  repeat (go_big_quiet_step (first | (go_at_call 24; exact (dA.out _ _).at _ _) | (go_at_call 26; exact dS.out.at _ _)))
  refine wpQuiet_nil ?_
  rintro _ ⟨y1, rfl⟩
  go_wp2
  refine wp_region_own (by kernel_rfl) (by kernel_rfl) ?_
  repeat (go_big_quiet_step (first | (go_at_call 24; exact (dA.out _ _).at _ _) | (go_at_call 26; exact dS.out.at _ _) | (go_at_call 22; exact dN.out.at _ _) | (go_at_call 14; exact dO.out.at _ _) | (go_at_call 6; exact (dC.out _ _).at _ _) | (go_at_call 12; exact dT.out.at _ _)))
  refine wpQuiet_nil ?_
  rintro _ ⟨y2, rfl⟩
  go_wp2
  clear a0 a1 b0 b1 c0 c1 dA dS dN dO dC dT n1 n2 n3 n4 n5
  go_loopw [9] (fun kk wr => ∃ k : Nat, 1 ≤ k ∧ k ≤ m ∧ kk = .int .i64 k ∧ Three w A B D wr) (fun kk _ => m - (intOf kk).toNat)
  case atStart => exact ⟨1, Nat.le_refl _, hm1, rfl, hX'.out y2⟩
  case round =>
    obtain ⟨k, hk1, hk2, rfl, hT⟩ := hrel
    clear hX'
    have hX := fun y => hT.plus y
    have a0 := fun y => (hX y).a0
    have a1 := fun y => (hX y).a1
    have hX' := Lib.hid hX
    have hT' := Lib.hid hT
    clear hX hT
    by_cases hlt : k < m
    · have hAB : A < B128 := Nat.lt_of_lt_of_le hA'.out h128'.out
      have e1 : Hid (Pure Try.prog 34 #[nv A, .int .i64 ((m : Int) - 1), .int .i64 (k : Int)] (nv (A / 2 ^ k))) := (num_slice A _ _ hAB (by omega)).eqv (by rw [slice_hi A m k hm2 hk1 hlt hA'.out])
      have e2 : Hid (Pure Try.prog 34 #[nv A, .int .i64 ((k : Int) - 1), .int .i64 0] (nv (A % 2 ^ k))) := (num_slice A _ _ hAB (by omega)).eqv (by rw [slice_lo A k hk1 (by omega)])
      have e3 : Hid (Pure Try.prog 36 #[nv (A / 2 ^ k), nv (A % 2 ^ k), .int .i64 (k : Int)] (nv A)) := (num_cat _ _ _ (Nat.lt_of_le_of_lt (Nat.mod_le _ _) hAB)).eqv (by rw [cat_back A k (by omega) hAB])
      clear hAB
      go_wp2
      refine wp_region_own0 (by kernel_rfl) (by kernel_rfl) ?_
      repeat (go_big_quiet_step (first | (go_at_call 34; with_reducible exact e1.out.at _ _) | (go_at_call 34; with_reducible exact e2.out.at _ _) | (go_at_call 36; exact e3.out.at _ _)))
      refine wpQuiet_nil ?_
      rintro _ ⟨y3, rfl⟩
      go_wp2
      go_roundw
      case rel => exact ⟨k + 1, by omega, by omega, by go_num, hX'.out y3⟩
      case measure => simp [intOf]; omega
    · go_wp2_with (go_at_call 38; refine (known_any _).mono ?_; rintro e w' ⟨rfl, z, rfl⟩)
      go_ret
      exact ⟨rfl, plus_of_below (hX'.out z).below⟩
end Go.Proofs.Ytdngncblilkchaa
