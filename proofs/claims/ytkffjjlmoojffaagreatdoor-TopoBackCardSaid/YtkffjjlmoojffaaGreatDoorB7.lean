/-
  WHAT IS PROVED HERE: a part of the proof of the claim's theorem: Nc.
-/
import Derived.Test.YtkffjjlmoojffaaGreatDoorRows
import Derived.Test.YtkffjjlmoojffaaGreatDoorB1
import Derived.Test.YtkffjjlmoojffaaGreatDoorB3
import Derived.Test.YtkffjjlmoojffaaGreatDoorB6
import Derived.WalkKit
import Derived.WalkSpells
import Derived.WalkLawsBesides
set_option linter.all false
namespace Go.Proofs.YtkffjjlmoojffaaGreatDoor
open Go.RowKit
set_option maxHeartbeats 400000 in
theorem digit_any (r b : Int) (w : World) (h0 : 0 ≤ r) (h1 : r ≤ 2147483647) :
    Calls Tryz.prog 169 #[.int .i32 r, .int .u64 b] w fun e w' => e = .returned (.tuple #[.int .u64 (digV r b), .bool (decide (digV r b < b))]) ∧ w = w' := by
  have D := Lib.hid (digV_eq r b)
  go_enter Tryz.func169, Tryz.ntmps169
  go_wp2
  all_goals
    go_ret2
    refine ⟨?_, rfl⟩
    first
      | exact dig_ret r b _ (D.out.1 (by omega) (by omega))
      | exact dig_ret r b _ (D.out.2.1 (by omega) (by omega))
      | exact dig_ret r b _ (D.out.2.2.1 (by omega) (by omega))
      | exact dig_ret' r b (D.out.2.2.2 (by omega) (by omega) (by omega))
theorem mul_run (x y : Nat) (hx : x < 2 ^ 64) (hy : y ≤ 16) (w : World) : Calls Tryz.prog 180 #[.int .u64 (x : Int), .int .u64 (y : Int)] w fun e w' => e = .returned (.tuple #[.int .u64 (mH x y : Nat), .int .u64 (mL x y : Nat)]) ∧ w = w' :=
  (Tryz.bits_Mul64 x y (by omega) (by omega) w).mono fun e w' ⟨he, hw⟩ => ⟨by rw [he]; rfl, hw.symm⟩
theorem mul_lo (n y : Nat) (hy : y ≤ 16) (w : World) : Calls Tryz.prog 180 #[.int .u64 (lo n), .int .u64 (y : Int)] w fun e w' => e = .returned (.tuple #[.int .u64 (mH (n % 2 ^ 64) y : Nat), .int .u64 (mL (n % 2 ^ 64) y : Nat)]) ∧ w = w' :=
  mul_run (n % 2 ^ 64) y (Nat.mod_lt _ (by decide)) hy w
theorem mul_hi (n y : Nat) (hn : n < B128) (hy : y ≤ 16) (w : World) : Calls Tryz.prog 180 #[.int .u64 (hi n), .int .u64 (y : Int)] w fun e w' => e = .returned (.tuple #[.int .u64 (mH (n / 2 ^ 64) y : Nat), .int .u64 (mL (n / 2 ^ 64) y : Nat)]) ∧ w = w' :=
  mul_run (n / 2 ^ 64) y (by unfold B128 at hn; omega) hy w
theorem wadd_lo (n b d : Nat) (w : World) : (callFunc 181 #[.int .u64 (mL (n % 2 ^ 64) b : Nat), .int .u64 (d : Int), .int .u64 0]).run Tryz.prog w = .ok (.value (.tuple #[.int .u64 (wLo n b d : Nat), .int .u64 (wC n b d : Nat)])) w := by
  unfold wLo wC; exact add64_run (mL (n % 2 ^ 64) b) d 0 (by decide) w
theorem wadd_hi (n b d : Nat) (hd : d < 16) (w : World) : (callFunc 181 #[.int .u64 (mL (n / 2 ^ 64) b : Nat), .int .u64 (mH (n % 2 ^ 64) b : Nat), .int .u64 (wC n b d : Nat)]).run Tryz.prog w = .ok (.value (.tuple #[.int .u64 (wHi n b d : Nat), .int .u64 (wD n b d : Nat)])) w := by
  unfold wHi wD; exact add64_run (mL (n / 2 ^ 64) b) (mH (n % 2 ^ 64) b) (wC n b d) (wC_le n b d hd) w
theorem wD_le (n b d : Nat) (hb : b ≤ 16) (hd : d < 16) : wD n b d ≤ 1 := by
  have h1 := wC_le n b d hd
  have h2 := mL_lt (n / 2 ^ 64) b
  have h3 := mH_le (n % 2 ^ 64) b (Nat.mod_lt _ (by decide)) hb
  unfold wD; omega
set_option maxHeartbeats 400000 in
theorem with_digit (n b d : Nat) (hn : n < B128) (hb : b ≤ 16) (hd : d < 16) : Pure Tryz.prog 170 #[nv n, .int .u64 (b : Int), .int .u64 (d : Int)] (.tuple #[nv ((n * b + d) % 2 ^ 128), .bool (decide (2 ^ 128 ≤ n * b + d))]) := by
  intro w
  have M1 := Lib.hid (mul_lo n b hb)
  have M2 := Lib.hid (mul_hi n b hn hb)
  have A1 := wadd_lo n b d
  have A2 := wadd_hi n b d hd
  have EN := Lib.hid (w_nv n b d)
  have EO := Lib.hid (w_over n b d)
  have b1 : ((mH (n / 18446744073709551616) b : Nat) : Int) ≤ 15 := by have := mH_le (n / 18446744073709551616) b (by unfold B128 at hn; omega) hb; omega
  have b2 : ((wD n b d : Nat) : Int) ≤ 1 := by have := wD_le n b d hb hd; omega
  clear hn hb hd
  go_enter Tryz.func170, Tryz.ntmps170
  go_wp2_with fail
  obtain ⟨W, hW, hB, hs, ca, cr, fa, fr⟩ := box2 w _ _ 58 58
  rw [← hW]
  have ca0 := ca 0 (some (.int .u64 (hi n))) rfl
  have ca1 := ca 1 (some (.int .u64 (lo n))) rfl
  have cr0 := cr 0 (some (.int .u64 0)) rfl
  have cr1 := cr 1 (some (.int .u64 0)) rfl
  clear hW fa ca cr
  refine (M1.out W).mono ?_
  rintro e w' ⟨rfl, rfl⟩
  have ca0 := ca0 ⟨#[], W.drawn⟩
  have ca1 := ca1 ⟨#[], W.drawn⟩
  have cr0 := cr0 ⟨#[], W.drawn⟩
  have cr1 := cr1 ⟨#[], W.drawn⟩
  have fr := fr ⟨#[], W.drawn⟩
  rw [plus_self] at ca0 ca1 cr0 cr1
  simp only [plus_self] at fr
  go_wp2_with fail
  refine (M2.out W).mono ?_
  rintro e w' ⟨rfl, rfl⟩
  go_wp2
  refine bodyPost_ret (v := .tuple #[.agg #[.int .u64 (wHi n b d : Nat), .int .u64 (wLo n b d : Nat)], .bool (decide ((0 : Int) < (mH (n / 2 ^ 64) b : Nat) + (wD n b d : Nat)))]) (by simp [results, Tryz.results170, go_sem, cr0, cr1]) rfl ⟨?_, ?_⟩
  · rw [EN.out, EO.out]
  · have := own_end (y := ⟨#[], W.drawn⟩) (b := w.heap.size + 1) hB (by omega) (.int .u64 (wHi n b d : Nat)) (.int .u64 (wLo n b d : Nat))
    rwa [plus_self] at this
end Go.Proofs.YtkffjjlmoojffaaGreatDoor
