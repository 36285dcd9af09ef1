/-
  WHAT IS PROVED HERE: the page's examples of layer 11 come out as it says, in whatever world. No condition.
-/
import Derived.WalkKit
import Derived.Lib.Hide
import Derived.Test.YtjfkkikbcmglnaaRows
import Derived.Test.YtjfkkikbcmglnaaMd
import Derived.WalkSpells
import Derived.WalkLawsBesides
namespace Go.Proofs.Ytjfkkikbcmglnaa
open Go.RowKit
theorem pv_lit (v m : Nat) (hv : v < 18446744073709551616) (hm : m < 18446744073709551616) : pv v m = .agg #[.int .u64 0, .int .u64 (v : Int), .int .u64 0, .int .u64 (m : Int)] := by
  unfold pv hi lo
  rw [Nat.div_eq_of_lt hv, Nat.div_eq_of_lt hm, Nat.mod_eq_of_lt hv, Nat.mod_eq_of_lt hm]; rfl
theorem nv_lit (n : Nat) (hn : n < 18446744073709551616) : nv n = .agg #[.int .u64 0, .int .u64 (n : Int)] := by
  unfold nv hi lo
  rw [Nat.div_eq_of_lt hn, Nat.mod_eq_of_lt hn]; rfl
theorem k11_pre : Pure Try.prog 16 #[.agg #[.int .u64 0, .int .u64 13], .int .i64 2, .int .i64 4] (.tuple #[.agg #[.int .u64 0, .int .u64 12, .int .u64 0, .int .u64 12], .int .i64 0]) := by
  have h := m_prefix 13 2 4 (by decide)
  have e0 : preE 13 2 4 = 0 := by decide +kernel
  have e1 : preV 13 2 4 = 12 := by decide +kernel
  have e2 : preM 13 2 4 = 12 := by decide +kernel
  unfold preT at h
  rw [e0, e1, e2, pv_lit 12 12 (by decide) (by decide), nv_lit 13 (by decide)] at h
  exact h
theorem k11_mask : Pure Try.prog 18 #[.agg #[.int .u64 0, .int .u64 5], .agg #[.int .u64 0, .int .u64 6], .int .i64 4] (.tuple #[.agg #[.int .u64 0, .int .u64 4, .int .u64 0, .int .u64 6], .int .i64 0]) := by
  have h := m_masked 5 6 4 (by decide) (by decide)
  have e0 : maskE 5 6 4 = 0 := by decide +kernel
  have e1 : maskV 5 6 4 = 4 := by decide +kernel
  have e2 : maskM 5 6 4 = 6 := by decide +kernel
  unfold maskT at h
  rw [e0, e1, e2, pv_lit 4 6 (by decide) (by decide), nv_lit 5 (by decide), nv_lit 6 (by decide)] at h
  exact h
theorem k11_a : ∀ k : Nat, k < 16 → agrB 12 12 k = decide (12 ≤ k) ∧ agrB 4 6 k = decide (k = 4 ∨ k = 5 ∨ k = 12 ∨ k = 13) := by decide +kernel
theorem k11_agr1 (k : Nat) (hk : k < 16) : Pure Try.prog 8 #[.agg #[.int .u64 0, .int .u64 12, .int .u64 0, .int .u64 12], .agg #[.int .u64 0, .int .u64 (k : Int)]] (.bool (decide (12 ≤ k))) := by
  have h := m_agrees 12 12 k (by decide) (by unfold B128; omega)
  rw [(k11_a k hk).1, pv_lit 12 12 (by decide) (by decide), nv_lit k (by omega)] at h
  exact h
theorem k11_agr2 (k : Nat) (hk : k < 16) : Pure Try.prog 8 #[.agg #[.int .u64 0, .int .u64 4, .int .u64 0, .int .u64 6], .agg #[.int .u64 0, .int .u64 (k : Int)]] (.bool (decide (k = 4 ∨ k = 5 ∨ k = 12 ∨ k = 13))) := by
  have h := m_agrees 4 6 k (by decide) (by unfold B128; omega)
  rw [(k11_a k hk).2, pv_lit 4 6 (by decide) (by decide), nv_lit k (by omega)] at h
  exact h
set_option maxRecDepth 100000 in
set_option maxHeartbeats 8000000 in
theorem known11 : Pure Try.prog 24 #[] (.bool true) := by
  intro w
  go_enter Try.func24, Try.ntmps24
  go_wp2_with fail
  refine (k11_pre w).mono ?_
  rintro e w' ⟨rfl, x, rfl⟩
  go_wp2_with fail
  have hB0 := below_plus w x
  obtain ⟨W1, hW1, hB1, hs1, ca, fa⟩ := box1 (plus w x) _ 26
  rw [← hW1]
  have a0 := ca 0 (some (.int .u64 0)) rfl
  have a1 := ca 1 (some (.int .u64 12)) rfl
  have a2 := ca 2 (some (.int .u64 0)) rfl
  have a3 := ca 3 (some (.int .u64 12)) rfl
  have hB2 := hB0.trans (hB1.mono hB0.size)
  have hp : (plus w x).heap.size < W1.heap.size := by omega
  clear hW1 ca fa hB0 hB1 hs1
  generalize (plus w x).heap.size = p at *
  refine (k11_mask W1).mono ?_
  rintro e w' ⟨rfl, y, rfl⟩
  go_wp2_with fail
  have hB3 := hB2.trans ((below_plus W1 y).mono hB2.size)
  have hy := size_plus W1 y
  obtain ⟨W, hW, hB4, hs4, cb, fb⟩ := box1 (plus W1 y) _ 26
  rw [← hW]
  have b0 := cb 0 (some (.int .u64 0)) rfl
  have b1 := cb 1 (some (.int .u64 4)) rfl
  have b2 := cb 2 (some (.int .u64 0)) rfl
  have b3 := cb 3 (some (.int .u64 6)) rfl
  have lift : ∀ o v, (∀ y, (plus W1 y).cell? ⟨p, o, none⟩ = v) → ∀ z, (plus W z).cell? ⟨p, o, none⟩ = v := fun o v h z => (cell_plus W z p o (by omega)).trans (by rw [hW]; exact (cell_old (plus W1 y) _ p o (by omega)).trans (h y))
  replace a0 := lift 0 _ a0
  replace a1 := lift 1 _ a1
  replace a2 := lift 2 _ a2
  replace a3 := lift 3 _ a3
  have hB := Lib.hid (hB3.trans (hB4.mono hB3.size))
  clear hW cb fb hB3 hB4 hB2 hs4 hy lift hp
  generalize (plus W1 y).heap.size = q at *
  go_loopw [17] (fun kk wr => ∃ k : Nat, k ≤ 16 ∧ kk = .int .u64 k ∧ ∃ z, wr = plus W z) (fun kk _ => 16 - (intOf kk).toNat)
  case atStart => exact ⟨0, by omega, rfl, _, (plus_self W).symm⟩
  case round =>
    obtain ⟨k, hk, rfl, z, rfl⟩ := hrel
    by_cases hlt : k < 16
    · have q1 := fun y => (k11_agr1 k hlt).at W y
      have q2 := fun y => (k11_agr2 k hlt).at W y
      have hk' : k = 0 ∨ k = 1 ∨ k = 2 ∨ k = 3 ∨ k = 4 ∨ k = 5 ∨ k = 6 ∨ k = 7 ∨ k = 8 ∨ k = 9 ∨ k = 10 ∨ k = 11 ∨ k = 12 ∨ k = 13 ∨ k = 14 ∨ k = 15 := by omega
      clear hk hlt
      rcases hk' with rfl | rfl | rfl | rfl | rfl | rfl | rfl | rfl | rfl | rfl | rfl | rfl | rfl | rfl | rfl | rfl
      all_goals
        simp at q1 q2
        have q1' := Lib.hid q1
        have q2' := Lib.hid q2
        clear q1 q2
        go_wp2_with (first | (with_reducible refine (q1'.out _).mono ?_; rintro r w' ⟨rfl, x, rfl⟩) | (with_reducible refine (q2'.out _).mono ?_; rintro r w' ⟨rfl, x, rfl⟩))
        go_roundw
        case rel => exact ⟨_, by decide, rfl, _, rfl⟩
        case measure => simp [intOf]
    · have hk16 : k = 16 := by omega
      subst hk16
      go_wp2
      go_ret
      exact ⟨rfl, plus_of_below (hB.out.trans ((below_plus W z).mono hB.out.size))⟩
end Go.Proofs.Ytjfkkikbcmglnaa
