/-
  WHAT IS PROVED HERE: the law MatchAll is true of any two patterns and any width, in whatever world. No condition but that the halves are of 64 bits.
-/
import Derived.WalkKit
import Derived.Lib.Hide
import Derived.Test.YtjfkkikbcmglnaaRows
import Derived.Test.YtjfkkikbcmglnaaMe
import Derived.Test.YtjfkkikbcmglnaaMg
import Derived.WalkSpells
import Derived.WalkLawsBesides
import Derived.Deep.CutRange
namespace Go.Proofs.Ytjfkkikbcmglnaa
open Go.RowKit
theorem agr_lit {v m k : Nat} (hm : m < B128) (hk : k < 1024) : Pure Try.prog 8 #[pv v m, .agg #[.int .u64 0, .int .u64 (k : Int)]] (.bool (agrB v m k)) := by
  have h := m_agrees v m k hm (by unfold B128; omega)
  rw [nv_lit k (by omega)] at h
  exact h
theorem pow_small {w : Nat} (h : w ≤ 10) : 2 ^ w ≤ 1024 := Nat.pow_le_pow_right (n := 2) (by decide) h
theorem wrap_pow {w : Nat} (h : w ≤ 10) : IntKind.u64.wrap (2 ^ w) = ((2 ^ w : Nat) : Int) := by
  rw [IntKind.wrap_u64]
  have := pow_small h
  rw [show ((2 : Int) ^ w) = ((2 ^ w : Nat) : Int) by simp]
  generalize 2 ^ w = p at this ⊢
  omega
theorem step_less11 (k n : Nat) (h : k < n) {u : Int} (e : u = ((k + 1 : Nat) : Int)) : n - (intOf (.int .u64 u)).toNat < n - (intOf (.int .u64 (k : Int))).toNat := by
  subst e
  simp [intOf]
  omega
set_option maxRecDepth 100000 in
set_option maxHeartbeats 1000000 in
theorem all11 (a m b n : Nat) (x : Int) (ha : a < B128) (hm : m < B128) (hb : b < B128) (hn : n < B128) : Pure Try.prog 5 #[pv a m, pv b n, .int .i64 x] (.bool true) := by
  intro w
  have S0 := m_may a m x ha hm
  have S1 := m_may b n x hb hn
  have S2 := m_within a m b n x ha hm hb hn
  have S3 := m_meet a m b n x ha hm hb hn
  have S4 : Hid (∀ k : Nat, k < 1024 → Pure Try.prog 8 #[pv a m, .agg #[.int .u64 0, .int .u64 (k : Int)]] (.bool (agrB a m k))) := fun k hk => agr_lit hm hk
  have S5 : Hid (∀ k : Nat, k < 1024 → Pure Try.prog 8 #[pv b n, .agg #[.int .u64 0, .int .u64 (k : Int)]] (.bool (agrB b n k))) := fun k hk => agr_lit hn hk
  have F1 : Hid (∀ w : Nat, x = w → w ≤ 10 → mayB a m x = true → mayB b n x = true → withinB a m b n x = allIn a m b n (2 ^ w) ∧ meetB a m b n x = anyIn a m b n (2 ^ w)) := fun w hx hw h0 h1 => by
    subst hx; exact ⟨within_all hw h0 h1, meet_any hw h0 h1⟩
  clear ha hm hb hn
  obtain ⟨Y0, e0⟩ : ∃ b, mayB a m x = b := ⟨_, rfl⟩
  obtain ⟨Y1, e1⟩ : ∃ c, mayB b n x = c := ⟨_, rfl⟩
  rw [e0] at S0 F1
  rw [e1] at S1 F1
  have T0 := Lib.hid S0
  have T1 := Lib.hid S1
  have T2 := Lib.hid S2
  have T3 := Lib.hid S3
  clear S0 S1 S2 S3 e0 e1
  go_enter Try.func5, Try.ntmps5
  go_upto_region 1 with (fail)
  obtain ⟨W, hW, hB, hs, ca, cb, fa, fb⟩ := box2 w _ _ 26 26
  rw [← hW, ← plus_self W]
  have a0 := ca 0 (some (.int .u64 (hi a))) rfl
  have a1 := ca 1 (some (.int .u64 (lo a))) rfl
  have a2 := ca 2 (some (.int .u64 (hi m))) rfl
  have a3 := ca 3 (some (.int .u64 (lo m))) rfl
  have b0 := cb 0 (some (.int .u64 (hi b))) rfl
  have b1 := cb 1 (some (.int .u64 (lo b))) rfl
  have b2 := cb 2 (some (.int .u64 (hi n))) rfl
  have b3 := cb 3 (some (.int .u64 (lo n))) rfl
  have hB' := Lib.hid hB
  clear hW ca cb fa fb hB hs
  have q0 := Lib.hid (fun y => T0.out.at W y)
  have q1 := Lib.hid (fun y => T1.out.at W y)
  have q2 := Lib.hid (fun y => T2.out.at W y)
  have q3 := Lib.hid (fun y => T3.out.at W y)
  have qk := Lib.hid (fun y => known11.at W y)
  clear T0 T1 T2 T3
  by_cases h1 : x < 1
  · go_wp2_with (first | (with_reducible refine (qk.out _).mono ?_; rintro r w' ⟨rfl, x, rfl⟩))
    go_ret
    exact ⟨rfl, plus_of_below (hB'.out.trans ((below_plus W _).mono hB'.out.size))⟩
  by_cases h2 : 10 < x
  · go_wp2_with (first | (with_reducible refine (qk.out _).mono ?_; rintro r w' ⟨rfl, x, rfl⟩))
    go_ret
    exact ⟨rfl, plus_of_below (hB'.out.trans ((below_plus W _).mono hB'.out.size))⟩
  cases Y0
  case false =>
    go_wp2_with (first | (with_reducible refine (qk.out _).mono ?_; rintro r w' ⟨rfl, x, rfl⟩) | (with_reducible refine (q0.out _).mono ?_; rintro r w' ⟨rfl, x, rfl⟩))
    go_ret
    exact ⟨rfl, plus_of_below (hB'.out.trans ((below_plus W _).mono hB'.out.size))⟩
  case true =>
  cases Y1
  case false =>
    go_wp2_with (first | (with_reducible refine (qk.out _).mono ?_; rintro r w' ⟨rfl, x, rfl⟩) | (with_reducible refine (q0.out _).mono ?_; rintro r w' ⟨rfl, x, rfl⟩) | (with_reducible refine (q1.out _).mono ?_; rintro r w' ⟨rfl, x, rfl⟩))
    go_ret
    exact ⟨rfl, plus_of_below (hB'.out.trans ((below_plus W _).mono hB'.out.size))⟩
  case true =>
  obtain ⟨v, hv⟩ : ∃ v : Nat, x = v := ⟨x.toNat, by omega⟩
  have hv10 : v ≤ 10 := by omega
  obtain ⟨f1, f2⟩ := F1.out v hv hv10 rfl rfl
  rw [f1] at q2
  rw [f2] at q3
  have hp := Lib.hid (wrap_pow hv10)
  have hp10 := Lib.hid (pow_small hv10)
  have hv10' := Lib.hid hv10
  have hv0 : ¬ (v : Int) < 0 := by omega
  clear f1 f2 F1 hv10
  subst hv
  go_upto_region 5 with (first | (with_reducible refine (q0.out _).mono ?_; rintro r w' ⟨rfl, x, rfl⟩) | (with_reducible refine (q1.out _).mono ?_; rintro r w' ⟨rfl, x, rfl⟩))
  rw [hp.out]
  clear hp
  obtain ⟨P, hP⟩ : ∃ P, 2 ^ v = P := ⟨_, rfl⟩
  rw [hP] at q2 q3 hp10 ⊢
  clear hP hv0 hv10' q0 q1
  go_loopw [7, 8, 33] (fun vi vm kk wr => ∃ k : Nat, k ≤ P ∧ kk = .int .u64 (k : Int) ∧ (∃ p q, vi = .bool p ∧ vm = .bool q ∧ Hid (p = allIn a m b n k) ∧ Hid (q = anyIn a m b n k)) ∧ ∃ z, wr = plus W z) (fun _ _ kk _ => P - (intOf kk).toNat)
  case atStart => exact ⟨0, Nat.zero_le _, rfl, ⟨true, false, rfl, rfl, rfl, rfl⟩, _, rfl⟩
  case round =>
    obtain ⟨k, hk, rfl, ⟨p, q, rfl, rfl, hp, hq⟩, z, rfl⟩ := hrel
    by_cases hlt : k < P
    · have hk4 : k < 1024 := Nat.lt_of_lt_of_le hlt hp10.out
      have q4 := (S4.out k hk4).at W
      have q5 := (S5.out k hk4).at W
      have e1 := allIn_succ a m b n k
      have e2 := anyIn_succ a m b n k
      have a6 : Hid ((k : Int) + 1 = ((k + 1 : Nat) : Int)) := rfl
      obtain ⟨A1, hA1⟩ : ∃ c, agrB a m k = c := ⟨_, rfl⟩
      obtain ⟨A2, hA2⟩ : ∃ c, agrB b n k = c := ⟨_, rfl⟩
      rw [hA1] at q4 e1 e2
      rw [hA2] at q5 e1 e2
      rw [← hp.out] at e1
      rw [← hq.out] at e2
      have q4' := Lib.hid q4
      have q5' := Lib.hid q5
      have e1' := Lib.hid e1
      have e2' := Lib.hid e2
      clear q4 q5 e1 e2 hA1 hA2 hp hq hk
      go_upto_region 7 with (fail)
      refine wp_region_own (by kernel_rfl) (by kernel_rfl) ?_
      repeat (go_big_quiet_step (first | (with_reducible exact q4'.out _) | (with_reducible exact q5'.out _)))
      refine wpQuiet_nil ?_
      rintro _ ⟨y2, rfl⟩
      cases p <;> cases q <;> cases A1 <;> cases A2
      all_goals
        go_wp2
        go_roundw
        case rel => exact ⟨k + 1, hlt, congrArg (Value.int .u64) a6.out, ⟨_, _, rfl, rfl, (e1'.out.trans (by rfl)).symm, (e2'.out.trans (by rfl)).symm⟩, _, rfl⟩
        case measure => exact step_less11 k P hlt a6.out
    · obtain rfl : k = P := by omega
      rw [← hp.out] at q2
      rw [← hq.out] at q3
      clear hp hq S4 S5 hk hlt
      cases p <;> cases q
      all_goals
        go_wp2_with (first | (with_reducible refine (q2.out _).mono ?_; rintro r w' ⟨rfl, x, rfl⟩) | (with_reducible refine (q3.out _).mono ?_; rintro r w' ⟨rfl, x, rfl⟩) | (with_reducible refine (qk.out _).mono ?_; rintro r w' ⟨rfl, x, rfl⟩))
        go_ret
        exact ⟨rfl, plus_of_below (hB'.out.trans ((below_plus W _).mono hB'.out.size))⟩
end Go.Proofs.Ytjfkkikbcmglnaa
