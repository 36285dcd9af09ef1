/-
  WHAT IS PROVED HERE: what the document's Agrees, Within and Meet of layer 11 hand back, for all patterns of two numbers of 128 bits and all widths, in whatever world. No condition but that the halves are of 64 bits. Written by gen/ms.py.
-/
import Derived.Test.YtjfkkikbcmglnaaMr
namespace Go.Proofs.Ytjfkkikbcmglnaa
open Go.RowKit
theorem all_next {f : Nat → Bool} {b : Bool} {i : Nat} (h : ∀ j, j < i → f j = b) (e : f i = b) : ∀ j, j < i + 1 → f j = b := fun j hj => by
  by_cases c : j < i
  · exact h j c
  · obtain rfl : j = i := by omega
    exact e
set_option maxRecDepth 100000 in
set_option maxHeartbeats 2000000 in
theorem ref_agrees (v m n : Nat) (hv : v < B128) (hm : m < B128) (hn : n < B128) : Pure Try.prog 9 #[pv v m, nv n] (.bool (agrB v m n)) := by
  intro w
  have hM := Lib.hid (agr_bits (v := v) (m := m) (n := n) hv hn)
  have S0 := Lib.hid (fun i hi => bit11 n i hn hi)
  have S1 := Lib.hid (fun i hi => bit11 m i hm hi)
  have S2 := Lib.hid (fun i hi => bit11 v i hv hi)
  obtain ⟨B, hB0⟩ : ∃ B, agrB v m n = B := ⟨_, rfl⟩
  rw [hB0] at hM ⊢
  clear hv hm hn hB0
  go_enter Try.func9, Try.ntmps9
  go_upto_region 1 with (fail)
  obtain ⟨W, hW, hB, hs, ca, cb, fa, fb⟩ := box2 w _ _ 26 24
  rw [← hW, ← plus_self W]
  have ca0 := ca 0 (some (.int .u64 (hi v))) rfl
  have ca1 := ca 1 (some (.int .u64 (lo v))) rfl
  have ca2 := ca 2 (some (.int .u64 (hi m))) rfl
  have ca3 := ca 3 (some (.int .u64 (lo m))) rfl
  have cb0 := cb 0 (some (.int .u64 (hi n))) rfl
  have cb1 := cb 1 (some (.int .u64 (lo n))) rfl
  have hB' := Lib.hid hB
  clear hW ca fa cb fb hB hs
  go_wp2
  go_loopw [5] (fun iv wr => ∃ i : Nat, i ≤ 128 ∧ iv = .int .i64 (i : Int) ∧ Hid (∀ j, j < i → agrAt v m n j = true) ∧ ∃ z, wr = plus W z) (fun iv _ => 128 - (intOf iv).toNat)
  case atStart => exact ⟨0, Nat.zero_le _, rfl, fun j hj => absurd hj (Nat.not_lt_zero j), _, rfl⟩
  case round =>
    obtain ⟨i, hi, rfl, hs, z, rfl⟩ := hrel
    by_cases hlt : i < 128
    · have q0 := (S0.out i hlt).at W
      have q1 := (S1.out i hlt).at W
      have q2 := (S2.out i hlt).at W
      have hat : Hid (agrAt v m n i = ((n.testBit i && m.testBit i) == v.testBit i)) := rfl
      have hnext := Lib.hid (fun (h : agrAt v m n i = true) => all_next hs.out h)
      have hbad := Lib.hid (fun (h : agrAt v m n i = false) => show false = B by
        cases B
        · rfl
        · rw [hM.out.1 rfl i hlt] at h; cases h)
      generalize n.testBit i = N1 at q0 hat
      generalize m.testBit i = M1 at q1 hat
      generalize v.testBit i = V1 at q2 hat
      have q0' := Lib.hid q0
      have q1' := Lib.hid q1
      have q2' := Lib.hid q2
      clear q0 q1 q2 hs hi S0 S1 S2 hM
      cases N1 <;> cases M1 <;> cases V1
      all_goals
        go_wp2_with (first | (with_reducible refine (q0'.out _).mono ?_; rintro r w' ⟨rfl, x, rfl⟩) | (with_reducible refine (q1'.out _).mono ?_; rintro r w' ⟨rfl, x, rfl⟩) | (with_reducible refine (q2'.out _).mono ?_; rintro r w' ⟨rfl, x, rfl⟩))
        first
          | (go_ret
             exact ⟨congrArg (fun z => Ending.returned (Value.bool z)) (hbad.out (hat.out.trans rfl)), plus_of_below (hB'.out.trans ((below_plus W _).mono hB'.out.size))⟩)
          | (go_roundw
             case rel => exact ⟨i + 1, hlt, rfl, hnext.out (hat.out.trans rfl), _, rfl⟩
             case measure => exact step_less12 i 128 hlt rfl)
    · obtain rfl : i = 128 := by omega
      have hF := Lib.hid (hM.out.2 hs.out)
      clear hM S0 S1 S2 hs hlt hi
      go_wp2
      go_ret
      exact ⟨congrArg (fun z => Ending.returned (Value.bool z)) hF.out.symm, plus_of_below (hB'.out.trans ((below_plus W _).mono hB'.out.size))⟩
set_option maxRecDepth 100000 in
set_option maxHeartbeats 4000000 in
theorem ref_within (a m b n : Nat) (x : Int) (ha : a < B128) (hm : m < B128) (hb : b < B128) (hn : n < B128) : Pure Try.prog 11 #[pv a m, pv b n, .int .i64 x] (.bool (withinB a m b n x)) := by
  intro w
  have T0 := ref_may a m x ha hm
  have T1 := ref_may b n x hb hn
  have hno0 : mayB a m x = false → withinB a m b n x = false := fun h => by unfold withinB; rw [h]; rfl
  have hno1 : mayB b n x = false → withinB a m b n x = false := fun h => by unfold withinB; rw [h]; cases mayB a m x <;> rfl
  have hM : ∀ u : Nat, x = u → u ≤ 128 → mayB a m x = true → mayB b n x = true → (withinB a m b n x = true ↔ ∀ i, i < u → witAt a m b n i = false) := fun u hx h2 h0 h1 => by subst hx; exact within_bits h2 h0 h1
  have hw : mayB a m x = true → 1 ≤ x ∧ x ≤ 128 := fun h => (may_and h).2.2
  have S0 := Lib.hid (fun i hi => bit11 a i ha hi)
  have S1 := Lib.hid (fun i hi => bit11 m i hm hi)
  have S2 := Lib.hid (fun i hi => bit11 b i hb hi)
  have S3 := Lib.hid (fun i hi => bit11 n i hn hi)
  obtain ⟨B, hB0⟩ : ∃ B, withinB a m b n x = B := ⟨_, rfl⟩
  rw [hB0] at hM hno0 hno1 ⊢
  generalize mayB a m x = Y0 at T0 hno0 hM hw
  generalize mayB b n x = Y1 at T1 hno1 hM
  have hM' := Lib.hid hM
  have hn0' := Lib.hid hno0
  have hn1' := Lib.hid hno1
  have hw' := Lib.hid hw
  have T0' := Lib.hid T0
  have T1' := Lib.hid T1
  clear ha hm hb hn hB0 hM hno0 hno1 hw T0 T1
  go_enter Try.func11, Try.ntmps11
  go_upto_region 1 with (fail)
  obtain ⟨W, hW, hB, hs, ca, cb, fa, fb⟩ := box2 w _ _ 26 26
  rw [← hW, ← plus_self W]
  have ca0 := ca 0 (some (.int .u64 (hi a))) rfl
  have ca1 := ca 1 (some (.int .u64 (lo a))) rfl
  have ca2 := ca 2 (some (.int .u64 (hi m))) rfl
  have ca3 := ca 3 (some (.int .u64 (lo m))) rfl
  have cb0 := cb 0 (some (.int .u64 (hi b))) rfl
  have cb1 := cb 1 (some (.int .u64 (lo b))) rfl
  have cb2 := cb 2 (some (.int .u64 (hi n))) rfl
  have cb3 := cb 3 (some (.int .u64 (lo n))) rfl
  have hB' := Lib.hid hB
  clear hW ca fa cb fb hB hs
  have t0 := Lib.hid (fun y => T0'.out.at W y)
  have t1 := Lib.hid (fun y => T1'.out.at W y)
  clear T0' T1'
  cases Y0
  case false =>
    have hF := Lib.hid (hn0'.out rfl)
    go_wp2_with (first | (with_reducible refine (t0.out _).mono ?_; rintro r w' ⟨rfl, x, rfl⟩) | (with_reducible refine (t1.out _).mono ?_; rintro r w' ⟨rfl, x, rfl⟩))
    go_ret
    exact ⟨congrArg (fun z => Ending.returned (Value.bool z)) hF.out.symm, plus_of_below (hB'.out.trans ((below_plus W _).mono hB'.out.size))⟩
  case true =>
  cases Y1
  case false =>
    have hF := Lib.hid (hn1'.out rfl)
    go_wp2_with (first | (with_reducible refine (t0.out _).mono ?_; rintro r w' ⟨rfl, x, rfl⟩) | (with_reducible refine (t1.out _).mono ?_; rintro r w' ⟨rfl, x, rfl⟩))
    go_ret
    exact ⟨congrArg (fun z => Ending.returned (Value.bool z)) hF.out.symm, plus_of_below (hB'.out.trans ((below_plus W _).mono hB'.out.size))⟩
  case true =>
  obtain ⟨hx1, hx2⟩ := hw'.out rfl
  obtain ⟨u, hu⟩ : ∃ u : Nat, x = u := ⟨x.toNat, by omega⟩
  have hu128 := Lib.hid (show u ≤ 128 by omega)
  have hM2 := Lib.hid (hM'.out u hu hu128.out rfl rfl)
  subst hu
  clear hM' hn0' hn1' hw' hx1 hx2
  go_upto_region 4 with (first | (with_reducible refine (t0.out _).mono ?_; rintro r w' ⟨rfl, x, rfl⟩) | (with_reducible refine (t1.out _).mono ?_; rintro r w' ⟨rfl, x, rfl⟩))
  clear t0 t1
  go_loopw [7] (fun iv wr => ∃ i : Nat, i ≤ u ∧ iv = .int .i64 (i : Int) ∧ Hid (∀ j, j < i → witAt a m b n j = false) ∧ ∃ z, wr = plus W z) (fun iv _ => u - (intOf iv).toNat)
  case atStart => exact ⟨0, Nat.zero_le _, rfl, fun j hj => absurd hj (Nat.not_lt_zero j), _, rfl⟩
  case round =>
    obtain ⟨i, hi, rfl, hs, z, rfl⟩ := hrel
    by_cases hlt : i < u
    · have hi128 : i < 128 := Nat.lt_of_lt_of_le hlt hu128.out
      have q0 := (S0.out i hi128).at W
      have q1 := (S1.out i hi128).at W
      have q2 := (S2.out i hi128).at W
      have q3 := (S3.out i hi128).at W
      have hat : Hid (witAt a m b n i = (n.testBit i && (!m.testBit i || (a.testBit i != b.testBit i)))) := rfl
      have hnext := Lib.hid (fun (h : witAt a m b n i = false) => all_next hs.out h)
      have hbad := Lib.hid (fun (h : witAt a m b n i = true) => show false = B by
        cases B
        · rfl
        · rw [hM2.out.1 rfl i hlt] at h; cases h)
      generalize a.testBit i = A1 at q0 hat
      generalize m.testBit i = M1 at q1 hat
      generalize b.testBit i = B1 at q2 hat
      generalize n.testBit i = N1 at q3 hat
      have q0' := Lib.hid q0
      have q1' := Lib.hid q1
      have q2' := Lib.hid q2
      have q3' := Lib.hid q3
      clear q0 q1 q2 q3 hs hi S0 S1 S2 S3 hM2 hu128
      go_upto_region 6 with (fail)
      cases N1 <;> cases M1 <;> cases A1 <;> cases B1
      all_goals
        refine wp_region_own (by kernel_rfl) (by kernel_rfl) ?_
        repeat (go_big_quiet_step (first | (with_reducible exact q0'.out _) | (with_reducible exact q1'.out _) | (with_reducible exact q2'.out _) | (with_reducible exact q3'.out _)))
        refine wpQuiet_nil ?_
        rintro _ ⟨y, rfl⟩
        go_wp2
        first
          | (go_ret
             exact ⟨congrArg (fun z => Ending.returned (Value.bool z)) (hbad.out (hat.out.trans rfl)), plus_of_below (hB'.out.trans ((below_plus W _).mono hB'.out.size))⟩)
          | (go_roundw
             case rel => exact ⟨i + 1, hlt, rfl, hnext.out (hat.out.trans rfl), _, rfl⟩
             case measure => exact step_less12 i u hlt rfl)
    · obtain rfl : i = u := by omega
      have hF := Lib.hid (hM2.out.2 hs.out)
      clear hM2 S0 S1 S2 S3 hs hlt hi hu128
      go_wp2
      go_ret
      exact ⟨congrArg (fun z => Ending.returned (Value.bool z)) hF.out.symm, plus_of_below (hB'.out.trans ((below_plus W _).mono hB'.out.size))⟩
set_option maxRecDepth 100000 in
set_option maxHeartbeats 4000000 in
theorem ref_meet (a m b n : Nat) (x : Int) (ha : a < B128) (hm : m < B128) (hb : b < B128) (hn : n < B128) : Pure Try.prog 13 #[pv a m, pv b n, .int .i64 x] (.bool (meetB a m b n x)) := by
  intro w
  have T0 := ref_may a m x ha hm
  have T1 := ref_may b n x hb hn
  have hno0 : mayB a m x = false → meetB a m b n x = false := fun h => by unfold meetB; rw [h]; rfl
  have hno1 : mayB b n x = false → meetB a m b n x = false := fun h => by unfold meetB; rw [h]; cases mayB a m x <;> rfl
  have hM : ∀ u : Nat, x = u → u ≤ 128 → mayB a m x = true → mayB b n x = true → (meetB a m b n x = true ↔ ∀ i, i < u → meeAt a m b n i = false) := fun u hx h2 h0 h1 => by subst hx; exact meet_bits h2 h0 h1
  have hw : mayB a m x = true → 1 ≤ x ∧ x ≤ 128 := fun h => (may_and h).2.2
  have S0 := Lib.hid (fun i hi => bit11 a i ha hi)
  have S1 := Lib.hid (fun i hi => bit11 m i hm hi)
  have S2 := Lib.hid (fun i hi => bit11 b i hb hi)
  have S3 := Lib.hid (fun i hi => bit11 n i hn hi)
  obtain ⟨B, hB0⟩ : ∃ B, meetB a m b n x = B := ⟨_, rfl⟩
  rw [hB0] at hM hno0 hno1 ⊢
  generalize mayB a m x = Y0 at T0 hno0 hM hw
  generalize mayB b n x = Y1 at T1 hno1 hM
  have hM' := Lib.hid hM
  have hn0' := Lib.hid hno0
  have hn1' := Lib.hid hno1
  have hw' := Lib.hid hw
  have T0' := Lib.hid T0
  have T1' := Lib.hid T1
  clear ha hm hb hn hB0 hM hno0 hno1 hw T0 T1
  go_enter Try.func13, Try.ntmps13
  go_upto_region 1 with (fail)
  obtain ⟨W, hW, hB, hs, ca, cb, fa, fb⟩ := box2 w _ _ 26 26
  rw [← hW, ← plus_self W]
  have ca0 := ca 0 (some (.int .u64 (hi a))) rfl
  have ca1 := ca 1 (some (.int .u64 (lo a))) rfl
  have ca2 := ca 2 (some (.int .u64 (hi m))) rfl
  have ca3 := ca 3 (some (.int .u64 (lo m))) rfl
  have cb0 := cb 0 (some (.int .u64 (hi b))) rfl
  have cb1 := cb 1 (some (.int .u64 (lo b))) rfl
  have cb2 := cb 2 (some (.int .u64 (hi n))) rfl
  have cb3 := cb 3 (some (.int .u64 (lo n))) rfl
  have hB' := Lib.hid hB
  clear hW ca fa cb fb hB hs
  have t0 := Lib.hid (fun y => T0'.out.at W y)
  have t1 := Lib.hid (fun y => T1'.out.at W y)
  clear T0' T1'
  cases Y0
  case false =>
    have hF := Lib.hid (hn0'.out rfl)
    go_wp2_with (first | (with_reducible refine (t0.out _).mono ?_; rintro r w' ⟨rfl, x, rfl⟩) | (with_reducible refine (t1.out _).mono ?_; rintro r w' ⟨rfl, x, rfl⟩))
    go_ret
    exact ⟨congrArg (fun z => Ending.returned (Value.bool z)) hF.out.symm, plus_of_below (hB'.out.trans ((below_plus W _).mono hB'.out.size))⟩
  case true =>
  cases Y1
  case false =>
    have hF := Lib.hid (hn1'.out rfl)
    go_wp2_with (first | (with_reducible refine (t0.out _).mono ?_; rintro r w' ⟨rfl, x, rfl⟩) | (with_reducible refine (t1.out _).mono ?_; rintro r w' ⟨rfl, x, rfl⟩))
    go_ret
    exact ⟨congrArg (fun z => Ending.returned (Value.bool z)) hF.out.symm, plus_of_below (hB'.out.trans ((below_plus W _).mono hB'.out.size))⟩
  case true =>
  obtain ⟨hx1, hx2⟩ := hw'.out rfl
  obtain ⟨u, hu⟩ : ∃ u : Nat, x = u := ⟨x.toNat, by omega⟩
  have hu128 := Lib.hid (show u ≤ 128 by omega)
  have hM2 := Lib.hid (hM'.out u hu hu128.out rfl rfl)
  subst hu
  clear hM' hn0' hn1' hw' hx1 hx2
  go_upto_region 4 with (first | (with_reducible refine (t0.out _).mono ?_; rintro r w' ⟨rfl, x, rfl⟩) | (with_reducible refine (t1.out _).mono ?_; rintro r w' ⟨rfl, x, rfl⟩))
  clear t0 t1
  go_loopw [7] (fun iv wr => ∃ i : Nat, i ≤ u ∧ iv = .int .i64 (i : Int) ∧ Hid (∀ j, j < i → meeAt a m b n j = false) ∧ ∃ z, wr = plus W z) (fun iv _ => u - (intOf iv).toNat)
  case atStart => exact ⟨0, Nat.zero_le _, rfl, fun j hj => absurd hj (Nat.not_lt_zero j), _, rfl⟩
  case round =>
    obtain ⟨i, hi, rfl, hs, z, rfl⟩ := hrel
    by_cases hlt : i < u
    · have hi128 : i < 128 := Nat.lt_of_lt_of_le hlt hu128.out
      have q0 := (S0.out i hi128).at W
      have q1 := (S1.out i hi128).at W
      have q2 := (S2.out i hi128).at W
      have q3 := (S3.out i hi128).at W
      have hat : Hid (meeAt a m b n i = (m.testBit i && n.testBit i && (a.testBit i != b.testBit i))) := rfl
      have hnext := Lib.hid (fun (h : meeAt a m b n i = false) => all_next hs.out h)
      have hbad := Lib.hid (fun (h : meeAt a m b n i = true) => show false = B by
        cases B
        · rfl
        · rw [hM2.out.1 rfl i hlt] at h; cases h)
      generalize a.testBit i = A1 at q0 hat
      generalize m.testBit i = M1 at q1 hat
      generalize b.testBit i = B1 at q2 hat
      generalize n.testBit i = N1 at q3 hat
      have q0' := Lib.hid q0
      have q1' := Lib.hid q1
      have q2' := Lib.hid q2
      have q3' := Lib.hid q3
      clear q0 q1 q2 q3 hs hi S0 S1 S2 S3 hM2 hu128
      go_upto_region 6 with (fail)
      cases M1 <;> cases N1 <;> cases A1 <;> cases B1
      all_goals
        refine wp_region_own (by kernel_rfl) (by kernel_rfl) ?_
        repeat (go_big_quiet_step (first | (with_reducible exact q0'.out _) | (with_reducible exact q1'.out _) | (with_reducible exact q2'.out _) | (with_reducible exact q3'.out _)))
        refine wpQuiet_nil ?_
        rintro _ ⟨y, rfl⟩
        go_wp2
        first
          | (go_ret
             exact ⟨congrArg (fun z => Ending.returned (Value.bool z)) (hbad.out (hat.out.trans rfl)), plus_of_below (hB'.out.trans ((below_plus W _).mono hB'.out.size))⟩)
          | (go_roundw
             case rel => exact ⟨i + 1, hlt, rfl, hnext.out (hat.out.trans rfl), _, rfl⟩
             case measure => exact step_less12 i u hlt rfl)
    · obtain rfl : i = u := by omega
      have hF := Lib.hid (hM2.out.2 hs.out)
      clear hM2 S0 S1 S2 S3 hs hlt hi hu128
      go_wp2
      go_ret
      exact ⟨congrArg (fun z => Ending.returned (Value.bool z)) hF.out.symm, plus_of_below (hB'.out.trans ((below_plus W _).mono hB'.out.size))⟩
end Go.Proofs.Ytjfkkikbcmglnaa
