/-
  WHAT IS PROVED HERE: what the document's calls of layer 11 hand back: May, Agrees, Within, Meet, for all patterns of two numbers of 128 bits and all widths, in whatever world. No condition but that the halves are of 64 bits.
-/
import Derived.WalkKit
import Derived.Lib.Hide
import Derived.Test.YtjfkkikbcmglnaaRows
import Derived.Test.YtjfkkikbcmglnaaMb
import Derived.Test.YtjfkkikbcmglnaaMp
import Derived.Test.YtjfkkikbcmglnaaRR
import Derived.WalkSpells
import Derived.WalkLawsBesides
import Derived.Deep.CutRange
namespace Go.Proofs.Ytjfkkikbcmglnaa
open Go.RowKit
theorem bit11 (n i : Nat) (hn : n < B128) (hi : i < 128) : Pure Try.prog 28 #[nv n, .int .i64 (i : Int)] (.bool (n.testBit i)) :=
  (ref_bit n i hn).eqv (by rw [← bit_same n (i : Int) (by omega) (by omega)]; rfl)
theorem step_less12 (k n : Nat) (h : k < n) {u : Int} (e : u = ((k + 1 : Nat) : Int)) : n - (intOf (.int .i64 u)).toNat < n - (intOf (.int .i64 (k : Int))).toNat := by
  subst e
  simp [intOf]
  omega
set_option maxRecDepth 100000 in
set_option maxHeartbeats 2000000 in
theorem ref_may (v m : Nat) (x : Int) (hv : v < B128) (hm : m < B128) : Pure Try.prog 7 #[pv v m, .int .i64 x] (.bool (mayB v m x)) := by
  intro w
  by_cases h1 : x < 1
  · have hF : mayB v m x = false := by unfold mayB wideB; rw [decide_eq_false (show ¬ 1 ≤ x by omega)]; rfl
    rw [hF]
    clear hv hm hF
    go_enter Try.func7, Try.ntmps7
    go_wp2
    go_ret
    exact ⟨rfl, plus_of_below ((Below.refl _ _).alloc (Nat.le_refl _) _)⟩
  by_cases h2 : 128 < x
  · have hF : mayB v m x = false := by unfold mayB wideB; rw [decide_eq_false (show ¬ x ≤ 128 by omega), Bool.and_false]; rfl
    rw [hF]
    clear hv hm hF
    go_enter Try.func7, Try.ntmps7
    go_wp2
    go_ret
    exact ⟨rfl, plus_of_below ((Below.refl _ _).alloc (Nat.le_refl _) _)⟩
  obtain ⟨u, hu⟩ : ∃ u : Nat, x = u := ⟨x.toNat, by omega⟩
  subst hu
  have hM := Lib.hid (may_bits hv hm (show 1 ≤ u by omega) (show u ≤ 128 by omega))
  have S0 := Lib.hid (fun i hi => bit11 v i hv hi)
  have S1 := Lib.hid (fun i hi => bit11 m i hm hi)
  obtain ⟨B, hB0⟩ : ∃ B, mayB v m (u : Int) = B := ⟨_, rfl⟩
  rw [hB0] at hM ⊢
  clear hv hm hB0
  go_enter Try.func7, Try.ntmps7
  go_upto_region 1 with (fail)
  obtain ⟨W, hW, hB, hs, ca, fa⟩ := box1 w _ 26
  rw [← hW, ← plus_self W]
  have ca0 := ca 0 (some (.int .u64 (hi v))) rfl
  have ca1 := ca 1 (some (.int .u64 (lo v))) rfl
  have ca2 := ca 2 (some (.int .u64 (hi m))) rfl
  have ca3 := ca 3 (some (.int .u64 (lo m))) rfl
  have hB' := Lib.hid hB
  clear hW ca fa hB hs
  go_wp2
  go_loopw [5] (fun iv wr => ∃ i : Nat, i ≤ 128 ∧ iv = .int .i64 (i : Int) ∧ Hid (∀ j, j < i → mayAt v m u j = false) ∧ ∃ z, wr = plus W z) (fun iv _ => 128 - (intOf iv).toNat)
  case atStart => exact ⟨0, Nat.zero_le _, rfl, fun j hj => absurd hj (Nat.not_lt_zero j), _, rfl⟩
  case round =>
    obtain ⟨i, hi, rfl, hs, z, rfl⟩ := hrel
    by_cases hlt : i < 128
    · have q0 := (S0.out i hlt).at W
      have q1 := (S1.out i hlt).at W
      have hat : Hid (mayAt v m u i = (v.testBit i && !m.testBit i || decide (u ≤ i) && m.testBit i)) := rfl
      have hnext := Lib.hid (fun (h : mayAt v m u i = false) => (fun j (hj : j < i + 1) => by
        by_cases e : j < i
        · exact hs.out j e
        · obtain rfl : j = i := by omega
          exact h : ∀ j, j < i + 1 → mayAt v m u j = false))
      have hbad := Lib.hid (fun (h : mayAt v m u i = true) => show false = B by
        cases B
        · rfl
        · rw [hM.out.1 rfl i hlt] at h; cases h)
      generalize v.testBit i = V1 at q0 hat
      generalize m.testBit i = M1 at q1 hat
      have q0' := Lib.hid q0
      have q1' := Lib.hid q1
      clear q0 q1 hs hi
      by_cases hui : u ≤ i
      · have hui' : ((u : Int) ≤ (i : Int)) := by omega
        rw [decide_eq_true hui] at hat
        cases V1 <;> cases M1
        all_goals
          go_wp2_with (first | (with_reducible refine (q0'.out _).mono ?_; rintro r w' ⟨rfl, x, rfl⟩) | (with_reducible refine (q1'.out _).mono ?_; rintro r w' ⟨rfl, x, rfl⟩))
          first
            | (go_ret
               exact ⟨congrArg (fun z => Ending.returned (Value.bool z)) (hbad.out (hat.out.trans rfl)), plus_of_below (hB'.out.trans ((below_plus W _).mono hB'.out.size))⟩)
            | (go_roundw
               case rel => exact ⟨i + 1, hlt, rfl, hnext.out (hat.out.trans rfl), _, rfl⟩
               case measure => exact step_less12 i 128 hlt rfl)
      · have hui' : ((i : Int) < (u : Int)) := by omega
        rw [decide_eq_false hui] at hat
        cases V1 <;> cases M1
        all_goals
          go_wp2_with (first | (with_reducible refine (q0'.out _).mono ?_; rintro r w' ⟨rfl, x, rfl⟩) | (with_reducible refine (q1'.out _).mono ?_; rintro r w' ⟨rfl, x, rfl⟩))
          first
            | (go_ret
               exact ⟨congrArg (fun z => Ending.returned (Value.bool z)) (hbad.out (hat.out.trans rfl)), plus_of_below (hB'.out.trans ((below_plus W _).mono hB'.out.size))⟩)
            | (go_roundw
               case rel => exact ⟨i + 1, hlt, rfl, hnext.out (hat.out.trans rfl), _, rfl⟩
               case measure => exact step_less12 i 128 hlt rfl)
    · obtain rfl : i = 128 := by omega
      have hF := Lib.hid (hM.out.2 hs.out)
      clear hM S0 S1 hs hlt hi
      go_wp2
      go_ret
      exact ⟨congrArg (fun z => Ending.returned (Value.bool z)) hF.out.symm, plus_of_below (hB'.out.trans ((below_plus W _).mono hB'.out.size))⟩
end Go.Proofs.Ytjfkkikbcmglnaa
