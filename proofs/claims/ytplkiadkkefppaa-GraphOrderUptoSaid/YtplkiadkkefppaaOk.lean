/-
  WHAT IS PROVED HERE: what the landed firstFree and Order hand back, of any program: orderF, in memory of its own.
-/
import Derived.Test.YtplkiadkkefppaaRows
import Derived.Test.YtplkiadkkefppaaOj
namespace Go.Proofs.Ytplkiadkkefppaa
open Go.RowKit
def freeN (W : List (Option Int)) : Int := match freeF W with | some n => (n : Int) | none => 0
set_option maxRecDepth 100000 in
set_option maxHeartbeats 8000000 in
theorem free_in (W : List (Option Int)) (n : Nat) (hW : W.length = n) (hn : n ≤ 1048576) (V : World) (b : Nat) (hM : MapI V b W) :
    Calls Try.prog 18 #[.map (some b), .int .i64 (n : Int)] V fun e U => e = .returned (.tuple #[.int .i64 (freeN W), .bool (freeF W).isSome]) ∧ U = V := by
  have hM' := Lib.hid hM
  have hW' := Lib.hid hW
  have hn' := Lib.hid hn
  clear hM hW hn
  go_enter Try.func18, Try.ntmps18
  go_wp2_with fail
  go_loopw [10] (fun iv wr => ∃ k : Nat, k ≤ n ∧ iv = .int .i64 (k : Int) ∧ wr = V ∧ Hid (∀ i, i < k → (W.getD i none == some 0) = false)) (fun iv _ => n - (intOf iv).toNat)
  case atStart => exact ⟨0, Nat.zero_le _, rfl, rfl, Lib.hid fun i hi => absurd hi (by omega)⟩
  case round =>
    obtain ⟨k, hk, rfl, rfl, hK⟩ := hrel
    by_cases hlt : k < n
    · have a6 := Lib.hid (wr_succ k n hlt hn'.out)
      have q1 := map_ask hM'.out (by rw [hW'.out]; exact hn'.out) (m := k) (by rw [hW'.out]; exact hlt)
      obtain ⟨o, ho⟩ : ∃ o, W.getD k none = o := ⟨_, rfl⟩
      rw [ho] at q1
      have ho' := Lib.hid ho
      clear ho
      have miss : o ≠ some 0 → Hid (∀ i, i < k + 1 → (W.getD i none == some 0) = false) := fun h => Lib.hid fun i hi => by
        by_cases e : i = k
        · subst e; rw [ho'.out]; simpa using h
        · exact hK.out i (by omega)
      have miss' := Lib.hid miss
      clear miss
      cases o with
      | none =>
        simp only [Option.getD_none, Option.isSome_none] at q1
        go_wp2
        go_roundw
        case rel => exact ⟨k + 1, hlt, congrArg (Value.int .i64) a6.out, by trivial, miss'.out (by simp)⟩
        case measure => exact step_less k n hlt a6.out
      | some v =>
        simp only [Option.getD_some, Option.isSome_some] at q1
        by_cases hv : v = 0
        · subst hv
          have hF : freeF W = some k := by
            unfold freeF
            rw [hW'.out, List.find?_range_eq_some]
            exact ⟨by rw [ho'.out]; rfl, by simpa using hlt, fun j hj => by rw [hK.out j hj]; rfl⟩
          have hF' := Lib.hid hF
          clear hF miss'
          go_wp2
          go_ret2
          exact ⟨by rw [freeN, hF'.out]; rfl, rfl⟩
        · have hv2 : (v == 0) = false := by rw [beq_eq_false_iff_ne]; exact hv
          go_wp2
          go_roundw
          case rel => exact ⟨k + 1, hlt, congrArg (Value.int .i64) a6.out, by trivial, miss'.out (by simpa using hv)⟩
          case measure => exact step_less k n hlt a6.out
    · obtain rfl : k = n := by omega
      have hF : freeF W = none := by
        unfold freeF
        rw [hW'.out, List.find?_range_eq_none]
        intro i hi
        rw [hK.out i hi]
        rfl
      have hF' := Lib.hid hF
      clear hF hlt hk
      go_wp2
      go_ret2
      exact ⟨by rw [freeN, hF'.out]; rfl, rfl⟩
end Go.Proofs.Ytplkiadkkefppaa
