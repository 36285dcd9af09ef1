/-
  WHAT IS PROVED HERE: the law BddNone, walked: it hands back true, whatever the numbers.
-/
import Derived.Test.YtfphilgdikanfaaBdO
import Derived.Test.YtfphilgdikanfaaBdP
namespace Go.Proofs.Ytfphilgdikanfaa
open Go.RowKit
set_option maxRecDepth 100000 in
set_option maxHeartbeats 8000000 in
theorem none_walk (a b : Int) (w : World) : Calls Try.prog 4 #[.int .i64 a, .int .i64 b] w fun e w' => e = .returned (.bool true) ∧ ∃ x, w' = plus w x := by
  obtain ⟨W, hW, hB, hz, ca, cb, -, -⟩ := box2 w #[.pointer none] #[.pointer none, .pointer (some ⟨w.heap.size, 0, none⟩)] 45 23
  have hn0 : NoneAt W (.pointer none) := .inl rfl
  have hn1 : NoneAt W (.pointer (some ⟨w.heap.size, 0, none⟩)) := .inr ⟨_, rfl, by have := ca 0 _ rfl ⟨#[], W.drawn⟩; rwa [plus_self] at this⟩
  have d0 := cb 0 _ rfl
  have d1 := cb 1 _ rfl
  have hK := Lib.hid law_known15
  have hW' := Lib.hid hW
  have hB' := Lib.hid hB
  have hn : Hid (∀ k : Nat, k < 2 → ∃ p, NoneAt W (.pointer p) ∧ ∀ y, (plus W y).cell? ⟨w.heap.size + 1, k, none⟩ = some (.pointer p)) := Lib.hid (fun k hk => by
    obtain rfl | rfl : k = 0 ∨ k = 1 := by omega
    · exact ⟨_, hn0, d0⟩
    · exact ⟨_, hn1, d1⟩)
  clear hB hz ca cb hn0 hn1 d0 d1 hW
  go_enter Try.func4, Try.ntmps4
  go_wp2_with fail
  rw [← hW'.out]
  go_loopw [4, 7, 8, 9, 10, 11, 14] (fun _ _ _ _ _ _ iv wr => ∃ k : Nat, k ≤ 2 ∧ iv = .int .i64 (k : Int) ∧ ∃ y, wr = plus W y) (fun _ _ _ _ _ _ iv _ => 2 - (intOf iv).toNat)
  case atStart => exact ⟨0, Nat.zero_le _, rfl, ⟨#[], W.drawn⟩, (plus_self W).symm⟩
  case round =>
    obtain ⟨k, hk, rfl, y, rfl⟩ := hrel
    by_cases hlt : k < 2
    · obtain ⟨p, hN, d0⟩ := hn.out k hlt
      have hLe := Lib.hid (nn_Least hN a b)
      have hAt := Lib.hid (nn_At hN a)
      have hVa := Lib.hid (nn_Var hN a)
      have hIt := Lib.hid (nn_Ite hN a b 1)
      have hNo := Lib.hid (nn_Not hN a)
      have hAn := Lib.hid (nn_And hN a b)
      have hOr := Lib.hid (nn_Or hN a b)
      have hXo := Lib.hid (nn_Xor hN a b)
      have hUn := Lib.hid (nn_Under hN a b true)
      have hSi := Lib.hid (nn_Size hN a)
      have hLn := Lib.hid (nn_Len hN)
      have hHo := Lib.hid (nn_Holds hN a none 0 0)
      have hFu := Lib.hid (nn_Full hN)
      clear hN
      go_wp2_with (first | (go_at_call 13; with_reducible refine (hLe.out _).mono ?_; rintro r w' ⟨rfl, x, rfl⟩) | (go_at_call 11; with_reducible refine (hAt.out _).mono ?_; rintro r w' ⟨rfl, x, rfl⟩))
      obtain ⟨x2, hx2⟩ := bd_alloc_plus (W := W) ⟨_, rfl⟩ (.cells #[.int .i64 0, .int .i64 0, .int .i64 0] 39)
      rw [hx2]
      clear hx2
      go_wp2_with (first | (go_at_call 14; with_reducible refine (hVa.out _).mono ?_; rintro r w' ⟨rfl, x, rfl⟩) | (go_at_call 15; with_reducible refine (hIt.out _).mono ?_; rintro r w' ⟨rfl, x, rfl⟩) | (go_at_call 16; with_reducible refine (hNo.out _).mono ?_; rintro r w' ⟨rfl, x, rfl⟩) | (go_at_call 17; with_reducible refine (hAn.out _).mono ?_; rintro r w' ⟨rfl, x, rfl⟩) | (go_at_call 18; with_reducible refine (hOr.out _).mono ?_; rintro r w' ⟨rfl, x, rfl⟩) | (go_at_call 19; with_reducible refine (hXo.out _).mono ?_; rintro r w' ⟨rfl, x, rfl⟩) | (go_at_call 20; with_reducible refine (hUn.out _).mono ?_; rintro r w' ⟨rfl, x, rfl⟩) | (go_at_call 21; with_reducible refine (hSi.out _).mono ?_; rintro r w' ⟨rfl, x, rfl⟩) | (go_at_call 10; with_reducible refine (hLn.out _).mono ?_; rintro r w' ⟨rfl, x, rfl⟩) | (go_at_call 9; with_reducible refine (hHo.out _).mono ?_; rintro r w' ⟨rfl, x, rfl⟩) | (go_at_call 12; with_reducible refine (hFu.out _).mono ?_; rintro r w' ⟨rfl, x, rfl⟩))
      go_roundw
      case rel => exact ⟨k + 1, by omega, by go_num, _, rfl⟩
      case measure => simp [intOf]; omega
    · obtain rfl : k = 2 := by omega
      clear hlt hk
      go_wp2_with fail
      refine (hK.out _).mono ?_
      rintro r w' ⟨rfl, x, rfl⟩
      go_wp2
      go_ret
      exact ⟨rfl, plus_of_below (hB'.out.trans (((below_plus W y).trans ((below_plus _ x).mono (size_plus W y))).mono hB'.out.size))⟩
end Go.Proofs.Ytfphilgdikanfaa
