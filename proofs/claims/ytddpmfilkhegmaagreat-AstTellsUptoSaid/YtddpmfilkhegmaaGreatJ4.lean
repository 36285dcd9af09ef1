/-
  WHAT IS PROVED HERE: what the document's one of layer 4 hands back, by what its callees hand back: a theorem for each kind. Written by gen/hc.py.
-/
import Derived.Test.YtddpmfilkhegmaaGreatRows
import Derived.Test.YtddpmfilkhegmaaGreatFG
import Derived.WalkKit
import Derived.Lib.Hide
import Derived.WalkSpells
import Derived.WalkLawsBesides
import Derived.Laws.EntriesVeiled
import Derived.Shelf.Abstract
namespace Go.Proofs.YtddpmfilkhegmaaGreat
open Go.RowKit
set_option maxRecDepth 100000 in
set_option maxHeartbeats 8000000 in
theorem one_11 (a0 : Int) (a1 : Int) (a2 : Int) (a3 : Int) (a4 : ByteArray) (a5 : ByteArray) (a6 : Int) (a7 : Int) (a8p : Option Addr) (a8n : Nat) (a8c : Nat)  (w : World) (hk : 11 ≤ a0 ∧ a0 ≤ 26) :
    Kp Tryz.prog w 96 #[.agg #[.int .u8 a0, .int .i64 a1, .int .u64 a2, .int .u64 a3, .string a4, .string a5, .int .i64 a6, .int .i64 a7, .slice a8p a8n a8c]] (.bool ((!((a8n : Int) != 2)) && ((a4.toList == []) && ((a5.toList == []) && (((a1 == 0) && ((a2 == 0) && (a3 == 0))) && ((a6 == 0) && (a7 == 0))))))) := by
  intro y0
  obtain ⟨V, hV⟩ : ∃ V, plus w y0 = V := ⟨_, rfl⟩
  rw [hV] at ⊢
  clear hV
  have n1 : (a0 == 1) = false := by simp; omega
  have n2 : (a0 == 2) = false := by simp; omega
  have n3 : (a0 == 3) = false := by simp; omega
  have n4 : (a0 == 4) = false := by simp; omega
  have n5 : (a0 == 5) = false := by simp; omega
  have n6 : (a0 == 6) = false := by simp; omega
  have n10 : (a0 == 10) = false := by simp; omega
  have g7 : (7 : Int) ≤ a0 := by omega
  have g9 : ¬ a0 ≤ 9 := by omega
  have g11 : (11 : Int) ≤ a0 := by omega
  have g26 : a0 ≤ 26 := by omega
  obtain ⟨R, hR⟩ : ∃ R, ((!((a8n : Int) != 2)) && ((a4.toList == []) && ((a5.toList == []) && (((a1 == 0) && ((a2 == 0) && (a3 == 0))) && ((a6 == 0) && (a7 == 0)))))) = R := ⟨_, rfl⟩
  rw [hR]
  by_cases q1 : ((a8n : Int) != 2) = true
  case neg =>
    have q1 : ((a8n : Int) != 2) = false := by simpa using q1
    by_cases q2 : (a4.toList == []) = true
    case neg =>
      have q2 : (a4.toList == []) = false := by simpa using q2
      have q2x : ¬ a4.toList = [] := by simpa using q2
      have q2y : (a4.toList != []) = true := by simpa using q2
      have hF := Lib.hid (show (false) = R by first | exact hR | (rw [← hR]; simp [q1, q2]))
      clear hR
      go_enter Tryz.func96, Tryz.ntmps96
      go_wp2_with fail
      go_ret
      exact ⟨congrArg (fun z => Ending.returned (Value.bool z)) hF.out, by first | exact alloc1_plus _ _ | exact alloc2_plus _ _ _⟩
    case pos =>
      have q2x : a4.toList = [] := by simpa using q2
      have q2y : (a4.toList != []) = false := by simpa using q2
      by_cases q3 : (a5.toList == []) = true
      case neg =>
        have q3 : (a5.toList == []) = false := by simpa using q3
        have q3x : ¬ a5.toList = [] := by simpa using q3
        have q3y : (a5.toList != []) = true := by simpa using q3
        have hF := Lib.hid (show (false) = R by first | exact hR | (rw [← hR]; simp [q1, q2, q3]))
        clear hR
        go_enter Tryz.func96, Tryz.ntmps96
        go_wp2_with fail
        go_ret
        exact ⟨congrArg (fun z => Ending.returned (Value.bool z)) hF.out, by first | exact alloc1_plus _ _ | exact alloc2_plus _ _ _⟩
      case pos =>
        have q3x : a5.toList = [] := by simpa using q3
        have q3y : (a5.toList != []) = false := by simpa using q3
        by_cases q4 : (a1 == 0) = true
        case neg =>
          have q4 : (a1 == 0) = false := by simpa using q4
          have hF := Lib.hid (show (false) = R by first | exact hR | (rw [← hR]; simp [q1, q2, q3, q4]))
          clear hR
          go_enter Tryz.func96, Tryz.ntmps96
          go_wp2_with fail
          go_ret
          exact ⟨congrArg (fun z => Ending.returned (Value.bool z)) hF.out, by first | exact alloc1_plus _ _ | exact alloc2_plus _ _ _⟩
        case pos =>
          by_cases q5 : (a2 == 0) = true
          case neg =>
            have q5 : (a2 == 0) = false := by simpa using q5
            have hF := Lib.hid (show (false) = R by first | exact hR | (rw [← hR]; simp [q1, q2, q3, q4, q5]))
            clear hR
            go_enter Tryz.func96, Tryz.ntmps96
            go_wp2_with fail
            go_ret
            exact ⟨congrArg (fun z => Ending.returned (Value.bool z)) hF.out, by first | exact alloc1_plus _ _ | exact alloc2_plus _ _ _⟩
          case pos =>
            by_cases q6 : (a3 == 0) = true
            case neg =>
              have q6 : (a3 == 0) = false := by simpa using q6
              have hF := Lib.hid (show (false) = R by first | exact hR | (rw [← hR]; simp [q1, q2, q3, q4, q5, q6]))
              clear hR
              go_enter Tryz.func96, Tryz.ntmps96
              go_wp2_with fail
              go_ret
              exact ⟨congrArg (fun z => Ending.returned (Value.bool z)) hF.out, by first | exact alloc1_plus _ _ | exact alloc2_plus _ _ _⟩
            case pos =>
              by_cases q7 : (a6 == 0) = true
              case neg =>
                have q7 : (a6 == 0) = false := by simpa using q7
                have hF := Lib.hid (show (false) = R by first | exact hR | (rw [← hR]; simp [q1, q2, q3, q4, q5, q6, q7]))
                clear hR
                go_enter Tryz.func96, Tryz.ntmps96
                go_wp2_with fail
                go_ret
                exact ⟨congrArg (fun z => Ending.returned (Value.bool z)) hF.out, by first | exact alloc1_plus _ _ | exact alloc2_plus _ _ _⟩
              case pos =>
                by_cases q8 : (a7 == 0) = true
                case neg =>
                  have q8 : (a7 == 0) = false := by simpa using q8
                  have hF := Lib.hid (show (false) = R by first | exact hR | (rw [← hR]; simp [q1, q2, q3, q4, q5, q6, q7, q8]))
                  clear hR
                  go_enter Tryz.func96, Tryz.ntmps96
                  go_wp2_with fail
                  go_ret
                  exact ⟨congrArg (fun z => Ending.returned (Value.bool z)) hF.out, by first | exact alloc1_plus _ _ | exact alloc2_plus _ _ _⟩
                case pos =>
                  have hF := Lib.hid (show (true) = R by first | exact hR | (rw [← hR]; simp [q1, q2, q3, q4, q5, q6, q7, q8]))
                  clear hR
                  go_enter Tryz.func96, Tryz.ntmps96
                  go_wp2_with fail
                  go_ret
                  exact ⟨congrArg (fun z => Ending.returned (Value.bool z)) hF.out, by first | exact alloc1_plus _ _ | exact alloc2_plus _ _ _⟩
  case pos =>
    have hF := Lib.hid (show (false) = R by first | exact hR | (rw [← hR]; simp [q1]))
    clear hR
    go_enter Tryz.func96, Tryz.ntmps96
    go_wp2_with fail
    go_ret
    exact ⟨congrArg (fun z => Ending.returned (Value.bool z)) hF.out, by first | exact alloc1_plus _ _ | exact alloc2_plus _ _ _⟩
set_option maxRecDepth 100000 in
set_option maxHeartbeats 8000000 in
theorem one_0 (a1 : Int) (a2 : Int) (a3 : Int) (a4 : ByteArray) (a5 : ByteArray) (a6 : Int) (a7 : Int) (a8p : Option Addr) (a8n : Nat) (a8c : Nat) (w : World) :
    Kp Tryz.prog w 96 #[.agg #[.int .u8 0, .int .i64 a1, .int .u64 a2, .int .u64 a3, .string a4, .string a5, .int .i64 a6, .int .i64 a7, .slice a8p a8n a8c]] (.bool (false)) := by
  intro y0
  obtain ⟨V, hV⟩ : ∃ V, plus w y0 = V := ⟨_, rfl⟩
  rw [hV] at ⊢
  clear hV
  obtain ⟨R, hR⟩ : ∃ R, (false) = R := ⟨_, rfl⟩
  rw [hR]
  have hF := Lib.hid (show (false) = R by first | exact hR | (rw [← hR]; simp))
  clear hR
  go_enter Tryz.func96, Tryz.ntmps96
  go_wp2_with fail
  go_ret
  exact ⟨congrArg (fun z => Ending.returned (Value.bool z)) hF.out, alloc1_plus _ _⟩
set_option maxRecDepth 100000 in
set_option maxHeartbeats 8000000 in
theorem one_27 (a0 : Int) (a1 : Int) (a2 : Int) (a3 : Int) (a4 : ByteArray) (a5 : ByteArray) (a6 : Int) (a7 : Int) (a8p : Option Addr) (a8n : Nat) (a8c : Nat) (w : World) (hk : 26 < a0) :
    Kp Tryz.prog w 96 #[.agg #[.int .u8 a0, .int .i64 a1, .int .u64 a2, .int .u64 a3, .string a4, .string a5, .int .i64 a6, .int .i64 a7, .slice a8p a8n a8c]] (.bool (false)) := by
  intro y0
  obtain ⟨V, hV⟩ : ∃ V, plus w y0 = V := ⟨_, rfl⟩
  rw [hV] at ⊢
  clear hV
  have n1 : (a0 == 1) = false := by simp; omega
  have n2 : (a0 == 2) = false := by simp; omega
  have n3 : (a0 == 3) = false := by simp; omega
  have n4 : (a0 == 4) = false := by simp; omega
  have n5 : (a0 == 5) = false := by simp; omega
  have n6 : (a0 == 6) = false := by simp; omega
  have n10 : (a0 == 10) = false := by simp; omega
  have g7 : (7 : Int) ≤ a0 := by omega
  have g9 : ¬ a0 ≤ 9 := by omega
  have g11 : (11 : Int) ≤ a0 := by omega
  have g26 : ¬ a0 ≤ 26 := by omega
  obtain ⟨R, hR⟩ : ∃ R, (false) = R := ⟨_, rfl⟩
  rw [hR]
  have hF := Lib.hid (show (false) = R by first | exact hR | (rw [← hR]; simp))
  clear hR
  go_enter Tryz.func96, Tryz.ntmps96
  go_wp2_with fail
  go_ret
  exact ⟨congrArg (fun z => Ending.returned (Value.bool z)) hF.out, alloc1_plus _ _⟩
end Go.Proofs.YtddpmfilkhegmaaGreat
