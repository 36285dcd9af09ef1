/-
  WHAT IS PROVED HERE: what the document's one of layer 4 hands back, by what its callees hand back: a theorem for each kind. Written by gen/hc.py.
-/
import Derived.Test.YtddpmfilkhegmaaGreatRows
import Derived.Test.YtddpmfilkhegmaaGreatFG
import Derived.WalkKit
import Derived.Lib.Hide
import Derived.WalkSpells
import Derived.WalkLawsBesides
import Derived.Laws.EntriesVeiled
import Derived.Shelf.Abstract
namespace Go.Proofs.YtddpmfilkhegmaaGreat
open Go.RowKit
set_option maxRecDepth 100000 in
set_option maxHeartbeats 8000000 in
theorem one_7 (a1 : Int) (a2 : Int) (a3 : Int) (a4 : ByteArray) (a5 : ByteArray) (a6 : Int) (a7 : Int) (a8p : Option Addr) (a8n : Nat) (a8c : Nat)  (w : World) :
    Kp Tryz.prog w 96 #[.agg #[.int .u8 7, .int .i64 a1, .int .u64 a2, .int .u64 a3, .string a4, .string a5, .int .i64 a6, .int .i64 a7, .slice a8p a8n a8c]] (.bool ((!((a8n : Int) != 1)) && ((a4.toList == []) && ((a5.toList == []) && (((a1 == 0) && ((a2 == 0) && (a3 == 0))) && ((a6 == 0) && (a7 == 0))))))) := by
  intro y0
  obtain ⟨V, hV⟩ : ∃ V, plus w y0 = V := ⟨_, rfl⟩
  rw [hV] at ⊢
  clear hV
  obtain ⟨R, hR⟩ : ∃ R, ((!((a8n : Int) != 1)) && ((a4.toList == []) && ((a5.toList == []) && (((a1 == 0) && ((a2 == 0) && (a3 == 0))) && ((a6 == 0) && (a7 == 0)))))) = R := ⟨_, rfl⟩
  rw [hR]
  by_cases q1 : ((a8n : Int) != 1) = true
  case neg =>
    have q1 : ((a8n : Int) != 1) = false := by simpa using q1
    by_cases q2 : (a4.toList == []) = true
    case neg =>
      have q2 : (a4.toList == []) = false := by simpa using q2
      have q2x : ¬ a4.toList = [] := by simpa using q2
      have q2y : (a4.toList != []) = true := by simpa using q2
      have hF := Lib.hid (show (false) = R by first | exact hR | (rw [← hR]; simp [q1, q2]))
      clear hR
      go_enter Tryz.func96, Tryz.ntmps96
      go_wp2_with fail
      go_ret
      exact ⟨congrArg (fun z => Ending.returned (Value.bool z)) hF.out, by first | exact alloc1_plus _ _ | exact alloc2_plus _ _ _⟩
    case pos =>
      have q2x : a4.toList = [] := by simpa using q2
      have q2y : (a4.toList != []) = false := by simpa using q2
      by_cases q3 : (a5.toList == []) = true
      case neg =>
        have q3 : (a5.toList == []) = false := by simpa using q3
        have q3x : ¬ a5.toList = [] := by simpa using q3
        have q3y : (a5.toList != []) = true := by simpa using q3
        have hF := Lib.hid (show (false) = R by first | exact hR | (rw [← hR]; simp [q1, q2, q3]))
        clear hR
        go_enter Tryz.func96, Tryz.ntmps96
        go_wp2_with fail
        go_ret
        exact ⟨congrArg (fun z => Ending.returned (Value.bool z)) hF.out, by first | exact alloc1_plus _ _ | exact alloc2_plus _ _ _⟩
      case pos =>
        have q3x : a5.toList = [] := by simpa using q3
        have q3y : (a5.toList != []) = false := by simpa using q3
        by_cases q4 : (a1 == 0) = true
        case neg =>
          have q4 : (a1 == 0) = false := by simpa using q4
          have hF := Lib.hid (show (false) = R by first | exact hR | (rw [← hR]; simp [q1, q2, q3, q4]))
          clear hR
          go_enter Tryz.func96, Tryz.ntmps96
          go_wp2_with fail
          go_ret
          exact ⟨congrArg (fun z => Ending.returned (Value.bool z)) hF.out, by first | exact alloc1_plus _ _ | exact alloc2_plus _ _ _⟩
        case pos =>
          by_cases q5 : (a2 == 0) = true
          case neg =>
            have q5 : (a2 == 0) = false := by simpa using q5
            have hF := Lib.hid (show (false) = R by first | exact hR | (rw [← hR]; simp [q1, q2, q3, q4, q5]))
            clear hR
            go_enter Tryz.func96, Tryz.ntmps96
            go_wp2_with fail
            go_ret
            exact ⟨congrArg (fun z => Ending.returned (Value.bool z)) hF.out, by first | exact alloc1_plus _ _ | exact alloc2_plus _ _ _⟩
          case pos =>
            by_cases q6 : (a3 == 0) = true
            case neg =>
              have q6 : (a3 == 0) = false := by simpa using q6
              have hF := Lib.hid (show (false) = R by first | exact hR | (rw [← hR]; simp [q1, q2, q3, q4, q5, q6]))
              clear hR
              go_enter Tryz.func96, Tryz.ntmps96
              go_wp2_with fail
              go_ret
              exact ⟨congrArg (fun z => Ending.returned (Value.bool z)) hF.out, by first | exact alloc1_plus _ _ | exact alloc2_plus _ _ _⟩
            case pos =>
              by_cases q7 : (a6 == 0) = true
              case neg =>
                have q7 : (a6 == 0) = false := by simpa using q7
                have hF := Lib.hid (show (false) = R by first | exact hR | (rw [← hR]; simp [q1, q2, q3, q4, q5, q6, q7]))
                clear hR
                go_enter Tryz.func96, Tryz.ntmps96
                go_wp2_with fail
                go_ret
                exact ⟨congrArg (fun z => Ending.returned (Value.bool z)) hF.out, by first | exact alloc1_plus _ _ | exact alloc2_plus _ _ _⟩
              case pos =>
                by_cases q8 : (a7 == 0) = true
                case neg =>
                  have q8 : (a7 == 0) = false := by simpa using q8
                  have hF := Lib.hid (show (false) = R by first | exact hR | (rw [← hR]; simp [q1, q2, q3, q4, q5, q6, q7, q8]))
                  clear hR
                  go_enter Tryz.func96, Tryz.ntmps96
                  go_wp2_with fail
                  go_ret
                  exact ⟨congrArg (fun z => Ending.returned (Value.bool z)) hF.out, by first | exact alloc1_plus _ _ | exact alloc2_plus _ _ _⟩
                case pos =>
                  have hF := Lib.hid (show (true) = R by first | exact hR | (rw [← hR]; simp [q1, q2, q3, q4, q5, q6, q7, q8]))
                  clear hR
                  go_enter Tryz.func96, Tryz.ntmps96
                  go_wp2_with fail
                  go_ret
                  exact ⟨congrArg (fun z => Ending.returned (Value.bool z)) hF.out, by first | exact alloc1_plus _ _ | exact alloc2_plus _ _ _⟩
  case pos =>
    have hF := Lib.hid (show (false) = R by first | exact hR | (rw [← hR]; simp [q1]))
    clear hR
    go_enter Tryz.func96, Tryz.ntmps96
    go_wp2_with fail
    go_ret
    exact ⟨congrArg (fun z => Ending.returned (Value.bool z)) hF.out, by first | exact alloc1_plus _ _ | exact alloc2_plus _ _ _⟩
set_option maxRecDepth 100000 in
set_option maxHeartbeats 8000000 in
theorem one_8 (a1 : Int) (a2 : Int) (a3 : Int) (a4 : ByteArray) (a5 : ByteArray) (a6 : Int) (a7 : Int) (a8p : Option Addr) (a8n : Nat) (a8c : Nat)  (w : World) :
    Kp Tryz.prog w 96 #[.agg #[.int .u8 8, .int .i64 a1, .int .u64 a2, .int .u64 a3, .string a4, .string a5, .int .i64 a6, .int .i64 a7, .slice a8p a8n a8c]] (.bool ((!((a8n : Int) != 1)) && ((a4.toList == []) && ((a5.toList == []) && (((a1 == 0) && ((a2 == 0) && (a3 == 0))) && ((a6 == 0) && (a7 == 0))))))) := by
  intro y0
  obtain ⟨V, hV⟩ : ∃ V, plus w y0 = V := ⟨_, rfl⟩
  rw [hV] at ⊢
  clear hV
  obtain ⟨R, hR⟩ : ∃ R, ((!((a8n : Int) != 1)) && ((a4.toList == []) && ((a5.toList == []) && (((a1 == 0) && ((a2 == 0) && (a3 == 0))) && ((a6 == 0) && (a7 == 0)))))) = R := ⟨_, rfl⟩
  rw [hR]
  by_cases q1 : ((a8n : Int) != 1) = true
  case neg =>
    have q1 : ((a8n : Int) != 1) = false := by simpa using q1
    by_cases q2 : (a4.toList == []) = true
    case neg =>
      have q2 : (a4.toList == []) = false := by simpa using q2
      have q2x : ¬ a4.toList = [] := by simpa using q2
      have q2y : (a4.toList != []) = true := by simpa using q2
      have hF := Lib.hid (show (false) = R by first | exact hR | (rw [← hR]; simp [q1, q2]))
      clear hR
      go_enter Tryz.func96, Tryz.ntmps96
      go_wp2_with fail
      go_ret
      exact ⟨congrArg (fun z => Ending.returned (Value.bool z)) hF.out, by first | exact alloc1_plus _ _ | exact alloc2_plus _ _ _⟩
    case pos =>
      have q2x : a4.toList = [] := by simpa using q2
      have q2y : (a4.toList != []) = false := by simpa using q2
      by_cases q3 : (a5.toList == []) = true
      case neg =>
        have q3 : (a5.toList == []) = false := by simpa using q3
        have q3x : ¬ a5.toList = [] := by simpa using q3
        have q3y : (a5.toList != []) = true := by simpa using q3
        have hF := Lib.hid (show (false) = R by first | exact hR | (rw [← hR]; simp [q1, q2, q3]))
        clear hR
        go_enter Tryz.func96, Tryz.ntmps96
        go_wp2_with fail
        go_ret
        exact ⟨congrArg (fun z => Ending.returned (Value.bool z)) hF.out, by first | exact alloc1_plus _ _ | exact alloc2_plus _ _ _⟩
      case pos =>
        have q3x : a5.toList = [] := by simpa using q3
        have q3y : (a5.toList != []) = false := by simpa using q3
        by_cases q4 : (a1 == 0) = true
        case neg =>
          have q4 : (a1 == 0) = false := by simpa using q4
          have hF := Lib.hid (show (false) = R by first | exact hR | (rw [← hR]; simp [q1, q2, q3, q4]))
          clear hR
          go_enter Tryz.func96, Tryz.ntmps96
          go_wp2_with fail
          go_ret
          exact ⟨congrArg (fun z => Ending.returned (Value.bool z)) hF.out, by first | exact alloc1_plus _ _ | exact alloc2_plus _ _ _⟩
        case pos =>
          by_cases q5 : (a2 == 0) = true
          case neg =>
            have q5 : (a2 == 0) = false := by simpa using q5
            have hF := Lib.hid (show (false) = R by first | exact hR | (rw [← hR]; simp [q1, q2, q3, q4, q5]))
            clear hR
            go_enter Tryz.func96, Tryz.ntmps96
            go_wp2_with fail
            go_ret
            exact ⟨congrArg (fun z => Ending.returned (Value.bool z)) hF.out, by first | exact alloc1_plus _ _ | exact alloc2_plus _ _ _⟩
          case pos =>
            by_cases q6 : (a3 == 0) = true
            case neg =>
              have q6 : (a3 == 0) = false := by simpa using q6
              have hF := Lib.hid (show (false) = R by first | exact hR | (rw [← hR]; simp [q1, q2, q3, q4, q5, q6]))
              clear hR
              go_enter Tryz.func96, Tryz.ntmps96
              go_wp2_with fail
              go_ret
              exact ⟨congrArg (fun z => Ending.returned (Value.bool z)) hF.out, by first | exact alloc1_plus _ _ | exact alloc2_plus _ _ _⟩
            case pos =>
              by_cases q7 : (a6 == 0) = true
              case neg =>
                have q7 : (a6 == 0) = false := by simpa using q7
                have hF := Lib.hid (show (false) = R by first | exact hR | (rw [← hR]; simp [q1, q2, q3, q4, q5, q6, q7]))
                clear hR
                go_enter Tryz.func96, Tryz.ntmps96
                go_wp2_with fail
                go_ret
                exact ⟨congrArg (fun z => Ending.returned (Value.bool z)) hF.out, by first | exact alloc1_plus _ _ | exact alloc2_plus _ _ _⟩
              case pos =>
                by_cases q8 : (a7 == 0) = true
                case neg =>
                  have q8 : (a7 == 0) = false := by simpa using q8
                  have hF := Lib.hid (show (false) = R by first | exact hR | (rw [← hR]; simp [q1, q2, q3, q4, q5, q6, q7, q8]))
                  clear hR
                  go_enter Tryz.func96, Tryz.ntmps96
                  go_wp2_with fail
                  go_ret
                  exact ⟨congrArg (fun z => Ending.returned (Value.bool z)) hF.out, by first | exact alloc1_plus _ _ | exact alloc2_plus _ _ _⟩
                case pos =>
                  have hF := Lib.hid (show (true) = R by first | exact hR | (rw [← hR]; simp [q1, q2, q3, q4, q5, q6, q7, q8]))
                  clear hR
                  go_enter Tryz.func96, Tryz.ntmps96
                  go_wp2_with fail
                  go_ret
                  exact ⟨congrArg (fun z => Ending.returned (Value.bool z)) hF.out, by first | exact alloc1_plus _ _ | exact alloc2_plus _ _ _⟩
  case pos =>
    have hF := Lib.hid (show (false) = R by first | exact hR | (rw [← hR]; simp [q1]))
    clear hR
    go_enter Tryz.func96, Tryz.ntmps96
    go_wp2_with fail
    go_ret
    exact ⟨congrArg (fun z => Ending.returned (Value.bool z)) hF.out, by first | exact alloc1_plus _ _ | exact alloc2_plus _ _ _⟩
set_option maxRecDepth 100000 in
set_option maxHeartbeats 8000000 in
theorem one_9 (a1 : Int) (a2 : Int) (a3 : Int) (a4 : ByteArray) (a5 : ByteArray) (a6 : Int) (a7 : Int) (a8p : Option Addr) (a8n : Nat) (a8c : Nat)  (w : World) :
    Kp Tryz.prog w 96 #[.agg #[.int .u8 9, .int .i64 a1, .int .u64 a2, .int .u64 a3, .string a4, .string a5, .int .i64 a6, .int .i64 a7, .slice a8p a8n a8c]] (.bool ((!((a8n : Int) != 1)) && ((a4.toList == []) && ((a5.toList == []) && (((a1 == 0) && ((a2 == 0) && (a3 == 0))) && ((a6 == 0) && (a7 == 0))))))) := by
  intro y0
  obtain ⟨V, hV⟩ : ∃ V, plus w y0 = V := ⟨_, rfl⟩
  rw [hV] at ⊢
  clear hV
  obtain ⟨R, hR⟩ : ∃ R, ((!((a8n : Int) != 1)) && ((a4.toList == []) && ((a5.toList == []) && (((a1 == 0) && ((a2 == 0) && (a3 == 0))) && ((a6 == 0) && (a7 == 0)))))) = R := ⟨_, rfl⟩
  rw [hR]
  by_cases q1 : ((a8n : Int) != 1) = true
  case neg =>
    have q1 : ((a8n : Int) != 1) = false := by simpa using q1
    by_cases q2 : (a4.toList == []) = true
    case neg =>
      have q2 : (a4.toList == []) = false := by simpa using q2
      have q2x : ¬ a4.toList = [] := by simpa using q2
      have q2y : (a4.toList != []) = true := by simpa using q2
      have hF := Lib.hid (show (false) = R by first | exact hR | (rw [← hR]; simp [q1, q2]))
      clear hR
      go_enter Tryz.func96, Tryz.ntmps96
      go_wp2_with fail
      go_ret
      exact ⟨congrArg (fun z => Ending.returned (Value.bool z)) hF.out, by first | exact alloc1_plus _ _ | exact alloc2_plus _ _ _⟩
    case pos =>
      have q2x : a4.toList = [] := by simpa using q2
      have q2y : (a4.toList != []) = false := by simpa using q2
      by_cases q3 : (a5.toList == []) = true
      case neg =>
        have q3 : (a5.toList == []) = false := by simpa using q3
        have q3x : ¬ a5.toList = [] := by simpa using q3
        have q3y : (a5.toList != []) = true := by simpa using q3
        have hF := Lib.hid (show (false) = R by first | exact hR | (rw [← hR]; simp [q1, q2, q3]))
        clear hR
        go_enter Tryz.func96, Tryz.ntmps96
        go_wp2_with fail
        go_ret
        exact ⟨congrArg (fun z => Ending.returned (Value.bool z)) hF.out, by first | exact alloc1_plus _ _ | exact alloc2_plus _ _ _⟩
      case pos =>
        have q3x : a5.toList = [] := by simpa using q3
        have q3y : (a5.toList != []) = false := by simpa using q3
        by_cases q4 : (a1 == 0) = true
        case neg =>
          have q4 : (a1 == 0) = false := by simpa using q4
          have hF := Lib.hid (show (false) = R by first | exact hR | (rw [← hR]; simp [q1, q2, q3, q4]))
          clear hR
          go_enter Tryz.func96, Tryz.ntmps96
          go_wp2_with fail
          go_ret
          exact ⟨congrArg (fun z => Ending.returned (Value.bool z)) hF.out, by first | exact alloc1_plus _ _ | exact alloc2_plus _ _ _⟩
        case pos =>
          by_cases q5 : (a2 == 0) = true
          case neg =>
            have q5 : (a2 == 0) = false := by simpa using q5
            have hF := Lib.hid (show (false) = R by first | exact hR | (rw [← hR]; simp [q1, q2, q3, q4, q5]))
            clear hR
            go_enter Tryz.func96, Tryz.ntmps96
            go_wp2_with fail
            go_ret
            exact ⟨congrArg (fun z => Ending.returned (Value.bool z)) hF.out, by first | exact alloc1_plus _ _ | exact alloc2_plus _ _ _⟩
          case pos =>
            by_cases q6 : (a3 == 0) = true
            case neg =>
              have q6 : (a3 == 0) = false := by simpa using q6
              have hF := Lib.hid (show (false) = R by first | exact hR | (rw [← hR]; simp [q1, q2, q3, q4, q5, q6]))
              clear hR
              go_enter Tryz.func96, Tryz.ntmps96
              go_wp2_with fail
              go_ret
              exact ⟨congrArg (fun z => Ending.returned (Value.bool z)) hF.out, by first | exact alloc1_plus _ _ | exact alloc2_plus _ _ _⟩
            case pos =>
              by_cases q7 : (a6 == 0) = true
              case neg =>
                have q7 : (a6 == 0) = false := by simpa using q7
                have hF := Lib.hid (show (false) = R by first | exact hR | (rw [← hR]; simp [q1, q2, q3, q4, q5, q6, q7]))
                clear hR
                go_enter Tryz.func96, Tryz.ntmps96
                go_wp2_with fail
                go_ret
                exact ⟨congrArg (fun z => Ending.returned (Value.bool z)) hF.out, by first | exact alloc1_plus _ _ | exact alloc2_plus _ _ _⟩
              case pos =>
                by_cases q8 : (a7 == 0) = true
                case neg =>
                  have q8 : (a7 == 0) = false := by simpa using q8
                  have hF := Lib.hid (show (false) = R by first | exact hR | (rw [← hR]; simp [q1, q2, q3, q4, q5, q6, q7, q8]))
                  clear hR
                  go_enter Tryz.func96, Tryz.ntmps96
                  go_wp2_with fail
                  go_ret
                  exact ⟨congrArg (fun z => Ending.returned (Value.bool z)) hF.out, by first | exact alloc1_plus _ _ | exact alloc2_plus _ _ _⟩
                case pos =>
                  have hF := Lib.hid (show (true) = R by first | exact hR | (rw [← hR]; simp [q1, q2, q3, q4, q5, q6, q7, q8]))
                  clear hR
                  go_enter Tryz.func96, Tryz.ntmps96
                  go_wp2_with fail
                  go_ret
                  exact ⟨congrArg (fun z => Ending.returned (Value.bool z)) hF.out, by first | exact alloc1_plus _ _ | exact alloc2_plus _ _ _⟩
  case pos =>
    have hF := Lib.hid (show (false) = R by first | exact hR | (rw [← hR]; simp [q1]))
    clear hR
    go_enter Tryz.func96, Tryz.ntmps96
    go_wp2_with fail
    go_ret
    exact ⟨congrArg (fun z => Ending.returned (Value.bool z)) hF.out, by first | exact alloc1_plus _ _ | exact alloc2_plus _ _ _⟩
set_option maxRecDepth 100000 in
set_option maxHeartbeats 8000000 in
theorem one_10 (a1 : Int) (a2 : Int) (a3 : Int) (a4 : ByteArray) (a5 : ByteArray) (a6 : Int) (a7 : Int) (a8p : Option Addr) (a8n : Nat) (a8c : Nat)  (w : World) :
    Kp Tryz.prog w 96 #[.agg #[.int .u8 10, .int .i64 a1, .int .u64 a2, .int .u64 a3, .string a4, .string a5, .int .i64 a6, .int .i64 a7, .slice a8p a8n a8c]] (.bool ((!((a8n : Int) != 1)) && ((a4.toList == []) && ((a5.toList == []) && (((a1 == 0) && ((a2 == 0) && (a3 == 0))) && (decide (0 ≤ a7) && (decide (a7 ≤ a6) && decide (a6 ≤ 127)))))))) := by
  intro y0
  obtain ⟨V, hV⟩ : ∃ V, plus w y0 = V := ⟨_, rfl⟩
  rw [hV] at ⊢
  clear hV
  obtain ⟨R, hR⟩ : ∃ R, ((!((a8n : Int) != 1)) && ((a4.toList == []) && ((a5.toList == []) && (((a1 == 0) && ((a2 == 0) && (a3 == 0))) && (decide (0 ≤ a7) && (decide (a7 ≤ a6) && decide (a6 ≤ 127))))))) = R := ⟨_, rfl⟩
  rw [hR]
  by_cases q1 : ((a8n : Int) != 1) = true
  case neg =>
    have q1 : ((a8n : Int) != 1) = false := by simpa using q1
    by_cases q2 : (a4.toList == []) = true
    case neg =>
      have q2 : (a4.toList == []) = false := by simpa using q2
      have q2x : ¬ a4.toList = [] := by simpa using q2
      have q2y : (a4.toList != []) = true := by simpa using q2
      have hF := Lib.hid (show (false) = R by first | exact hR | (rw [← hR]; simp [q1, q2]))
      clear hR
      go_enter Tryz.func96, Tryz.ntmps96
      go_wp2_with fail
      go_ret
      exact ⟨congrArg (fun z => Ending.returned (Value.bool z)) hF.out, by first | exact alloc1_plus _ _ | exact alloc2_plus _ _ _⟩
    case pos =>
      have q2x : a4.toList = [] := by simpa using q2
      have q2y : (a4.toList != []) = false := by simpa using q2
      by_cases q3 : (a5.toList == []) = true
      case neg =>
        have q3 : (a5.toList == []) = false := by simpa using q3
        have q3x : ¬ a5.toList = [] := by simpa using q3
        have q3y : (a5.toList != []) = true := by simpa using q3
        have hF := Lib.hid (show (false) = R by first | exact hR | (rw [← hR]; simp [q1, q2, q3]))
        clear hR
        go_enter Tryz.func96, Tryz.ntmps96
        go_wp2_with fail
        go_ret
        exact ⟨congrArg (fun z => Ending.returned (Value.bool z)) hF.out, by first | exact alloc1_plus _ _ | exact alloc2_plus _ _ _⟩
      case pos =>
        have q3x : a5.toList = [] := by simpa using q3
        have q3y : (a5.toList != []) = false := by simpa using q3
        by_cases q4 : (a1 == 0) = true
        case neg =>
          have q4 : (a1 == 0) = false := by simpa using q4
          have hF := Lib.hid (show (false) = R by first | exact hR | (rw [← hR]; simp [q1, q2, q3, q4]))
          clear hR
          go_enter Tryz.func96, Tryz.ntmps96
          go_wp2_with fail
          go_ret
          exact ⟨congrArg (fun z => Ending.returned (Value.bool z)) hF.out, by first | exact alloc1_plus _ _ | exact alloc2_plus _ _ _⟩
        case pos =>
          by_cases q5 : (a2 == 0) = true
          case neg =>
            have q5 : (a2 == 0) = false := by simpa using q5
            have hF := Lib.hid (show (false) = R by first | exact hR | (rw [← hR]; simp [q1, q2, q3, q4, q5]))
            clear hR
            go_enter Tryz.func96, Tryz.ntmps96
            go_wp2_with fail
            go_ret
            exact ⟨congrArg (fun z => Ending.returned (Value.bool z)) hF.out, by first | exact alloc1_plus _ _ | exact alloc2_plus _ _ _⟩
          case pos =>
            by_cases q6 : (a3 == 0) = true
            case neg =>
              have q6 : (a3 == 0) = false := by simpa using q6
              have hF := Lib.hid (show (false) = R by first | exact hR | (rw [← hR]; simp [q1, q2, q3, q4, q5, q6]))
              clear hR
              go_enter Tryz.func96, Tryz.ntmps96
              go_wp2_with fail
              go_ret
              exact ⟨congrArg (fun z => Ending.returned (Value.bool z)) hF.out, by first | exact alloc1_plus _ _ | exact alloc2_plus _ _ _⟩
            case pos =>
              by_cases q7 : 0 ≤ a7
              case neg =>
                have hF := Lib.hid (show (false) = R by first | exact hR | (rw [← hR]; simp [q1, q2, q3, q4, q5, q6, q7]))
                clear hR
                go_enter Tryz.func96, Tryz.ntmps96
                go_wp2_with fail
                go_ret
                exact ⟨congrArg (fun z => Ending.returned (Value.bool z)) hF.out, by first | exact alloc1_plus _ _ | exact alloc2_plus _ _ _⟩
              case pos =>
                by_cases q8 : a7 ≤ a6
                case neg =>
                  have hF := Lib.hid (show (false) = R by first | exact hR | (rw [← hR]; simp [q1, q2, q3, q4, q5, q6, q7, q8]))
                  clear hR
                  go_enter Tryz.func96, Tryz.ntmps96
                  go_wp2_with fail
                  go_ret
                  exact ⟨congrArg (fun z => Ending.returned (Value.bool z)) hF.out, by first | exact alloc1_plus _ _ | exact alloc2_plus _ _ _⟩
                case pos =>
                  by_cases q9 : a6 ≤ 127
                  case neg =>
                    have hF := Lib.hid (show (false) = R by first | exact hR | (rw [← hR]; simp [q1, q2, q3, q4, q5, q6, q7, q8, q9]))
                    clear hR
                    go_enter Tryz.func96, Tryz.ntmps96
                    go_wp2_with fail
                    go_ret
                    exact ⟨congrArg (fun z => Ending.returned (Value.bool z)) hF.out, by first | exact alloc1_plus _ _ | exact alloc2_plus _ _ _⟩
                  case pos =>
                    have hF := Lib.hid (show (true) = R by first | exact hR | (rw [← hR]; simp [q1, q2, q3, q4, q5, q6, q7, q8, q9]))
                    clear hR
                    go_enter Tryz.func96, Tryz.ntmps96
                    go_wp2_with fail
                    go_ret
                    exact ⟨congrArg (fun z => Ending.returned (Value.bool z)) hF.out, by first | exact alloc1_plus _ _ | exact alloc2_plus _ _ _⟩
  case pos =>
    have hF := Lib.hid (show (false) = R by first | exact hR | (rw [← hR]; simp [q1]))
    clear hR
    go_enter Tryz.func96, Tryz.ntmps96
    go_wp2_with fail
    go_ret
    exact ⟨congrArg (fun z => Ending.returned (Value.bool z)) hF.out, by first | exact alloc1_plus _ _ | exact alloc2_plus _ _ _⟩
end Go.Proofs.YtddpmfilkhegmaaGreat
