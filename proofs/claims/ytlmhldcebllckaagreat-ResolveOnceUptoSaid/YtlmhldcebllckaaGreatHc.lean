/-
  WHAT IS PROVED HERE: what litFits, nameFits, sliceFits, isTarget, isWidth, mayLit, mayField, mayHeader, isAmount of the landed ast hand back. Written by gen/hc.py.
-/
import Derived.Test.YtlmhldcebllckaaGreatRows
import Derived.Test.YtlmhldcebllckaaGreatFG
import Derived.Test.YtlmhldcebllckaaGreatHa
import Derived.Test.YtlmhldcebllckaaGreatPN
import Derived.Test.YtlmhldcebllckaaGreatFf
import Derived.WalkKit
import Derived.Lib.Hide
import Derived.WalkSpells
import Derived.WalkLawsBesides
import Derived.Laws.EntriesVeiled
import Derived.Shelf.Abstract
namespace Go.Proofs.YtlmhldcebllckaaGreat
open Go.RowKit
def widthB (w : Int) : Bool := decide (1 ≤ w) && decide (w ≤ 128)
set_option maxRecDepth 100000 in
set_option maxHeartbeats 8000000 in
theorem ast_width (a : Int) (w : World) :
    Kp Tryz.prog w 91 #[.int .i64 a] (.bool (decide (1 ≤ a) && decide (a ≤ 128))) := by
  intro y0
  obtain ⟨V, hV⟩ : ∃ V, plus w y0 = V := ⟨_, rfl⟩
  rw [hV] at ⊢
  clear hV
  obtain ⟨R, hR⟩ : ∃ R, (decide (1 ≤ a) && decide (a ≤ 128)) = R := ⟨_, rfl⟩
  rw [hR]
  by_cases q1 : 1 ≤ a
  case neg =>
    have hF := Lib.hid (show (false) = R by first | exact hR | (rw [← hR]; simp [q1]))
    clear hR
    go_enter Tryz.func91, Tryz.ntmps91
    go_wp2_with fail
    go_ret
    exact ⟨congrArg (fun z => Ending.returned (Value.bool z)) hF.out, alloc0_plus _⟩
  case pos =>
    by_cases q2 : a ≤ 128
    case neg =>
      have hF := Lib.hid (show (false) = R by first | exact hR | (rw [← hR]; simp [q1, q2]))
      clear hR
      go_enter Tryz.func91, Tryz.ntmps91
      go_wp2_with fail
      go_ret
      exact ⟨congrArg (fun z => Ending.returned (Value.bool z)) hF.out, alloc0_plus _⟩
    case pos =>
      have hF := Lib.hid (show (true) = R by first | exact hR | (rw [← hR]; simp [q1, q2]))
      clear hR
      go_enter Tryz.func91, Tryz.ntmps91
      go_wp2_with fail
      go_ret
      exact ⟨congrArg (fun z => Ending.returned (Value.bool z)) hF.out, alloc0_plus _⟩
set_option maxRecDepth 100000 in
set_option maxHeartbeats 8000000 in
theorem lit_of (a0 : Int) (a1 : Int) (a2 : Int) (s0 s1 : Bool) (w : World)
    (h0 : Kp Tryz.prog w 91 #[.int .i64 a0] (.bool s0))
    (h1 : Kp Tryz.prog w 139 #[.agg #[.int .u64 a1, .int .u64 a2], .int .i64 a0] (.bool s1)) :
    Kp Tryz.prog w 96 #[.agg #[.int .i64 a0, .int .u64 a1, .int .u64 a2]] (.bool ((a0 == 0) || (s0 && s1))) := by
  intro y0
  have h0 := h0.up y0
  have h1 := h1.up y0
  obtain ⟨V, hV⟩ : ∃ V, plus w y0 = V := ⟨_, rfl⟩
  rw [hV] at h0 h1 ⊢
  clear hV
  obtain ⟨R, hR⟩ : ∃ R, ((a0 == 0) || (s0 && s1)) = R := ⟨_, rfl⟩
  rw [hR]
  by_cases q1 : (a0 == 0) = true
  case neg =>
    have q1 : (a0 == 0) = false := by simpa using q1
    cases s0
    case false =>
      have hF := Lib.hid (show (false) = R by first | exact hR | (rw [← hR]; simp [q1]))
      clear hR
      clear h1
      have h0 := Lib.hid h0
      go_enter Tryz.func96, Tryz.ntmps96
      go_wp2_with fail
      obtain ⟨W, yy, hW, ⟨z, hz⟩, cb0⟩ := box1n V _ 66
      rw [hW]
      have c0_0 := cb0 0 _ rfl
      have c0_1 := cb0 1 _ rfl
      have c0_2 := cb0 2 _ rfl
      have q0c := Lib.hid (kp_at hz h0.out)
      have hz' := Lib.hid hz
      clear hW hz cb0
      refine (q0c.out _).mono ?_
      rintro r w' ⟨rfl, x1, rfl⟩
      go_wp2_with fail
      go_ret
      exact ⟨congrArg (fun z => Ending.returned (Value.bool z)) hF.out, by rw [hz'.out, plus_plus]; exact ⟨_, rfl⟩⟩
    case true =>
      cases s1
      case false =>
        have hF := Lib.hid (show (false) = R by first | exact hR | (rw [← hR]; simp [q1]))
        clear hR
        have h0 := Lib.hid h0
        have h1 := Lib.hid h1
        go_enter Tryz.func96, Tryz.ntmps96
        go_wp2_with fail
        obtain ⟨W, yy, hW, ⟨z, hz⟩, cb0⟩ := box1n V _ 66
        rw [hW]
        have c0_0 := cb0 0 _ rfl
        have c0_1 := cb0 1 _ rfl
        have c0_2 := cb0 2 _ rfl
        have q0c := Lib.hid (kp_at hz h0.out)
        have q1c := Lib.hid (kp_at hz h1.out)
        have hz' := Lib.hid hz
        clear hW hz cb0
        refine (q0c.out _).mono ?_
        rintro r w' ⟨rfl, x1, rfl⟩
        go_wp2_with (first | (go_at_call 139; with_reducible refine (q1c.out _).mono ?_; rintro r w' ⟨rfl, x, rfl⟩))
        go_ret
        exact ⟨congrArg (fun z => Ending.returned (Value.bool z)) hF.out, by rw [hz'.out, plus_plus]; exact ⟨_, rfl⟩⟩
      case true =>
        have hF := Lib.hid (show (true) = R by first | exact hR | (rw [← hR]; simp [q1]))
        clear hR
        have h0 := Lib.hid h0
        have h1 := Lib.hid h1
        go_enter Tryz.func96, Tryz.ntmps96
        go_wp2_with fail
        obtain ⟨W, yy, hW, ⟨z, hz⟩, cb0⟩ := box1n V _ 66
        rw [hW]
        have c0_0 := cb0 0 _ rfl
        have c0_1 := cb0 1 _ rfl
        have c0_2 := cb0 2 _ rfl
        have q0c := Lib.hid (kp_at hz h0.out)
        have q1c := Lib.hid (kp_at hz h1.out)
        have hz' := Lib.hid hz
        clear hW hz cb0
        refine (q0c.out _).mono ?_
        rintro r w' ⟨rfl, x1, rfl⟩
        go_wp2_with (first | (go_at_call 139; with_reducible refine (q1c.out _).mono ?_; rintro r w' ⟨rfl, x, rfl⟩))
        go_ret
        exact ⟨congrArg (fun z => Ending.returned (Value.bool z)) hF.out, by rw [hz'.out, plus_plus]; exact ⟨_, rfl⟩⟩
  case pos =>
    have hF := Lib.hid (show (true) = R by first | exact hR | (rw [← hR]; simp [q1]))
    clear hR
    clear h0 h1
    go_enter Tryz.func96, Tryz.ntmps96
    go_wp2_with fail
    go_ret
    exact ⟨congrArg (fun z => Ending.returned (Value.bool z)) hF.out, alloc1_plus _ _⟩
set_option maxRecDepth 100000 in
set_option maxHeartbeats 8000000 in
theorem field_of (a0 : ByteArray) (a1 : Int) (s0 s1 : Bool) (w : World)
    (h0 : Kp Tryz.prog w 47 #[.string a0] (.bool s0))
    (h1 : Kp Tryz.prog w 91 #[.int .i64 a1] (.bool s1)) :
    Kp Tryz.prog w 38 #[.agg #[.string a0, .int .i64 a1]] (.bool (((s0) && (s1)))) := by
  intro y0
  have h0 := h0.up y0
  have h1 := h1.up y0
  obtain ⟨V, hV⟩ : ∃ V, plus w y0 = V := ⟨_, rfl⟩
  rw [hV] at h0 h1 ⊢
  clear hV
  obtain ⟨R, hR⟩ : ∃ R, (((s0) && (s1))) = R := ⟨_, rfl⟩
  rw [hR]
  cases s0
  case false =>
    have hF := Lib.hid (show (false) = R by first | exact hR | (rw [← hR]; simp))
    clear hR
    clear h1
    have h0 := Lib.hid h0
    go_enter Tryz.func38, Tryz.ntmps38
    go_wp2_with fail
    obtain ⟨W, yy, hW, ⟨z, hz⟩, cb0⟩ := box1n V _ 84
    rw [hW]
    have c0_0 := cb0 0 _ rfl
    have c0_1 := cb0 1 _ rfl
    have q0c := Lib.hid (kp_at hz h0.out)
    have hz' := Lib.hid hz
    clear hW hz cb0
    refine (q0c.out _).mono ?_
    rintro r w' ⟨rfl, x1, rfl⟩
    go_wp2_with fail
    go_ret
    exact ⟨congrArg (fun z => Ending.returned (Value.bool z)) hF.out, by rw [hz'.out, plus_plus]; exact ⟨_, rfl⟩⟩
  case true =>
    cases s1
    case false =>
      have hF := Lib.hid (show (false) = R by first | exact hR | (rw [← hR]; simp))
      clear hR
      have h0 := Lib.hid h0
      have h1 := Lib.hid h1
      go_enter Tryz.func38, Tryz.ntmps38
      go_wp2_with fail
      obtain ⟨W, yy, hW, ⟨z, hz⟩, cb0⟩ := box1n V _ 84
      rw [hW]
      have c0_0 := cb0 0 _ rfl
      have c0_1 := cb0 1 _ rfl
      have q0c := Lib.hid (kp_at hz h0.out)
      have q1c := Lib.hid (kp_at hz h1.out)
      have hz' := Lib.hid hz
      clear hW hz cb0
      refine (q0c.out _).mono ?_
      rintro r w' ⟨rfl, x1, rfl⟩
      go_wp2_with (first | (go_at_call 91; with_reducible refine (q1c.out _).mono ?_; rintro r w' ⟨rfl, x, rfl⟩))
      go_ret
      exact ⟨congrArg (fun z => Ending.returned (Value.bool z)) hF.out, by rw [hz'.out, plus_plus]; exact ⟨_, rfl⟩⟩
    case true =>
      have hF := Lib.hid (show (true) = R by first | exact hR | (rw [← hR]; simp))
      clear hR
      have h0 := Lib.hid h0
      have h1 := Lib.hid h1
      go_enter Tryz.func38, Tryz.ntmps38
      go_wp2_with fail
      obtain ⟨W, yy, hW, ⟨z, hz⟩, cb0⟩ := box1n V _ 84
      rw [hW]
      have c0_0 := cb0 0 _ rfl
      have c0_1 := cb0 1 _ rfl
      have q0c := Lib.hid (kp_at hz h0.out)
      have q1c := Lib.hid (kp_at hz h1.out)
      have hz' := Lib.hid hz
      clear hW hz cb0
      refine (q0c.out _).mono ?_
      rintro r w' ⟨rfl, x1, rfl⟩
      go_wp2_with (first | (go_at_call 91; with_reducible refine (q1c.out _).mono ?_; rintro r w' ⟨rfl, x, rfl⟩))
      go_ret
      exact ⟨congrArg (fun z => Ending.returned (Value.bool z)) hF.out, by rw [hz'.out, plus_plus]; exact ⟨_, rfl⟩⟩
set_option maxRecDepth 100000 in
set_option maxHeartbeats 8000000 in
theorem litfits_of (a0 : Int) (a1 : Int) (a2 : Int) (is : Bool) (s0 : Bool) (w : World)
    (h0 : Kp Tryz.prog w 96 #[.agg #[.int .i64 a0, .int .u64 a1, .int .u64 a2]] (.bool s0)) :
    Kp Tryz.prog w 165 #[.agg #[.int .i64 a0, .int .u64 a1, .int .u64 a2], .bool is] (.bool (if is then s0 else ((a0 == 0) && ((a1 == 0) && (a2 == 0))))) := by
  intro y0
  have h0 := h0.up y0
  obtain ⟨V, hV⟩ : ∃ V, plus w y0 = V := ⟨_, rfl⟩
  rw [hV] at h0 ⊢
  clear hV
  obtain ⟨R, hR⟩ : ∃ R, (if is then s0 else ((a0 == 0) && ((a1 == 0) && (a2 == 0)))) = R := ⟨_, rfl⟩
  rw [hR]
  by_cases q1 : (is) = true
  case neg =>
    have q1 : (is) = false := by simpa using q1
    by_cases q2 : (a0 == 0) = true
    case neg =>
      have q2 : (a0 == 0) = false := by simpa using q2
      have hF := Lib.hid (show (false) = R by first | exact hR | (rw [← hR]; simp [q1, q2]))
      clear hR
      clear h0
      go_enter Tryz.func165, Tryz.ntmps165
      go_wp2_with fail
      go_ret
      exact ⟨congrArg (fun z => Ending.returned (Value.bool z)) hF.out, alloc1_plus _ _⟩
    case pos =>
      by_cases q3 : (a1 == 0) = true
      case neg =>
        have q3 : (a1 == 0) = false := by simpa using q3
        have hF := Lib.hid (show (false) = R by first | exact hR | (rw [← hR]; simp [q1, q2, q3]))
        clear hR
        clear h0
        go_enter Tryz.func165, Tryz.ntmps165
        go_wp2_with fail
        go_ret
        exact ⟨congrArg (fun z => Ending.returned (Value.bool z)) hF.out, alloc1_plus _ _⟩
      case pos =>
        by_cases q4 : (a2 == 0) = true
        case neg =>
          have q4 : (a2 == 0) = false := by simpa using q4
          have hF := Lib.hid (show (false) = R by first | exact hR | (rw [← hR]; simp [q1, q2, q3, q4]))
          clear hR
          clear h0
          go_enter Tryz.func165, Tryz.ntmps165
          go_wp2_with fail
          go_ret
          exact ⟨congrArg (fun z => Ending.returned (Value.bool z)) hF.out, alloc1_plus _ _⟩
        case pos =>
          have hF := Lib.hid (show (true) = R by first | exact hR | (rw [← hR]; simp [q1, q2, q3, q4]))
          clear hR
          clear h0
          go_enter Tryz.func165, Tryz.ntmps165
          go_wp2_with fail
          go_ret
          exact ⟨congrArg (fun z => Ending.returned (Value.bool z)) hF.out, alloc1_plus _ _⟩
  case pos =>
    cases s0
    case false =>
      have hF := Lib.hid (show (false) = R by first | exact hR | (rw [← hR]; simp [q1]))
      clear hR
      have h0 := Lib.hid h0
      go_enter Tryz.func165, Tryz.ntmps165
      go_wp2_with fail
      obtain ⟨W, yy, hW, ⟨z, hz⟩, cb0⟩ := box1n V _ 66
      rw [hW]
      have c0_0 := cb0 0 _ rfl
      have c0_1 := cb0 1 _ rfl
      have c0_2 := cb0 2 _ rfl
      have q0c := Lib.hid (kp_at hz h0.out)
      have hz' := Lib.hid hz
      clear hW hz cb0
      refine (q0c.out _).mono ?_
      rintro r w' ⟨rfl, x1, rfl⟩
      go_wp2_with fail
      go_ret
      exact ⟨congrArg (fun z => Ending.returned (Value.bool z)) hF.out, by rw [hz'.out, plus_plus]; exact ⟨_, rfl⟩⟩
    case true =>
      have hF := Lib.hid (show (true) = R by first | exact hR | (rw [← hR]; simp [q1]))
      clear hR
      have h0 := Lib.hid h0
      go_enter Tryz.func165, Tryz.ntmps165
      go_wp2_with fail
      obtain ⟨W, yy, hW, ⟨z, hz⟩, cb0⟩ := box1n V _ 66
      rw [hW]
      have c0_0 := cb0 0 _ rfl
      have c0_1 := cb0 1 _ rfl
      have c0_2 := cb0 2 _ rfl
      have q0c := Lib.hid (kp_at hz h0.out)
      have hz' := Lib.hid hz
      clear hW hz cb0
      refine (q0c.out _).mono ?_
      rintro r w' ⟨rfl, x1, rfl⟩
      go_wp2_with fail
      go_ret
      exact ⟨congrArg (fun z => Ending.returned (Value.bool z)) hF.out, by rw [hz'.out, plus_plus]; exact ⟨_, rfl⟩⟩
set_option maxRecDepth 100000 in
set_option maxHeartbeats 8000000 in
theorem namefits_of (s : ByteArray) (p : Int) (s0 : Bool) (w : World)
    (h0 : Kp Tryz.prog w 47 #[.string s] (.bool s0)) :
    Kp Tryz.prog w 158 #[.string s, .int .u8 p] (.bool (if s.toList == [] then p != 1 else ((p != 0) && s0))) := by
  intro y0
  have h0 := h0.up y0
  obtain ⟨V, hV⟩ : ∃ V, plus w y0 = V := ⟨_, rfl⟩
  rw [hV] at h0 ⊢
  clear hV
  obtain ⟨R, hR⟩ : ∃ R, (if s.toList == [] then p != 1 else ((p != 0) && s0)) = R := ⟨_, rfl⟩
  rw [hR]
  by_cases q1 : (s.toList == []) = true
  case neg =>
    have q1 : (s.toList == []) = false := by simpa using q1
    by_cases q2 : (p != 0) = true
    case neg =>
      have q2 : (p != 0) = false := by simpa using q2
      have hF := Lib.hid (show (false) = R by first | exact hR | (rw [← hR]; simp [q1, q2]))
      clear hR
      clear h0
      go_enter Tryz.func158, Tryz.ntmps158
      go_wp2_with fail
      go_ret
      exact ⟨congrArg (fun z => Ending.returned (Value.bool z)) hF.out, alloc0_plus _⟩
    case pos =>
      cases s0
      case false =>
        have hF := Lib.hid (show (false) = R by first | exact hR | (rw [← hR]; simp [q1, q2]))
        clear hR
        have h0 := Lib.hid h0
        go_enter Tryz.func158, Tryz.ntmps158
        go_wp2_with fail
        have q0c := Lib.hid h0.out.pure
        refine (calls_self h0.out).mono ?_
        rintro r w' ⟨rfl, x1, rfl⟩
        go_wp2_with fail
        go_ret
        exact ⟨congrArg (fun z => Ending.returned (Value.bool z)) hF.out, _, rfl⟩
      case true =>
        have hF := Lib.hid (show (true) = R by first | exact hR | (rw [← hR]; simp [q1, q2]))
        clear hR
        have h0 := Lib.hid h0
        go_enter Tryz.func158, Tryz.ntmps158
        go_wp2_with fail
        have q0c := Lib.hid h0.out.pure
        refine (calls_self h0.out).mono ?_
        rintro r w' ⟨rfl, x1, rfl⟩
        go_wp2_with fail
        go_ret
        exact ⟨congrArg (fun z => Ending.returned (Value.bool z)) hF.out, _, rfl⟩
  case pos =>
    by_cases q3 : (p != 1) = true
    case neg =>
      have q3 : (p != 1) = false := by simpa using q3
      have hF := Lib.hid (show (false) = R by first | exact hR | (rw [← hR]; simp [q1, q3]))
      clear hR
      clear h0
      go_enter Tryz.func158, Tryz.ntmps158
      go_wp2_with fail
      go_ret
      exact ⟨congrArg (fun z => Ending.returned (Value.bool z)) hF.out, alloc0_plus _⟩
    case pos =>
      have hF := Lib.hid (show (true) = R by first | exact hR | (rw [← hR]; simp [q1, q3]))
      clear hR
      clear h0
      go_enter Tryz.func158, Tryz.ntmps158
      go_wp2_with fail
      go_ret
      exact ⟨congrArg (fun z => Ending.returned (Value.bool z)) hF.out, alloc0_plus _⟩
set_option maxRecDepth 100000 in
set_option maxHeartbeats 8000000 in
theorem slicefits_of (a b : Int) (is : Bool) (w : World) :
    Kp Tryz.prog w 166 #[.int .i64 a, .int .i64 b, .bool is] (.bool (if is then (decide (0 ≤ b) && (decide (b ≤ a) && decide (a < 128))) else ((a == 0) && (b == 0)))) := by
  intro y0
  obtain ⟨V, hV⟩ : ∃ V, plus w y0 = V := ⟨_, rfl⟩
  rw [hV] at ⊢
  clear hV
  obtain ⟨R, hR⟩ : ∃ R, (if is then (decide (0 ≤ b) && (decide (b ≤ a) && decide (a < 128))) else ((a == 0) && (b == 0))) = R := ⟨_, rfl⟩
  rw [hR]
  by_cases q1 : (is) = true
  case neg =>
    have q1 : (is) = false := by simpa using q1
    by_cases q2 : (a == 0) = true
    case neg =>
      have q2 : (a == 0) = false := by simpa using q2
      have hF := Lib.hid (show (false) = R by first | exact hR | (rw [← hR]; simp [q1, q2]))
      clear hR
      go_enter Tryz.func166, Tryz.ntmps166
      go_wp2_with fail
      go_ret
      exact ⟨congrArg (fun z => Ending.returned (Value.bool z)) hF.out, alloc0_plus _⟩
    case pos =>
      by_cases q3 : (b == 0) = true
      case neg =>
        have q3 : (b == 0) = false := by simpa using q3
        have hF := Lib.hid (show (false) = R by first | exact hR | (rw [← hR]; simp [q1, q2, q3]))
        clear hR
        go_enter Tryz.func166, Tryz.ntmps166
        go_wp2_with fail
        go_ret
        exact ⟨congrArg (fun z => Ending.returned (Value.bool z)) hF.out, alloc0_plus _⟩
      case pos =>
        have hF := Lib.hid (show (true) = R by first | exact hR | (rw [← hR]; simp [q1, q2, q3]))
        clear hR
        go_enter Tryz.func166, Tryz.ntmps166
        go_wp2_with fail
        go_ret
        exact ⟨congrArg (fun z => Ending.returned (Value.bool z)) hF.out, alloc0_plus _⟩
  case pos =>
    by_cases q4 : 0 ≤ b
    case neg =>
      have hF := Lib.hid (show (false) = R by first | exact hR | (rw [← hR]; simp [q1, q4]))
      clear hR
      go_enter Tryz.func166, Tryz.ntmps166
      go_wp2_with fail
      go_ret
      exact ⟨congrArg (fun z => Ending.returned (Value.bool z)) hF.out, alloc0_plus _⟩
    case pos =>
      by_cases q5 : b ≤ a
      case neg =>
        have hF := Lib.hid (show (false) = R by first | exact hR | (rw [← hR]; simp [q1, q4, q5]))
        clear hR
        go_enter Tryz.func166, Tryz.ntmps166
        go_wp2_with fail
        go_ret
        exact ⟨congrArg (fun z => Ending.returned (Value.bool z)) hF.out, alloc0_plus _⟩
      case pos =>
        by_cases q6 : a < 128
        case neg =>
          have hF := Lib.hid (show (false) = R by first | exact hR | (rw [← hR]; simp [q1, q4, q5, q6]))
          clear hR
          go_enter Tryz.func166, Tryz.ntmps166
          go_wp2_with fail
          go_ret
          exact ⟨congrArg (fun z => Ending.returned (Value.bool z)) hF.out, alloc0_plus _⟩
        case pos =>
          have hF := Lib.hid (show (true) = R by first | exact hR | (rw [← hR]; simp [q1, q4, q5, q6]))
          clear hR
          go_enter Tryz.func166, Tryz.ntmps166
          go_wp2_with fail
          go_ret
          exact ⟨congrArg (fun z => Ending.returned (Value.bool z)) hF.out, alloc0_plus _⟩
set_option maxRecDepth 100000 in
set_option maxHeartbeats 8000000 in
theorem target_of (s : ByteArray) (s0 : Bool) (w : World)
    (h0 : Kp Tryz.prog w 47 #[.string s] (.bool s0)) :
    Kp Tryz.prog w 133 #[.string s] (.bool ((s.toList == [97, 99, 99, 101, 112, 116]) || ((s.toList == [114, 101, 106, 101, 99, 116]) || s0))) := by
  intro y0
  have h0 := h0.up y0
  obtain ⟨V, hV⟩ : ∃ V, plus w y0 = V := ⟨_, rfl⟩
  rw [hV] at h0 ⊢
  clear hV
  obtain ⟨R, hR⟩ : ∃ R, ((s.toList == [97, 99, 99, 101, 112, 116]) || ((s.toList == [114, 101, 106, 101, 99, 116]) || s0)) = R := ⟨_, rfl⟩
  rw [hR]
  by_cases q1 : (s.toList == [97, 99, 99, 101, 112, 116]) = true
  case neg =>
    have q1 : (s.toList == [97, 99, 99, 101, 112, 116]) = false := by simpa using q1
    by_cases q2 : (s.toList == [114, 101, 106, 101, 99, 116]) = true
    case neg =>
      have q2 : (s.toList == [114, 101, 106, 101, 99, 116]) = false := by simpa using q2
      cases s0
      case false =>
        have hF := Lib.hid (show (false) = R by first | exact hR | (rw [← hR]; simp [q1, q2]))
        clear hR
        have h0 := Lib.hid h0
        go_enter Tryz.func133, Tryz.ntmps133
        go_wp2_with fail
        have q0c := Lib.hid h0.out.pure
        refine (calls_self h0.out).mono ?_
        rintro r w' ⟨rfl, x1, rfl⟩
        go_wp2_with fail
        go_ret
        exact ⟨congrArg (fun z => Ending.returned (Value.bool z)) hF.out, _, rfl⟩
      case true =>
        have hF := Lib.hid (show (true) = R by first | exact hR | (rw [← hR]; simp [q1, q2]))
        clear hR
        have h0 := Lib.hid h0
        go_enter Tryz.func133, Tryz.ntmps133
        go_wp2_with fail
        have q0c := Lib.hid h0.out.pure
        refine (calls_self h0.out).mono ?_
        rintro r w' ⟨rfl, x1, rfl⟩
        go_wp2_with fail
        go_ret
        exact ⟨congrArg (fun z => Ending.returned (Value.bool z)) hF.out, _, rfl⟩
    case pos =>
      have hF := Lib.hid (show (true) = R by first | exact hR | (rw [← hR]; simp [q1, q2]))
      clear hR
      clear h0
      go_enter Tryz.func133, Tryz.ntmps133
      go_wp2_with fail
      go_ret
      exact ⟨congrArg (fun z => Ending.returned (Value.bool z)) hF.out, alloc0_plus _⟩
  case pos =>
    have hF := Lib.hid (show (true) = R by first | exact hR | (rw [← hR]; simp [q1]))
    clear hR
    clear h0
    go_enter Tryz.func133, Tryz.ntmps133
    go_wp2_with fail
    go_ret
    exact ⟨congrArg (fun z => Ending.returned (Value.bool z)) hF.out, alloc0_plus _⟩
end Go.Proofs.YtlmhldcebllckaaGreat
