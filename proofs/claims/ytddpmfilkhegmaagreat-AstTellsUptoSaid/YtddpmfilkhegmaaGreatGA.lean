/-
  WHAT IS PROVED HERE: what sameHeader, sameCase of the landed ast hand back, by what their callees hand back. Written by gen/astsame.py. · what sameKey, sameState, sameAction, sameTable of the landed ast hand back, by what their callees hand back. Written by gen/astsame.py. · what SameExpr, sameBlock and the literals in them hand back, by what their callees hand back. Written by gen/astsame.py. · what Same of the landed ast hands back, by what its callees hand back. Written by gen/astsame.py.
-/
import Derived.Test.YtddpmfilkhegmaaGreatRows
import Derived.Test.YtddpmfilkhegmaaGreatFG
import Derived.WalkKit
import Derived.Lib.Hide
import Derived.WalkSpells
import Derived.WalkLawsBesides
import Derived.Laws.EntriesVeiled
namespace Go.Proofs.YtddpmfilkhegmaaGreat
open Go.RowKit
set_option maxRecDepth 100000 in
set_option maxHeartbeats 8000000 in
theorem hdr_of (a0 : ByteArray) (a1p : Option Addr) (a1n : Nat) (a1c : Nat) (b0 : ByteArray) (b1p : Option Addr) (b1n : Nat) (b1c : Nat) (s1 : Bool) (w : World)
    (h1 : Kp Tryz.prog w 51 #[.slice a1p a1n a1c, .slice b1p b1n b1c] (.bool s1)) :
    Kp Tryz.prog w 50 #[.agg #[.string a0, .slice a1p a1n a1c], .agg #[.string b0, .slice b1p b1n b1c]] (.bool ((a0.toList == b0.toList) && s1)) := by
  intro y0
  have h1 := h1.up y0
  obtain ⟨V, hV⟩ : ∃ V, plus w y0 = V := ⟨_, rfl⟩
  rw [hV] at h1 ⊢
  clear hV
  by_cases q0 : (a0.toList == b0.toList) = true
  case neg =>
    have q0 : (a0.toList == b0.toList) = false := by simpa using q0
    have hF := Lib.hid (show false = ((a0.toList == b0.toList) && (s1)) by simp [q0])
    clear h1
    go_enter Tryz.func50, Tryz.ntmps50
    go_wp2_with fail
    go_ret
    exact ⟨congrArg (fun z => Ending.returned (Value.bool z)) hF.out, alloc2_plus _ _ _⟩
  cases s1
  case false =>
    have hF := Lib.hid (show false = ((a0.toList == b0.toList) && (false)) by simp [q0])
    have h1 := Lib.hid h1
    go_enter Tryz.func50, Tryz.ntmps50
    go_wp2_with fail
    obtain ⟨W, yy, hW, ⟨z, hz⟩, cb0, cb1⟩ := box2n V _ _ 51 51
    rw [hW]
    have c0_0 := cb0 0 _ rfl
    have c0_1 := cb0 1 _ rfl
    have c1_0 := cb1 0 _ rfl
    have c1_1 := cb1 1 _ rfl
    have q1c := Lib.hid (kp_at hz h1.out)
    have hz' := Lib.hid hz
    clear hW hz cb0 cb1
    refine (q1c.out _).mono ?_
    rintro r w' ⟨rfl, x1, rfl⟩
    go_wp2_with fail
    go_ret
    exact ⟨congrArg (fun z => Ending.returned (Value.bool z)) hF.out, by rw [hz'.out, plus_plus]; exact ⟨_, rfl⟩⟩
  have hF := Lib.hid (show true = ((a0.toList == b0.toList) && (true)) by simp [q0])
  have h1 := Lib.hid h1
  go_enter Tryz.func50, Tryz.ntmps50
  go_wp2_with fail
  obtain ⟨W, yy, hW, ⟨z, hz⟩, cb0, cb1⟩ := box2n V _ _ 51 51
  rw [hW]
  have c0_0 := cb0 0 _ rfl
  have c0_1 := cb0 1 _ rfl
  have c1_0 := cb1 0 _ rfl
  have c1_1 := cb1 1 _ rfl
  have q1c := Lib.hid (kp_at hz h1.out)
  have hz' := Lib.hid hz
  clear hW hz cb0 cb1
  refine (q1c.out _).mono ?_
  rintro r w' ⟨rfl, x1, rfl⟩
  go_wp2_with fail
  go_ret
  exact ⟨congrArg (fun z => Ending.returned (Value.bool z)) hF.out, by rw [hz'.out, plus_plus]; exact ⟨_, rfl⟩⟩
set_option maxRecDepth 100000 in
set_option maxHeartbeats 8000000 in
theorem case_of (a0 : Bool) (a1p : Option Addr) (a1n : Nat) (a1c : Nat) (a2 : ByteArray) (b0 : Bool) (b1p : Option Addr) (b1n : Nat) (b1c : Nat) (b2 : ByteArray) (s1 : Bool) (w : World)
    (h1 : Kp Tryz.prog w 119 #[.slice a1p a1n a1c, .slice b1p b1n b1c] (.bool s1)) :
    Kp Tryz.prog w 99 #[.agg #[.bool a0, .slice a1p a1n a1c, .string a2], .agg #[.bool b0, .slice b1p b1n b1c, .string b2]] (.bool ((a0 == b0) && (s1 && (a2.toList == b2.toList)))) := by
  intro y0
  have h1 := h1.up y0
  obtain ⟨V, hV⟩ : ∃ V, plus w y0 = V := ⟨_, rfl⟩
  rw [hV] at h1 ⊢
  clear hV
  by_cases q0 : (a0 == b0) = true
  case neg =>
    have q0 : (a0 == b0) = false := by simpa using q0
    have hF := Lib.hid (show false = ((a0 == b0) && ((s1) && (a2.toList == b2.toList))) by simp [q0])
    clear h1
    go_enter Tryz.func99, Tryz.ntmps99
    go_wp2_with fail
    go_ret
    exact ⟨congrArg (fun z => Ending.returned (Value.bool z)) hF.out, alloc2_plus _ _ _⟩
  cases s1
  case false =>
    have hF := Lib.hid (show false = ((a0 == b0) && ((false) && (a2.toList == b2.toList))) by simp [q0])
    have h1 := Lib.hid h1
    go_enter Tryz.func99, Tryz.ntmps99
    go_wp2_with fail
    obtain ⟨W, yy, hW, ⟨z, hz⟩, cb0, cb1⟩ := box2n V _ _ 57 57
    rw [hW]
    have c0_0 := cb0 0 _ rfl
    have c0_1 := cb0 1 _ rfl
    have c0_2 := cb0 2 _ rfl
    have c1_0 := cb1 0 _ rfl
    have c1_1 := cb1 1 _ rfl
    have c1_2 := cb1 2 _ rfl
    have q1c := Lib.hid (kp_at hz h1.out)
    have hz' := Lib.hid hz
    clear hW hz cb0 cb1
    refine (q1c.out _).mono ?_
    rintro r w' ⟨rfl, x1, rfl⟩
    go_wp2_with fail
    go_ret
    exact ⟨congrArg (fun z => Ending.returned (Value.bool z)) hF.out, by rw [hz'.out, plus_plus]; exact ⟨_, rfl⟩⟩
  by_cases q2 : (a2.toList == b2.toList) = true
  case neg =>
    have q2 : (a2.toList == b2.toList) = false := by simpa using q2
    have hF := Lib.hid (show false = ((a0 == b0) && ((true) && (a2.toList == b2.toList))) by simp [q2, q0])
    have h1 := Lib.hid h1
    go_enter Tryz.func99, Tryz.ntmps99
    go_wp2_with fail
    obtain ⟨W, yy, hW, ⟨z, hz⟩, cb0, cb1⟩ := box2n V _ _ 57 57
    rw [hW]
    have c0_0 := cb0 0 _ rfl
    have c0_1 := cb0 1 _ rfl
    have c0_2 := cb0 2 _ rfl
    have c1_0 := cb1 0 _ rfl
    have c1_1 := cb1 1 _ rfl
    have c1_2 := cb1 2 _ rfl
    have q1c := Lib.hid (kp_at hz h1.out)
    have hz' := Lib.hid hz
    clear hW hz cb0 cb1
    refine (q1c.out _).mono ?_
    rintro r w' ⟨rfl, x1, rfl⟩
    go_wp2_with fail
    go_ret
    exact ⟨congrArg (fun z => Ending.returned (Value.bool z)) hF.out, by rw [hz'.out, plus_plus]; exact ⟨_, rfl⟩⟩
  have hF := Lib.hid (show true = ((a0 == b0) && ((true) && (a2.toList == b2.toList))) by simp [q0, q2])
  have h1 := Lib.hid h1
  go_enter Tryz.func99, Tryz.ntmps99
  go_wp2_with fail
  obtain ⟨W, yy, hW, ⟨z, hz⟩, cb0, cb1⟩ := box2n V _ _ 57 57
  rw [hW]
  have c0_0 := cb0 0 _ rfl
  have c0_1 := cb0 1 _ rfl
  have c0_2 := cb0 2 _ rfl
  have c1_0 := cb1 0 _ rfl
  have c1_1 := cb1 1 _ rfl
  have c1_2 := cb1 2 _ rfl
  have q1c := Lib.hid (kp_at hz h1.out)
  have hz' := Lib.hid hz
  clear hW hz cb0 cb1
  refine (q1c.out _).mono ?_
  rintro r w' ⟨rfl, x1, rfl⟩
  go_wp2_with fail
  go_ret
  exact ⟨congrArg (fun z => Ending.returned (Value.bool z)) hF.out, by rw [hz'.out, plus_plus]; exact ⟨_, rfl⟩⟩
end Go.Proofs.YtddpmfilkhegmaaGreat
namespace Go.Proofs.YtddpmfilkhegmaaGreat
open Go.RowKit
set_option maxRecDepth 100000 in
set_option maxHeartbeats 8000000 in
theorem key_of (a0 : Int) (a1 : Int) (a2 : Int) (a3 : Int) (a4 : ByteArray) (a5 : ByteArray) (a6 : Int) (a7 : Int) (a8p : Option Addr) (a8n : Nat) (a8c : Nat) (a9 : Int) (b0 : Int) (b1 : Int) (b2 : Int) (b3 : Int) (b4 : ByteArray) (b5 : ByteArray) (b6 : Int) (b7 : Int) (b8p : Option Addr) (b8n : Nat) (b8c : Nat) (b9 : Int) (s1 : Bool) (w : World)
    (h1 : Kp Tryz.prog w 17 #[.agg #[.int .u8 a0, .int .i64 a1, .int .u64 a2, .int .u64 a3, .string a4, .string a5, .int .i64 a6, .int .i64 a7, .slice a8p a8n a8c], .agg #[.int .u8 b0, .int .i64 b1, .int .u64 b2, .int .u64 b3, .string b4, .string b5, .int .i64 b6, .int .i64 b7, .slice b8p b8n b8c]] (.bool s1)) :
    Kp Tryz.prog w 101 #[.agg #[.int .u8 a0, .int .i64 a1, .int .u64 a2, .int .u64 a3, .string a4, .string a5, .int .i64 a6, .int .i64 a7, .slice a8p a8n a8c, .int .u8 a9], .agg #[.int .u8 b0, .int .i64 b1, .int .u64 b2, .int .u64 b3, .string b4, .string b5, .int .i64 b6, .int .i64 b7, .slice b8p b8n b8c, .int .u8 b9]] (.bool ((a9 == b9) && s1)) := by
  intro y0
  have h1 := h1.up y0
  obtain ⟨V, hV⟩ : ∃ V, plus w y0 = V := ⟨_, rfl⟩
  rw [hV] at h1 ⊢
  clear hV
  by_cases q0 : a9 = b9
  case neg =>
    have hF := Lib.hid (show false = ((a9 == b9) && (s1)) by simp [q0])
    clear h1
    go_enter Tryz.func101, Tryz.ntmps101
    go_wp2_with fail
    go_ret
    exact ⟨congrArg (fun z => Ending.returned (Value.bool z)) hF.out, alloc2_plus _ _ _⟩
  subst q0
  cases s1
  case false =>
    have hF := Lib.hid (show false = ((a9 == a9) && (false)) by simp)
    have h1 := Lib.hid h1
    go_enter Tryz.func101, Tryz.ntmps101
    go_wp2_with fail
    obtain ⟨W, yy, hW, ⟨z, hz⟩, cb0, cb1⟩ := box2n V _ _ 67 67
    rw [hW]
    have c0_0 := cb0 0 _ rfl
    have c0_1 := cb0 1 _ rfl
    have c0_2 := cb0 2 _ rfl
    have c0_3 := cb0 3 _ rfl
    have c0_4 := cb0 4 _ rfl
    have c0_5 := cb0 5 _ rfl
    have c0_6 := cb0 6 _ rfl
    have c0_7 := cb0 7 _ rfl
    have c0_8 := cb0 8 _ rfl
    have c0_9 := cb0 9 _ rfl
    have c1_0 := cb1 0 _ rfl
    have c1_1 := cb1 1 _ rfl
    have c1_2 := cb1 2 _ rfl
    have c1_3 := cb1 3 _ rfl
    have c1_4 := cb1 4 _ rfl
    have c1_5 := cb1 5 _ rfl
    have c1_6 := cb1 6 _ rfl
    have c1_7 := cb1 7 _ rfl
    have c1_8 := cb1 8 _ rfl
    have c1_9 := cb1 9 _ rfl
    have q1c := Lib.hid (kp_at hz h1.out)
    have hz' := Lib.hid hz
    clear hW hz cb0 cb1
    refine (q1c.out _).mono ?_
    rintro r w' ⟨rfl, x1, rfl⟩
    go_wp2_with fail
    go_ret
    exact ⟨congrArg (fun z => Ending.returned (Value.bool z)) hF.out, by rw [hz'.out, plus_plus]; exact ⟨_, rfl⟩⟩
  have hF := Lib.hid (show true = ((a9 == a9) && (true)) by simp)
  have h1 := Lib.hid h1
  go_enter Tryz.func101, Tryz.ntmps101
  go_wp2_with fail
  obtain ⟨W, yy, hW, ⟨z, hz⟩, cb0, cb1⟩ := box2n V _ _ 67 67
  rw [hW]
  have c0_0 := cb0 0 _ rfl
  have c0_1 := cb0 1 _ rfl
  have c0_2 := cb0 2 _ rfl
  have c0_3 := cb0 3 _ rfl
  have c0_4 := cb0 4 _ rfl
  have c0_5 := cb0 5 _ rfl
  have c0_6 := cb0 6 _ rfl
  have c0_7 := cb0 7 _ rfl
  have c0_8 := cb0 8 _ rfl
  have c0_9 := cb0 9 _ rfl
  have c1_0 := cb1 0 _ rfl
  have c1_1 := cb1 1 _ rfl
  have c1_2 := cb1 2 _ rfl
  have c1_3 := cb1 3 _ rfl
  have c1_4 := cb1 4 _ rfl
  have c1_5 := cb1 5 _ rfl
  have c1_6 := cb1 6 _ rfl
  have c1_7 := cb1 7 _ rfl
  have c1_8 := cb1 8 _ rfl
  have c1_9 := cb1 9 _ rfl
  have q1c := Lib.hid (kp_at hz h1.out)
  have hz' := Lib.hid hz
  clear hW hz cb0 cb1
  refine (q1c.out _).mono ?_
  rintro r w' ⟨rfl, x1, rfl⟩
  go_wp2_with fail
  go_ret
  exact ⟨congrArg (fun z => Ending.returned (Value.bool z)) hF.out, by rw [hz'.out, plus_plus]; exact ⟨_, rfl⟩⟩
set_option maxRecDepth 100000 in
set_option maxHeartbeats 8000000 in
theorem state_of (a0 : ByteArray) (a1p : Option Addr) (a1n : Nat) (a1c : Nat) (a2 : ByteArray) (a3p : Option Addr) (a3n : Nat) (a3c : Nat) (a4p : Option Addr) (a4n : Nat) (a4c : Nat) (b0 : ByteArray) (b1p : Option Addr) (b1n : Nat) (b1c : Nat) (b2 : ByteArray) (b3p : Option Addr) (b3n : Nat) (b3c : Nat) (b4p : Option Addr) (b4n : Nat) (b4c : Nat) (s1 : Bool) (s3 : Bool) (s4 : Bool) (w : World)
    (h1 : Kp Tryz.prog w 59 #[.slice a1p a1n a1c, .slice b1p b1n b1c] (.bool s1))
    (h3 : Kp Tryz.prog w 66 #[.slice a3p a3n a3c, .slice b3p b3n b3c, .func (.func 17) #[] #[]] (.bool s3))
    (h4 : Kp Tryz.prog w 98 #[.slice a4p a4n a4c, .slice b4p b4n b4c, .func (.func 99) #[] #[]] (.bool s4)) :
    Kp Tryz.prog w 53 #[.agg #[.string a0, .slice a1p a1n a1c, .string a2, .slice a3p a3n a3c, .slice a4p a4n a4c], .agg #[.string b0, .slice b1p b1n b1c, .string b2, .slice b3p b3n b3c, .slice b4p b4n b4c]] (.bool ((a0.toList == b0.toList) && (s1 && ((a2.toList == b2.toList) && (s3 && s4))))) := by
  intro y0
  have h1 := h1.up y0
  have h3 := h3.up y0
  have h4 := h4.up y0
  obtain ⟨V, hV⟩ : ∃ V, plus w y0 = V := ⟨_, rfl⟩
  rw [hV] at h1 h3 h4 ⊢
  clear hV
  by_cases q0 : (a0.toList == b0.toList) = true
  case neg =>
    have q0 : (a0.toList == b0.toList) = false := by simpa using q0
    have hF := Lib.hid (show false = ((a0.toList == b0.toList) && ((s1) && ((a2.toList == b2.toList) && ((s3) && (s4))))) by simp [q0])
    clear h1 h3 h4
    go_enter Tryz.func53, Tryz.ntmps53
    go_wp2_with fail
    go_ret
    exact ⟨congrArg (fun z => Ending.returned (Value.bool z)) hF.out, alloc2_plus _ _ _⟩
  cases s1
  case false =>
    have hF := Lib.hid (show false = ((a0.toList == b0.toList) && ((false) && ((a2.toList == b2.toList) && ((s3) && (s4))))) by simp [q0])
    clear h3 h4
    have h1 := Lib.hid h1
    go_enter Tryz.func53, Tryz.ntmps53
    go_wp2_with fail
    obtain ⟨W, yy, hW, ⟨z, hz⟩, cb0, cb1⟩ := box2n V _ _ 54 54
    rw [hW]
    have c0_0 := cb0 0 _ rfl
    have c0_1 := cb0 1 _ rfl
    have c0_2 := cb0 2 _ rfl
    have c0_3 := cb0 3 _ rfl
    have c0_4 := cb0 4 _ rfl
    have c1_0 := cb1 0 _ rfl
    have c1_1 := cb1 1 _ rfl
    have c1_2 := cb1 2 _ rfl
    have c1_3 := cb1 3 _ rfl
    have c1_4 := cb1 4 _ rfl
    have q1c := Lib.hid (kp_at hz h1.out)
    have hz' := Lib.hid hz
    clear hW hz cb0 cb1
    refine (q1c.out _).mono ?_
    rintro r w' ⟨rfl, x1, rfl⟩
    go_wp2_with fail
    go_ret
    exact ⟨congrArg (fun z => Ending.returned (Value.bool z)) hF.out, by rw [hz'.out, plus_plus]; exact ⟨_, rfl⟩⟩
  by_cases q2 : (a2.toList == b2.toList) = true
  case neg =>
    have q2 : (a2.toList == b2.toList) = false := by simpa using q2
    have hF := Lib.hid (show false = ((a0.toList == b0.toList) && ((true) && ((a2.toList == b2.toList) && ((s3) && (s4))))) by simp [q2, q0])
    clear h3 h4
    have h1 := Lib.hid h1
    go_enter Tryz.func53, Tryz.ntmps53
    go_wp2_with fail
    obtain ⟨W, yy, hW, ⟨z, hz⟩, cb0, cb1⟩ := box2n V _ _ 54 54
    rw [hW]
    have c0_0 := cb0 0 _ rfl
    have c0_1 := cb0 1 _ rfl
    have c0_2 := cb0 2 _ rfl
    have c0_3 := cb0 3 _ rfl
    have c0_4 := cb0 4 _ rfl
    have c1_0 := cb1 0 _ rfl
    have c1_1 := cb1 1 _ rfl
    have c1_2 := cb1 2 _ rfl
    have c1_3 := cb1 3 _ rfl
    have c1_4 := cb1 4 _ rfl
    have q1c := Lib.hid (kp_at hz h1.out)
    have hz' := Lib.hid hz
    clear hW hz cb0 cb1
    refine (q1c.out _).mono ?_
    rintro r w' ⟨rfl, x1, rfl⟩
    go_wp2_with fail
    go_ret
    exact ⟨congrArg (fun z => Ending.returned (Value.bool z)) hF.out, by rw [hz'.out, plus_plus]; exact ⟨_, rfl⟩⟩
  cases s3
  case false =>
    have hF := Lib.hid (show false = ((a0.toList == b0.toList) && ((true) && ((a2.toList == b2.toList) && ((false) && (s4))))) by simp [q0, q2])
    clear h4
    have h1 := Lib.hid h1
    have h3 := Lib.hid h3
    go_enter Tryz.func53, Tryz.ntmps53
    go_wp2_with fail
    obtain ⟨W, yy, hW, ⟨z, hz⟩, cb0, cb1⟩ := box2n V _ _ 54 54
    rw [hW]
    have c0_0 := cb0 0 _ rfl
    have c0_1 := cb0 1 _ rfl
    have c0_2 := cb0 2 _ rfl
    have c0_3 := cb0 3 _ rfl
    have c0_4 := cb0 4 _ rfl
    have c1_0 := cb1 0 _ rfl
    have c1_1 := cb1 1 _ rfl
    have c1_2 := cb1 2 _ rfl
    have c1_3 := cb1 3 _ rfl
    have c1_4 := cb1 4 _ rfl
    have q1c := Lib.hid (kp_at hz h1.out)
    have q3c := Lib.hid (kp_at hz h3.out)
    have hz' := Lib.hid hz
    clear hW hz cb0 cb1
    refine (q1c.out _).mono ?_
    rintro r w' ⟨rfl, x1, rfl⟩
    go_wp2_with (first | (go_at_call 66; with_reducible refine (q3c.out _).mono ?_; rintro r w' ⟨rfl, x, rfl⟩))
    go_ret
    exact ⟨congrArg (fun z => Ending.returned (Value.bool z)) hF.out, by rw [hz'.out, plus_plus]; exact ⟨_, rfl⟩⟩
  cases s4
  case false =>
    have hF := Lib.hid (show false = ((a0.toList == b0.toList) && ((true) && ((a2.toList == b2.toList) && ((true) && (false))))) by simp [q0, q2])
    have h1 := Lib.hid h1
    have h3 := Lib.hid h3
    have h4 := Lib.hid h4
    go_enter Tryz.func53, Tryz.ntmps53
    go_wp2_with fail
    obtain ⟨W, yy, hW, ⟨z, hz⟩, cb0, cb1⟩ := box2n V _ _ 54 54
    rw [hW]
    have c0_0 := cb0 0 _ rfl
    have c0_1 := cb0 1 _ rfl
    have c0_2 := cb0 2 _ rfl
    have c0_3 := cb0 3 _ rfl
    have c0_4 := cb0 4 _ rfl
    have c1_0 := cb1 0 _ rfl
    have c1_1 := cb1 1 _ rfl
    have c1_2 := cb1 2 _ rfl
    have c1_3 := cb1 3 _ rfl
    have c1_4 := cb1 4 _ rfl
    have q1c := Lib.hid (kp_at hz h1.out)
    have q3c := Lib.hid (kp_at hz h3.out)
    have q4c := Lib.hid (kp_at hz h4.out)
    have hz' := Lib.hid hz
    clear hW hz cb0 cb1
    refine (q1c.out _).mono ?_
    rintro r w' ⟨rfl, x1, rfl⟩
    go_wp2_with (first | (go_at_call 66; with_reducible refine (q3c.out _).mono ?_; rintro r w' ⟨rfl, x, rfl⟩) | (go_at_call 98; with_reducible refine (q4c.out _).mono ?_; rintro r w' ⟨rfl, x, rfl⟩))
    go_ret
    exact ⟨congrArg (fun z => Ending.returned (Value.bool z)) hF.out, by rw [hz'.out, plus_plus]; exact ⟨_, rfl⟩⟩
  have hF := Lib.hid (show true = ((a0.toList == b0.toList) && ((true) && ((a2.toList == b2.toList) && ((true) && (true))))) by simp [q0, q2])
  have h1 := Lib.hid h1
  have h3 := Lib.hid h3
  have h4 := Lib.hid h4
  go_enter Tryz.func53, Tryz.ntmps53
  go_wp2_with fail
  obtain ⟨W, yy, hW, ⟨z, hz⟩, cb0, cb1⟩ := box2n V _ _ 54 54
  rw [hW]
  have c0_0 := cb0 0 _ rfl
  have c0_1 := cb0 1 _ rfl
  have c0_2 := cb0 2 _ rfl
  have c0_3 := cb0 3 _ rfl
  have c0_4 := cb0 4 _ rfl
  have c1_0 := cb1 0 _ rfl
  have c1_1 := cb1 1 _ rfl
  have c1_2 := cb1 2 _ rfl
  have c1_3 := cb1 3 _ rfl
  have c1_4 := cb1 4 _ rfl
  have q1c := Lib.hid (kp_at hz h1.out)
  have q3c := Lib.hid (kp_at hz h3.out)
  have q4c := Lib.hid (kp_at hz h4.out)
  have hz' := Lib.hid hz
  clear hW hz cb0 cb1
  refine (q1c.out _).mono ?_
  rintro r w' ⟨rfl, x1, rfl⟩
  go_wp2_with (first | (go_at_call 66; with_reducible refine (q3c.out _).mono ?_; rintro r w' ⟨rfl, x, rfl⟩) | (go_at_call 98; with_reducible refine (q4c.out _).mono ?_; rintro r w' ⟨rfl, x, rfl⟩))
  go_ret
  exact ⟨congrArg (fun z => Ending.returned (Value.bool z)) hF.out, by rw [hz'.out, plus_plus]; exact ⟨_, rfl⟩⟩
set_option maxRecDepth 100000 in
set_option maxHeartbeats 8000000 in
theorem action_of (a0 : ByteArray) (a1p : Option Addr) (a1n : Nat) (a1c : Nat) (a2p : Option Addr) (a2n : Nat) (a2c : Nat) (b0 : ByteArray) (b1p : Option Addr) (b1n : Nat) (b1c : Nat) (b2p : Option Addr) (b2n : Nat) (b2c : Nat) (s1 : Bool) (s2 : Bool) (w : World)
    (h1 : Kp Tryz.prog w 51 #[.slice a1p a1n a1c, .slice b1p b1n b1c] (.bool s1))
    (h2 : Kp Tryz.prog w 58 #[.slice a2p a2n a2c, .slice b2p b2n b2c] (.bool s2)) :
    Kp Tryz.prog w 55 #[.agg #[.string a0, .slice a1p a1n a1c, .slice a2p a2n a2c], .agg #[.string b0, .slice b1p b1n b1c, .slice b2p b2n b2c]] (.bool ((a0.toList == b0.toList) && (s1 && s2))) := by
  intro y0
  have h1 := h1.up y0
  have h2 := h2.up y0
  obtain ⟨V, hV⟩ : ∃ V, plus w y0 = V := ⟨_, rfl⟩
  rw [hV] at h1 h2 ⊢
  clear hV
  by_cases q0 : (a0.toList == b0.toList) = true
  case neg =>
    have q0 : (a0.toList == b0.toList) = false := by simpa using q0
    have hF := Lib.hid (show false = ((a0.toList == b0.toList) && ((s1) && (s2))) by simp [q0])
    clear h1 h2
    go_enter Tryz.func55, Tryz.ntmps55
    go_wp2_with fail
    go_ret
    exact ⟨congrArg (fun z => Ending.returned (Value.bool z)) hF.out, alloc2_plus _ _ _⟩
  cases s1
  case false =>
    have hF := Lib.hid (show false = ((a0.toList == b0.toList) && ((false) && (s2))) by simp [q0])
    clear h2
    have h1 := Lib.hid h1
    go_enter Tryz.func55, Tryz.ntmps55
    go_wp2_with fail
    obtain ⟨W, yy, hW, ⟨z, hz⟩, cb0, cb1⟩ := box2n V _ _ 59 59
    rw [hW]
    have c0_0 := cb0 0 _ rfl
    have c0_1 := cb0 1 _ rfl
    have c0_2 := cb0 2 _ rfl
    have c1_0 := cb1 0 _ rfl
    have c1_1 := cb1 1 _ rfl
    have c1_2 := cb1 2 _ rfl
    have q1c := Lib.hid (kp_at hz h1.out)
    have hz' := Lib.hid hz
    clear hW hz cb0 cb1
    refine (q1c.out _).mono ?_
    rintro r w' ⟨rfl, x1, rfl⟩
    go_wp2_with fail
    go_ret
    exact ⟨congrArg (fun z => Ending.returned (Value.bool z)) hF.out, by rw [hz'.out, plus_plus]; exact ⟨_, rfl⟩⟩
  cases s2
  case false =>
    have hF := Lib.hid (show false = ((a0.toList == b0.toList) && ((true) && (false))) by simp [q0])
    have h1 := Lib.hid h1
    have h2 := Lib.hid h2
    go_enter Tryz.func55, Tryz.ntmps55
    go_wp2_with fail
    obtain ⟨W, yy, hW, ⟨z, hz⟩, cb0, cb1⟩ := box2n V _ _ 59 59
    rw [hW]
    have c0_0 := cb0 0 _ rfl
    have c0_1 := cb0 1 _ rfl
    have c0_2 := cb0 2 _ rfl
    have c1_0 := cb1 0 _ rfl
    have c1_1 := cb1 1 _ rfl
    have c1_2 := cb1 2 _ rfl
    have q1c := Lib.hid (kp_at hz h1.out)
    have q2c := Lib.hid (kp_at hz h2.out)
    have hz' := Lib.hid hz
    clear hW hz cb0 cb1
    refine (q1c.out _).mono ?_
    rintro r w' ⟨rfl, x1, rfl⟩
    go_wp2_with (first | (go_at_call 58; with_reducible refine (q2c.out _).mono ?_; rintro r w' ⟨rfl, x, rfl⟩))
    go_ret
    exact ⟨congrArg (fun z => Ending.returned (Value.bool z)) hF.out, by rw [hz'.out, plus_plus]; exact ⟨_, rfl⟩⟩
  have hF := Lib.hid (show true = ((a0.toList == b0.toList) && ((true) && (true))) by simp [q0])
  have h1 := Lib.hid h1
  have h2 := Lib.hid h2
  go_enter Tryz.func55, Tryz.ntmps55
  go_wp2_with fail
  obtain ⟨W, yy, hW, ⟨z, hz⟩, cb0, cb1⟩ := box2n V _ _ 59 59
  rw [hW]
  have c0_0 := cb0 0 _ rfl
  have c0_1 := cb0 1 _ rfl
  have c0_2 := cb0 2 _ rfl
  have c1_0 := cb1 0 _ rfl
  have c1_1 := cb1 1 _ rfl
  have c1_2 := cb1 2 _ rfl
  have q1c := Lib.hid (kp_at hz h1.out)
  have q2c := Lib.hid (kp_at hz h2.out)
  have hz' := Lib.hid hz
  clear hW hz cb0 cb1
  refine (q1c.out _).mono ?_
  rintro r w' ⟨rfl, x1, rfl⟩
  go_wp2_with (first | (go_at_call 58; with_reducible refine (q2c.out _).mono ?_; rintro r w' ⟨rfl, x, rfl⟩))
  go_ret
  exact ⟨congrArg (fun z => Ending.returned (Value.bool z)) hF.out, by rw [hz'.out, plus_plus]; exact ⟨_, rfl⟩⟩
set_option maxRecDepth 100000 in
set_option maxHeartbeats 8000000 in
theorem table_of (a0 : ByteArray) (a1p : Option Addr) (a1n : Nat) (a1c : Nat) (a2p : Option Addr) (a2n : Nat) (a2c : Nat) (a3 : ByteArray) (a4p : Option Addr) (a4n : Nat) (a4c : Nat) (b0 : ByteArray) (b1p : Option Addr) (b1n : Nat) (b1c : Nat) (b2p : Option Addr) (b2n : Nat) (b2c : Nat) (b3 : ByteArray) (b4p : Option Addr) (b4n : Nat) (b4c : Nat) (s1 : Bool) (s2 : Bool) (s4 : Bool) (w : World)
    (h1 : Kp Tryz.prog w 100 #[.slice a1p a1n a1c, .slice b1p b1n b1c, .func (.func 101) #[] #[]] (.bool s1))
    (h2 : Kp Tryz.prog w 59 #[.slice a2p a2n a2c, .slice b2p b2n b2c] (.bool s2))
    (h4 : Kp Tryz.prog w 102 #[.slice a4p a4n a4c, .slice b4p b4n b4c] (.bool s4)) :
    Kp Tryz.prog w 57 #[.agg #[.string a0, .slice a1p a1n a1c, .slice a2p a2n a2c, .string a3, .slice a4p a4n a4c], .agg #[.string b0, .slice b1p b1n b1c, .slice b2p b2n b2c, .string b3, .slice b4p b4n b4c]] (.bool ((a0.toList == b0.toList) && (s1 && (s2 && ((a3.toList == b3.toList) && s4))))) := by
  intro y0
  have h1 := h1.up y0
  have h2 := h2.up y0
  have h4 := h4.up y0
  obtain ⟨V, hV⟩ : ∃ V, plus w y0 = V := ⟨_, rfl⟩
  rw [hV] at h1 h2 h4 ⊢
  clear hV
  by_cases q0 : (a0.toList == b0.toList) = true
  case neg =>
    have q0 : (a0.toList == b0.toList) = false := by simpa using q0
    have hF := Lib.hid (show false = ((a0.toList == b0.toList) && ((s1) && ((s2) && ((a3.toList == b3.toList) && (s4))))) by simp [q0])
    clear h1 h2 h4
    go_enter Tryz.func57, Tryz.ntmps57
    go_wp2_with fail
    go_ret
    exact ⟨congrArg (fun z => Ending.returned (Value.bool z)) hF.out, alloc2_plus _ _ _⟩
  cases s1
  case false =>
    have hF := Lib.hid (show false = ((a0.toList == b0.toList) && ((false) && ((s2) && ((a3.toList == b3.toList) && (s4))))) by simp [q0])
    clear h2 h4
    have h1 := Lib.hid h1
    go_enter Tryz.func57, Tryz.ntmps57
    go_wp2_with fail
    obtain ⟨W, yy, hW, ⟨z, hz⟩, cb0, cb1⟩ := box2n V _ _ 65 65
    rw [hW]
    have c0_0 := cb0 0 _ rfl
    have c0_1 := cb0 1 _ rfl
    have c0_2 := cb0 2 _ rfl
    have c0_3 := cb0 3 _ rfl
    have c0_4 := cb0 4 _ rfl
    have c1_0 := cb1 0 _ rfl
    have c1_1 := cb1 1 _ rfl
    have c1_2 := cb1 2 _ rfl
    have c1_3 := cb1 3 _ rfl
    have c1_4 := cb1 4 _ rfl
    have q1c := Lib.hid (kp_at hz h1.out)
    have hz' := Lib.hid hz
    clear hW hz cb0 cb1
    refine (q1c.out _).mono ?_
    rintro r w' ⟨rfl, x1, rfl⟩
    go_wp2_with fail
    go_ret
    exact ⟨congrArg (fun z => Ending.returned (Value.bool z)) hF.out, by rw [hz'.out, plus_plus]; exact ⟨_, rfl⟩⟩
  cases s2
  case false =>
    have hF := Lib.hid (show false = ((a0.toList == b0.toList) && ((true) && ((false) && ((a3.toList == b3.toList) && (s4))))) by simp [q0])
    clear h4
    have h1 := Lib.hid h1
    have h2 := Lib.hid h2
    go_enter Tryz.func57, Tryz.ntmps57
    go_wp2_with fail
    obtain ⟨W, yy, hW, ⟨z, hz⟩, cb0, cb1⟩ := box2n V _ _ 65 65
    rw [hW]
    have c0_0 := cb0 0 _ rfl
    have c0_1 := cb0 1 _ rfl
    have c0_2 := cb0 2 _ rfl
    have c0_3 := cb0 3 _ rfl
    have c0_4 := cb0 4 _ rfl
    have c1_0 := cb1 0 _ rfl
    have c1_1 := cb1 1 _ rfl
    have c1_2 := cb1 2 _ rfl
    have c1_3 := cb1 3 _ rfl
    have c1_4 := cb1 4 _ rfl
    have q1c := Lib.hid (kp_at hz h1.out)
    have q2c := Lib.hid (kp_at hz h2.out)
    have hz' := Lib.hid hz
    clear hW hz cb0 cb1
    refine (q1c.out _).mono ?_
    rintro r w' ⟨rfl, x1, rfl⟩
    go_wp2_with (first | (go_at_call 59; with_reducible refine (q2c.out _).mono ?_; rintro r w' ⟨rfl, x, rfl⟩))
    go_ret
    exact ⟨congrArg (fun z => Ending.returned (Value.bool z)) hF.out, by rw [hz'.out, plus_plus]; exact ⟨_, rfl⟩⟩
  by_cases q3 : (a3.toList == b3.toList) = true
  case neg =>
    have q3 : (a3.toList == b3.toList) = false := by simpa using q3
    have hF := Lib.hid (show false = ((a0.toList == b0.toList) && ((true) && ((true) && ((a3.toList == b3.toList) && (s4))))) by simp [q3, q0])
    clear h4
    have h1 := Lib.hid h1
    have h2 := Lib.hid h2
    go_enter Tryz.func57, Tryz.ntmps57
    go_wp2_with fail
    obtain ⟨W, yy, hW, ⟨z, hz⟩, cb0, cb1⟩ := box2n V _ _ 65 65
    rw [hW]
    have c0_0 := cb0 0 _ rfl
    have c0_1 := cb0 1 _ rfl
    have c0_2 := cb0 2 _ rfl
    have c0_3 := cb0 3 _ rfl
    have c0_4 := cb0 4 _ rfl
    have c1_0 := cb1 0 _ rfl
    have c1_1 := cb1 1 _ rfl
    have c1_2 := cb1 2 _ rfl
    have c1_3 := cb1 3 _ rfl
    have c1_4 := cb1 4 _ rfl
    have q1c := Lib.hid (kp_at hz h1.out)
    have q2c := Lib.hid (kp_at hz h2.out)
    have hz' := Lib.hid hz
    clear hW hz cb0 cb1
    refine (q1c.out _).mono ?_
    rintro r w' ⟨rfl, x1, rfl⟩
    go_wp2_with (first | (go_at_call 59; with_reducible refine (q2c.out _).mono ?_; rintro r w' ⟨rfl, x, rfl⟩))
    go_ret
    exact ⟨congrArg (fun z => Ending.returned (Value.bool z)) hF.out, by rw [hz'.out, plus_plus]; exact ⟨_, rfl⟩⟩
  cases s4
  case false =>
    have hF := Lib.hid (show false = ((a0.toList == b0.toList) && ((true) && ((true) && ((a3.toList == b3.toList) && (false))))) by simp [q0, q3])
    have h1 := Lib.hid h1
    have h2 := Lib.hid h2
    have h4 := Lib.hid h4
    go_enter Tryz.func57, Tryz.ntmps57
    go_wp2_with fail
    obtain ⟨W, yy, hW, ⟨z, hz⟩, cb0, cb1⟩ := box2n V _ _ 65 65
    rw [hW]
    have c0_0 := cb0 0 _ rfl
    have c0_1 := cb0 1 _ rfl
    have c0_2 := cb0 2 _ rfl
    have c0_3 := cb0 3 _ rfl
    have c0_4 := cb0 4 _ rfl
    have c1_0 := cb1 0 _ rfl
    have c1_1 := cb1 1 _ rfl
    have c1_2 := cb1 2 _ rfl
    have c1_3 := cb1 3 _ rfl
    have c1_4 := cb1 4 _ rfl
    have q1c := Lib.hid (kp_at hz h1.out)
    have q2c := Lib.hid (kp_at hz h2.out)
    have q4c := Lib.hid (kp_at hz h4.out)
    have hz' := Lib.hid hz
    clear hW hz cb0 cb1
    refine (q1c.out _).mono ?_
    rintro r w' ⟨rfl, x1, rfl⟩
    go_wp2_with (first | (go_at_call 59; with_reducible refine (q2c.out _).mono ?_; rintro r w' ⟨rfl, x, rfl⟩) | (go_at_call 102; with_reducible refine (q4c.out _).mono ?_; rintro r w' ⟨rfl, x, rfl⟩))
    go_ret
    exact ⟨congrArg (fun z => Ending.returned (Value.bool z)) hF.out, by rw [hz'.out, plus_plus]; exact ⟨_, rfl⟩⟩
  have hF := Lib.hid (show true = ((a0.toList == b0.toList) && ((true) && ((true) && ((a3.toList == b3.toList) && (true))))) by simp [q0, q3])
  have h1 := Lib.hid h1
  have h2 := Lib.hid h2
  have h4 := Lib.hid h4
  go_enter Tryz.func57, Tryz.ntmps57
  go_wp2_with fail
  obtain ⟨W, yy, hW, ⟨z, hz⟩, cb0, cb1⟩ := box2n V _ _ 65 65
  rw [hW]
  have c0_0 := cb0 0 _ rfl
  have c0_1 := cb0 1 _ rfl
  have c0_2 := cb0 2 _ rfl
  have c0_3 := cb0 3 _ rfl
  have c0_4 := cb0 4 _ rfl
  have c1_0 := cb1 0 _ rfl
  have c1_1 := cb1 1 _ rfl
  have c1_2 := cb1 2 _ rfl
  have c1_3 := cb1 3 _ rfl
  have c1_4 := cb1 4 _ rfl
  have q1c := Lib.hid (kp_at hz h1.out)
  have q2c := Lib.hid (kp_at hz h2.out)
  have q4c := Lib.hid (kp_at hz h4.out)
  have hz' := Lib.hid hz
  clear hW hz cb0 cb1
  refine (q1c.out _).mono ?_
  rintro r w' ⟨rfl, x1, rfl⟩
  go_wp2_with (first | (go_at_call 59; with_reducible refine (q2c.out _).mono ?_; rintro r w' ⟨rfl, x, rfl⟩) | (go_at_call 102; with_reducible refine (q4c.out _).mono ?_; rintro r w' ⟨rfl, x, rfl⟩))
  go_ret
  exact ⟨congrArg (fun z => Ending.returned (Value.bool z)) hF.out, by rw [hz'.out, plus_plus]; exact ⟨_, rfl⟩⟩
end Go.Proofs.YtddpmfilkhegmaaGreat
namespace Go.Proofs.YtddpmfilkhegmaaGreat
open Go.RowKit
set_option maxRecDepth 100000 in
set_option maxHeartbeats 8000000 in
theorem expr1_of (a0 : Int) (a1 : Int) (a2 : Int) (a3 : Int) (a4 : ByteArray) (a5 : ByteArray) (a6 : Int) (a7 : Int) (a8p : Option Addr) (a8n : Nat) (a8c : Nat) (b0 : Int) (b1 : Int) (b2 : Int) (b3 : Int) (b4 : ByteArray) (b5 : ByteArray) (b6 : Int) (b7 : Int) (b8p : Option Addr) (b8n : Nat) (b8c : Nat) (c : Nat) (s8 : Bool) (w : World) (hc : w.cell? ⟨c, 0, none⟩ = some (.func (.func 65) #[] #[.pointer (some ⟨c, 0, none⟩)]))
    (h8 : Kp Tryz.prog w 66 #[.slice a8p a8n a8c, .slice b8p b8n b8c, .func (.func 65) #[] #[.pointer (some ⟨c, 0, none⟩)]] (.bool s8)) :
    Kp Tryz.prog w 65 #[.agg #[.int .u8 a0, .int .i64 a1, .int .u64 a2, .int .u64 a3, .string a4, .string a5, .int .i64 a6, .int .i64 a7, .slice a8p a8n a8c], .agg #[.int .u8 b0, .int .i64 b1, .int .u64 b2, .int .u64 b3, .string b4, .string b5, .int .i64 b6, .int .i64 b7, .slice b8p b8n b8c], .pointer (some ⟨c, 0, none⟩)] (.bool ((a0 == b0) && ((a1 == b1) && ((a2 == b2) && ((a3 == b3) && ((a4.toList == b4.toList) && ((a5.toList == b5.toList) && ((a6 == b6) && ((a7 == b7) && s8))))))))) := by
  intro y0
  have h8 := h8.up y0
  have hc := cell_keep hc y0
  obtain ⟨V, hV⟩ : ∃ V, plus w y0 = V := ⟨_, rfl⟩
  rw [hV] at h8 hc ⊢
  clear hV
  have hc2 := fun a b => cell_alloc (cell_alloc hc a) b
  by_cases q0 : a0 = b0
  case neg =>
    have hF := Lib.hid (show false = ((a0 == b0) && ((a1 == b1) && ((a2 == b2) && ((a3 == b3) && ((a4.toList == b4.toList) && ((a5.toList == b5.toList) && ((a6 == b6) && ((a7 == b7) && (s8))))))))) by simp [q0])
    clear h8
    go_enter Tryz.func65, Tryz.ntmps65
    go_wp2_with fail
    go_ret
    exact ⟨congrArg (fun z => Ending.returned (Value.bool z)) hF.out, alloc2_plus _ _ _⟩
  subst q0
  by_cases q1 : a1 = b1
  case neg =>
    have hF := Lib.hid (show false = ((a0 == a0) && ((a1 == b1) && ((a2 == b2) && ((a3 == b3) && ((a4.toList == b4.toList) && ((a5.toList == b5.toList) && ((a6 == b6) && ((a7 == b7) && (s8))))))))) by simp [q1])
    clear h8
    go_enter Tryz.func65, Tryz.ntmps65
    go_wp2_with fail
    go_ret
    exact ⟨congrArg (fun z => Ending.returned (Value.bool z)) hF.out, alloc2_plus _ _ _⟩
  subst q1
  by_cases q2 : a2 = b2
  case neg =>
    have hF := Lib.hid (show false = ((a0 == a0) && ((a1 == a1) && ((a2 == b2) && ((a3 == b3) && ((a4.toList == b4.toList) && ((a5.toList == b5.toList) && ((a6 == b6) && ((a7 == b7) && (s8))))))))) by simp [q2])
    clear h8
    go_enter Tryz.func65, Tryz.ntmps65
    go_wp2_with fail
    go_ret
    exact ⟨congrArg (fun z => Ending.returned (Value.bool z)) hF.out, alloc2_plus _ _ _⟩
  subst q2
  by_cases q3 : a3 = b3
  case neg =>
    have hF := Lib.hid (show false = ((a0 == a0) && ((a1 == a1) && ((a2 == a2) && ((a3 == b3) && ((a4.toList == b4.toList) && ((a5.toList == b5.toList) && ((a6 == b6) && ((a7 == b7) && (s8))))))))) by simp [q3])
    clear h8
    go_enter Tryz.func65, Tryz.ntmps65
    go_wp2_with fail
    go_ret
    exact ⟨congrArg (fun z => Ending.returned (Value.bool z)) hF.out, alloc2_plus _ _ _⟩
  subst q3
  by_cases q4 : (a4.toList == b4.toList) = true
  case neg =>
    have q4 : (a4.toList == b4.toList) = false := by simpa using q4
    have hF := Lib.hid (show false = ((a0 == a0) && ((a1 == a1) && ((a2 == a2) && ((a3 == a3) && ((a4.toList == b4.toList) && ((a5.toList == b5.toList) && ((a6 == b6) && ((a7 == b7) && (s8))))))))) by simp [q4])
    clear h8
    go_enter Tryz.func65, Tryz.ntmps65
    go_wp2_with fail
    go_ret
    exact ⟨congrArg (fun z => Ending.returned (Value.bool z)) hF.out, alloc2_plus _ _ _⟩
  by_cases q5 : (a5.toList == b5.toList) = true
  case neg =>
    have q5 : (a5.toList == b5.toList) = false := by simpa using q5
    have hF := Lib.hid (show false = ((a0 == a0) && ((a1 == a1) && ((a2 == a2) && ((a3 == a3) && ((a4.toList == b4.toList) && ((a5.toList == b5.toList) && ((a6 == b6) && ((a7 == b7) && (s8))))))))) by simp [q5, q4])
    clear h8
    go_enter Tryz.func65, Tryz.ntmps65
    go_wp2_with fail
    go_ret
    exact ⟨congrArg (fun z => Ending.returned (Value.bool z)) hF.out, alloc2_plus _ _ _⟩
  by_cases q6 : a6 = b6
  case neg =>
    have hF := Lib.hid (show false = ((a0 == a0) && ((a1 == a1) && ((a2 == a2) && ((a3 == a3) && ((a4.toList == b4.toList) && ((a5.toList == b5.toList) && ((a6 == b6) && ((a7 == b7) && (s8))))))))) by simp [q6, q4, q5])
    clear h8
    go_enter Tryz.func65, Tryz.ntmps65
    go_wp2_with fail
    go_ret
    exact ⟨congrArg (fun z => Ending.returned (Value.bool z)) hF.out, alloc2_plus _ _ _⟩
  subst q6
  by_cases q7 : a7 = b7
  case neg =>
    have hF := Lib.hid (show false = ((a0 == a0) && ((a1 == a1) && ((a2 == a2) && ((a3 == a3) && ((a4.toList == b4.toList) && ((a5.toList == b5.toList) && ((a6 == a6) && ((a7 == b7) && (s8))))))))) by simp [q7, q4, q5])
    clear h8
    go_enter Tryz.func65, Tryz.ntmps65
    go_wp2_with fail
    go_ret
    exact ⟨congrArg (fun z => Ending.returned (Value.bool z)) hF.out, alloc2_plus _ _ _⟩
  subst q7
  cases s8
  case false =>
    have hF := Lib.hid (show false = ((a0 == a0) && ((a1 == a1) && ((a2 == a2) && ((a3 == a3) && ((a4.toList == b4.toList) && ((a5.toList == b5.toList) && ((a6 == a6) && ((a7 == a7) && (false))))))))) by simp [q4, q5])
    have h8 := Lib.hid h8
    go_enter Tryz.func65, Tryz.ntmps65
    go_wp2_with fail
    obtain ⟨W, yy, hW, ⟨z, hz⟩, cb0, cb1⟩ := box2n V _ _ 38 38
    rw [hW]
    have c0_0 := cb0 0 _ rfl
    have c0_1 := cb0 1 _ rfl
    have c0_2 := cb0 2 _ rfl
    have c0_3 := cb0 3 _ rfl
    have c0_4 := cb0 4 _ rfl
    have c0_5 := cb0 5 _ rfl
    have c0_6 := cb0 6 _ rfl
    have c0_7 := cb0 7 _ rfl
    have c0_8 := cb0 8 _ rfl
    have c1_0 := cb1 0 _ rfl
    have c1_1 := cb1 1 _ rfl
    have c1_2 := cb1 2 _ rfl
    have c1_3 := cb1 3 _ rfl
    have c1_4 := cb1 4 _ rfl
    have c1_5 := cb1 5 _ rfl
    have c1_6 := cb1 6 _ rfl
    have c1_7 := cb1 7 _ rfl
    have c1_8 := cb1 8 _ rfl
    have q8c := Lib.hid (kp_at hz h8.out)
    have hcW := fun x => cell_keep (cell_at hz hc) x
    have hz' := Lib.hid hz
    clear hW hz cb0 cb1
    refine (q8c.out _).mono ?_
    rintro r w' ⟨rfl, x1, rfl⟩
    go_wp2_with fail
    go_ret
    exact ⟨congrArg (fun z => Ending.returned (Value.bool z)) hF.out, by rw [hz'.out, plus_plus]; exact ⟨_, rfl⟩⟩
  have hF := Lib.hid (show true = ((a0 == a0) && ((a1 == a1) && ((a2 == a2) && ((a3 == a3) && ((a4.toList == b4.toList) && ((a5.toList == b5.toList) && ((a6 == a6) && ((a7 == a7) && (true))))))))) by simp [q4, q5])
  have h8 := Lib.hid h8
  go_enter Tryz.func65, Tryz.ntmps65
  go_wp2_with fail
  obtain ⟨W, yy, hW, ⟨z, hz⟩, cb0, cb1⟩ := box2n V _ _ 38 38
  rw [hW]
  have c0_0 := cb0 0 _ rfl
  have c0_1 := cb0 1 _ rfl
  have c0_2 := cb0 2 _ rfl
  have c0_3 := cb0 3 _ rfl
  have c0_4 := cb0 4 _ rfl
  have c0_5 := cb0 5 _ rfl
  have c0_6 := cb0 6 _ rfl
  have c0_7 := cb0 7 _ rfl
  have c0_8 := cb0 8 _ rfl
  have c1_0 := cb1 0 _ rfl
  have c1_1 := cb1 1 _ rfl
  have c1_2 := cb1 2 _ rfl
  have c1_3 := cb1 3 _ rfl
  have c1_4 := cb1 4 _ rfl
  have c1_5 := cb1 5 _ rfl
  have c1_6 := cb1 6 _ rfl
  have c1_7 := cb1 7 _ rfl
  have c1_8 := cb1 8 _ rfl
  have q8c := Lib.hid (kp_at hz h8.out)
  have hcW := fun x => cell_keep (cell_at hz hc) x
  have hz' := Lib.hid hz
  clear hW hz cb0 cb1
  refine (q8c.out _).mono ?_
  rintro r w' ⟨rfl, x1, rfl⟩
  go_wp2_with fail
  go_ret
  exact ⟨congrArg (fun z => Ending.returned (Value.bool z)) hF.out, by rw [hz'.out, plus_plus]; exact ⟨_, rfl⟩⟩
set_option maxRecDepth 100000 in
set_option maxHeartbeats 8000000 in
theorem stmt1_of (a0 : Int) (a1 : ByteArray) (a2 : ByteArray) (a3 : Int) (a4 : Int) (a5 : Int) (a6 : Int) (a7 : ByteArray) (a8 : ByteArray) (a9 : Int) (a10 : Int) (a11p : Option Addr) (a11n : Nat) (a11c : Nat) (a12p : Option Addr) (a12n : Nat) (a12c : Nat) (a13p : Option Addr) (a13n : Nat) (a13c : Nat) (b0 : Int) (b1 : ByteArray) (b2 : ByteArray) (b3 : Int) (b4 : Int) (b5 : Int) (b6 : Int) (b7 : ByteArray) (b8 : ByteArray) (b9 : Int) (b10 : Int) (b11p : Option Addr) (b11n : Nat) (b11c : Nat) (b12p : Option Addr) (b12n : Nat) (b12c : Nat) (b13p : Option Addr) (b13n : Nat) (b13c : Nat) (c : Nat) (s3 : Bool) (s4 : Bool) (s5 : Bool) (w : World) (hc : w.cell? ⟨c, 0, none⟩ = some (.func (.func 103) #[] #[.pointer (some ⟨c, 0, none⟩)]))
    (h3 : Kp Tryz.prog w 17 #[.agg #[.int .u8 a3, .int .i64 a4, .int .u64 a5, .int .u64 a6, .string a7, .string a8, .int .i64 a9, .int .i64 a10, .slice a11p a11n a11c], .agg #[.int .u8 b3, .int .i64 b4, .int .u64 b5, .int .u64 b6, .string b7, .string b8, .int .i64 b9, .int .i64 b10, .slice b11p b11n b11c]] (.bool s3))
    (h4 : Kp Tryz.prog w 104 #[.slice a12p a12n a12c, .slice b12p b12n b12c, .func (.func 103) #[] #[.pointer (some ⟨c, 0, none⟩)]] (.bool s4))
    (h5 : Kp Tryz.prog w 104 #[.slice a13p a13n a13c, .slice b13p b13n b13c, .func (.func 103) #[] #[.pointer (some ⟨c, 0, none⟩)]] (.bool s5)) :
    Kp Tryz.prog w 103 #[.agg #[.int .u8 a0, .string a1, .string a2, .int .u8 a3, .int .i64 a4, .int .u64 a5, .int .u64 a6, .string a7, .string a8, .int .i64 a9, .int .i64 a10, .slice a11p a11n a11c, .slice a12p a12n a12c, .slice a13p a13n a13c], .agg #[.int .u8 b0, .string b1, .string b2, .int .u8 b3, .int .i64 b4, .int .u64 b5, .int .u64 b6, .string b7, .string b8, .int .i64 b9, .int .i64 b10, .slice b11p b11n b11c, .slice b12p b12n b12c, .slice b13p b13n b13c], .pointer (some ⟨c, 0, none⟩)] (.bool ((a0 == b0) && ((a1.toList == b1.toList) && ((a2.toList == b2.toList) && (s3 && (s4 && s5)))))) := by
  intro y0
  have h3 := h3.up y0
  have h4 := h4.up y0
  have h5 := h5.up y0
  have hc := cell_keep hc y0
  obtain ⟨V, hV⟩ : ∃ V, plus w y0 = V := ⟨_, rfl⟩
  rw [hV] at h3 h4 h5 hc ⊢
  clear hV
  have hc2 := fun a b => cell_alloc (cell_alloc hc a) b
  by_cases q0 : a0 = b0
  case neg =>
    have hF := Lib.hid (show false = ((a0 == b0) && ((a1.toList == b1.toList) && ((a2.toList == b2.toList) && ((s3) && ((s4) && (s5)))))) by simp [q0])
    clear h3 h4 h5
    go_enter Tryz.func103, Tryz.ntmps103
    go_wp2_with fail
    go_ret
    exact ⟨congrArg (fun z => Ending.returned (Value.bool z)) hF.out, alloc2_plus _ _ _⟩
  subst q0
  by_cases q1 : (a1.toList == b1.toList) = true
  case neg =>
    have q1 : (a1.toList == b1.toList) = false := by simpa using q1
    have hF := Lib.hid (show false = ((a0 == a0) && ((a1.toList == b1.toList) && ((a2.toList == b2.toList) && ((s3) && ((s4) && (s5)))))) by simp [q1])
    clear h3 h4 h5
    go_enter Tryz.func103, Tryz.ntmps103
    go_wp2_with fail
    go_ret
    exact ⟨congrArg (fun z => Ending.returned (Value.bool z)) hF.out, alloc2_plus _ _ _⟩
  by_cases q2 : (a2.toList == b2.toList) = true
  case neg =>
    have q2 : (a2.toList == b2.toList) = false := by simpa using q2
    have hF := Lib.hid (show false = ((a0 == a0) && ((a1.toList == b1.toList) && ((a2.toList == b2.toList) && ((s3) && ((s4) && (s5)))))) by simp [q2, q1])
    clear h3 h4 h5
    go_enter Tryz.func103, Tryz.ntmps103
    go_wp2_with fail
    go_ret
    exact ⟨congrArg (fun z => Ending.returned (Value.bool z)) hF.out, alloc2_plus _ _ _⟩
  cases s3
  case false =>
    have hF := Lib.hid (show false = ((a0 == a0) && ((a1.toList == b1.toList) && ((a2.toList == b2.toList) && ((false) && ((s4) && (s5)))))) by simp [q1, q2])
    clear h4 h5
    have h3 := Lib.hid h3
    go_enter Tryz.func103, Tryz.ntmps103
    go_wp2_with fail
    obtain ⟨W, yy, hW, ⟨z, hz⟩, cb0, cb1⟩ := box2n V _ _ 94 94
    rw [hW]
    have c0_0 := cb0 0 _ rfl
    have c0_1 := cb0 1 _ rfl
    have c0_2 := cb0 2 _ rfl
    have c0_3 := cb0 3 _ rfl
    have c0_4 := cb0 4 _ rfl
    have c0_5 := cb0 5 _ rfl
    have c0_6 := cb0 6 _ rfl
    have c0_7 := cb0 7 _ rfl
    have c0_8 := cb0 8 _ rfl
    have c0_9 := cb0 9 _ rfl
    have c0_10 := cb0 10 _ rfl
    have c0_11 := cb0 11 _ rfl
    have c0_12 := cb0 12 _ rfl
    have c0_13 := cb0 13 _ rfl
    have c1_0 := cb1 0 _ rfl
    have c1_1 := cb1 1 _ rfl
    have c1_2 := cb1 2 _ rfl
    have c1_3 := cb1 3 _ rfl
    have c1_4 := cb1 4 _ rfl
    have c1_5 := cb1 5 _ rfl
    have c1_6 := cb1 6 _ rfl
    have c1_7 := cb1 7 _ rfl
    have c1_8 := cb1 8 _ rfl
    have c1_9 := cb1 9 _ rfl
    have c1_10 := cb1 10 _ rfl
    have c1_11 := cb1 11 _ rfl
    have c1_12 := cb1 12 _ rfl
    have c1_13 := cb1 13 _ rfl
    have q3c := Lib.hid (kp_at hz h3.out)
    have hcW := fun x => cell_keep (cell_at hz hc) x
    have hz' := Lib.hid hz
    clear hW hz cb0 cb1
    refine (q3c.out _).mono ?_
    rintro r w' ⟨rfl, x1, rfl⟩
    go_wp2_with fail
    go_ret
    exact ⟨congrArg (fun z => Ending.returned (Value.bool z)) hF.out, by rw [hz'.out, plus_plus]; exact ⟨_, rfl⟩⟩
  cases s4
  case false =>
    have hF := Lib.hid (show false = ((a0 == a0) && ((a1.toList == b1.toList) && ((a2.toList == b2.toList) && ((true) && ((false) && (s5)))))) by simp [q1, q2])
    clear h5
    have h3 := Lib.hid h3
    have h4 := Lib.hid h4
    go_enter Tryz.func103, Tryz.ntmps103
    go_wp2_with fail
    obtain ⟨W, yy, hW, ⟨z, hz⟩, cb0, cb1⟩ := box2n V _ _ 94 94
    rw [hW]
    have c0_0 := cb0 0 _ rfl
    have c0_1 := cb0 1 _ rfl
    have c0_2 := cb0 2 _ rfl
    have c0_3 := cb0 3 _ rfl
    have c0_4 := cb0 4 _ rfl
    have c0_5 := cb0 5 _ rfl
    have c0_6 := cb0 6 _ rfl
    have c0_7 := cb0 7 _ rfl
    have c0_8 := cb0 8 _ rfl
    have c0_9 := cb0 9 _ rfl
    have c0_10 := cb0 10 _ rfl
    have c0_11 := cb0 11 _ rfl
    have c0_12 := cb0 12 _ rfl
    have c0_13 := cb0 13 _ rfl
    have c1_0 := cb1 0 _ rfl
    have c1_1 := cb1 1 _ rfl
    have c1_2 := cb1 2 _ rfl
    have c1_3 := cb1 3 _ rfl
    have c1_4 := cb1 4 _ rfl
    have c1_5 := cb1 5 _ rfl
    have c1_6 := cb1 6 _ rfl
    have c1_7 := cb1 7 _ rfl
    have c1_8 := cb1 8 _ rfl
    have c1_9 := cb1 9 _ rfl
    have c1_10 := cb1 10 _ rfl
    have c1_11 := cb1 11 _ rfl
    have c1_12 := cb1 12 _ rfl
    have c1_13 := cb1 13 _ rfl
    have q3c := Lib.hid (kp_at hz h3.out)
    have q4c := Lib.hid (kp_at hz h4.out)
    have hcW := fun x => cell_keep (cell_at hz hc) x
    have hz' := Lib.hid hz
    clear hW hz cb0 cb1
    refine (q3c.out _).mono ?_
    rintro r w' ⟨rfl, x1, rfl⟩
    go_wp2_with (first | (go_at_call 104; with_reducible refine (q4c.out _).mono ?_; rintro r w' ⟨rfl, x, rfl⟩))
    go_ret
    exact ⟨congrArg (fun z => Ending.returned (Value.bool z)) hF.out, by rw [hz'.out, plus_plus]; exact ⟨_, rfl⟩⟩
  cases s5
  case false =>
    have hF := Lib.hid (show false = ((a0 == a0) && ((a1.toList == b1.toList) && ((a2.toList == b2.toList) && ((true) && ((true) && (false)))))) by simp [q1, q2])
    have h3 := Lib.hid h3
    have h4 := Lib.hid h4
    have h5 := Lib.hid h5
    go_enter Tryz.func103, Tryz.ntmps103
    go_wp2_with fail
    obtain ⟨W, yy, hW, ⟨z, hz⟩, cb0, cb1⟩ := box2n V _ _ 94 94
    rw [hW]
    have c0_0 := cb0 0 _ rfl
    have c0_1 := cb0 1 _ rfl
    have c0_2 := cb0 2 _ rfl
    have c0_3 := cb0 3 _ rfl
    have c0_4 := cb0 4 _ rfl
    have c0_5 := cb0 5 _ rfl
    have c0_6 := cb0 6 _ rfl
    have c0_7 := cb0 7 _ rfl
    have c0_8 := cb0 8 _ rfl
    have c0_9 := cb0 9 _ rfl
    have c0_10 := cb0 10 _ rfl
    have c0_11 := cb0 11 _ rfl
    have c0_12 := cb0 12 _ rfl
    have c0_13 := cb0 13 _ rfl
    have c1_0 := cb1 0 _ rfl
    have c1_1 := cb1 1 _ rfl
    have c1_2 := cb1 2 _ rfl
    have c1_3 := cb1 3 _ rfl
    have c1_4 := cb1 4 _ rfl
    have c1_5 := cb1 5 _ rfl
    have c1_6 := cb1 6 _ rfl
    have c1_7 := cb1 7 _ rfl
    have c1_8 := cb1 8 _ rfl
    have c1_9 := cb1 9 _ rfl
    have c1_10 := cb1 10 _ rfl
    have c1_11 := cb1 11 _ rfl
    have c1_12 := cb1 12 _ rfl
    have c1_13 := cb1 13 _ rfl
    have q3c := Lib.hid (kp_at hz h3.out)
    have q4c := Lib.hid (kp_at hz h4.out)
    have q5c := Lib.hid (kp_at hz h5.out)
    have hcW := fun x => cell_keep (cell_at hz hc) x
    have hz' := Lib.hid hz
    clear hW hz cb0 cb1
    refine (q3c.out _).mono ?_
    rintro r w' ⟨rfl, x1, rfl⟩
    go_wp2_with (first | (go_at_call 104; with_reducible refine (q4c.out _).mono ?_; rintro r w' ⟨rfl, x, rfl⟩) | (go_at_call 104; with_reducible refine (q5c.out _).mono ?_; rintro r w' ⟨rfl, x, rfl⟩))
    go_ret
    exact ⟨congrArg (fun z => Ending.returned (Value.bool z)) hF.out, by rw [hz'.out, plus_plus]; exact ⟨_, rfl⟩⟩
  have hF := Lib.hid (show true = ((a0 == a0) && ((a1.toList == b1.toList) && ((a2.toList == b2.toList) && ((true) && ((true) && (true)))))) by simp [q1, q2])
  have h3 := Lib.hid h3
  have h4 := Lib.hid h4
  have h5 := Lib.hid h5
  go_enter Tryz.func103, Tryz.ntmps103
  go_wp2_with fail
  obtain ⟨W, yy, hW, ⟨z, hz⟩, cb0, cb1⟩ := box2n V _ _ 94 94
  rw [hW]
  have c0_0 := cb0 0 _ rfl
  have c0_1 := cb0 1 _ rfl
  have c0_2 := cb0 2 _ rfl
  have c0_3 := cb0 3 _ rfl
  have c0_4 := cb0 4 _ rfl
  have c0_5 := cb0 5 _ rfl
  have c0_6 := cb0 6 _ rfl
  have c0_7 := cb0 7 _ rfl
  have c0_8 := cb0 8 _ rfl
  have c0_9 := cb0 9 _ rfl
  have c0_10 := cb0 10 _ rfl
  have c0_11 := cb0 11 _ rfl
  have c0_12 := cb0 12 _ rfl
  have c0_13 := cb0 13 _ rfl
  have c1_0 := cb1 0 _ rfl
  have c1_1 := cb1 1 _ rfl
  have c1_2 := cb1 2 _ rfl
  have c1_3 := cb1 3 _ rfl
  have c1_4 := cb1 4 _ rfl
  have c1_5 := cb1 5 _ rfl
  have c1_6 := cb1 6 _ rfl
  have c1_7 := cb1 7 _ rfl
  have c1_8 := cb1 8 _ rfl
  have c1_9 := cb1 9 _ rfl
  have c1_10 := cb1 10 _ rfl
  have c1_11 := cb1 11 _ rfl
  have c1_12 := cb1 12 _ rfl
  have c1_13 := cb1 13 _ rfl
  have q3c := Lib.hid (kp_at hz h3.out)
  have q4c := Lib.hid (kp_at hz h4.out)
  have q5c := Lib.hid (kp_at hz h5.out)
  have hcW := fun x => cell_keep (cell_at hz hc) x
  have hz' := Lib.hid hz
  clear hW hz cb0 cb1
  refine (q3c.out _).mono ?_
  rintro r w' ⟨rfl, x1, rfl⟩
  go_wp2_with (first | (go_at_call 104; with_reducible refine (q4c.out _).mono ?_; rintro r w' ⟨rfl, x, rfl⟩) | (go_at_call 104; with_reducible refine (q5c.out _).mono ?_; rintro r w' ⟨rfl, x, rfl⟩))
  go_ret
  exact ⟨congrArg (fun z => Ending.returned (Value.bool z)) hF.out, by rw [hz'.out, plus_plus]; exact ⟨_, rfl⟩⟩
end Go.Proofs.YtddpmfilkhegmaaGreat
namespace Go.Proofs.YtddpmfilkhegmaaGreat
open Go.RowKit
set_option maxRecDepth 100000 in
set_option maxHeartbeats 8000000 in
theorem same_of (a0p : Option Addr) (a0n : Nat) (a0c : Nat) (a1p : Option Addr) (a1n : Nat) (a1c : Nat) (a2p : Option Addr) (a2n : Nat) (a2c : Nat) (a3p : Option Addr) (a3n : Nat) (a3c : Nat) (a4p : Option Addr) (a4n : Nat) (a4c : Nat) (a5p : Option Addr) (a5n : Nat) (a5c : Nat) (a6p : Option Addr) (a6n : Nat) (a6c : Nat) (b0p : Option Addr) (b0n : Nat) (b0c : Nat) (b1p : Option Addr) (b1n : Nat) (b1c : Nat) (b2p : Option Addr) (b2n : Nat) (b2c : Nat) (b3p : Option Addr) (b3n : Nat) (b3c : Nat) (b4p : Option Addr) (b4n : Nat) (b4c : Nat) (b5p : Option Addr) (b5n : Nat) (b5c : Nat) (b6p : Option Addr) (b6n : Nat) (b6c : Nat) (s0 : Bool) (s1 : Bool) (s2 : Bool) (s3 : Bool) (s4 : Bool) (s5 : Bool) (s6 : Bool) (w : World)
    (h0 : Kp Tryz.prog w 49 #[.slice a0p a0n a0c, .slice b0p b0n b0c, .func (.func 50) #[] #[]] (.bool s0))
    (h1 : Kp Tryz.prog w 51 #[.slice a1p a1n a1c, .slice b1p b1n b1c] (.bool s1))
    (h2 : Kp Tryz.prog w 52 #[.slice a2p a2n a2c, .slice b2p b2n b2c, .func (.func 53) #[] #[]] (.bool s2))
    (h3 : Kp Tryz.prog w 54 #[.slice a3p a3n a3c, .slice b3p b3n b3c, .func (.func 55) #[] #[]] (.bool s3))
    (h4 : Kp Tryz.prog w 56 #[.slice a4p a4n a4c, .slice b4p b4n b4c, .func (.func 57) #[] #[]] (.bool s4))
    (h5 : Kp Tryz.prog w 58 #[.slice a5p a5n a5c, .slice b5p b5n b5c] (.bool s5))
    (h6 : Kp Tryz.prog w 59 #[.slice a6p a6n a6c, .slice b6p b6n b6c] (.bool s6)) :
    Kp Tryz.prog w 15 #[.agg #[.slice a0p a0n a0c, .slice a1p a1n a1c, .slice a2p a2n a2c, .slice a3p a3n a3c, .slice a4p a4n a4c, .slice a5p a5n a5c, .slice a6p a6n a6c], .agg #[.slice b0p b0n b0c, .slice b1p b1n b1c, .slice b2p b2n b2c, .slice b3p b3n b3c, .slice b4p b4n b4c, .slice b5p b5n b5c, .slice b6p b6n b6c]] (.bool (s0 && (s1 && (s2 && (s3 && (s4 && (s5 && s6))))))) := by
  intro y0
  have h0 := h0.up y0
  have h1 := h1.up y0
  have h2 := h2.up y0
  have h3 := h3.up y0
  have h4 := h4.up y0
  have h5 := h5.up y0
  have h6 := h6.up y0
  obtain ⟨V, hV⟩ : ∃ V, plus w y0 = V := ⟨_, rfl⟩
  rw [hV] at h0 h1 h2 h3 h4 h5 h6 ⊢
  clear hV
  cases s0
  case false =>
    have hF := Lib.hid (show false = ((false) && ((s1) && ((s2) && ((s3) && ((s4) && ((s5) && (s6))))))) by simp)
    clear h1 h2 h3 h4 h5 h6
    have h0 := Lib.hid h0
    go_enter Tryz.func15, Tryz.ntmps15
    go_wp2_with fail
    obtain ⟨W, yy, hW, ⟨z, hz⟩, cb0, cb1⟩ := box2n V _ _ 30 30
    rw [hW]
    have c0_0 := cb0 0 _ rfl
    have c0_1 := cb0 1 _ rfl
    have c0_2 := cb0 2 _ rfl
    have c0_3 := cb0 3 _ rfl
    have c0_4 := cb0 4 _ rfl
    have c0_5 := cb0 5 _ rfl
    have c0_6 := cb0 6 _ rfl
    have c1_0 := cb1 0 _ rfl
    have c1_1 := cb1 1 _ rfl
    have c1_2 := cb1 2 _ rfl
    have c1_3 := cb1 3 _ rfl
    have c1_4 := cb1 4 _ rfl
    have c1_5 := cb1 5 _ rfl
    have c1_6 := cb1 6 _ rfl
    have q0c := Lib.hid (kp_at hz h0.out)
    have hz' := Lib.hid hz
    clear hW hz cb0 cb1
    refine (q0c.out _).mono ?_
    rintro r w' ⟨rfl, x1, rfl⟩
    go_wp2_with fail
    go_ret
    exact ⟨congrArg (fun z => Ending.returned (Value.bool z)) hF.out, by rw [hz'.out, plus_plus]; exact ⟨_, rfl⟩⟩
  cases s1
  case false =>
    have hF := Lib.hid (show false = ((true) && ((false) && ((s2) && ((s3) && ((s4) && ((s5) && (s6))))))) by simp)
    clear h2 h3 h4 h5 h6
    have h0 := Lib.hid h0
    have h1 := Lib.hid h1
    go_enter Tryz.func15, Tryz.ntmps15
    go_wp2_with fail
    obtain ⟨W, yy, hW, ⟨z, hz⟩, cb0, cb1⟩ := box2n V _ _ 30 30
    rw [hW]
    have c0_0 := cb0 0 _ rfl
    have c0_1 := cb0 1 _ rfl
    have c0_2 := cb0 2 _ rfl
    have c0_3 := cb0 3 _ rfl
    have c0_4 := cb0 4 _ rfl
    have c0_5 := cb0 5 _ rfl
    have c0_6 := cb0 6 _ rfl
    have c1_0 := cb1 0 _ rfl
    have c1_1 := cb1 1 _ rfl
    have c1_2 := cb1 2 _ rfl
    have c1_3 := cb1 3 _ rfl
    have c1_4 := cb1 4 _ rfl
    have c1_5 := cb1 5 _ rfl
    have c1_6 := cb1 6 _ rfl
    have q0c := Lib.hid (kp_at hz h0.out)
    have q1c := Lib.hid (kp_at hz h1.out)
    have hz' := Lib.hid hz
    clear hW hz cb0 cb1
    refine (q0c.out _).mono ?_
    rintro r w' ⟨rfl, x1, rfl⟩
    go_wp2_with (first | (go_at_call 51; with_reducible refine (q1c.out _).mono ?_; rintro r w' ⟨rfl, x, rfl⟩))
    go_ret
    exact ⟨congrArg (fun z => Ending.returned (Value.bool z)) hF.out, by rw [hz'.out, plus_plus]; exact ⟨_, rfl⟩⟩
  cases s2
  case false =>
    have hF := Lib.hid (show false = ((true) && ((true) && ((false) && ((s3) && ((s4) && ((s5) && (s6))))))) by simp)
    clear h3 h4 h5 h6
    have h0 := Lib.hid h0
    have h1 := Lib.hid h1
    have h2 := Lib.hid h2
    go_enter Tryz.func15, Tryz.ntmps15
    go_wp2_with fail
    obtain ⟨W, yy, hW, ⟨z, hz⟩, cb0, cb1⟩ := box2n V _ _ 30 30
    rw [hW]
    have c0_0 := cb0 0 _ rfl
    have c0_1 := cb0 1 _ rfl
    have c0_2 := cb0 2 _ rfl
    have c0_3 := cb0 3 _ rfl
    have c0_4 := cb0 4 _ rfl
    have c0_5 := cb0 5 _ rfl
    have c0_6 := cb0 6 _ rfl
    have c1_0 := cb1 0 _ rfl
    have c1_1 := cb1 1 _ rfl
    have c1_2 := cb1 2 _ rfl
    have c1_3 := cb1 3 _ rfl
    have c1_4 := cb1 4 _ rfl
    have c1_5 := cb1 5 _ rfl
    have c1_6 := cb1 6 _ rfl
    have q0c := Lib.hid (kp_at hz h0.out)
    have q1c := Lib.hid (kp_at hz h1.out)
    have q2c := Lib.hid (kp_at hz h2.out)
    have hz' := Lib.hid hz
    clear hW hz cb0 cb1
    refine (q0c.out _).mono ?_
    rintro r w' ⟨rfl, x1, rfl⟩
    go_wp2_with (first | (go_at_call 51; with_reducible refine (q1c.out _).mono ?_; rintro r w' ⟨rfl, x, rfl⟩) | (go_at_call 52; with_reducible refine (q2c.out _).mono ?_; rintro r w' ⟨rfl, x, rfl⟩))
    go_ret
    exact ⟨congrArg (fun z => Ending.returned (Value.bool z)) hF.out, by rw [hz'.out, plus_plus]; exact ⟨_, rfl⟩⟩
  cases s3
  case false =>
    have hF := Lib.hid (show false = ((true) && ((true) && ((true) && ((false) && ((s4) && ((s5) && (s6))))))) by simp)
    clear h4 h5 h6
    have h0 := Lib.hid h0
    have h1 := Lib.hid h1
    have h2 := Lib.hid h2
    have h3 := Lib.hid h3
    go_enter Tryz.func15, Tryz.ntmps15
    go_wp2_with fail
    obtain ⟨W, yy, hW, ⟨z, hz⟩, cb0, cb1⟩ := box2n V _ _ 30 30
    rw [hW]
    have c0_0 := cb0 0 _ rfl
    have c0_1 := cb0 1 _ rfl
    have c0_2 := cb0 2 _ rfl
    have c0_3 := cb0 3 _ rfl
    have c0_4 := cb0 4 _ rfl
    have c0_5 := cb0 5 _ rfl
    have c0_6 := cb0 6 _ rfl
    have c1_0 := cb1 0 _ rfl
    have c1_1 := cb1 1 _ rfl
    have c1_2 := cb1 2 _ rfl
    have c1_3 := cb1 3 _ rfl
    have c1_4 := cb1 4 _ rfl
    have c1_5 := cb1 5 _ rfl
    have c1_6 := cb1 6 _ rfl
    have q0c := Lib.hid (kp_at hz h0.out)
    have q1c := Lib.hid (kp_at hz h1.out)
    have q2c := Lib.hid (kp_at hz h2.out)
    have q3c := Lib.hid (kp_at hz h3.out)
    have hz' := Lib.hid hz
    clear hW hz cb0 cb1
    refine (q0c.out _).mono ?_
    rintro r w' ⟨rfl, x1, rfl⟩
    go_wp2_with (first | (go_at_call 51; with_reducible refine (q1c.out _).mono ?_; rintro r w' ⟨rfl, x, rfl⟩) | (go_at_call 52; with_reducible refine (q2c.out _).mono ?_; rintro r w' ⟨rfl, x, rfl⟩) | (go_at_call 54; with_reducible refine (q3c.out _).mono ?_; rintro r w' ⟨rfl, x, rfl⟩))
    go_ret
    exact ⟨congrArg (fun z => Ending.returned (Value.bool z)) hF.out, by rw [hz'.out, plus_plus]; exact ⟨_, rfl⟩⟩
  cases s4
  case false =>
    have hF := Lib.hid (show false = ((true) && ((true) && ((true) && ((true) && ((false) && ((s5) && (s6))))))) by simp)
    clear h5 h6
    have h0 := Lib.hid h0
    have h1 := Lib.hid h1
    have h2 := Lib.hid h2
    have h3 := Lib.hid h3
    have h4 := Lib.hid h4
    go_enter Tryz.func15, Tryz.ntmps15
    go_wp2_with fail
    obtain ⟨W, yy, hW, ⟨z, hz⟩, cb0, cb1⟩ := box2n V _ _ 30 30
    rw [hW]
    have c0_0 := cb0 0 _ rfl
    have c0_1 := cb0 1 _ rfl
    have c0_2 := cb0 2 _ rfl
    have c0_3 := cb0 3 _ rfl
    have c0_4 := cb0 4 _ rfl
    have c0_5 := cb0 5 _ rfl
    have c0_6 := cb0 6 _ rfl
    have c1_0 := cb1 0 _ rfl
    have c1_1 := cb1 1 _ rfl
    have c1_2 := cb1 2 _ rfl
    have c1_3 := cb1 3 _ rfl
    have c1_4 := cb1 4 _ rfl
    have c1_5 := cb1 5 _ rfl
    have c1_6 := cb1 6 _ rfl
    have q0c := Lib.hid (kp_at hz h0.out)
    have q1c := Lib.hid (kp_at hz h1.out)
    have q2c := Lib.hid (kp_at hz h2.out)
    have q3c := Lib.hid (kp_at hz h3.out)
    have q4c := Lib.hid (kp_at hz h4.out)
    have hz' := Lib.hid hz
    clear hW hz cb0 cb1
    refine (q0c.out _).mono ?_
    rintro r w' ⟨rfl, x1, rfl⟩
    go_wp2_with (first | (go_at_call 51; with_reducible refine (q1c.out _).mono ?_; rintro r w' ⟨rfl, x, rfl⟩) | (go_at_call 52; with_reducible refine (q2c.out _).mono ?_; rintro r w' ⟨rfl, x, rfl⟩) | (go_at_call 54; with_reducible refine (q3c.out _).mono ?_; rintro r w' ⟨rfl, x, rfl⟩) | (go_at_call 56; with_reducible refine (q4c.out _).mono ?_; rintro r w' ⟨rfl, x, rfl⟩))
    go_ret
    exact ⟨congrArg (fun z => Ending.returned (Value.bool z)) hF.out, by rw [hz'.out, plus_plus]; exact ⟨_, rfl⟩⟩
  cases s5
  case false =>
    have hF := Lib.hid (show false = ((true) && ((true) && ((true) && ((true) && ((true) && ((false) && (s6))))))) by simp)
    clear h6
    have h0 := Lib.hid h0
    have h1 := Lib.hid h1
    have h2 := Lib.hid h2
    have h3 := Lib.hid h3
    have h4 := Lib.hid h4
    have h5 := Lib.hid h5
    go_enter Tryz.func15, Tryz.ntmps15
    go_wp2_with fail
    obtain ⟨W, yy, hW, ⟨z, hz⟩, cb0, cb1⟩ := box2n V _ _ 30 30
    rw [hW]
    have c0_0 := cb0 0 _ rfl
    have c0_1 := cb0 1 _ rfl
    have c0_2 := cb0 2 _ rfl
    have c0_3 := cb0 3 _ rfl
    have c0_4 := cb0 4 _ rfl
    have c0_5 := cb0 5 _ rfl
    have c0_6 := cb0 6 _ rfl
    have c1_0 := cb1 0 _ rfl
    have c1_1 := cb1 1 _ rfl
    have c1_2 := cb1 2 _ rfl
    have c1_3 := cb1 3 _ rfl
    have c1_4 := cb1 4 _ rfl
    have c1_5 := cb1 5 _ rfl
    have c1_6 := cb1 6 _ rfl
    have q0c := Lib.hid (kp_at hz h0.out)
    have q1c := Lib.hid (kp_at hz h1.out)
    have q2c := Lib.hid (kp_at hz h2.out)
    have q3c := Lib.hid (kp_at hz h3.out)
    have q4c := Lib.hid (kp_at hz h4.out)
    have q5c := Lib.hid (kp_at hz h5.out)
    have hz' := Lib.hid hz
    clear hW hz cb0 cb1
    refine (q0c.out _).mono ?_
    rintro r w' ⟨rfl, x1, rfl⟩
    go_wp2_with (first | (go_at_call 51; with_reducible refine (q1c.out _).mono ?_; rintro r w' ⟨rfl, x, rfl⟩) | (go_at_call 52; with_reducible refine (q2c.out _).mono ?_; rintro r w' ⟨rfl, x, rfl⟩) | (go_at_call 54; with_reducible refine (q3c.out _).mono ?_; rintro r w' ⟨rfl, x, rfl⟩) | (go_at_call 56; with_reducible refine (q4c.out _).mono ?_; rintro r w' ⟨rfl, x, rfl⟩) | (go_at_call 58; with_reducible refine (q5c.out _).mono ?_; rintro r w' ⟨rfl, x, rfl⟩))
    go_ret
    exact ⟨congrArg (fun z => Ending.returned (Value.bool z)) hF.out, by rw [hz'.out, plus_plus]; exact ⟨_, rfl⟩⟩
  cases s6
  case false =>
    have hF := Lib.hid (show false = ((true) && ((true) && ((true) && ((true) && ((true) && ((true) && (false))))))) by simp)
    have h0 := Lib.hid h0
    have h1 := Lib.hid h1
    have h2 := Lib.hid h2
    have h3 := Lib.hid h3
    have h4 := Lib.hid h4
    have h5 := Lib.hid h5
    have h6 := Lib.hid h6
    go_enter Tryz.func15, Tryz.ntmps15
    go_wp2_with fail
    obtain ⟨W, yy, hW, ⟨z, hz⟩, cb0, cb1⟩ := box2n V _ _ 30 30
    rw [hW]
    have c0_0 := cb0 0 _ rfl
    have c0_1 := cb0 1 _ rfl
    have c0_2 := cb0 2 _ rfl
    have c0_3 := cb0 3 _ rfl
    have c0_4 := cb0 4 _ rfl
    have c0_5 := cb0 5 _ rfl
    have c0_6 := cb0 6 _ rfl
    have c1_0 := cb1 0 _ rfl
    have c1_1 := cb1 1 _ rfl
    have c1_2 := cb1 2 _ rfl
    have c1_3 := cb1 3 _ rfl
    have c1_4 := cb1 4 _ rfl
    have c1_5 := cb1 5 _ rfl
    have c1_6 := cb1 6 _ rfl
    have q0c := Lib.hid (kp_at hz h0.out)
    have q1c := Lib.hid (kp_at hz h1.out)
    have q2c := Lib.hid (kp_at hz h2.out)
    have q3c := Lib.hid (kp_at hz h3.out)
    have q4c := Lib.hid (kp_at hz h4.out)
    have q5c := Lib.hid (kp_at hz h5.out)
    have q6c := Lib.hid (kp_at hz h6.out)
    have hz' := Lib.hid hz
    clear hW hz cb0 cb1
    refine (q0c.out _).mono ?_
    rintro r w' ⟨rfl, x1, rfl⟩
    go_wp2_with (first | (go_at_call 51; with_reducible refine (q1c.out _).mono ?_; rintro r w' ⟨rfl, x, rfl⟩) | (go_at_call 52; with_reducible refine (q2c.out _).mono ?_; rintro r w' ⟨rfl, x, rfl⟩) | (go_at_call 54; with_reducible refine (q3c.out _).mono ?_; rintro r w' ⟨rfl, x, rfl⟩) | (go_at_call 56; with_reducible refine (q4c.out _).mono ?_; rintro r w' ⟨rfl, x, rfl⟩) | (go_at_call 58; with_reducible refine (q5c.out _).mono ?_; rintro r w' ⟨rfl, x, rfl⟩) | (go_at_call 59; with_reducible refine (q6c.out _).mono ?_; rintro r w' ⟨rfl, x, rfl⟩))
    go_ret
    exact ⟨congrArg (fun z => Ending.returned (Value.bool z)) hF.out, by rw [hz'.out, plus_plus]; exact ⟨_, rfl⟩⟩
  have hF := Lib.hid (show true = ((true) && ((true) && ((true) && ((true) && ((true) && ((true) && (true))))))) by simp)
  have h0 := Lib.hid h0
  have h1 := Lib.hid h1
  have h2 := Lib.hid h2
  have h3 := Lib.hid h3
  have h4 := Lib.hid h4
  have h5 := Lib.hid h5
  have h6 := Lib.hid h6
  go_enter Tryz.func15, Tryz.ntmps15
  go_wp2_with fail
  obtain ⟨W, yy, hW, ⟨z, hz⟩, cb0, cb1⟩ := box2n V _ _ 30 30
  rw [hW]
  have c0_0 := cb0 0 _ rfl
  have c0_1 := cb0 1 _ rfl
  have c0_2 := cb0 2 _ rfl
  have c0_3 := cb0 3 _ rfl
  have c0_4 := cb0 4 _ rfl
  have c0_5 := cb0 5 _ rfl
  have c0_6 := cb0 6 _ rfl
  have c1_0 := cb1 0 _ rfl
  have c1_1 := cb1 1 _ rfl
  have c1_2 := cb1 2 _ rfl
  have c1_3 := cb1 3 _ rfl
  have c1_4 := cb1 4 _ rfl
  have c1_5 := cb1 5 _ rfl
  have c1_6 := cb1 6 _ rfl
  have q0c := Lib.hid (kp_at hz h0.out)
  have q1c := Lib.hid (kp_at hz h1.out)
  have q2c := Lib.hid (kp_at hz h2.out)
  have q3c := Lib.hid (kp_at hz h3.out)
  have q4c := Lib.hid (kp_at hz h4.out)
  have q5c := Lib.hid (kp_at hz h5.out)
  have q6c := Lib.hid (kp_at hz h6.out)
  have hz' := Lib.hid hz
  clear hW hz cb0 cb1
  refine (q0c.out _).mono ?_
  rintro r w' ⟨rfl, x1, rfl⟩
  go_wp2_with (first | (go_at_call 51; with_reducible refine (q1c.out _).mono ?_; rintro r w' ⟨rfl, x, rfl⟩) | (go_at_call 52; with_reducible refine (q2c.out _).mono ?_; rintro r w' ⟨rfl, x, rfl⟩) | (go_at_call 54; with_reducible refine (q3c.out _).mono ?_; rintro r w' ⟨rfl, x, rfl⟩) | (go_at_call 56; with_reducible refine (q4c.out _).mono ?_; rintro r w' ⟨rfl, x, rfl⟩) | (go_at_call 58; with_reducible refine (q5c.out _).mono ?_; rintro r w' ⟨rfl, x, rfl⟩) | (go_at_call 59; with_reducible refine (q6c.out _).mono ?_; rintro r w' ⟨rfl, x, rfl⟩))
  go_ret
  exact ⟨congrArg (fun z => Ending.returned (Value.bool z)) hF.out, by rw [hz'.out, plus_plus]; exact ⟨_, rfl⟩⟩
end Go.Proofs.YtddpmfilkhegmaaGreat
