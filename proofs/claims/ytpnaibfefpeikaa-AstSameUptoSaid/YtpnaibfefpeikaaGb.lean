/-
  WHAT IS PROVED HERE: what sameKey, sameState, sameAction, sameTable of the landed ast hand back, by what their callees hand back. Written by gen/astsame.py.
-/
import Derived.Test.YtpnaibfefpeikaaRows
import Derived.Test.YtpnaibfefpeikaaG0
import Derived.WalkKit
import Derived.Lib.Hide
import Derived.WalkSpells
import Derived.WalkLawsBesides
import Derived.Laws.EntriesVeiled
namespace Go.Proofs.Ytpnaibfefpeikaa
open Go.RowKit
set_option maxHeartbeats 8000000 in
theorem key_of (a0 : Int) (a1 : Int) (a2 : Int) (a3 : Int) (a4 : ByteArray) (a5 : ByteArray) (a6 : Int) (a7 : Int) (a8p : Option Addr) (a8n : Nat) (a8c : Nat) (a9 : Int) (b0 : Int) (b1 : Int) (b2 : Int) (b3 : Int) (b4 : ByteArray) (b5 : ByteArray) (b6 : Int) (b7 : Int) (b8p : Option Addr) (b8n : Nat) (b8c : Nat) (b9 : Int) (s1 : Bool) (w : World)
    (h1 : Kp Try.prog w 8 #[.agg #[.int .u8 a0, .int .i64 a1, .int .u64 a2, .int .u64 a3, .string a4, .string a5, .int .i64 a6, .int .i64 a7, .slice a8p a8n a8c], .agg #[.int .u8 b0, .int .i64 b1, .int .u64 b2, .int .u64 b3, .string b4, .string b5, .int .i64 b6, .int .i64 b7, .slice b8p b8n b8c]] (.bool s1)) :
    Kp Try.prog w 51 #[.agg #[.int .u8 a0, .int .i64 a1, .int .u64 a2, .int .u64 a3, .string a4, .string a5, .int .i64 a6, .int .i64 a7, .slice a8p a8n a8c, .int .u8 a9], .agg #[.int .u8 b0, .int .i64 b1, .int .u64 b2, .int .u64 b3, .string b4, .string b5, .int .i64 b6, .int .i64 b7, .slice b8p b8n b8c, .int .u8 b9]] (.bool ((a9 == b9) && s1)) := by
  intro y0
  have h1 := h1.up y0
  obtain ⟨V, hV⟩ : ∃ V, plus w y0 = V := ⟨_, rfl⟩
  rw [hV] at h1 ⊢
  clear hV
  by_cases q0 : a9 = b9
  case neg =>
    have hF := Lib.hid (show false = ((a9 == b9) && (s1)) by simp [q0])
    clear h1
    go_enter Try.func51, Try.ntmps51
    go_wp2_with fail
    go_ret
    exact ⟨congrArg (fun z => Ending.returned (Value.bool z)) hF.out, alloc2_plus _ _ _⟩
  subst q0
  cases s1
  case false =>
    have hF := Lib.hid (show false = ((a9 == a9) && (false)) by simp)
    have h1 := Lib.hid h1
    go_enter Try.func51, Try.ntmps51
    go_wp2_with fail
    obtain ⟨W, yy, hW, ⟨z, hz⟩, cb0, cb1⟩ := box2n V _ _ 67 67
    rw [hW]
    have c0_0 := cb0 0 _ rfl
    have c0_1 := cb0 1 _ rfl
    have c0_2 := cb0 2 _ rfl
    have c0_3 := cb0 3 _ rfl
    have c0_4 := cb0 4 _ rfl
    have c0_5 := cb0 5 _ rfl
    have c0_6 := cb0 6 _ rfl
    have c0_7 := cb0 7 _ rfl
    have c0_8 := cb0 8 _ rfl
    have c0_9 := cb0 9 _ rfl
    have c1_0 := cb1 0 _ rfl
    have c1_1 := cb1 1 _ rfl
    have c1_2 := cb1 2 _ rfl
    have c1_3 := cb1 3 _ rfl
    have c1_4 := cb1 4 _ rfl
    have c1_5 := cb1 5 _ rfl
    have c1_6 := cb1 6 _ rfl
    have c1_7 := cb1 7 _ rfl
    have c1_8 := cb1 8 _ rfl
    have c1_9 := cb1 9 _ rfl
    have q1c := Lib.hid (kp_at hz h1.out)
    have hz' := Lib.hid hz
    clear hW hz cb0 cb1
    refine (q1c.out _).mono ?_
    rintro r w' ⟨rfl, x1, rfl⟩
    go_wp2_with fail
    go_ret
    exact ⟨congrArg (fun z => Ending.returned (Value.bool z)) hF.out, by rw [hz'.out, plus_plus]; exact ⟨_, rfl⟩⟩
  have hF := Lib.hid (show true = ((a9 == a9) && (true)) by simp)
  have h1 := Lib.hid h1
  go_enter Try.func51, Try.ntmps51
  go_wp2_with fail
  obtain ⟨W, yy, hW, ⟨z, hz⟩, cb0, cb1⟩ := box2n V _ _ 67 67
  rw [hW]
  have c0_0 := cb0 0 _ rfl
  have c0_1 := cb0 1 _ rfl
  have c0_2 := cb0 2 _ rfl
  have c0_3 := cb0 3 _ rfl
  have c0_4 := cb0 4 _ rfl
  have c0_5 := cb0 5 _ rfl
  have c0_6 := cb0 6 _ rfl
  have c0_7 := cb0 7 _ rfl
  have c0_8 := cb0 8 _ rfl
  have c0_9 := cb0 9 _ rfl
  have c1_0 := cb1 0 _ rfl
  have c1_1 := cb1 1 _ rfl
  have c1_2 := cb1 2 _ rfl
  have c1_3 := cb1 3 _ rfl
  have c1_4 := cb1 4 _ rfl
  have c1_5 := cb1 5 _ rfl
  have c1_6 := cb1 6 _ rfl
  have c1_7 := cb1 7 _ rfl
  have c1_8 := cb1 8 _ rfl
  have c1_9 := cb1 9 _ rfl
  have q1c := Lib.hid (kp_at hz h1.out)
  have hz' := Lib.hid hz
  clear hW hz cb0 cb1
  refine (q1c.out _).mono ?_
  rintro r w' ⟨rfl, x1, rfl⟩
  go_wp2_with fail
  go_ret
  exact ⟨congrArg (fun z => Ending.returned (Value.bool z)) hF.out, by rw [hz'.out, plus_plus]; exact ⟨_, rfl⟩⟩
set_option maxHeartbeats 8000000 in
theorem state_of (a0 : ByteArray) (a1p : Option Addr) (a1n : Nat) (a1c : Nat) (a2 : ByteArray) (a3p : Option Addr) (a3n : Nat) (a3c : Nat) (a4p : Option Addr) (a4n : Nat) (a4c : Nat) (b0 : ByteArray) (b1p : Option Addr) (b1n : Nat) (b1c : Nat) (b2 : ByteArray) (b3p : Option Addr) (b3n : Nat) (b3c : Nat) (b4p : Option Addr) (b4n : Nat) (b4c : Nat) (s1 : Bool) (s3 : Bool) (s4 : Bool) (w : World)
    (h1 : Kp Try.prog w 27 #[.slice a1p a1n a1c, .slice b1p b1n b1c] (.bool s1))
    (h3 : Kp Try.prog w 29 #[.slice a3p a3n a3c, .slice b3p b3n b3c, .func (.func 8) #[] #[]] (.bool s3))
    (h4 : Kp Try.prog w 48 #[.slice a4p a4n a4c, .slice b4p b4n b4c, .func (.func 49) #[] #[]] (.bool s4)) :
    Kp Try.prog w 21 #[.agg #[.string a0, .slice a1p a1n a1c, .string a2, .slice a3p a3n a3c, .slice a4p a4n a4c], .agg #[.string b0, .slice b1p b1n b1c, .string b2, .slice b3p b3n b3c, .slice b4p b4n b4c]] (.bool ((a0.toList == b0.toList) && (s1 && ((a2.toList == b2.toList) && (s3 && s4))))) := by
  intro y0
  have h1 := h1.up y0
  have h3 := h3.up y0
  have h4 := h4.up y0
  obtain ⟨V, hV⟩ : ∃ V, plus w y0 = V := ⟨_, rfl⟩
  rw [hV] at h1 h3 h4 ⊢
  clear hV
  by_cases q0 : (a0.toList == b0.toList) = true
  case neg =>
    have q0 : (a0.toList == b0.toList) = false := by simpa using q0
    have hF := Lib.hid (show false = ((a0.toList == b0.toList) && ((s1) && ((a2.toList == b2.toList) && ((s3) && (s4))))) by simp [q0])
    clear h1 h3 h4
    go_enter Try.func21, Try.ntmps21
    go_wp2_with fail
    go_ret
    exact ⟨congrArg (fun z => Ending.returned (Value.bool z)) hF.out, alloc2_plus _ _ _⟩
  cases s1
  case false =>
    have hF := Lib.hid (show false = ((a0.toList == b0.toList) && ((false) && ((a2.toList == b2.toList) && ((s3) && (s4))))) by simp [q0])
    clear h3 h4
    have h1 := Lib.hid h1
    go_enter Try.func21, Try.ntmps21
    go_wp2_with fail
    obtain ⟨W, yy, hW, ⟨z, hz⟩, cb0, cb1⟩ := box2n V _ _ 54 54
    rw [hW]
    have c0_0 := cb0 0 _ rfl
    have c0_1 := cb0 1 _ rfl
    have c0_2 := cb0 2 _ rfl
    have c0_3 := cb0 3 _ rfl
    have c0_4 := cb0 4 _ rfl
    have c1_0 := cb1 0 _ rfl
    have c1_1 := cb1 1 _ rfl
    have c1_2 := cb1 2 _ rfl
    have c1_3 := cb1 3 _ rfl
    have c1_4 := cb1 4 _ rfl
    have q1c := Lib.hid (kp_at hz h1.out)
    have hz' := Lib.hid hz
    clear hW hz cb0 cb1
    refine (q1c.out _).mono ?_
    rintro r w' ⟨rfl, x1, rfl⟩
    go_wp2_with fail
    go_ret
    exact ⟨congrArg (fun z => Ending.returned (Value.bool z)) hF.out, by rw [hz'.out, plus_plus]; exact ⟨_, rfl⟩⟩
  by_cases q2 : (a2.toList == b2.toList) = true
  case neg =>
    have q2 : (a2.toList == b2.toList) = false := by simpa using q2
    have hF := Lib.hid (show false = ((a0.toList == b0.toList) && ((true) && ((a2.toList == b2.toList) && ((s3) && (s4))))) by simp [q2, q0])
    clear h3 h4
    have h1 := Lib.hid h1
    go_enter Try.func21, Try.ntmps21
    go_wp2_with fail
    obtain ⟨W, yy, hW, ⟨z, hz⟩, cb0, cb1⟩ := box2n V _ _ 54 54
    rw [hW]
    have c0_0 := cb0 0 _ rfl
    have c0_1 := cb0 1 _ rfl
    have c0_2 := cb0 2 _ rfl
    have c0_3 := cb0 3 _ rfl
    have c0_4 := cb0 4 _ rfl
    have c1_0 := cb1 0 _ rfl
    have c1_1 := cb1 1 _ rfl
    have c1_2 := cb1 2 _ rfl
    have c1_3 := cb1 3 _ rfl
    have c1_4 := cb1 4 _ rfl
    have q1c := Lib.hid (kp_at hz h1.out)
    have hz' := Lib.hid hz
    clear hW hz cb0 cb1
    refine (q1c.out _).mono ?_
    rintro r w' ⟨rfl, x1, rfl⟩
    go_wp2_with fail
    go_ret
    exact ⟨congrArg (fun z => Ending.returned (Value.bool z)) hF.out, by rw [hz'.out, plus_plus]; exact ⟨_, rfl⟩⟩
  cases s3
  case false =>
    have hF := Lib.hid (show false = ((a0.toList == b0.toList) && ((true) && ((a2.toList == b2.toList) && ((false) && (s4))))) by simp [q0, q2])
    clear h4
    have h1 := Lib.hid h1
    have h3 := Lib.hid h3
    go_enter Try.func21, Try.ntmps21
    go_wp2_with fail
    obtain ⟨W, yy, hW, ⟨z, hz⟩, cb0, cb1⟩ := box2n V _ _ 54 54
    rw [hW]
    have c0_0 := cb0 0 _ rfl
    have c0_1 := cb0 1 _ rfl
    have c0_2 := cb0 2 _ rfl
    have c0_3 := cb0 3 _ rfl
    have c0_4 := cb0 4 _ rfl
    have c1_0 := cb1 0 _ rfl
    have c1_1 := cb1 1 _ rfl
    have c1_2 := cb1 2 _ rfl
    have c1_3 := cb1 3 _ rfl
    have c1_4 := cb1 4 _ rfl
    have q1c := Lib.hid (kp_at hz h1.out)
    have q3c := Lib.hid (kp_at hz h3.out)
    have hz' := Lib.hid hz
    clear hW hz cb0 cb1
    refine (q1c.out _).mono ?_
    rintro r w' ⟨rfl, x1, rfl⟩
    go_wp2_with (first | (go_at_call 29; refine (q3c.out _).mono ?_; rintro r w' ⟨rfl, x, rfl⟩))
    go_ret
    exact ⟨congrArg (fun z => Ending.returned (Value.bool z)) hF.out, by rw [hz'.out, plus_plus]; exact ⟨_, rfl⟩⟩
  cases s4
  case false =>
    have hF := Lib.hid (show false = ((a0.toList == b0.toList) && ((true) && ((a2.toList == b2.toList) && ((true) && (false))))) by simp [q0, q2])
    have h1 := Lib.hid h1
    have h3 := Lib.hid h3
    have h4 := Lib.hid h4
    go_enter Try.func21, Try.ntmps21
    go_wp2_with fail
    obtain ⟨W, yy, hW, ⟨z, hz⟩, cb0, cb1⟩ := box2n V _ _ 54 54
    rw [hW]
    have c0_0 := cb0 0 _ rfl
    have c0_1 := cb0 1 _ rfl
    have c0_2 := cb0 2 _ rfl
    have c0_3 := cb0 3 _ rfl
    have c0_4 := cb0 4 _ rfl
    have c1_0 := cb1 0 _ rfl
    have c1_1 := cb1 1 _ rfl
    have c1_2 := cb1 2 _ rfl
    have c1_3 := cb1 3 _ rfl
    have c1_4 := cb1 4 _ rfl
    have q1c := Lib.hid (kp_at hz h1.out)
    have q3c := Lib.hid (kp_at hz h3.out)
    have q4c := Lib.hid (kp_at hz h4.out)
    have hz' := Lib.hid hz
    clear hW hz cb0 cb1
    refine (q1c.out _).mono ?_
    rintro r w' ⟨rfl, x1, rfl⟩
    go_wp2_with (first | (go_at_call 29; refine (q3c.out _).mono ?_; rintro r w' ⟨rfl, x, rfl⟩) | (go_at_call 48; refine (q4c.out _).mono ?_; rintro r w' ⟨rfl, x, rfl⟩))
    go_ret
    exact ⟨congrArg (fun z => Ending.returned (Value.bool z)) hF.out, by rw [hz'.out, plus_plus]; exact ⟨_, rfl⟩⟩
  have hF := Lib.hid (show true = ((a0.toList == b0.toList) && ((true) && ((a2.toList == b2.toList) && ((true) && (true))))) by simp [q0, q2])
  have h1 := Lib.hid h1
  have h3 := Lib.hid h3
  have h4 := Lib.hid h4
  go_enter Try.func21, Try.ntmps21
  go_wp2_with fail
  obtain ⟨W, yy, hW, ⟨z, hz⟩, cb0, cb1⟩ := box2n V _ _ 54 54
  rw [hW]
  have c0_0 := cb0 0 _ rfl
  have c0_1 := cb0 1 _ rfl
  have c0_2 := cb0 2 _ rfl
  have c0_3 := cb0 3 _ rfl
  have c0_4 := cb0 4 _ rfl
  have c1_0 := cb1 0 _ rfl
  have c1_1 := cb1 1 _ rfl
  have c1_2 := cb1 2 _ rfl
  have c1_3 := cb1 3 _ rfl
  have c1_4 := cb1 4 _ rfl
  have q1c := Lib.hid (kp_at hz h1.out)
  have q3c := Lib.hid (kp_at hz h3.out)
  have q4c := Lib.hid (kp_at hz h4.out)
  have hz' := Lib.hid hz
  clear hW hz cb0 cb1
  refine (q1c.out _).mono ?_
  rintro r w' ⟨rfl, x1, rfl⟩
  go_wp2_with (first | (go_at_call 29; refine (q3c.out _).mono ?_; rintro r w' ⟨rfl, x, rfl⟩) | (go_at_call 48; refine (q4c.out _).mono ?_; rintro r w' ⟨rfl, x, rfl⟩))
  go_ret
  exact ⟨congrArg (fun z => Ending.returned (Value.bool z)) hF.out, by rw [hz'.out, plus_plus]; exact ⟨_, rfl⟩⟩
set_option maxHeartbeats 8000000 in
theorem action_of (a0 : ByteArray) (a1p : Option Addr) (a1n : Nat) (a1c : Nat) (a2p : Option Addr) (a2n : Nat) (a2c : Nat) (b0 : ByteArray) (b1p : Option Addr) (b1n : Nat) (b1c : Nat) (b2p : Option Addr) (b2n : Nat) (b2c : Nat) (s1 : Bool) (s2 : Bool) (w : World)
    (h1 : Kp Try.prog w 19 #[.slice a1p a1n a1c, .slice b1p b1n b1c] (.bool s1))
    (h2 : Kp Try.prog w 26 #[.slice a2p a2n a2c, .slice b2p b2n b2c] (.bool s2)) :
    Kp Try.prog w 23 #[.agg #[.string a0, .slice a1p a1n a1c, .slice a2p a2n a2c], .agg #[.string b0, .slice b1p b1n b1c, .slice b2p b2n b2c]] (.bool ((a0.toList == b0.toList) && (s1 && s2))) := by
  intro y0
  have h1 := h1.up y0
  have h2 := h2.up y0
  obtain ⟨V, hV⟩ : ∃ V, plus w y0 = V := ⟨_, rfl⟩
  rw [hV] at h1 h2 ⊢
  clear hV
  by_cases q0 : (a0.toList == b0.toList) = true
  case neg =>
    have q0 : (a0.toList == b0.toList) = false := by simpa using q0
    have hF := Lib.hid (show false = ((a0.toList == b0.toList) && ((s1) && (s2))) by simp [q0])
    clear h1 h2
    go_enter Try.func23, Try.ntmps23
    go_wp2_with fail
    go_ret
    exact ⟨congrArg (fun z => Ending.returned (Value.bool z)) hF.out, alloc2_plus _ _ _⟩
  cases s1
  case false =>
    have hF := Lib.hid (show false = ((a0.toList == b0.toList) && ((false) && (s2))) by simp [q0])
    clear h2
    have h1 := Lib.hid h1
    go_enter Try.func23, Try.ntmps23
    go_wp2_with fail
    obtain ⟨W, yy, hW, ⟨z, hz⟩, cb0, cb1⟩ := box2n V _ _ 59 59
    rw [hW]
    have c0_0 := cb0 0 _ rfl
    have c0_1 := cb0 1 _ rfl
    have c0_2 := cb0 2 _ rfl
    have c1_0 := cb1 0 _ rfl
    have c1_1 := cb1 1 _ rfl
    have c1_2 := cb1 2 _ rfl
    have q1c := Lib.hid (kp_at hz h1.out)
    have hz' := Lib.hid hz
    clear hW hz cb0 cb1
    refine (q1c.out _).mono ?_
    rintro r w' ⟨rfl, x1, rfl⟩
    go_wp2_with fail
    go_ret
    exact ⟨congrArg (fun z => Ending.returned (Value.bool z)) hF.out, by rw [hz'.out, plus_plus]; exact ⟨_, rfl⟩⟩
  cases s2
  case false =>
    have hF := Lib.hid (show false = ((a0.toList == b0.toList) && ((true) && (false))) by simp [q0])
    have h1 := Lib.hid h1
    have h2 := Lib.hid h2
    go_enter Try.func23, Try.ntmps23
    go_wp2_with fail
    obtain ⟨W, yy, hW, ⟨z, hz⟩, cb0, cb1⟩ := box2n V _ _ 59 59
    rw [hW]
    have c0_0 := cb0 0 _ rfl
    have c0_1 := cb0 1 _ rfl
    have c0_2 := cb0 2 _ rfl
    have c1_0 := cb1 0 _ rfl
    have c1_1 := cb1 1 _ rfl
    have c1_2 := cb1 2 _ rfl
    have q1c := Lib.hid (kp_at hz h1.out)
    have q2c := Lib.hid (kp_at hz h2.out)
    have hz' := Lib.hid hz
    clear hW hz cb0 cb1
    refine (q1c.out _).mono ?_
    rintro r w' ⟨rfl, x1, rfl⟩
    go_wp2_with (first | (go_at_call 26; refine (q2c.out _).mono ?_; rintro r w' ⟨rfl, x, rfl⟩))
    go_ret
    exact ⟨congrArg (fun z => Ending.returned (Value.bool z)) hF.out, by rw [hz'.out, plus_plus]; exact ⟨_, rfl⟩⟩
  have hF := Lib.hid (show true = ((a0.toList == b0.toList) && ((true) && (true))) by simp [q0])
  have h1 := Lib.hid h1
  have h2 := Lib.hid h2
  go_enter Try.func23, Try.ntmps23
  go_wp2_with fail
  obtain ⟨W, yy, hW, ⟨z, hz⟩, cb0, cb1⟩ := box2n V _ _ 59 59
  rw [hW]
  have c0_0 := cb0 0 _ rfl
  have c0_1 := cb0 1 _ rfl
  have c0_2 := cb0 2 _ rfl
  have c1_0 := cb1 0 _ rfl
  have c1_1 := cb1 1 _ rfl
  have c1_2 := cb1 2 _ rfl
  have q1c := Lib.hid (kp_at hz h1.out)
  have q2c := Lib.hid (kp_at hz h2.out)
  have hz' := Lib.hid hz
  clear hW hz cb0 cb1
  refine (q1c.out _).mono ?_
  rintro r w' ⟨rfl, x1, rfl⟩
  go_wp2_with (first | (go_at_call 26; refine (q2c.out _).mono ?_; rintro r w' ⟨rfl, x, rfl⟩))
  go_ret
  exact ⟨congrArg (fun z => Ending.returned (Value.bool z)) hF.out, by rw [hz'.out, plus_plus]; exact ⟨_, rfl⟩⟩
set_option maxHeartbeats 8000000 in
theorem table_of (a0 : ByteArray) (a1p : Option Addr) (a1n : Nat) (a1c : Nat) (a2p : Option Addr) (a2n : Nat) (a2c : Nat) (a3 : ByteArray) (a4p : Option Addr) (a4n : Nat) (a4c : Nat) (b0 : ByteArray) (b1p : Option Addr) (b1n : Nat) (b1c : Nat) (b2p : Option Addr) (b2n : Nat) (b2c : Nat) (b3 : ByteArray) (b4p : Option Addr) (b4n : Nat) (b4c : Nat) (s1 : Bool) (s2 : Bool) (s4 : Bool) (w : World)
    (h1 : Kp Try.prog w 50 #[.slice a1p a1n a1c, .slice b1p b1n b1c, .func (.func 51) #[] #[]] (.bool s1))
    (h2 : Kp Try.prog w 27 #[.slice a2p a2n a2c, .slice b2p b2n b2c] (.bool s2))
    (h4 : Kp Try.prog w 52 #[.slice a4p a4n a4c, .slice b4p b4n b4c] (.bool s4)) :
    Kp Try.prog w 25 #[.agg #[.string a0, .slice a1p a1n a1c, .slice a2p a2n a2c, .string a3, .slice a4p a4n a4c], .agg #[.string b0, .slice b1p b1n b1c, .slice b2p b2n b2c, .string b3, .slice b4p b4n b4c]] (.bool ((a0.toList == b0.toList) && (s1 && (s2 && ((a3.toList == b3.toList) && s4))))) := by
  intro y0
  have h1 := h1.up y0
  have h2 := h2.up y0
  have h4 := h4.up y0
  obtain ⟨V, hV⟩ : ∃ V, plus w y0 = V := ⟨_, rfl⟩
  rw [hV] at h1 h2 h4 ⊢
  clear hV
  by_cases q0 : (a0.toList == b0.toList) = true
  case neg =>
    have q0 : (a0.toList == b0.toList) = false := by simpa using q0
    have hF := Lib.hid (show false = ((a0.toList == b0.toList) && ((s1) && ((s2) && ((a3.toList == b3.toList) && (s4))))) by simp [q0])
    clear h1 h2 h4
    go_enter Try.func25, Try.ntmps25
    go_wp2_with fail
    go_ret
    exact ⟨congrArg (fun z => Ending.returned (Value.bool z)) hF.out, alloc2_plus _ _ _⟩
  cases s1
  case false =>
    have hF := Lib.hid (show false = ((a0.toList == b0.toList) && ((false) && ((s2) && ((a3.toList == b3.toList) && (s4))))) by simp [q0])
    clear h2 h4
    have h1 := Lib.hid h1
    go_enter Try.func25, Try.ntmps25
    go_wp2_with fail
    obtain ⟨W, yy, hW, ⟨z, hz⟩, cb0, cb1⟩ := box2n V _ _ 65 65
    rw [hW]
    have c0_0 := cb0 0 _ rfl
    have c0_1 := cb0 1 _ rfl
    have c0_2 := cb0 2 _ rfl
    have c0_3 := cb0 3 _ rfl
    have c0_4 := cb0 4 _ rfl
    have c1_0 := cb1 0 _ rfl
    have c1_1 := cb1 1 _ rfl
    have c1_2 := cb1 2 _ rfl
    have c1_3 := cb1 3 _ rfl
    have c1_4 := cb1 4 _ rfl
    have q1c := Lib.hid (kp_at hz h1.out)
    have hz' := Lib.hid hz
    clear hW hz cb0 cb1
    refine (q1c.out _).mono ?_
    rintro r w' ⟨rfl, x1, rfl⟩
    go_wp2_with fail
    go_ret
    exact ⟨congrArg (fun z => Ending.returned (Value.bool z)) hF.out, by rw [hz'.out, plus_plus]; exact ⟨_, rfl⟩⟩
  cases s2
  case false =>
    have hF := Lib.hid (show false = ((a0.toList == b0.toList) && ((true) && ((false) && ((a3.toList == b3.toList) && (s4))))) by simp [q0])
    clear h4
    have h1 := Lib.hid h1
    have h2 := Lib.hid h2
    go_enter Try.func25, Try.ntmps25
    go_wp2_with fail
    obtain ⟨W, yy, hW, ⟨z, hz⟩, cb0, cb1⟩ := box2n V _ _ 65 65
    rw [hW]
    have c0_0 := cb0 0 _ rfl
    have c0_1 := cb0 1 _ rfl
    have c0_2 := cb0 2 _ rfl
    have c0_3 := cb0 3 _ rfl
    have c0_4 := cb0 4 _ rfl
    have c1_0 := cb1 0 _ rfl
    have c1_1 := cb1 1 _ rfl
    have c1_2 := cb1 2 _ rfl
    have c1_3 := cb1 3 _ rfl
    have c1_4 := cb1 4 _ rfl
    have q1c := Lib.hid (kp_at hz h1.out)
    have q2c := Lib.hid (kp_at hz h2.out)
    have hz' := Lib.hid hz
    clear hW hz cb0 cb1
    refine (q1c.out _).mono ?_
    rintro r w' ⟨rfl, x1, rfl⟩
    go_wp2_with (first | (go_at_call 27; refine (q2c.out _).mono ?_; rintro r w' ⟨rfl, x, rfl⟩))
    go_ret
    exact ⟨congrArg (fun z => Ending.returned (Value.bool z)) hF.out, by rw [hz'.out, plus_plus]; exact ⟨_, rfl⟩⟩
  by_cases q3 : (a3.toList == b3.toList) = true
  case neg =>
    have q3 : (a3.toList == b3.toList) = false := by simpa using q3
    have hF := Lib.hid (show false = ((a0.toList == b0.toList) && ((true) && ((true) && ((a3.toList == b3.toList) && (s4))))) by simp [q3, q0])
    clear h4
    have h1 := Lib.hid h1
    have h2 := Lib.hid h2
    go_enter Try.func25, Try.ntmps25
    go_wp2_with fail
    obtain ⟨W, yy, hW, ⟨z, hz⟩, cb0, cb1⟩ := box2n V _ _ 65 65
    rw [hW]
    have c0_0 := cb0 0 _ rfl
    have c0_1 := cb0 1 _ rfl
    have c0_2 := cb0 2 _ rfl
    have c0_3 := cb0 3 _ rfl
    have c0_4 := cb0 4 _ rfl
    have c1_0 := cb1 0 _ rfl
    have c1_1 := cb1 1 _ rfl
    have c1_2 := cb1 2 _ rfl
    have c1_3 := cb1 3 _ rfl
    have c1_4 := cb1 4 _ rfl
    have q1c := Lib.hid (kp_at hz h1.out)
    have q2c := Lib.hid (kp_at hz h2.out)
    have hz' := Lib.hid hz
    clear hW hz cb0 cb1
    refine (q1c.out _).mono ?_
    rintro r w' ⟨rfl, x1, rfl⟩
    go_wp2_with (first | (go_at_call 27; refine (q2c.out _).mono ?_; rintro r w' ⟨rfl, x, rfl⟩))
    go_ret
    exact ⟨congrArg (fun z => Ending.returned (Value.bool z)) hF.out, by rw [hz'.out, plus_plus]; exact ⟨_, rfl⟩⟩
  cases s4
  case false =>
    have hF := Lib.hid (show false = ((a0.toList == b0.toList) && ((true) && ((true) && ((a3.toList == b3.toList) && (false))))) by simp [q0, q3])
    have h1 := Lib.hid h1
    have h2 := Lib.hid h2
    have h4 := Lib.hid h4
    go_enter Try.func25, Try.ntmps25
    go_wp2_with fail
    obtain ⟨W, yy, hW, ⟨z, hz⟩, cb0, cb1⟩ := box2n V _ _ 65 65
    rw [hW]
    have c0_0 := cb0 0 _ rfl
    have c0_1 := cb0 1 _ rfl
    have c0_2 := cb0 2 _ rfl
    have c0_3 := cb0 3 _ rfl
    have c0_4 := cb0 4 _ rfl
    have c1_0 := cb1 0 _ rfl
    have c1_1 := cb1 1 _ rfl
    have c1_2 := cb1 2 _ rfl
    have c1_3 := cb1 3 _ rfl
    have c1_4 := cb1 4 _ rfl
    have q1c := Lib.hid (kp_at hz h1.out)
    have q2c := Lib.hid (kp_at hz h2.out)
    have q4c := Lib.hid (kp_at hz h4.out)
    have hz' := Lib.hid hz
    clear hW hz cb0 cb1
    refine (q1c.out _).mono ?_
    rintro r w' ⟨rfl, x1, rfl⟩
    go_wp2_with (first | (go_at_call 27; refine (q2c.out _).mono ?_; rintro r w' ⟨rfl, x, rfl⟩) | (go_at_call 52; refine (q4c.out _).mono ?_; rintro r w' ⟨rfl, x, rfl⟩))
    go_ret
    exact ⟨congrArg (fun z => Ending.returned (Value.bool z)) hF.out, by rw [hz'.out, plus_plus]; exact ⟨_, rfl⟩⟩
  have hF := Lib.hid (show true = ((a0.toList == b0.toList) && ((true) && ((true) && ((a3.toList == b3.toList) && (true))))) by simp [q0, q3])
  have h1 := Lib.hid h1
  have h2 := Lib.hid h2
  have h4 := Lib.hid h4
  go_enter Try.func25, Try.ntmps25
  go_wp2_with fail
  obtain ⟨W, yy, hW, ⟨z, hz⟩, cb0, cb1⟩ := box2n V _ _ 65 65
  rw [hW]
  have c0_0 := cb0 0 _ rfl
  have c0_1 := cb0 1 _ rfl
  have c0_2 := cb0 2 _ rfl
  have c0_3 := cb0 3 _ rfl
  have c0_4 := cb0 4 _ rfl
  have c1_0 := cb1 0 _ rfl
  have c1_1 := cb1 1 _ rfl
  have c1_2 := cb1 2 _ rfl
  have c1_3 := cb1 3 _ rfl
  have c1_4 := cb1 4 _ rfl
  have q1c := Lib.hid (kp_at hz h1.out)
  have q2c := Lib.hid (kp_at hz h2.out)
  have q4c := Lib.hid (kp_at hz h4.out)
  have hz' := Lib.hid hz
  clear hW hz cb0 cb1
  refine (q1c.out _).mono ?_
  rintro r w' ⟨rfl, x1, rfl⟩
  go_wp2_with (first | (go_at_call 27; refine (q2c.out _).mono ?_; rintro r w' ⟨rfl, x, rfl⟩) | (go_at_call 52; refine (q4c.out _).mono ?_; rintro r w' ⟨rfl, x, rfl⟩))
  go_ret
  exact ⟨congrArg (fun z => Ending.returned (Value.bool z)) hF.out, by rw [hz'.out, plus_plus]; exact ⟨_, rfl⟩⟩
end Go.Proofs.Ytpnaibfefpeikaa
