/-
  WHAT IS PROVED HERE: what sameHeader, sameCase of the landed ast hand back, by what their callees hand back. Written by gen/astsame.py.
-/
import Derived.Test.YtpnaibfefpeikaaRows
import Derived.Test.YtpnaibfefpeikaaG0
import Derived.WalkKit
import Derived.Lib.Hide
import Derived.WalkSpells
import Derived.WalkLawsBesides
import Derived.Laws.EntriesVeiled
namespace Go.Proofs.Ytpnaibfefpeikaa
open Go.RowKit
set_option maxHeartbeats 8000000 in
theorem hdr_of (a0 : ByteArray) (a1p : Option Addr) (a1n : Nat) (a1c : Nat) (b0 : ByteArray) (b1p : Option Addr) (b1n : Nat) (b1c : Nat) (s1 : Bool) (w : World)
    (h1 : Kp Try.prog w 19 #[.slice a1p a1n a1c, .slice b1p b1n b1c] (.bool s1)) :
    Kp Try.prog w 18 #[.agg #[.string a0, .slice a1p a1n a1c], .agg #[.string b0, .slice b1p b1n b1c]] (.bool ((a0.toList == b0.toList) && s1)) := by
  intro y0
  have h1 := h1.up y0
  obtain ⟨V, hV⟩ : ∃ V, plus w y0 = V := ⟨_, rfl⟩
  rw [hV] at h1 ⊢
  clear hV
  by_cases q0 : (a0.toList == b0.toList) = true
  case neg =>
    have q0 : (a0.toList == b0.toList) = false := by simpa using q0
    have hF := Lib.hid (show false = ((a0.toList == b0.toList) && (s1)) by simp [q0])
    clear h1
    go_enter Try.func18, Try.ntmps18
    go_wp2_with fail
    go_ret
    exact ⟨congrArg (fun z => Ending.returned (Value.bool z)) hF.out, alloc2_plus _ _ _⟩
  cases s1
  case false =>
    have hF := Lib.hid (show false = ((a0.toList == b0.toList) && (false)) by simp [q0])
    have h1 := Lib.hid h1
    go_enter Try.func18, Try.ntmps18
    go_wp2_with fail
    obtain ⟨W, yy, hW, ⟨z, hz⟩, cb0, cb1⟩ := box2n V _ _ 51 51
    rw [hW]
    have c0_0 := cb0 0 _ rfl
    have c0_1 := cb0 1 _ rfl
    have c1_0 := cb1 0 _ rfl
    have c1_1 := cb1 1 _ rfl
    have q1c := Lib.hid (kp_at hz h1.out)
    have hz' := Lib.hid hz
    clear hW hz cb0 cb1
    refine (q1c.out _).mono ?_
    rintro r w' ⟨rfl, x1, rfl⟩
    go_wp2_with fail
    go_ret
    exact ⟨congrArg (fun z => Ending.returned (Value.bool z)) hF.out, by rw [hz'.out, plus_plus]; exact ⟨_, rfl⟩⟩
  have hF := Lib.hid (show true = ((a0.toList == b0.toList) && (true)) by simp [q0])
  have h1 := Lib.hid h1
  go_enter Try.func18, Try.ntmps18
  go_wp2_with fail
  obtain ⟨W, yy, hW, ⟨z, hz⟩, cb0, cb1⟩ := box2n V _ _ 51 51
  rw [hW]
  have c0_0 := cb0 0 _ rfl
  have c0_1 := cb0 1 _ rfl
  have c1_0 := cb1 0 _ rfl
  have c1_1 := cb1 1 _ rfl
  have q1c := Lib.hid (kp_at hz h1.out)
  have hz' := Lib.hid hz
  clear hW hz cb0 cb1
  refine (q1c.out _).mono ?_
  rintro r w' ⟨rfl, x1, rfl⟩
  go_wp2_with fail
  go_ret
  exact ⟨congrArg (fun z => Ending.returned (Value.bool z)) hF.out, by rw [hz'.out, plus_plus]; exact ⟨_, rfl⟩⟩
set_option maxHeartbeats 8000000 in
theorem case_of (a0 : Bool) (a1p : Option Addr) (a1n : Nat) (a1c : Nat) (a2 : ByteArray) (b0 : Bool) (b1p : Option Addr) (b1n : Nat) (b1c : Nat) (b2 : ByteArray) (s1 : Bool) (w : World)
    (h1 : Kp Try.prog w 74 #[.slice a1p a1n a1c, .slice b1p b1n b1c] (.bool s1)) :
    Kp Try.prog w 49 #[.agg #[.bool a0, .slice a1p a1n a1c, .string a2], .agg #[.bool b0, .slice b1p b1n b1c, .string b2]] (.bool ((a0 == b0) && (s1 && (a2.toList == b2.toList)))) := by
  intro y0
  have h1 := h1.up y0
  obtain ⟨V, hV⟩ : ∃ V, plus w y0 = V := ⟨_, rfl⟩
  rw [hV] at h1 ⊢
  clear hV
  by_cases q0 : (a0 == b0) = true
  case neg =>
    have q0 : (a0 == b0) = false := by simpa using q0
    have hF := Lib.hid (show false = ((a0 == b0) && ((s1) && (a2.toList == b2.toList))) by simp [q0])
    clear h1
    go_enter Try.func49, Try.ntmps49
    go_wp2_with fail
    go_ret
    exact ⟨congrArg (fun z => Ending.returned (Value.bool z)) hF.out, alloc2_plus _ _ _⟩
  cases s1
  case false =>
    have hF := Lib.hid (show false = ((a0 == b0) && ((false) && (a2.toList == b2.toList))) by simp [q0])
    have h1 := Lib.hid h1
    go_enter Try.func49, Try.ntmps49
    go_wp2_with fail
    obtain ⟨W, yy, hW, ⟨z, hz⟩, cb0, cb1⟩ := box2n V _ _ 57 57
    rw [hW]
    have c0_0 := cb0 0 _ rfl
    have c0_1 := cb0 1 _ rfl
    have c0_2 := cb0 2 _ rfl
    have c1_0 := cb1 0 _ rfl
    have c1_1 := cb1 1 _ rfl
    have c1_2 := cb1 2 _ rfl
    have q1c := Lib.hid (kp_at hz h1.out)
    have hz' := Lib.hid hz
    clear hW hz cb0 cb1
    refine (q1c.out _).mono ?_
    rintro r w' ⟨rfl, x1, rfl⟩
    go_wp2_with fail
    go_ret
    exact ⟨congrArg (fun z => Ending.returned (Value.bool z)) hF.out, by rw [hz'.out, plus_plus]; exact ⟨_, rfl⟩⟩
  by_cases q2 : (a2.toList == b2.toList) = true
  case neg =>
    have q2 : (a2.toList == b2.toList) = false := by simpa using q2
    have hF := Lib.hid (show false = ((a0 == b0) && ((true) && (a2.toList == b2.toList))) by simp [q2, q0])
    have h1 := Lib.hid h1
    go_enter Try.func49, Try.ntmps49
    go_wp2_with fail
    obtain ⟨W, yy, hW, ⟨z, hz⟩, cb0, cb1⟩ := box2n V _ _ 57 57
    rw [hW]
    have c0_0 := cb0 0 _ rfl
    have c0_1 := cb0 1 _ rfl
    have c0_2 := cb0 2 _ rfl
    have c1_0 := cb1 0 _ rfl
    have c1_1 := cb1 1 _ rfl
    have c1_2 := cb1 2 _ rfl
    have q1c := Lib.hid (kp_at hz h1.out)
    have hz' := Lib.hid hz
    clear hW hz cb0 cb1
    refine (q1c.out _).mono ?_
    rintro r w' ⟨rfl, x1, rfl⟩
    go_wp2_with fail
    go_ret
    exact ⟨congrArg (fun z => Ending.returned (Value.bool z)) hF.out, by rw [hz'.out, plus_plus]; exact ⟨_, rfl⟩⟩
  have hF := Lib.hid (show true = ((a0 == b0) && ((true) && (a2.toList == b2.toList))) by simp [q0, q2])
  have h1 := Lib.hid h1
  go_enter Try.func49, Try.ntmps49
  go_wp2_with fail
  obtain ⟨W, yy, hW, ⟨z, hz⟩, cb0, cb1⟩ := box2n V _ _ 57 57
  rw [hW]
  have c0_0 := cb0 0 _ rfl
  have c0_1 := cb0 1 _ rfl
  have c0_2 := cb0 2 _ rfl
  have c1_0 := cb1 0 _ rfl
  have c1_1 := cb1 1 _ rfl
  have c1_2 := cb1 2 _ rfl
  have q1c := Lib.hid (kp_at hz h1.out)
  have hz' := Lib.hid hz
  clear hW hz cb0 cb1
  refine (q1c.out _).mono ?_
  rintro r w' ⟨rfl, x1, rfl⟩
  go_wp2_with fail
  go_ret
  exact ⟨congrArg (fun z => Ending.returned (Value.bool z)) hF.out, by rw [hz'.out, plus_plus]; exact ⟨_, rfl⟩⟩
end Go.Proofs.Ytpnaibfefpeikaa
