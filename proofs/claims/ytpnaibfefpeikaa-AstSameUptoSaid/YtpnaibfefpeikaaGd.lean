/-
  WHAT IS PROVED HERE: what Same of the landed ast hands back, by what its callees hand back. Written by gen/astsame.py.
-/
import Derived.Test.YtpnaibfefpeikaaRows
import Derived.Test.YtpnaibfefpeikaaG0
import Derived.WalkKit
import Derived.Lib.Hide
import Derived.WalkSpells
import Derived.WalkLawsBesides
import Derived.Laws.EntriesVeiled
namespace Go.Proofs.Ytpnaibfefpeikaa
open Go.RowKit
set_option maxHeartbeats 8000000 in
theorem same_of (a0p : Option Addr) (a0n : Nat) (a0c : Nat) (a1p : Option Addr) (a1n : Nat) (a1c : Nat) (a2p : Option Addr) (a2n : Nat) (a2c : Nat) (a3p : Option Addr) (a3n : Nat) (a3c : Nat) (a4p : Option Addr) (a4n : Nat) (a4c : Nat) (a5p : Option Addr) (a5n : Nat) (a5c : Nat) (a6p : Option Addr) (a6n : Nat) (a6c : Nat) (b0p : Option Addr) (b0n : Nat) (b0c : Nat) (b1p : Option Addr) (b1n : Nat) (b1c : Nat) (b2p : Option Addr) (b2n : Nat) (b2c : Nat) (b3p : Option Addr) (b3n : Nat) (b3c : Nat) (b4p : Option Addr) (b4n : Nat) (b4c : Nat) (b5p : Option Addr) (b5n : Nat) (b5c : Nat) (b6p : Option Addr) (b6n : Nat) (b6c : Nat) (s0 : Bool) (s1 : Bool) (s2 : Bool) (s3 : Bool) (s4 : Bool) (s5 : Bool) (s6 : Bool) (w : World)
    (h0 : Kp Try.prog w 17 #[.slice a0p a0n a0c, .slice b0p b0n b0c, .func (.func 18) #[] #[]] (.bool s0))
    (h1 : Kp Try.prog w 19 #[.slice a1p a1n a1c, .slice b1p b1n b1c] (.bool s1))
    (h2 : Kp Try.prog w 20 #[.slice a2p a2n a2c, .slice b2p b2n b2c, .func (.func 21) #[] #[]] (.bool s2))
    (h3 : Kp Try.prog w 22 #[.slice a3p a3n a3c, .slice b3p b3n b3c, .func (.func 23) #[] #[]] (.bool s3))
    (h4 : Kp Try.prog w 24 #[.slice a4p a4n a4c, .slice b4p b4n b4c, .func (.func 25) #[] #[]] (.bool s4))
    (h5 : Kp Try.prog w 26 #[.slice a5p a5n a5c, .slice b5p b5n b5c] (.bool s5))
    (h6 : Kp Try.prog w 27 #[.slice a6p a6n a6c, .slice b6p b6n b6c] (.bool s6)) :
    Kp Try.prog w 7 #[.agg #[.slice a0p a0n a0c, .slice a1p a1n a1c, .slice a2p a2n a2c, .slice a3p a3n a3c, .slice a4p a4n a4c, .slice a5p a5n a5c, .slice a6p a6n a6c], .agg #[.slice b0p b0n b0c, .slice b1p b1n b1c, .slice b2p b2n b2c, .slice b3p b3n b3c, .slice b4p b4n b4c, .slice b5p b5n b5c, .slice b6p b6n b6c]] (.bool (s0 && (s1 && (s2 && (s3 && (s4 && (s5 && s6))))))) := by
  intro y0
  have h0 := h0.up y0
  have h1 := h1.up y0
  have h2 := h2.up y0
  have h3 := h3.up y0
  have h4 := h4.up y0
  have h5 := h5.up y0
  have h6 := h6.up y0
  obtain ⟨V, hV⟩ : ∃ V, plus w y0 = V := ⟨_, rfl⟩
  rw [hV] at h0 h1 h2 h3 h4 h5 h6 ⊢
  clear hV
  cases s0
  case false =>
    have hF := Lib.hid (show false = ((false) && ((s1) && ((s2) && ((s3) && ((s4) && ((s5) && (s6))))))) by simp)
    clear h1 h2 h3 h4 h5 h6
    have h0 := Lib.hid h0
    go_enter Try.func7, Try.ntmps7
    go_wp2_with fail
    obtain ⟨W, yy, hW, ⟨z, hz⟩, cb0, cb1⟩ := box2n V _ _ 30 30
    rw [hW]
    have c0_0 := cb0 0 _ rfl
    have c0_1 := cb0 1 _ rfl
    have c0_2 := cb0 2 _ rfl
    have c0_3 := cb0 3 _ rfl
    have c0_4 := cb0 4 _ rfl
    have c0_5 := cb0 5 _ rfl
    have c0_6 := cb0 6 _ rfl
    have c1_0 := cb1 0 _ rfl
    have c1_1 := cb1 1 _ rfl
    have c1_2 := cb1 2 _ rfl
    have c1_3 := cb1 3 _ rfl
    have c1_4 := cb1 4 _ rfl
    have c1_5 := cb1 5 _ rfl
    have c1_6 := cb1 6 _ rfl
    have q0c := Lib.hid (kp_at hz h0.out)
    have hz' := Lib.hid hz
    clear hW hz cb0 cb1
    refine (q0c.out _).mono ?_
    rintro r w' ⟨rfl, x1, rfl⟩
    go_wp2_with fail
    go_ret
    exact ⟨congrArg (fun z => Ending.returned (Value.bool z)) hF.out, by rw [hz'.out, plus_plus]; exact ⟨_, rfl⟩⟩
  cases s1
  case false =>
    have hF := Lib.hid (show false = ((true) && ((false) && ((s2) && ((s3) && ((s4) && ((s5) && (s6))))))) by simp)
    clear h2 h3 h4 h5 h6
    have h0 := Lib.hid h0
    have h1 := Lib.hid h1
    go_enter Try.func7, Try.ntmps7
    go_wp2_with fail
    obtain ⟨W, yy, hW, ⟨z, hz⟩, cb0, cb1⟩ := box2n V _ _ 30 30
    rw [hW]
    have c0_0 := cb0 0 _ rfl
    have c0_1 := cb0 1 _ rfl
    have c0_2 := cb0 2 _ rfl
    have c0_3 := cb0 3 _ rfl
    have c0_4 := cb0 4 _ rfl
    have c0_5 := cb0 5 _ rfl
    have c0_6 := cb0 6 _ rfl
    have c1_0 := cb1 0 _ rfl
    have c1_1 := cb1 1 _ rfl
    have c1_2 := cb1 2 _ rfl
    have c1_3 := cb1 3 _ rfl
    have c1_4 := cb1 4 _ rfl
    have c1_5 := cb1 5 _ rfl
    have c1_6 := cb1 6 _ rfl
    have q0c := Lib.hid (kp_at hz h0.out)
    have q1c := Lib.hid (kp_at hz h1.out)
    have hz' := Lib.hid hz
    clear hW hz cb0 cb1
    refine (q0c.out _).mono ?_
    rintro r w' ⟨rfl, x1, rfl⟩
    go_wp2_with (first | (go_at_call 19; refine (q1c.out _).mono ?_; rintro r w' ⟨rfl, x, rfl⟩))
    go_ret
    exact ⟨congrArg (fun z => Ending.returned (Value.bool z)) hF.out, by rw [hz'.out, plus_plus]; exact ⟨_, rfl⟩⟩
  cases s2
  case false =>
    have hF := Lib.hid (show false = ((true) && ((true) && ((false) && ((s3) && ((s4) && ((s5) && (s6))))))) by simp)
    clear h3 h4 h5 h6
    have h0 := Lib.hid h0
    have h1 := Lib.hid h1
    have h2 := Lib.hid h2
    go_enter Try.func7, Try.ntmps7
    go_wp2_with fail
    obtain ⟨W, yy, hW, ⟨z, hz⟩, cb0, cb1⟩ := box2n V _ _ 30 30
    rw [hW]
    have c0_0 := cb0 0 _ rfl
    have c0_1 := cb0 1 _ rfl
    have c0_2 := cb0 2 _ rfl
    have c0_3 := cb0 3 _ rfl
    have c0_4 := cb0 4 _ rfl
    have c0_5 := cb0 5 _ rfl
    have c0_6 := cb0 6 _ rfl
    have c1_0 := cb1 0 _ rfl
    have c1_1 := cb1 1 _ rfl
    have c1_2 := cb1 2 _ rfl
    have c1_3 := cb1 3 _ rfl
    have c1_4 := cb1 4 _ rfl
    have c1_5 := cb1 5 _ rfl
    have c1_6 := cb1 6 _ rfl
    have q0c := Lib.hid (kp_at hz h0.out)
    have q1c := Lib.hid (kp_at hz h1.out)
    have q2c := Lib.hid (kp_at hz h2.out)
    have hz' := Lib.hid hz
    clear hW hz cb0 cb1
    refine (q0c.out _).mono ?_
    rintro r w' ⟨rfl, x1, rfl⟩
    go_wp2_with (first | (go_at_call 19; refine (q1c.out _).mono ?_; rintro r w' ⟨rfl, x, rfl⟩) | (go_at_call 20; refine (q2c.out _).mono ?_; rintro r w' ⟨rfl, x, rfl⟩))
    go_ret
    exact ⟨congrArg (fun z => Ending.returned (Value.bool z)) hF.out, by rw [hz'.out, plus_plus]; exact ⟨_, rfl⟩⟩
  cases s3
  case false =>
    have hF := Lib.hid (show false = ((true) && ((true) && ((true) && ((false) && ((s4) && ((s5) && (s6))))))) by simp)
    clear h4 h5 h6
    have h0 := Lib.hid h0
    have h1 := Lib.hid h1
    have h2 := Lib.hid h2
    have h3 := Lib.hid h3
    go_enter Try.func7, Try.ntmps7
    go_wp2_with fail
    obtain ⟨W, yy, hW, ⟨z, hz⟩, cb0, cb1⟩ := box2n V _ _ 30 30
    rw [hW]
    have c0_0 := cb0 0 _ rfl
    have c0_1 := cb0 1 _ rfl
    have c0_2 := cb0 2 _ rfl
    have c0_3 := cb0 3 _ rfl
    have c0_4 := cb0 4 _ rfl
    have c0_5 := cb0 5 _ rfl
    have c0_6 := cb0 6 _ rfl
    have c1_0 := cb1 0 _ rfl
    have c1_1 := cb1 1 _ rfl
    have c1_2 := cb1 2 _ rfl
    have c1_3 := cb1 3 _ rfl
    have c1_4 := cb1 4 _ rfl
    have c1_5 := cb1 5 _ rfl
    have c1_6 := cb1 6 _ rfl
    have q0c := Lib.hid (kp_at hz h0.out)
    have q1c := Lib.hid (kp_at hz h1.out)
    have q2c := Lib.hid (kp_at hz h2.out)
    have q3c := Lib.hid (kp_at hz h3.out)
    have hz' := Lib.hid hz
    clear hW hz cb0 cb1
    refine (q0c.out _).mono ?_
    rintro r w' ⟨rfl, x1, rfl⟩
    go_wp2_with (first | (go_at_call 19; refine (q1c.out _).mono ?_; rintro r w' ⟨rfl, x, rfl⟩) | (go_at_call 20; refine (q2c.out _).mono ?_; rintro r w' ⟨rfl, x, rfl⟩) | (go_at_call 22; refine (q3c.out _).mono ?_; rintro r w' ⟨rfl, x, rfl⟩))
    go_ret
    exact ⟨congrArg (fun z => Ending.returned (Value.bool z)) hF.out, by rw [hz'.out, plus_plus]; exact ⟨_, rfl⟩⟩
  cases s4
  case false =>
    have hF := Lib.hid (show false = ((true) && ((true) && ((true) && ((true) && ((false) && ((s5) && (s6))))))) by simp)
    clear h5 h6
    have h0 := Lib.hid h0
    have h1 := Lib.hid h1
    have h2 := Lib.hid h2
    have h3 := Lib.hid h3
    have h4 := Lib.hid h4
    go_enter Try.func7, Try.ntmps7
    go_wp2_with fail
    obtain ⟨W, yy, hW, ⟨z, hz⟩, cb0, cb1⟩ := box2n V _ _ 30 30
    rw [hW]
    have c0_0 := cb0 0 _ rfl
    have c0_1 := cb0 1 _ rfl
    have c0_2 := cb0 2 _ rfl
    have c0_3 := cb0 3 _ rfl
    have c0_4 := cb0 4 _ rfl
    have c0_5 := cb0 5 _ rfl
    have c0_6 := cb0 6 _ rfl
    have c1_0 := cb1 0 _ rfl
    have c1_1 := cb1 1 _ rfl
    have c1_2 := cb1 2 _ rfl
    have c1_3 := cb1 3 _ rfl
    have c1_4 := cb1 4 _ rfl
    have c1_5 := cb1 5 _ rfl
    have c1_6 := cb1 6 _ rfl
    have q0c := Lib.hid (kp_at hz h0.out)
    have q1c := Lib.hid (kp_at hz h1.out)
    have q2c := Lib.hid (kp_at hz h2.out)
    have q3c := Lib.hid (kp_at hz h3.out)
    have q4c := Lib.hid (kp_at hz h4.out)
    have hz' := Lib.hid hz
    clear hW hz cb0 cb1
    refine (q0c.out _).mono ?_
    rintro r w' ⟨rfl, x1, rfl⟩
    go_wp2_with (first | (go_at_call 19; refine (q1c.out _).mono ?_; rintro r w' ⟨rfl, x, rfl⟩) | (go_at_call 20; refine (q2c.out _).mono ?_; rintro r w' ⟨rfl, x, rfl⟩) | (go_at_call 22; refine (q3c.out _).mono ?_; rintro r w' ⟨rfl, x, rfl⟩) | (go_at_call 24; refine (q4c.out _).mono ?_; rintro r w' ⟨rfl, x, rfl⟩))
    go_ret
    exact ⟨congrArg (fun z => Ending.returned (Value.bool z)) hF.out, by rw [hz'.out, plus_plus]; exact ⟨_, rfl⟩⟩
  cases s5
  case false =>
    have hF := Lib.hid (show false = ((true) && ((true) && ((true) && ((true) && ((true) && ((false) && (s6))))))) by simp)
    clear h6
    have h0 := Lib.hid h0
    have h1 := Lib.hid h1
    have h2 := Lib.hid h2
    have h3 := Lib.hid h3
    have h4 := Lib.hid h4
    have h5 := Lib.hid h5
    go_enter Try.func7, Try.ntmps7
    go_wp2_with fail
    obtain ⟨W, yy, hW, ⟨z, hz⟩, cb0, cb1⟩ := box2n V _ _ 30 30
    rw [hW]
    have c0_0 := cb0 0 _ rfl
    have c0_1 := cb0 1 _ rfl
    have c0_2 := cb0 2 _ rfl
    have c0_3 := cb0 3 _ rfl
    have c0_4 := cb0 4 _ rfl
    have c0_5 := cb0 5 _ rfl
    have c0_6 := cb0 6 _ rfl
    have c1_0 := cb1 0 _ rfl
    have c1_1 := cb1 1 _ rfl
    have c1_2 := cb1 2 _ rfl
    have c1_3 := cb1 3 _ rfl
    have c1_4 := cb1 4 _ rfl
    have c1_5 := cb1 5 _ rfl
    have c1_6 := cb1 6 _ rfl
    have q0c := Lib.hid (kp_at hz h0.out)
    have q1c := Lib.hid (kp_at hz h1.out)
    have q2c := Lib.hid (kp_at hz h2.out)
    have q3c := Lib.hid (kp_at hz h3.out)
    have q4c := Lib.hid (kp_at hz h4.out)
    have q5c := Lib.hid (kp_at hz h5.out)
    have hz' := Lib.hid hz
    clear hW hz cb0 cb1
    refine (q0c.out _).mono ?_
    rintro r w' ⟨rfl, x1, rfl⟩
    go_wp2_with (first | (go_at_call 19; refine (q1c.out _).mono ?_; rintro r w' ⟨rfl, x, rfl⟩) | (go_at_call 20; refine (q2c.out _).mono ?_; rintro r w' ⟨rfl, x, rfl⟩) | (go_at_call 22; refine (q3c.out _).mono ?_; rintro r w' ⟨rfl, x, rfl⟩) | (go_at_call 24; refine (q4c.out _).mono ?_; rintro r w' ⟨rfl, x, rfl⟩) | (go_at_call 26; refine (q5c.out _).mono ?_; rintro r w' ⟨rfl, x, rfl⟩))
    go_ret
    exact ⟨congrArg (fun z => Ending.returned (Value.bool z)) hF.out, by rw [hz'.out, plus_plus]; exact ⟨_, rfl⟩⟩
  cases s6
  case false =>
    have hF := Lib.hid (show false = ((true) && ((true) && ((true) && ((true) && ((true) && ((true) && (false))))))) by simp)
    have h0 := Lib.hid h0
    have h1 := Lib.hid h1
    have h2 := Lib.hid h2
    have h3 := Lib.hid h3
    have h4 := Lib.hid h4
    have h5 := Lib.hid h5
    have h6 := Lib.hid h6
    go_enter Try.func7, Try.ntmps7
    go_wp2_with fail
    obtain ⟨W, yy, hW, ⟨z, hz⟩, cb0, cb1⟩ := box2n V _ _ 30 30
    rw [hW]
    have c0_0 := cb0 0 _ rfl
    have c0_1 := cb0 1 _ rfl
    have c0_2 := cb0 2 _ rfl
    have c0_3 := cb0 3 _ rfl
    have c0_4 := cb0 4 _ rfl
    have c0_5 := cb0 5 _ rfl
    have c0_6 := cb0 6 _ rfl
    have c1_0 := cb1 0 _ rfl
    have c1_1 := cb1 1 _ rfl
    have c1_2 := cb1 2 _ rfl
    have c1_3 := cb1 3 _ rfl
    have c1_4 := cb1 4 _ rfl
    have c1_5 := cb1 5 _ rfl
    have c1_6 := cb1 6 _ rfl
    have q0c := Lib.hid (kp_at hz h0.out)
    have q1c := Lib.hid (kp_at hz h1.out)
    have q2c := Lib.hid (kp_at hz h2.out)
    have q3c := Lib.hid (kp_at hz h3.out)
    have q4c := Lib.hid (kp_at hz h4.out)
    have q5c := Lib.hid (kp_at hz h5.out)
    have q6c := Lib.hid (kp_at hz h6.out)
    have hz' := Lib.hid hz
    clear hW hz cb0 cb1
    refine (q0c.out _).mono ?_
    rintro r w' ⟨rfl, x1, rfl⟩
    go_wp2_with (first | (go_at_call 19; refine (q1c.out _).mono ?_; rintro r w' ⟨rfl, x, rfl⟩) | (go_at_call 20; refine (q2c.out _).mono ?_; rintro r w' ⟨rfl, x, rfl⟩) | (go_at_call 22; refine (q3c.out _).mono ?_; rintro r w' ⟨rfl, x, rfl⟩) | (go_at_call 24; refine (q4c.out _).mono ?_; rintro r w' ⟨rfl, x, rfl⟩) | (go_at_call 26; refine (q5c.out _).mono ?_; rintro r w' ⟨rfl, x, rfl⟩) | (go_at_call 27; refine (q6c.out _).mono ?_; rintro r w' ⟨rfl, x, rfl⟩))
    go_ret
    exact ⟨congrArg (fun z => Ending.returned (Value.bool z)) hF.out, by rw [hz'.out, plus_plus]; exact ⟨_, rfl⟩⟩
  have hF := Lib.hid (show true = ((true) && ((true) && ((true) && ((true) && ((true) && ((true) && (true))))))) by simp)
  have h0 := Lib.hid h0
  have h1 := Lib.hid h1
  have h2 := Lib.hid h2
  have h3 := Lib.hid h3
  have h4 := Lib.hid h4
  have h5 := Lib.hid h5
  have h6 := Lib.hid h6
  go_enter Try.func7, Try.ntmps7
  go_wp2_with fail
  obtain ⟨W, yy, hW, ⟨z, hz⟩, cb0, cb1⟩ := box2n V _ _ 30 30
  rw [hW]
  have c0_0 := cb0 0 _ rfl
  have c0_1 := cb0 1 _ rfl
  have c0_2 := cb0 2 _ rfl
  have c0_3 := cb0 3 _ rfl
  have c0_4 := cb0 4 _ rfl
  have c0_5 := cb0 5 _ rfl
  have c0_6 := cb0 6 _ rfl
  have c1_0 := cb1 0 _ rfl
  have c1_1 := cb1 1 _ rfl
  have c1_2 := cb1 2 _ rfl
  have c1_3 := cb1 3 _ rfl
  have c1_4 := cb1 4 _ rfl
  have c1_5 := cb1 5 _ rfl
  have c1_6 := cb1 6 _ rfl
  have q0c := Lib.hid (kp_at hz h0.out)
  have q1c := Lib.hid (kp_at hz h1.out)
  have q2c := Lib.hid (kp_at hz h2.out)
  have q3c := Lib.hid (kp_at hz h3.out)
  have q4c := Lib.hid (kp_at hz h4.out)
  have q5c := Lib.hid (kp_at hz h5.out)
  have q6c := Lib.hid (kp_at hz h6.out)
  have hz' := Lib.hid hz
  clear hW hz cb0 cb1
  refine (q0c.out _).mono ?_
  rintro r w' ⟨rfl, x1, rfl⟩
  go_wp2_with (first | (go_at_call 19; refine (q1c.out _).mono ?_; rintro r w' ⟨rfl, x, rfl⟩) | (go_at_call 20; refine (q2c.out _).mono ?_; rintro r w' ⟨rfl, x, rfl⟩) | (go_at_call 22; refine (q3c.out _).mono ?_; rintro r w' ⟨rfl, x, rfl⟩) | (go_at_call 24; refine (q4c.out _).mono ?_; rintro r w' ⟨rfl, x, rfl⟩) | (go_at_call 26; refine (q5c.out _).mono ?_; rintro r w' ⟨rfl, x, rfl⟩) | (go_at_call 27; refine (q6c.out _).mono ?_; rintro r w' ⟨rfl, x, rfl⟩))
  go_ret
  exact ⟨congrArg (fun z => Ending.returned (Value.bool z)) hF.out, by rw [hz'.out, plus_plus]; exact ⟨_, rfl⟩⟩
end Go.Proofs.Ytpnaibfefpeikaa
