/-
  WHAT IS PROVED HERE: what SameExpr, sameBlock and the literals in them hand back, by what their callees hand back. Written by gen/astsame.py.
-/
import Derived.Test.YtpnaibfefpeikaaRows
import Derived.Test.YtpnaibfefpeikaaG0
import Derived.WalkKit
import Derived.Lib.Hide
import Derived.WalkSpells
import Derived.WalkLawsBesides
import Derived.Laws.EntriesVeiled
namespace Go.Proofs.Ytpnaibfefpeikaa
open Go.RowKit
set_option maxRecDepth 100000 in
set_option maxHeartbeats 8000000 in
theorem expr1_of (a0 : Int) (a1 : Int) (a2 : Int) (a3 : Int) (a4 : ByteArray) (a5 : ByteArray) (a6 : Int) (a7 : Int) (a8p : Option Addr) (a8n : Nat) (a8c : Nat) (b0 : Int) (b1 : Int) (b2 : Int) (b3 : Int) (b4 : ByteArray) (b5 : ByteArray) (b6 : Int) (b7 : Int) (b8p : Option Addr) (b8n : Nat) (b8c : Nat) (c : Nat) (s8 : Bool) (w : World) (hc : w.cell? ⟨c, 0, none⟩ = some (.func (.func 28) #[] #[.pointer (some ⟨c, 0, none⟩)]))
    (h8 : Kp Try.prog w 29 #[.slice a8p a8n a8c, .slice b8p b8n b8c, .func (.func 28) #[] #[.pointer (some ⟨c, 0, none⟩)]] (.bool s8)) :
    Kp Try.prog w 28 #[.agg #[.int .u8 a0, .int .i64 a1, .int .u64 a2, .int .u64 a3, .string a4, .string a5, .int .i64 a6, .int .i64 a7, .slice a8p a8n a8c], .agg #[.int .u8 b0, .int .i64 b1, .int .u64 b2, .int .u64 b3, .string b4, .string b5, .int .i64 b6, .int .i64 b7, .slice b8p b8n b8c], .pointer (some ⟨c, 0, none⟩)] (.bool ((a0 == b0) && ((a1 == b1) && ((a2 == b2) && ((a3 == b3) && ((a4.toList == b4.toList) && ((a5.toList == b5.toList) && ((a6 == b6) && ((a7 == b7) && s8))))))))) := by
  intro y0
  have h8 := h8.up y0
  have hc := cell_keep hc y0
  obtain ⟨V, hV⟩ : ∃ V, plus w y0 = V := ⟨_, rfl⟩
  rw [hV] at h8 hc ⊢
  clear hV
  have hc2 := fun a b => cell_alloc (cell_alloc hc a) b
  by_cases q0 : a0 = b0
  case neg =>
    have hF := Lib.hid (show false = ((a0 == b0) && ((a1 == b1) && ((a2 == b2) && ((a3 == b3) && ((a4.toList == b4.toList) && ((a5.toList == b5.toList) && ((a6 == b6) && ((a7 == b7) && (s8))))))))) by simp [q0])
    clear h8
    go_enter Try.func28, Try.ntmps28
    go_wp2_with fail
    go_ret
    exact ⟨congrArg (fun z => Ending.returned (Value.bool z)) hF.out, alloc2_plus _ _ _⟩
  subst q0
  by_cases q1 : a1 = b1
  case neg =>
    have hF := Lib.hid (show false = ((a0 == a0) && ((a1 == b1) && ((a2 == b2) && ((a3 == b3) && ((a4.toList == b4.toList) && ((a5.toList == b5.toList) && ((a6 == b6) && ((a7 == b7) && (s8))))))))) by simp [q1])
    clear h8
    go_enter Try.func28, Try.ntmps28
    go_wp2_with fail
    go_ret
    exact ⟨congrArg (fun z => Ending.returned (Value.bool z)) hF.out, alloc2_plus _ _ _⟩
  subst q1
  by_cases q2 : a2 = b2
  case neg =>
    have hF := Lib.hid (show false = ((a0 == a0) && ((a1 == a1) && ((a2 == b2) && ((a3 == b3) && ((a4.toList == b4.toList) && ((a5.toList == b5.toList) && ((a6 == b6) && ((a7 == b7) && (s8))))))))) by simp [q2])
    clear h8
    go_enter Try.func28, Try.ntmps28
    go_wp2_with fail
    go_ret
    exact ⟨congrArg (fun z => Ending.returned (Value.bool z)) hF.out, alloc2_plus _ _ _⟩
  subst q2
  by_cases q3 : a3 = b3
  case neg =>
    have hF := Lib.hid (show false = ((a0 == a0) && ((a1 == a1) && ((a2 == a2) && ((a3 == b3) && ((a4.toList == b4.toList) && ((a5.toList == b5.toList) && ((a6 == b6) && ((a7 == b7) && (s8))))))))) by simp [q3])
    clear h8
    go_enter Try.func28, Try.ntmps28
    go_wp2_with fail
    go_ret
    exact ⟨congrArg (fun z => Ending.returned (Value.bool z)) hF.out, alloc2_plus _ _ _⟩
  subst q3
  by_cases q4 : (a4.toList == b4.toList) = true
  case neg =>
    have q4 : (a4.toList == b4.toList) = false := by simpa using q4
    have hF := Lib.hid (show false = ((a0 == a0) && ((a1 == a1) && ((a2 == a2) && ((a3 == a3) && ((a4.toList == b4.toList) && ((a5.toList == b5.toList) && ((a6 == b6) && ((a7 == b7) && (s8))))))))) by simp [q4])
    clear h8
    go_enter Try.func28, Try.ntmps28
    go_wp2_with fail
    go_ret
    exact ⟨congrArg (fun z => Ending.returned (Value.bool z)) hF.out, alloc2_plus _ _ _⟩
  by_cases q5 : (a5.toList == b5.toList) = true
  case neg =>
    have q5 : (a5.toList == b5.toList) = false := by simpa using q5
    have hF := Lib.hid (show false = ((a0 == a0) && ((a1 == a1) && ((a2 == a2) && ((a3 == a3) && ((a4.toList == b4.toList) && ((a5.toList == b5.toList) && ((a6 == b6) && ((a7 == b7) && (s8))))))))) by simp [q5, q4])
    clear h8
    go_enter Try.func28, Try.ntmps28
    go_wp2_with fail
    go_ret
    exact ⟨congrArg (fun z => Ending.returned (Value.bool z)) hF.out, alloc2_plus _ _ _⟩
  by_cases q6 : a6 = b6
  case neg =>
    have hF := Lib.hid (show false = ((a0 == a0) && ((a1 == a1) && ((a2 == a2) && ((a3 == a3) && ((a4.toList == b4.toList) && ((a5.toList == b5.toList) && ((a6 == b6) && ((a7 == b7) && (s8))))))))) by simp [q6, q4, q5])
    clear h8
    go_enter Try.func28, Try.ntmps28
    go_wp2_with fail
    go_ret
    exact ⟨congrArg (fun z => Ending.returned (Value.bool z)) hF.out, alloc2_plus _ _ _⟩
  subst q6
  by_cases q7 : a7 = b7
  case neg =>
    have hF := Lib.hid (show false = ((a0 == a0) && ((a1 == a1) && ((a2 == a2) && ((a3 == a3) && ((a4.toList == b4.toList) && ((a5.toList == b5.toList) && ((a6 == a6) && ((a7 == b7) && (s8))))))))) by simp [q7, q4, q5])
    clear h8
    go_enter Try.func28, Try.ntmps28
    go_wp2_with fail
    go_ret
    exact ⟨congrArg (fun z => Ending.returned (Value.bool z)) hF.out, alloc2_plus _ _ _⟩
  subst q7
  cases s8
  case false =>
    have hF := Lib.hid (show false = ((a0 == a0) && ((a1 == a1) && ((a2 == a2) && ((a3 == a3) && ((a4.toList == b4.toList) && ((a5.toList == b5.toList) && ((a6 == a6) && ((a7 == a7) && (false))))))))) by simp [q4, q5])
    have h8 := Lib.hid h8
    go_enter Try.func28, Try.ntmps28
    go_wp2_with fail
    obtain ⟨W, yy, hW, ⟨z, hz⟩, cb0, cb1⟩ := box2n V _ _ 38 38
    rw [hW]
    have c0_0 := cb0 0 _ rfl
    have c0_1 := cb0 1 _ rfl
    have c0_2 := cb0 2 _ rfl
    have c0_3 := cb0 3 _ rfl
    have c0_4 := cb0 4 _ rfl
    have c0_5 := cb0 5 _ rfl
    have c0_6 := cb0 6 _ rfl
    have c0_7 := cb0 7 _ rfl
    have c0_8 := cb0 8 _ rfl
    have c1_0 := cb1 0 _ rfl
    have c1_1 := cb1 1 _ rfl
    have c1_2 := cb1 2 _ rfl
    have c1_3 := cb1 3 _ rfl
    have c1_4 := cb1 4 _ rfl
    have c1_5 := cb1 5 _ rfl
    have c1_6 := cb1 6 _ rfl
    have c1_7 := cb1 7 _ rfl
    have c1_8 := cb1 8 _ rfl
    have q8c := Lib.hid (kp_at hz h8.out)
    have hcW := fun x => cell_keep (cell_at hz hc) x
    have hz' := Lib.hid hz
    clear hW hz cb0 cb1
    refine (q8c.out _).mono ?_
    rintro r w' ⟨rfl, x1, rfl⟩
    go_wp2_with fail
    go_ret
    exact ⟨congrArg (fun z => Ending.returned (Value.bool z)) hF.out, by rw [hz'.out, plus_plus]; exact ⟨_, rfl⟩⟩
  have hF := Lib.hid (show true = ((a0 == a0) && ((a1 == a1) && ((a2 == a2) && ((a3 == a3) && ((a4.toList == b4.toList) && ((a5.toList == b5.toList) && ((a6 == a6) && ((a7 == a7) && (true))))))))) by simp [q4, q5])
  have h8 := Lib.hid h8
  go_enter Try.func28, Try.ntmps28
  go_wp2_with fail
  obtain ⟨W, yy, hW, ⟨z, hz⟩, cb0, cb1⟩ := box2n V _ _ 38 38
  rw [hW]
  have c0_0 := cb0 0 _ rfl
  have c0_1 := cb0 1 _ rfl
  have c0_2 := cb0 2 _ rfl
  have c0_3 := cb0 3 _ rfl
  have c0_4 := cb0 4 _ rfl
  have c0_5 := cb0 5 _ rfl
  have c0_6 := cb0 6 _ rfl
  have c0_7 := cb0 7 _ rfl
  have c0_8 := cb0 8 _ rfl
  have c1_0 := cb1 0 _ rfl
  have c1_1 := cb1 1 _ rfl
  have c1_2 := cb1 2 _ rfl
  have c1_3 := cb1 3 _ rfl
  have c1_4 := cb1 4 _ rfl
  have c1_5 := cb1 5 _ rfl
  have c1_6 := cb1 6 _ rfl
  have c1_7 := cb1 7 _ rfl
  have c1_8 := cb1 8 _ rfl
  have q8c := Lib.hid (kp_at hz h8.out)
  have hcW := fun x => cell_keep (cell_at hz hc) x
  have hz' := Lib.hid hz
  clear hW hz cb0 cb1
  refine (q8c.out _).mono ?_
  rintro r w' ⟨rfl, x1, rfl⟩
  go_wp2_with fail
  go_ret
  exact ⟨congrArg (fun z => Ending.returned (Value.bool z)) hF.out, by rw [hz'.out, plus_plus]; exact ⟨_, rfl⟩⟩
set_option maxRecDepth 100000 in
set_option maxHeartbeats 8000000 in
theorem stmt1_of (a0 : Int) (a1 : ByteArray) (a2 : ByteArray) (a3 : Int) (a4 : Int) (a5 : Int) (a6 : Int) (a7 : ByteArray) (a8 : ByteArray) (a9 : Int) (a10 : Int) (a11p : Option Addr) (a11n : Nat) (a11c : Nat) (a12p : Option Addr) (a12n : Nat) (a12c : Nat) (a13p : Option Addr) (a13n : Nat) (a13c : Nat) (b0 : Int) (b1 : ByteArray) (b2 : ByteArray) (b3 : Int) (b4 : Int) (b5 : Int) (b6 : Int) (b7 : ByteArray) (b8 : ByteArray) (b9 : Int) (b10 : Int) (b11p : Option Addr) (b11n : Nat) (b11c : Nat) (b12p : Option Addr) (b12n : Nat) (b12c : Nat) (b13p : Option Addr) (b13n : Nat) (b13c : Nat) (c : Nat) (s3 : Bool) (s4 : Bool) (s5 : Bool) (w : World) (hc : w.cell? ⟨c, 0, none⟩ = some (.func (.func 53) #[] #[.pointer (some ⟨c, 0, none⟩)]))
    (h3 : Kp Try.prog w 8 #[.agg #[.int .u8 a3, .int .i64 a4, .int .u64 a5, .int .u64 a6, .string a7, .string a8, .int .i64 a9, .int .i64 a10, .slice a11p a11n a11c], .agg #[.int .u8 b3, .int .i64 b4, .int .u64 b5, .int .u64 b6, .string b7, .string b8, .int .i64 b9, .int .i64 b10, .slice b11p b11n b11c]] (.bool s3))
    (h4 : Kp Try.prog w 54 #[.slice a12p a12n a12c, .slice b12p b12n b12c, .func (.func 53) #[] #[.pointer (some ⟨c, 0, none⟩)]] (.bool s4))
    (h5 : Kp Try.prog w 54 #[.slice a13p a13n a13c, .slice b13p b13n b13c, .func (.func 53) #[] #[.pointer (some ⟨c, 0, none⟩)]] (.bool s5)) :
    Kp Try.prog w 53 #[.agg #[.int .u8 a0, .string a1, .string a2, .int .u8 a3, .int .i64 a4, .int .u64 a5, .int .u64 a6, .string a7, .string a8, .int .i64 a9, .int .i64 a10, .slice a11p a11n a11c, .slice a12p a12n a12c, .slice a13p a13n a13c], .agg #[.int .u8 b0, .string b1, .string b2, .int .u8 b3, .int .i64 b4, .int .u64 b5, .int .u64 b6, .string b7, .string b8, .int .i64 b9, .int .i64 b10, .slice b11p b11n b11c, .slice b12p b12n b12c, .slice b13p b13n b13c], .pointer (some ⟨c, 0, none⟩)] (.bool ((a0 == b0) && ((a1.toList == b1.toList) && ((a2.toList == b2.toList) && (s3 && (s4 && s5)))))) := by
  intro y0
  have h3 := h3.up y0
  have h4 := h4.up y0
  have h5 := h5.up y0
  have hc := cell_keep hc y0
  obtain ⟨V, hV⟩ : ∃ V, plus w y0 = V := ⟨_, rfl⟩
  rw [hV] at h3 h4 h5 hc ⊢
  clear hV
  have hc2 := fun a b => cell_alloc (cell_alloc hc a) b
  by_cases q0 : a0 = b0
  case neg =>
    have hF := Lib.hid (show false = ((a0 == b0) && ((a1.toList == b1.toList) && ((a2.toList == b2.toList) && ((s3) && ((s4) && (s5)))))) by simp [q0])
    clear h3 h4 h5
    go_enter Try.func53, Try.ntmps53
    go_wp2_with fail
    go_ret
    exact ⟨congrArg (fun z => Ending.returned (Value.bool z)) hF.out, alloc2_plus _ _ _⟩
  subst q0
  by_cases q1 : (a1.toList == b1.toList) = true
  case neg =>
    have q1 : (a1.toList == b1.toList) = false := by simpa using q1
    have hF := Lib.hid (show false = ((a0 == a0) && ((a1.toList == b1.toList) && ((a2.toList == b2.toList) && ((s3) && ((s4) && (s5)))))) by simp [q1])
    clear h3 h4 h5
    go_enter Try.func53, Try.ntmps53
    go_wp2_with fail
    go_ret
    exact ⟨congrArg (fun z => Ending.returned (Value.bool z)) hF.out, alloc2_plus _ _ _⟩
  by_cases q2 : (a2.toList == b2.toList) = true
  case neg =>
    have q2 : (a2.toList == b2.toList) = false := by simpa using q2
    have hF := Lib.hid (show false = ((a0 == a0) && ((a1.toList == b1.toList) && ((a2.toList == b2.toList) && ((s3) && ((s4) && (s5)))))) by simp [q2, q1])
    clear h3 h4 h5
    go_enter Try.func53, Try.ntmps53
    go_wp2_with fail
    go_ret
    exact ⟨congrArg (fun z => Ending.returned (Value.bool z)) hF.out, alloc2_plus _ _ _⟩
  cases s3
  case false =>
    have hF := Lib.hid (show false = ((a0 == a0) && ((a1.toList == b1.toList) && ((a2.toList == b2.toList) && ((false) && ((s4) && (s5)))))) by simp [q1, q2])
    clear h4 h5
    have h3 := Lib.hid h3
    go_enter Try.func53, Try.ntmps53
    go_wp2_with fail
    obtain ⟨W, yy, hW, ⟨z, hz⟩, cb0, cb1⟩ := box2n V _ _ 103 103
    rw [hW]
    have c0_0 := cb0 0 _ rfl
    have c0_1 := cb0 1 _ rfl
    have c0_2 := cb0 2 _ rfl
    have c0_3 := cb0 3 _ rfl
    have c0_4 := cb0 4 _ rfl
    have c0_5 := cb0 5 _ rfl
    have c0_6 := cb0 6 _ rfl
    have c0_7 := cb0 7 _ rfl
    have c0_8 := cb0 8 _ rfl
    have c0_9 := cb0 9 _ rfl
    have c0_10 := cb0 10 _ rfl
    have c0_11 := cb0 11 _ rfl
    have c0_12 := cb0 12 _ rfl
    have c0_13 := cb0 13 _ rfl
    have c1_0 := cb1 0 _ rfl
    have c1_1 := cb1 1 _ rfl
    have c1_2 := cb1 2 _ rfl
    have c1_3 := cb1 3 _ rfl
    have c1_4 := cb1 4 _ rfl
    have c1_5 := cb1 5 _ rfl
    have c1_6 := cb1 6 _ rfl
    have c1_7 := cb1 7 _ rfl
    have c1_8 := cb1 8 _ rfl
    have c1_9 := cb1 9 _ rfl
    have c1_10 := cb1 10 _ rfl
    have c1_11 := cb1 11 _ rfl
    have c1_12 := cb1 12 _ rfl
    have c1_13 := cb1 13 _ rfl
    have q3c := Lib.hid (kp_at hz h3.out)
    have hcW := fun x => cell_keep (cell_at hz hc) x
    have hz' := Lib.hid hz
    clear hW hz cb0 cb1
    refine (q3c.out _).mono ?_
    rintro r w' ⟨rfl, x1, rfl⟩
    go_wp2_with fail
    go_ret
    exact ⟨congrArg (fun z => Ending.returned (Value.bool z)) hF.out, by rw [hz'.out, plus_plus]; exact ⟨_, rfl⟩⟩
  cases s4
  case false =>
    have hF := Lib.hid (show false = ((a0 == a0) && ((a1.toList == b1.toList) && ((a2.toList == b2.toList) && ((true) && ((false) && (s5)))))) by simp [q1, q2])
    clear h5
    have h3 := Lib.hid h3
    have h4 := Lib.hid h4
    go_enter Try.func53, Try.ntmps53
    go_wp2_with fail
    obtain ⟨W, yy, hW, ⟨z, hz⟩, cb0, cb1⟩ := box2n V _ _ 103 103
    rw [hW]
    have c0_0 := cb0 0 _ rfl
    have c0_1 := cb0 1 _ rfl
    have c0_2 := cb0 2 _ rfl
    have c0_3 := cb0 3 _ rfl
    have c0_4 := cb0 4 _ rfl
    have c0_5 := cb0 5 _ rfl
    have c0_6 := cb0 6 _ rfl
    have c0_7 := cb0 7 _ rfl
    have c0_8 := cb0 8 _ rfl
    have c0_9 := cb0 9 _ rfl
    have c0_10 := cb0 10 _ rfl
    have c0_11 := cb0 11 _ rfl
    have c0_12 := cb0 12 _ rfl
    have c0_13 := cb0 13 _ rfl
    have c1_0 := cb1 0 _ rfl
    have c1_1 := cb1 1 _ rfl
    have c1_2 := cb1 2 _ rfl
    have c1_3 := cb1 3 _ rfl
    have c1_4 := cb1 4 _ rfl
    have c1_5 := cb1 5 _ rfl
    have c1_6 := cb1 6 _ rfl
    have c1_7 := cb1 7 _ rfl
    have c1_8 := cb1 8 _ rfl
    have c1_9 := cb1 9 _ rfl
    have c1_10 := cb1 10 _ rfl
    have c1_11 := cb1 11 _ rfl
    have c1_12 := cb1 12 _ rfl
    have c1_13 := cb1 13 _ rfl
    have q3c := Lib.hid (kp_at hz h3.out)
    have q4c := Lib.hid (kp_at hz h4.out)
    have hcW := fun x => cell_keep (cell_at hz hc) x
    have hz' := Lib.hid hz
    clear hW hz cb0 cb1
    refine (q3c.out _).mono ?_
    rintro r w' ⟨rfl, x1, rfl⟩
    go_wp2_with (first | (go_at_call 54; with_reducible refine (q4c.out _).mono ?_; rintro r w' ⟨rfl, x, rfl⟩))
    go_ret
    exact ⟨congrArg (fun z => Ending.returned (Value.bool z)) hF.out, by rw [hz'.out, plus_plus]; exact ⟨_, rfl⟩⟩
  cases s5
  case false =>
    have hF := Lib.hid (show false = ((a0 == a0) && ((a1.toList == b1.toList) && ((a2.toList == b2.toList) && ((true) && ((true) && (false)))))) by simp [q1, q2])
    have h3 := Lib.hid h3
    have h4 := Lib.hid h4
    have h5 := Lib.hid h5
    go_enter Try.func53, Try.ntmps53
    go_wp2_with fail
    obtain ⟨W, yy, hW, ⟨z, hz⟩, cb0, cb1⟩ := box2n V _ _ 103 103
    rw [hW]
    have c0_0 := cb0 0 _ rfl
    have c0_1 := cb0 1 _ rfl
    have c0_2 := cb0 2 _ rfl
    have c0_3 := cb0 3 _ rfl
    have c0_4 := cb0 4 _ rfl
    have c0_5 := cb0 5 _ rfl
    have c0_6 := cb0 6 _ rfl
    have c0_7 := cb0 7 _ rfl
    have c0_8 := cb0 8 _ rfl
    have c0_9 := cb0 9 _ rfl
    have c0_10 := cb0 10 _ rfl
    have c0_11 := cb0 11 _ rfl
    have c0_12 := cb0 12 _ rfl
    have c0_13 := cb0 13 _ rfl
    have c1_0 := cb1 0 _ rfl
    have c1_1 := cb1 1 _ rfl
    have c1_2 := cb1 2 _ rfl
    have c1_3 := cb1 3 _ rfl
    have c1_4 := cb1 4 _ rfl
    have c1_5 := cb1 5 _ rfl
    have c1_6 := cb1 6 _ rfl
    have c1_7 := cb1 7 _ rfl
    have c1_8 := cb1 8 _ rfl
    have c1_9 := cb1 9 _ rfl
    have c1_10 := cb1 10 _ rfl
    have c1_11 := cb1 11 _ rfl
    have c1_12 := cb1 12 _ rfl
    have c1_13 := cb1 13 _ rfl
    have q3c := Lib.hid (kp_at hz h3.out)
    have q4c := Lib.hid (kp_at hz h4.out)
    have q5c := Lib.hid (kp_at hz h5.out)
    have hcW := fun x => cell_keep (cell_at hz hc) x
    have hz' := Lib.hid hz
    clear hW hz cb0 cb1
    refine (q3c.out _).mono ?_
    rintro r w' ⟨rfl, x1, rfl⟩
    go_wp2_with (first | (go_at_call 54; with_reducible refine (q4c.out _).mono ?_; rintro r w' ⟨rfl, x, rfl⟩) | (go_at_call 54; with_reducible refine (q5c.out _).mono ?_; rintro r w' ⟨rfl, x, rfl⟩))
    go_ret
    exact ⟨congrArg (fun z => Ending.returned (Value.bool z)) hF.out, by rw [hz'.out, plus_plus]; exact ⟨_, rfl⟩⟩
  have hF := Lib.hid (show true = ((a0 == a0) && ((a1.toList == b1.toList) && ((a2.toList == b2.toList) && ((true) && ((true) && (true)))))) by simp [q1, q2])
  have h3 := Lib.hid h3
  have h4 := Lib.hid h4
  have h5 := Lib.hid h5
  go_enter Try.func53, Try.ntmps53
  go_wp2_with fail
  obtain ⟨W, yy, hW, ⟨z, hz⟩, cb0, cb1⟩ := box2n V _ _ 103 103
  rw [hW]
  have c0_0 := cb0 0 _ rfl
  have c0_1 := cb0 1 _ rfl
  have c0_2 := cb0 2 _ rfl
  have c0_3 := cb0 3 _ rfl
  have c0_4 := cb0 4 _ rfl
  have c0_5 := cb0 5 _ rfl
  have c0_6 := cb0 6 _ rfl
  have c0_7 := cb0 7 _ rfl
  have c0_8 := cb0 8 _ rfl
  have c0_9 := cb0 9 _ rfl
  have c0_10 := cb0 10 _ rfl
  have c0_11 := cb0 11 _ rfl
  have c0_12 := cb0 12 _ rfl
  have c0_13 := cb0 13 _ rfl
  have c1_0 := cb1 0 _ rfl
  have c1_1 := cb1 1 _ rfl
  have c1_2 := cb1 2 _ rfl
  have c1_3 := cb1 3 _ rfl
  have c1_4 := cb1 4 _ rfl
  have c1_5 := cb1 5 _ rfl
  have c1_6 := cb1 6 _ rfl
  have c1_7 := cb1 7 _ rfl
  have c1_8 := cb1 8 _ rfl
  have c1_9 := cb1 9 _ rfl
  have c1_10 := cb1 10 _ rfl
  have c1_11 := cb1 11 _ rfl
  have c1_12 := cb1 12 _ rfl
  have c1_13 := cb1 13 _ rfl
  have q3c := Lib.hid (kp_at hz h3.out)
  have q4c := Lib.hid (kp_at hz h4.out)
  have q5c := Lib.hid (kp_at hz h5.out)
  have hcW := fun x => cell_keep (cell_at hz hc) x
  have hz' := Lib.hid hz
  clear hW hz cb0 cb1
  refine (q3c.out _).mono ?_
  rintro r w' ⟨rfl, x1, rfl⟩
  go_wp2_with (first | (go_at_call 54; with_reducible refine (q4c.out _).mono ?_; rintro r w' ⟨rfl, x, rfl⟩) | (go_at_call 54; with_reducible refine (q5c.out _).mono ?_; rintro r w' ⟨rfl, x, rfl⟩))
  go_ret
  exact ⟨congrArg (fun z => Ending.returned (Value.bool z)) hF.out, by rw [hz'.out, plus_plus]; exact ⟨_, rfl⟩⟩
end Go.Proofs.Ytpnaibfefpeikaa
