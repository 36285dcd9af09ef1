/-
  WHAT IS PROVED HERE: what sameHeader, sameCase of the landed ast hand back, by what their callees hand back. Written by gen/astsame.py. · what sameKey, sameState, sameAction, sameTable of the landed ast hand back, by what their callees hand back. Written by gen/astsame.py. · what SameExpr, sameBlock and the literals in them hand back, by what their callees hand back. Written by gen/astsame.py. · what Same of the landed ast hands back, by what its callees hand back. Written by gen/astsame.py.
-/
import Derived.Test.YtlmhldcebllckaaGreatRows
import Derived.Test.YtlmhldcebllckaaGreatFG
import Derived.WalkKit
import Derived.Lib.Hide
import Derived.WalkSpells
import Derived.WalkLawsBesides
import Derived.Laws.EntriesVeiled
namespace Go.Proofs.YtlmhldcebllckaaGreat
open Go.RowKit
end Go.Proofs.YtlmhldcebllckaaGreat
namespace Go.Proofs.YtlmhldcebllckaaGreat
open Go.RowKit
end Go.Proofs.YtlmhldcebllckaaGreat
namespace Go.Proofs.YtlmhldcebllckaaGreat
open Go.RowKit
set_option maxRecDepth 100000 in
set_option maxHeartbeats 8000000 in
theorem expr1_of (a0 : Int) (a1 : Int) (a2 : Int) (a3 : Int) (a4 : ByteArray) (a5 : ByteArray) (a6 : Int) (a7 : Int) (a8p : Option Addr) (a8n : Nat) (a8c : Nat) (b0 : Int) (b1 : Int) (b2 : Int) (b3 : Int) (b4 : ByteArray) (b5 : ByteArray) (b6 : Int) (b7 : Int) (b8p : Option Addr) (b8n : Nat) (b8c : Nat) (c : Nat) (s8 : Bool) (w : World) (hc : w.cell? ⟨c, 0, none⟩ = some (.func (.func 159) #[] #[.pointer (some ⟨c, 0, none⟩)]))
    (h8 : Kp Tryz.prog w 160 #[.slice a8p a8n a8c, .slice b8p b8n b8c, .func (.func 159) #[] #[.pointer (some ⟨c, 0, none⟩)]] (.bool s8)) :
    Kp Tryz.prog w 159 #[.agg #[.int .u8 a0, .int .i64 a1, .int .u64 a2, .int .u64 a3, .string a4, .string a5, .int .i64 a6, .int .i64 a7, .slice a8p a8n a8c], .agg #[.int .u8 b0, .int .i64 b1, .int .u64 b2, .int .u64 b3, .string b4, .string b5, .int .i64 b6, .int .i64 b7, .slice b8p b8n b8c], .pointer (some ⟨c, 0, none⟩)] (.bool ((a0 == b0) && ((a1 == b1) && ((a2 == b2) && ((a3 == b3) && ((a4.toList == b4.toList) && ((a5.toList == b5.toList) && ((a6 == b6) && ((a7 == b7) && s8))))))))) := by
  intro y0
  have h8 := h8.up y0
  have hc := cell_keep hc y0
  obtain ⟨V, hV⟩ : ∃ V, plus w y0 = V := ⟨_, rfl⟩
  rw [hV] at h8 hc ⊢
  clear hV
  have hc2 := fun a b => cell_alloc (cell_alloc hc a) b
  by_cases q0 : a0 = b0
  case neg =>
    have hF := Lib.hid (show false = ((a0 == b0) && ((a1 == b1) && ((a2 == b2) && ((a3 == b3) && ((a4.toList == b4.toList) && ((a5.toList == b5.toList) && ((a6 == b6) && ((a7 == b7) && (s8))))))))) by simp [q0])
    clear h8
    go_enter Tryz.func159, Tryz.ntmps159
    go_wp2_with fail
    go_ret
    exact ⟨congrArg (fun z => Ending.returned (Value.bool z)) hF.out, alloc2_plus _ _ _⟩
  subst q0
  by_cases q1 : a1 = b1
  case neg =>
    have hF := Lib.hid (show false = ((a0 == a0) && ((a1 == b1) && ((a2 == b2) && ((a3 == b3) && ((a4.toList == b4.toList) && ((a5.toList == b5.toList) && ((a6 == b6) && ((a7 == b7) && (s8))))))))) by simp [q1])
    clear h8
    go_enter Tryz.func159, Tryz.ntmps159
    go_wp2_with fail
    go_ret
    exact ⟨congrArg (fun z => Ending.returned (Value.bool z)) hF.out, alloc2_plus _ _ _⟩
  subst q1
  by_cases q2 : a2 = b2
  case neg =>
    have hF := Lib.hid (show false = ((a0 == a0) && ((a1 == a1) && ((a2 == b2) && ((a3 == b3) && ((a4.toList == b4.toList) && ((a5.toList == b5.toList) && ((a6 == b6) && ((a7 == b7) && (s8))))))))) by simp [q2])
    clear h8
    go_enter Tryz.func159, Tryz.ntmps159
    go_wp2_with fail
    go_ret
    exact ⟨congrArg (fun z => Ending.returned (Value.bool z)) hF.out, alloc2_plus _ _ _⟩
  subst q2
  by_cases q3 : a3 = b3
  case neg =>
    have hF := Lib.hid (show false = ((a0 == a0) && ((a1 == a1) && ((a2 == a2) && ((a3 == b3) && ((a4.toList == b4.toList) && ((a5.toList == b5.toList) && ((a6 == b6) && ((a7 == b7) && (s8))))))))) by simp [q3])
    clear h8
    go_enter Tryz.func159, Tryz.ntmps159
    go_wp2_with fail
    go_ret
    exact ⟨congrArg (fun z => Ending.returned (Value.bool z)) hF.out, alloc2_plus _ _ _⟩
  subst q3
  by_cases q4 : (a4.toList == b4.toList) = true
  case neg =>
    have q4 : (a4.toList == b4.toList) = false := by simpa using q4
    have hF := Lib.hid (show false = ((a0 == a0) && ((a1 == a1) && ((a2 == a2) && ((a3 == a3) && ((a4.toList == b4.toList) && ((a5.toList == b5.toList) && ((a6 == b6) && ((a7 == b7) && (s8))))))))) by simp [q4])
    clear h8
    go_enter Tryz.func159, Tryz.ntmps159
    go_wp2_with fail
    go_ret
    exact ⟨congrArg (fun z => Ending.returned (Value.bool z)) hF.out, alloc2_plus _ _ _⟩
  by_cases q5 : (a5.toList == b5.toList) = true
  case neg =>
    have q5 : (a5.toList == b5.toList) = false := by simpa using q5
    have hF := Lib.hid (show false = ((a0 == a0) && ((a1 == a1) && ((a2 == a2) && ((a3 == a3) && ((a4.toList == b4.toList) && ((a5.toList == b5.toList) && ((a6 == b6) && ((a7 == b7) && (s8))))))))) by simp [q5, q4])
    clear h8
    go_enter Tryz.func159, Tryz.ntmps159
    go_wp2_with fail
    go_ret
    exact ⟨congrArg (fun z => Ending.returned (Value.bool z)) hF.out, alloc2_plus _ _ _⟩
  by_cases q6 : a6 = b6
  case neg =>
    have hF := Lib.hid (show false = ((a0 == a0) && ((a1 == a1) && ((a2 == a2) && ((a3 == a3) && ((a4.toList == b4.toList) && ((a5.toList == b5.toList) && ((a6 == b6) && ((a7 == b7) && (s8))))))))) by simp [q6, q4, q5])
    clear h8
    go_enter Tryz.func159, Tryz.ntmps159
    go_wp2_with fail
    go_ret
    exact ⟨congrArg (fun z => Ending.returned (Value.bool z)) hF.out, alloc2_plus _ _ _⟩
  subst q6
  by_cases q7 : a7 = b7
  case neg =>
    have hF := Lib.hid (show false = ((a0 == a0) && ((a1 == a1) && ((a2 == a2) && ((a3 == a3) && ((a4.toList == b4.toList) && ((a5.toList == b5.toList) && ((a6 == a6) && ((a7 == b7) && (s8))))))))) by simp [q7, q4, q5])
    clear h8
    go_enter Tryz.func159, Tryz.ntmps159
    go_wp2_with fail
    go_ret
    exact ⟨congrArg (fun z => Ending.returned (Value.bool z)) hF.out, alloc2_plus _ _ _⟩
  subst q7
  cases s8
  case false =>
    have hF := Lib.hid (show false = ((a0 == a0) && ((a1 == a1) && ((a2 == a2) && ((a3 == a3) && ((a4.toList == b4.toList) && ((a5.toList == b5.toList) && ((a6 == a6) && ((a7 == a7) && (false))))))))) by simp [q4, q5])
    have h8 := Lib.hid h8
    go_enter Tryz.func159, Tryz.ntmps159
    go_wp2_with fail
    obtain ⟨W, yy, hW, ⟨z, hz⟩, cb0, cb1⟩ := box2n V _ _ 68 68
    rw [hW]
    have c0_0 := cb0 0 _ rfl
    have c0_1 := cb0 1 _ rfl
    have c0_2 := cb0 2 _ rfl
    have c0_3 := cb0 3 _ rfl
    have c0_4 := cb0 4 _ rfl
    have c0_5 := cb0 5 _ rfl
    have c0_6 := cb0 6 _ rfl
    have c0_7 := cb0 7 _ rfl
    have c0_8 := cb0 8 _ rfl
    have c1_0 := cb1 0 _ rfl
    have c1_1 := cb1 1 _ rfl
    have c1_2 := cb1 2 _ rfl
    have c1_3 := cb1 3 _ rfl
    have c1_4 := cb1 4 _ rfl
    have c1_5 := cb1 5 _ rfl
    have c1_6 := cb1 6 _ rfl
    have c1_7 := cb1 7 _ rfl
    have c1_8 := cb1 8 _ rfl
    have q8c := Lib.hid (kp_at hz h8.out)
    have hcW := fun x => cell_keep (cell_at hz hc) x
    have hz' := Lib.hid hz
    clear hW hz cb0 cb1
    refine (q8c.out _).mono ?_
    rintro r w' ⟨rfl, x1, rfl⟩
    go_wp2_with fail
    go_ret
    exact ⟨congrArg (fun z => Ending.returned (Value.bool z)) hF.out, by rw [hz'.out, plus_plus]; exact ⟨_, rfl⟩⟩
  have hF := Lib.hid (show true = ((a0 == a0) && ((a1 == a1) && ((a2 == a2) && ((a3 == a3) && ((a4.toList == b4.toList) && ((a5.toList == b5.toList) && ((a6 == a6) && ((a7 == a7) && (true))))))))) by simp [q4, q5])
  have h8 := Lib.hid h8
  go_enter Tryz.func159, Tryz.ntmps159
  go_wp2_with fail
  obtain ⟨W, yy, hW, ⟨z, hz⟩, cb0, cb1⟩ := box2n V _ _ 68 68
  rw [hW]
  have c0_0 := cb0 0 _ rfl
  have c0_1 := cb0 1 _ rfl
  have c0_2 := cb0 2 _ rfl
  have c0_3 := cb0 3 _ rfl
  have c0_4 := cb0 4 _ rfl
  have c0_5 := cb0 5 _ rfl
  have c0_6 := cb0 6 _ rfl
  have c0_7 := cb0 7 _ rfl
  have c0_8 := cb0 8 _ rfl
  have c1_0 := cb1 0 _ rfl
  have c1_1 := cb1 1 _ rfl
  have c1_2 := cb1 2 _ rfl
  have c1_3 := cb1 3 _ rfl
  have c1_4 := cb1 4 _ rfl
  have c1_5 := cb1 5 _ rfl
  have c1_6 := cb1 6 _ rfl
  have c1_7 := cb1 7 _ rfl
  have c1_8 := cb1 8 _ rfl
  have q8c := Lib.hid (kp_at hz h8.out)
  have hcW := fun x => cell_keep (cell_at hz hc) x
  have hz' := Lib.hid hz
  clear hW hz cb0 cb1
  refine (q8c.out _).mono ?_
  rintro r w' ⟨rfl, x1, rfl⟩
  go_wp2_with fail
  go_ret
  exact ⟨congrArg (fun z => Ending.returned (Value.bool z)) hF.out, by rw [hz'.out, plus_plus]; exact ⟨_, rfl⟩⟩
end Go.Proofs.YtlmhldcebllckaaGreat
namespace Go.Proofs.YtlmhldcebllckaaGreat
open Go.RowKit
end Go.Proofs.YtlmhldcebllckaaGreat
