/-
  WHAT IS PROVED HERE: a part of the proof (made narrower and merged by program; the parts: Hc Hd).
-/
import Derived.Test.YtlmhldcebllckaaGreatRows
import Derived.WalkKit
import Derived.Lib.Hide
import Derived.WalkSpells
import Derived.WalkLawsBesides
import Derived.Laws.EntriesVeiled
import Derived.Shelf.Abstract
import Derived.Test.YtlmhldcebllckaaGreatM3
import Derived.Test.YtlmhldcebllckaaGreatM30
import Derived.Test.YtlmhldcebllckaaGreatM4
namespace Go.Proofs.YtlmhldcebllckaaGreat
open Go.RowKit
def widthB (w:Int):Bool:=decide (1 ≤ w) && decide (w ≤ 128)
set_option maxRecDepth 100000 in
set_option maxHeartbeats 8000000 in
theorem ast_width (a:Int) (w:World) :
  Kp Tryz.prog w 91 #[.int .i64 a] (.bool (decide (1 ≤ a) && decide (a ≤ 128))):=by
 intro y0
 obtain ⟨V,hV⟩:∃ V,plus w y0 = V:=⟨_,rfl⟩
 rw [hV] at ⊢
 clear hV
 obtain ⟨R,hR⟩:∃ R,(decide (1 ≤ a) && decide (a ≤ 128)) = R:=⟨_,rfl⟩
 rw [hR]
 by_cases q1:1 ≤ a
 case neg =>
  have hF:=Lib.hid (show (false) = R by first | exact hR | (rw [← hR];simp [q1]))
  clear hR
  go_enter Tryz.func91,Tryz.ntmps91
  go_wp2_with fail
  go_ret
  exact ⟨rb hF.out,alloc0_plus _⟩
 case pos =>
  by_cases q2:a ≤ 128
  case neg =>
   have hF:=Lib.hid (show (false) = R by first | exact hR | (rw [← hR];simp [q1,q2]))
   clear hR
   go_enter Tryz.func91,Tryz.ntmps91
   go_wp2_with fail
   go_ret
   exact ⟨rb hF.out,alloc0_plus _⟩
  case pos =>
   have hF:=Lib.hid (show (true) = R by first | exact hR | (rw [← hR];simp [q1,q2]))
   clear hR
   go_enter Tryz.func91,Tryz.ntmps91
   go_wp2_with fail
   go_ret
   exact ⟨rb hF.out,alloc0_plus _⟩
set_option maxRecDepth 100000 in
set_option maxHeartbeats 8000000 in
theorem lit_of (a0:Int) (a1:Int) (a2:Int) (s0 s1:Bool) (w:World)
  (h0:Kp Tryz.prog w 91 #[.int .i64 a0] (.bool s0))
  (h1:Kp Tryz.prog w 139 #[.agg #[.int .u64 a1,.int .u64 a2],.int .i64 a0] (.bool s1)) :
  Kp Tryz.prog w 96 #[.agg #[.int .i64 a0,.int .u64 a1,.int .u64 a2]] (.bool ((a0 == 0) || (s0 && s1))):=by
 intro y0
 have h0:=h0.up y0
 have h1:=h1.up y0
 obtain ⟨V,hV⟩:∃ V,plus w y0 = V:=⟨_,rfl⟩
 rw [hV] at h0 h1 ⊢
 clear hV
 obtain ⟨R,hR⟩:∃ R,((a0 == 0) || (s0 && s1)) = R:=⟨_,rfl⟩
 rw [hR]
 by_cases q1:(a0 == 0) = true
 case neg =>
  have q1:(a0 == 0) = false:=by simpa using q1
  cases s0
  case false =>
   have hF:=Lib.hid (show (false) = R by first | exact hR | (rw [← hR];simp [q1]))
   clear hR
   clear h1
   have h0:=Lib.hid h0
   go_enter Tryz.func96,Tryz.ntmps96
   go_wp2_with fail
   obtain ⟨W,yy,hW,⟨z,hz⟩,cb0⟩:=box1n V _ 66
   rw [hW]
   have c0_0:=cb0 0 _ rfl
   have c0_1:=cb0 1 _ rfl
   have c0_2:=cb0 2 _ rfl
   have q0c:=Lib.hid (kp_at hz h0.out)
   have hz':=Lib.hid hz
   clear hW hz cb0
   refine (q0c.out _).mono ?_
   rintro r w' ⟨rfl,x1,rfl⟩
   go_wp2_with fail
   go_ret
   exact ⟨rb hF.out,pp hz'.out⟩
  case true =>
   cases s1
   case false =>
    have hF:=Lib.hid (show (false) = R by first | exact hR | (rw [← hR];simp [q1]))
    clear hR
    have h0:=Lib.hid h0
    have h1:=Lib.hid h1
    go_enter Tryz.func96,Tryz.ntmps96
    go_wp2_with fail
    obtain ⟨W,yy,hW,⟨z,hz⟩,cb0⟩:=box1n V _ 66
    rw [hW]
    have c0_0:=cb0 0 _ rfl
    have c0_1:=cb0 1 _ rfl
    have c0_2:=cb0 2 _ rfl
    have q0c:=Lib.hid (kp_at hz h0.out)
    have q1c:=Lib.hid (kp_at hz h1.out)
    have hz':=Lib.hid hz
    clear hW hz cb0
    refine (q0c.out _).mono ?_
    rintro r w' ⟨rfl,x1,rfl⟩
    go_wp2_with (first | (go_at_call 139;with_reducible refine (q1c.out _).mono ?_;rintro r w' ⟨rfl,x,rfl⟩))
    go_ret
    exact ⟨rb hF.out,pp hz'.out⟩
   case true =>
    have hF:=Lib.hid (show (true) = R by first | exact hR | (rw [← hR];simp [q1]))
    clear hR
    have h0:=Lib.hid h0
    have h1:=Lib.hid h1
    go_enter Tryz.func96,Tryz.ntmps96
    go_wp2_with fail
    obtain ⟨W,yy,hW,⟨z,hz⟩,cb0⟩:=box1n V _ 66
    rw [hW]
    have c0_0:=cb0 0 _ rfl
    have c0_1:=cb0 1 _ rfl
    have c0_2:=cb0 2 _ rfl
    have q0c:=Lib.hid (kp_at hz h0.out)
    have q1c:=Lib.hid (kp_at hz h1.out)
    have hz':=Lib.hid hz
    clear hW hz cb0
    refine (q0c.out _).mono ?_
    rintro r w' ⟨rfl,x1,rfl⟩
    go_wp2_with (first | (go_at_call 139;with_reducible refine (q1c.out _).mono ?_;rintro r w' ⟨rfl,x,rfl⟩))
    go_ret
    exact ⟨rb hF.out,pp hz'.out⟩
 case pos =>
  have hF:=Lib.hid (show (true) = R by first | exact hR | (rw [← hR];simp [q1]))
  clear hR
  clear h0 h1
  go_enter Tryz.func96,Tryz.ntmps96
  go_wp2_with fail
  go_ret
  exact ⟨rb hF.out,alloc1_plus _ _⟩
set_option maxRecDepth 100000 in
set_option maxHeartbeats 8000000 in
theorem field_of (a0:ByteArray) (a1:Int) (s0 s1:Bool) (w:World)
  (h0:Kp Tryz.prog w 47 #[.string a0] (.bool s0))
  (h1:Kp Tryz.prog w 91 #[.int .i64 a1] (.bool s1)) :
  Kp Tryz.prog w 38 #[.agg #[.string a0,.int .i64 a1]] (.bool (((s0) && (s1)))):=by
 intro y0
 have h0:=h0.up y0
 have h1:=h1.up y0
 obtain ⟨V,hV⟩:∃ V,plus w y0 = V:=⟨_,rfl⟩
 rw [hV] at h0 h1 ⊢
 clear hV
 obtain ⟨R,hR⟩:∃ R,(((s0) && (s1))) = R:=⟨_,rfl⟩
 rw [hR]
 cases s0
 case false =>
  have hF:=Lib.hid (show (false) = R by first | exact hR | (rw [← hR];simp))
  clear hR
  clear h1
  have h0:=Lib.hid h0
  go_enter Tryz.func38,Tryz.ntmps38
  go_wp2_with fail
  obtain ⟨W,yy,hW,⟨z,hz⟩,cb0⟩:=box1n V _ 84
  rw [hW]
  have c0_0:=cb0 0 _ rfl
  have c0_1:=cb0 1 _ rfl
  have q0c:=Lib.hid (kp_at hz h0.out)
  have hz':=Lib.hid hz
  clear hW hz cb0
  refine (q0c.out _).mono ?_
  rintro r w' ⟨rfl,x1,rfl⟩
  go_wp2_with fail
  go_ret
  exact ⟨rb hF.out,pp hz'.out⟩
 case true =>
  cases s1
  case false =>
   have hF:=Lib.hid (show (false) = R by first | exact hR | (rw [← hR];simp))
   clear hR
   have h0:=Lib.hid h0
   have h1:=Lib.hid h1
   go_enter Tryz.func38,Tryz.ntmps38
   go_wp2_with fail
   obtain ⟨W,yy,hW,⟨z,hz⟩,cb0⟩:=box1n V _ 84
   rw [hW]
   have c0_0:=cb0 0 _ rfl
   have c0_1:=cb0 1 _ rfl
   have q0c:=Lib.hid (kp_at hz h0.out)
   have q1c:=Lib.hid (kp_at hz h1.out)
   have hz':=Lib.hid hz
   clear hW hz cb0
   refine (q0c.out _).mono ?_
   rintro r w' ⟨rfl,x1,rfl⟩
   go_wp2_with (first | (go_at_call 91;with_reducible refine (q1c.out _).mono ?_;rintro r w' ⟨rfl,x,rfl⟩))
   go_ret
   exact ⟨rb hF.out,pp hz'.out⟩
  case true =>
   have hF:=Lib.hid (show (true) = R by first | exact hR | (rw [← hR];simp))
   clear hR
   have h0:=Lib.hid h0
   have h1:=Lib.hid h1
   go_enter Tryz.func38,Tryz.ntmps38
   go_wp2_with fail
   obtain ⟨W,yy,hW,⟨z,hz⟩,cb0⟩:=box1n V _ 84
   rw [hW]
   have c0_0:=cb0 0 _ rfl
   have c0_1:=cb0 1 _ rfl
   have q0c:=Lib.hid (kp_at hz h0.out)
   have q1c:=Lib.hid (kp_at hz h1.out)
   have hz':=Lib.hid hz
   clear hW hz cb0
   refine (q0c.out _).mono ?_
   rintro r w' ⟨rfl,x1,rfl⟩
   go_wp2_with (first | (go_at_call 91;with_reducible refine (q1c.out _).mono ?_;rintro r w' ⟨rfl,x,rfl⟩))
   go_ret
   exact ⟨rb hF.out,pp hz'.out⟩
set_option maxRecDepth 100000 in
set_option maxHeartbeats 8000000 in
theorem litfits_of (a0:Int) (a1:Int) (a2:Int) (is:Bool) (s0:Bool) (w:World)
  (h0:Kp Tryz.prog w 96 #[.agg #[.int .i64 a0,.int .u64 a1,.int .u64 a2]] (.bool s0)) :
  Kp Tryz.prog w 165 #[.agg #[.int .i64 a0,.int .u64 a1,.int .u64 a2],.bool is] (.bool (if is then s0 else ((a0 == 0) && ((a1 == 0) && (a2 == 0))))):=by
 intro y0
 have h0:=h0.up y0
 obtain ⟨V,hV⟩:∃ V,plus w y0 = V:=⟨_,rfl⟩
 rw [hV] at h0 ⊢
 clear hV
 obtain ⟨R,hR⟩:∃ R,(if is then s0 else ((a0 == 0) && ((a1 == 0) && (a2 == 0)))) = R:=⟨_,rfl⟩
 rw [hR]
 by_cases q1:(is) = true
 case neg =>
  have q1:(is) = false:=by simpa using q1
  by_cases q2:(a0 == 0) = true
  case neg =>
   have q2:(a0 == 0) = false:=by simpa using q2
   have hF:=Lib.hid (show (false) = R by first | exact hR | (rw [← hR];simp [q1,q2]))
   clear hR
   clear h0
   go_enter Tryz.func165,Tryz.ntmps165
   go_wp2_with fail
   go_ret
   exact ⟨rb hF.out,alloc1_plus _ _⟩
  case pos =>
   by_cases q3:(a1 == 0) = true
   case neg =>
    have q3:(a1 == 0) = false:=by simpa using q3
    have hF:=Lib.hid (show (false) = R by first | exact hR | (rw [← hR];simp [q1,q2,q3]))
    clear hR
    clear h0
    go_enter Tryz.func165,Tryz.ntmps165
    go_wp2_with fail
    go_ret
    exact ⟨rb hF.out,alloc1_plus _ _⟩
   case pos =>
    by_cases q4:(a2 == 0) = true
    case neg =>
     have q4:(a2 == 0) = false:=by simpa using q4
     have hF:=Lib.hid (show (false) = R by first | exact hR | (rw [← hR];simp [q1,q2,q3,q4]))
     clear hR
     clear h0
     go_enter Tryz.func165,Tryz.ntmps165
     go_wp2_with fail
     go_ret
     exact ⟨rb hF.out,alloc1_plus _ _⟩
    case pos =>
     have hF:=Lib.hid (show (true) = R by first | exact hR | (rw [← hR];simp [q1,q2,q3,q4]))
     clear hR
     clear h0
     go_enter Tryz.func165,Tryz.ntmps165
     go_wp2_with fail
     go_ret
     exact ⟨rb hF.out,alloc1_plus _ _⟩
 case pos =>
  cases s0
  case false =>
   have hF:=Lib.hid (show (false) = R by first | exact hR | (rw [← hR];simp [q1]))
   clear hR
   have h0:=Lib.hid h0
   go_enter Tryz.func165,Tryz.ntmps165
   go_wp2_with fail
   obtain ⟨W,yy,hW,⟨z,hz⟩,cb0⟩:=box1n V _ 66
   rw [hW]
   have c0_0:=cb0 0 _ rfl
   have c0_1:=cb0 1 _ rfl
   have c0_2:=cb0 2 _ rfl
   have q0c:=Lib.hid (kp_at hz h0.out)
   have hz':=Lib.hid hz
   clear hW hz cb0
   refine (q0c.out _).mono ?_
   rintro r w' ⟨rfl,x1,rfl⟩
   go_wp2_with fail
   go_ret
   exact ⟨rb hF.out,pp hz'.out⟩
  case true =>
   have hF:=Lib.hid (show (true) = R by first | exact hR | (rw [← hR];simp [q1]))
   clear hR
   have h0:=Lib.hid h0
   go_enter Tryz.func165,Tryz.ntmps165
   go_wp2_with fail
   obtain ⟨W,yy,hW,⟨z,hz⟩,cb0⟩:=box1n V _ 66
   rw [hW]
   have c0_0:=cb0 0 _ rfl
   have c0_1:=cb0 1 _ rfl
   have c0_2:=cb0 2 _ rfl
   have q0c:=Lib.hid (kp_at hz h0.out)
   have hz':=Lib.hid hz
   clear hW hz cb0
   refine (q0c.out _).mono ?_
   rintro r w' ⟨rfl,x1,rfl⟩
   go_wp2_with fail
   go_ret
   exact ⟨rb hF.out,pp hz'.out⟩
set_option maxRecDepth 100000 in
set_option maxHeartbeats 8000000 in
theorem namefits_of (s:ByteArray) (p:Int) (s0:Bool) (w:World)
  (h0:Kp Tryz.prog w 47 #[.string s] (.bool s0)) :
  Kp Tryz.prog w 158 #[.string s,.int .u8 p] (.bool (if s.toList == [] then p != 1 else ((p != 0) && s0))):=by
 intro y0
 have h0:=h0.up y0
 obtain ⟨V,hV⟩:∃ V,plus w y0 = V:=⟨_,rfl⟩
 rw [hV] at h0 ⊢
 clear hV
 obtain ⟨R,hR⟩:∃ R,(if s.toList == [] then p != 1 else ((p != 0) && s0)) = R:=⟨_,rfl⟩
 rw [hR]
 by_cases q1:(s.toList == []) = true
 case neg =>
  have q1:(s.toList == []) = false:=by simpa using q1
  by_cases q2:(p != 0) = true
  case neg =>
   have q2:(p != 0) = false:=by simpa using q2
   have hF:=Lib.hid (show (false) = R by first | exact hR | (rw [← hR];simp [q1,q2]))
   clear hR
   clear h0
   go_enter Tryz.func158,Tryz.ntmps158
   go_wp2_with fail
   go_ret
   exact ⟨rb hF.out,alloc0_plus _⟩
  case pos =>
   cases s0
   case false =>
    have hF:=Lib.hid (show (false) = R by first | exact hR | (rw [← hR];simp [q1,q2]))
    clear hR
    have h0:=Lib.hid h0
    go_enter Tryz.func158,Tryz.ntmps158
    go_wp2_with fail
    have q0c:=Lib.hid h0.out.pure
    refine (calls_self h0.out).mono ?_
    rintro r w' ⟨rfl,x1,rfl⟩
    go_wp2_with fail
    go_ret
    exact ⟨rb hF.out,_,rfl⟩
   case true =>
    have hF:=Lib.hid (show (true) = R by first | exact hR | (rw [← hR];simp [q1,q2]))
    clear hR
    have h0:=Lib.hid h0
    go_enter Tryz.func158,Tryz.ntmps158
    go_wp2_with fail
    have q0c:=Lib.hid h0.out.pure
    refine (calls_self h0.out).mono ?_
    rintro r w' ⟨rfl,x1,rfl⟩
    go_wp2_with fail
    go_ret
    exact ⟨rb hF.out,_,rfl⟩
 case pos =>
  by_cases q3:(p != 1) = true
  case neg =>
   have q3:(p != 1) = false:=by simpa using q3
   have hF:=Lib.hid (show (false) = R by first | exact hR | (rw [← hR];simp [q1,q3]))
   clear hR
   clear h0
   go_enter Tryz.func158,Tryz.ntmps158
   go_wp2_with fail
   go_ret
   exact ⟨rb hF.out,alloc0_plus _⟩
  case pos =>
   have hF:=Lib.hid (show (true) = R by first | exact hR | (rw [← hR];simp [q1,q3]))
   clear hR
   clear h0
   go_enter Tryz.func158,Tryz.ntmps158
   go_wp2_with fail
   go_ret
   exact ⟨rb hF.out,alloc0_plus _⟩
set_option maxRecDepth 100000 in
set_option maxHeartbeats 8000000 in
theorem slicefits_of (a b:Int) (is:Bool) (w:World) :
  Kp Tryz.prog w 166 #[.int .i64 a,.int .i64 b,.bool is] (.bool (if is then (decide (0 ≤ b) && (decide (b ≤ a) && decide (a < 128))) else ((a == 0) && (b == 0)))):=by
 intro y0
 obtain ⟨V,hV⟩:∃ V,plus w y0 = V:=⟨_,rfl⟩
 rw [hV] at ⊢
 clear hV
 obtain ⟨R,hR⟩:∃ R,(if is then (decide (0 ≤ b) && (decide (b ≤ a) && decide (a < 128))) else ((a == 0) && (b == 0))) = R:=⟨_,rfl⟩
 rw [hR]
 by_cases q1:(is) = true
 case neg =>
  have q1:(is) = false:=by simpa using q1
  by_cases q2:(a == 0) = true
  case neg =>
   have q2:(a == 0) = false:=by simpa using q2
   have hF:=Lib.hid (show (false) = R by first | exact hR | (rw [← hR];simp [q1,q2]))
   clear hR
   go_enter Tryz.func166,Tryz.ntmps166
   go_wp2_with fail
   go_ret
   exact ⟨rb hF.out,alloc0_plus _⟩
  case pos =>
   by_cases q3:(b == 0) = true
   case neg =>
    have q3:(b == 0) = false:=by simpa using q3
    have hF:=Lib.hid (show (false) = R by first | exact hR | (rw [← hR];simp [q1,q2,q3]))
    clear hR
    go_enter Tryz.func166,Tryz.ntmps166
    go_wp2_with fail
    go_ret
    exact ⟨rb hF.out,alloc0_plus _⟩
   case pos =>
    have hF:=Lib.hid (show (true) = R by first | exact hR | (rw [← hR];simp [q1,q2,q3]))
    clear hR
    go_enter Tryz.func166,Tryz.ntmps166
    go_wp2_with fail
    go_ret
    exact ⟨rb hF.out,alloc0_plus _⟩
 case pos =>
  by_cases q4:0 ≤ b
  case neg =>
   have hF:=Lib.hid (show (false) = R by first | exact hR | (rw [← hR];simp [q1,q4]))
   clear hR
   go_enter Tryz.func166,Tryz.ntmps166
   go_wp2_with fail
   go_ret
   exact ⟨rb hF.out,alloc0_plus _⟩
  case pos =>
   by_cases q5:b ≤ a
   case neg =>
    have hF:=Lib.hid (show (false) = R by first | exact hR | (rw [← hR];simp [q1,q4,q5]))
    clear hR
    go_enter Tryz.func166,Tryz.ntmps166
    go_wp2_with fail
    go_ret
    exact ⟨rb hF.out,alloc0_plus _⟩
   case pos =>
    by_cases q6:a < 128
    case neg =>
     have hF:=Lib.hid (show (false) = R by first | exact hR | (rw [← hR];simp [q1,q4,q5,q6]))
     clear hR
     go_enter Tryz.func166,Tryz.ntmps166
     go_wp2_with fail
     go_ret
     exact ⟨rb hF.out,alloc0_plus _⟩
    case pos =>
     have hF:=Lib.hid (show (true) = R by first | exact hR | (rw [← hR];simp [q1,q4,q5,q6]))
     clear hR
     go_enter Tryz.func166,Tryz.ntmps166
     go_wp2_with fail
     go_ret
     exact ⟨rb hF.out,alloc0_plus _⟩
set_option maxRecDepth 100000 in
set_option maxHeartbeats 8000000 in
theorem target_of (s:ByteArray) (s0:Bool) (w:World)
  (h0:Kp Tryz.prog w 47 #[.string s] (.bool s0)) :
  Kp Tryz.prog w 133 #[.string s] (.bool ((s.toList == [97,99,99,101,112,116]) || ((s.toList == [114,101,106,101,99,116]) || s0))):=by
 intro y0
 have h0:=h0.up y0
 obtain ⟨V,hV⟩:∃ V,plus w y0 = V:=⟨_,rfl⟩
 rw [hV] at h0 ⊢
 clear hV
 obtain ⟨R,hR⟩:∃ R,((s.toList == [97,99,99,101,112,116]) || ((s.toList == [114,101,106,101,99,116]) || s0)) = R:=⟨_,rfl⟩
 rw [hR]
 by_cases q1:(s.toList == [97,99,99,101,112,116]) = true
 case neg =>
  have q1:(s.toList == [97,99,99,101,112,116]) = false:=by simpa using q1
  by_cases q2:(s.toList == [114,101,106,101,99,116]) = true
  case neg =>
   have q2:(s.toList == [114,101,106,101,99,116]) = false:=by simpa using q2
   cases s0
   case false =>
    have hF:=Lib.hid (show (false) = R by first | exact hR | (rw [← hR];simp [q1,q2]))
    clear hR
    have h0:=Lib.hid h0
    go_enter Tryz.func133,Tryz.ntmps133
    go_wp2_with fail
    have q0c:=Lib.hid h0.out.pure
    refine (calls_self h0.out).mono ?_
    rintro r w' ⟨rfl,x1,rfl⟩
    go_wp2_with fail
    go_ret
    exact ⟨rb hF.out,_,rfl⟩
   case true =>
    have hF:=Lib.hid (show (true) = R by first | exact hR | (rw [← hR];simp [q1,q2]))
    clear hR
    have h0:=Lib.hid h0
    go_enter Tryz.func133,Tryz.ntmps133
    go_wp2_with fail
    have q0c:=Lib.hid h0.out.pure
    refine (calls_self h0.out).mono ?_
    rintro r w' ⟨rfl,x1,rfl⟩
    go_wp2_with fail
    go_ret
    exact ⟨rb hF.out,_,rfl⟩
  case pos =>
   have hF:=Lib.hid (show (true) = R by first | exact hR | (rw [← hR];simp [q1,q2]))
   clear hR
   clear h0
   go_enter Tryz.func133,Tryz.ntmps133
   go_wp2_with fail
   go_ret
   exact ⟨rb hF.out,alloc0_plus _⟩
 case pos =>
  have hF:=Lib.hid (show (true) = R by first | exact hR | (rw [← hR];simp [q1]))
  clear hR
  clear h0
  go_enter Tryz.func133,Tryz.ntmps133
  go_wp2_with fail
  go_ret
  exact ⟨rb hF.out,alloc0_plus _⟩
theorem cellsat_at {V W:World} {z:Ext} {a:Addr} {cs:List Value} (hz:W = plus V z) (h:CellsAt V a cs):CellsAt W a cs:=by rw [hz];exact h.plus z
set_option maxRecDepth 100000 in
set_option maxHeartbeats 8000000 in
theorem amount_of (a0:Int) (a1:Int) (a2:Int) (a3:Int) (a4:ByteArray) (a5:ByteArray) (a6:Int) (a7:Int) (a8p:Option Addr) (a8n:Nat) (a8c:Nat) (k:Int) (w:World)
  (h0:Kp Tryz.prog w 174 #[.int .u64 127] (.agg #[.int .u64 0,.int .u64 127]))
  (h1:Kp Tryz.prog w 173 #[.agg #[.int .u64 a2,.int .u64 a3],.agg #[.int .u64 0,.int .u64 127]] (.int .i64 k)) :
  Kp Tryz.prog w 167 #[.agg #[.int .u8 a0,.int .i64 a1,.int .u64 a2,.int .u64 a3,.string a4,.string a5,.int .i64 a6,.int .i64 a7,.slice a8p a8n a8c]] (.bool ((a0 == 1) && ((a1 == 0) && decide (k ≤ 0)))):=by
 intro y0
 have h0:=h0.up y0
 have h1:=h1.up y0
 obtain ⟨V,hV⟩:∃ V,plus w y0 = V:=⟨_,rfl⟩
 rw [hV] at h0 h1 ⊢
 clear hV
 obtain ⟨R,hR⟩:∃ R,((a0 == 1) && ((a1 == 0) && decide (k ≤ 0))) = R:=⟨_,rfl⟩
 rw [hR]
 by_cases q1:(a0 == 1) = true
 case neg =>
  have q1:(a0 == 1) = false:=by simpa using q1
  have hF:=Lib.hid (show (false) = R by first | exact hR | (rw [← hR];simp [q1]))
  clear hR
  clear h0 h1
  go_enter Tryz.func167,Tryz.ntmps167
  go_wp2
  obtain ⟨W,yy,hW,⟨z,hz⟩,cb0⟩:=box1n V _ 68
  rw [hW]
  have c0_0:=cb0 0 _ rfl
  have c0_1:=cb0 1 _ rfl
  have c0_2:=cb0 2 _ rfl
  have c0_3:=cb0 3 _ rfl
  have c0_4:=cb0 4 _ rfl
  have c0_5:=cb0 5 _ rfl
  have c0_6:=cb0 6 _ rfl
  have c0_7:=cb0 7 _ rfl
  have c0_8:=cb0 8 _ rfl
  have hz':=Lib.hid hz
  clear hW hz cb0
  refine wp_region_own (by kernel_rfl) (by kernel_rfl) ?_
  repeat (go_big_quiet_step (fail))
  refine wpQuiet_nil ?_
  rintro _ ⟨y1,rfl⟩
  go_wp2
  go_ret
  exact ⟨rb hF.out,pp hz'.out⟩
 case pos =>
  by_cases q2:(a1 == 0) = true
  case neg =>
   have q2:(a1 == 0) = false:=by simpa using q2
   have hF:=Lib.hid (show (false) = R by first | exact hR | (rw [← hR];simp [q1,q2]))
   clear hR
   clear h0 h1
   go_enter Tryz.func167,Tryz.ntmps167
   go_wp2
   obtain ⟨W,yy,hW,⟨z,hz⟩,cb0⟩:=box1n V _ 68
   rw [hW]
   have c0_0:=cb0 0 _ rfl
   have c0_1:=cb0 1 _ rfl
   have c0_2:=cb0 2 _ rfl
   have c0_3:=cb0 3 _ rfl
   have c0_4:=cb0 4 _ rfl
   have c0_5:=cb0 5 _ rfl
   have c0_6:=cb0 6 _ rfl
   have c0_7:=cb0 7 _ rfl
   have c0_8:=cb0 8 _ rfl
   have hz':=Lib.hid hz
   clear hW hz cb0
   refine wp_region_own (by kernel_rfl) (by kernel_rfl) ?_
   repeat (go_big_quiet_step (fail))
   refine wpQuiet_nil ?_
   rintro _ ⟨y1,rfl⟩
   go_wp2
   go_ret
   exact ⟨rb hF.out,pp hz'.out⟩
  case pos =>
   have hF:=Lib.hid (show (decide (k ≤ 0)) = R by first | exact hR | (rw [← hR];simp [q1,q2]))
   clear hR
   have h0:=Lib.hid h0
   have h1:=Lib.hid h1
   go_enter Tryz.func167,Tryz.ntmps167
   go_wp2
   obtain ⟨W,yy,hW,⟨z,hz⟩,cb0⟩:=box1n V _ 68
   rw [hW]
   have c0_0:=cb0 0 _ rfl
   have c0_1:=cb0 1 _ rfl
   have c0_2:=cb0 2 _ rfl
   have c0_3:=cb0 3 _ rfl
   have c0_4:=cb0 4 _ rfl
   have c0_5:=cb0 5 _ rfl
   have c0_6:=cb0 6 _ rfl
   have c0_7:=cb0 7 _ rfl
   have c0_8:=cb0 8 _ rfl
   have q0c:=Lib.hid (kp_at hz h0.out)
   have q1c:=Lib.hid (kp_at hz h1.out)
   have hz':=Lib.hid hz
   clear hW hz cb0
   refine wp_region_own (by kernel_rfl) (by kernel_rfl) ?_
   repeat (go_big_quiet_step (first | (with_reducible exact q0c.out _) | (with_reducible exact q1c.out _)))
   refine wpQuiet_nil ?_
   rintro _ ⟨y1,rfl⟩
   go_wp2
   go_ret
   exact ⟨rb hF.out,pp hz'.out⟩
set_option maxRecDepth 100000 in
set_option maxHeartbeats 8000000 in
theorem fits_a (fl fs:Bool) (fh fn fa:Int) (a0:Int) (a1:Int) (a2:Int) (a3:Int) (a4:ByteArray) (a5:ByteArray) (a6:Int) (a7:Int) (a8p:Option Addr) (a8n:Nat) (a8c:Nat) (s0:Bool) (s1:Bool) (s2:Bool) (s3:Bool) (w:World)
  (h0:Kp Tryz.prog w 165 #[.agg #[.int .i64 a1,.int .u64 a2,.int .u64 a3],.bool fl] (.bool s0))
  (h1:Kp Tryz.prog w 158 #[.string a4,.int .u8 fh] (.bool s1))
  (h2:Kp Tryz.prog w 158 #[.string a5,.int .u8 fn] (.bool s2))
  (h3:Kp Tryz.prog w 166 #[.int .i64 a6,.int .i64 a7,.bool fs] (.bool s3)) :
  Kp Tryz.prog w 153 #[.agg #[.bool fl,.bool fs,.int .u8 fh,.int .u8 fn,.int .i64 fa,.bool false],.agg #[.int .u8 a0,.int .i64 a1,.int .u64 a2,.int .u64 a3,.string a4,.string a5,.int .i64 a6,.int .i64 a7,.slice a8p a8n a8c]] (.bool (((s0) && ((s1) && ((s2) && ((s3) && ((a8n:Int) == fa))))))):=by
 intro y0
 have h0:=h0.up y0
 have h1:=h1.up y0
 have h2:=h2.up y0
 have h3:=h3.up y0
 obtain ⟨V,hV⟩:∃ V,plus w y0 = V:=⟨_,rfl⟩
 rw [hV] at h0 h1 h2 h3 ⊢
 clear hV
 obtain ⟨R,hR⟩:∃ R,(((s0) && ((s1) && ((s2) && ((s3) && ((a8n:Int) == fa)))))) = R:=⟨_,rfl⟩
 rw [hR]
 cases s0
 case false =>
  have hF:=Lib.hid (show (false) = R by first | exact hR | (rw [← hR];simp))
  clear hR
  clear h1 h2 h3
  have h0:=Lib.hid h0
  go_enter Tryz.func153,Tryz.ntmps153
  go_wp2_with fail
  obtain ⟨W,yy,hW,⟨z,hz⟩,cb0,cb1⟩:=box2n V _ _ 167 68
  rw [hW]
  have c0_0:=cb0 0 _ rfl
  have c0_1:=cb0 1 _ rfl
  have c0_2:=cb0 2 _ rfl
  have c0_3:=cb0 3 _ rfl
  have c0_4:=cb0 4 _ rfl
  have c0_5:=cb0 5 _ rfl
  have c1_0:=cb1 0 _ rfl
  have c1_1:=cb1 1 _ rfl
  have c1_2:=cb1 2 _ rfl
  have c1_3:=cb1 3 _ rfl
  have c1_4:=cb1 4 _ rfl
  have c1_5:=cb1 5 _ rfl
  have c1_6:=cb1 6 _ rfl
  have c1_7:=cb1 7 _ rfl
  have c1_8:=cb1 8 _ rfl
  have q0c:=Lib.hid (kp_at hz h0.out)
  have hz':=Lib.hid hz
  clear hW hz cb0 cb1
  refine (q0c.out _).mono ?_
  rintro r w' ⟨rfl,x1,rfl⟩
  go_wp2_with fail
  go_ret
  exact ⟨rb hF.out,pp hz'.out⟩
 case true =>
  cases s1
  case false =>
   have hF:=Lib.hid (show (false) = R by first | exact hR | (rw [← hR];simp))
   clear hR
   clear h2 h3
   have h0:=Lib.hid h0
   have h1:=Lib.hid h1
   go_enter Tryz.func153,Tryz.ntmps153
   go_wp2_with fail
   obtain ⟨W,yy,hW,⟨z,hz⟩,cb0,cb1⟩:=box2n V _ _ 167 68
   rw [hW]
   have c0_0:=cb0 0 _ rfl
   have c0_1:=cb0 1 _ rfl
   have c0_2:=cb0 2 _ rfl
   have c0_3:=cb0 3 _ rfl
   have c0_4:=cb0 4 _ rfl
   have c0_5:=cb0 5 _ rfl
   have c1_0:=cb1 0 _ rfl
   have c1_1:=cb1 1 _ rfl
   have c1_2:=cb1 2 _ rfl
   have c1_3:=cb1 3 _ rfl
   have c1_4:=cb1 4 _ rfl
   have c1_5:=cb1 5 _ rfl
   have c1_6:=cb1 6 _ rfl
   have c1_7:=cb1 7 _ rfl
   have c1_8:=cb1 8 _ rfl
   have q0c:=Lib.hid (kp_at hz h0.out)
   have q1c:=Lib.hid (kp_at hz h1.out)
   have hz':=Lib.hid hz
   clear hW hz cb0 cb1
   refine (q0c.out _).mono ?_
   rintro r w' ⟨rfl,x1,rfl⟩
   go_wp2_with (first | (go_at_call 158;with_reducible refine (q1c.out _).mono ?_;rintro r w' ⟨rfl,x,rfl⟩))
   go_ret
   exact ⟨rb hF.out,pp hz'.out⟩
  case true =>
   cases s2
   case false =>
    have hF:=Lib.hid (show (false) = R by first | exact hR | (rw [← hR];simp))
    clear hR
    clear h3
    have h0:=Lib.hid h0
    have h1:=Lib.hid h1
    have h2:=Lib.hid h2
    go_enter Tryz.func153,Tryz.ntmps153
    go_wp2_with fail
    obtain ⟨W,yy,hW,⟨z,hz⟩,cb0,cb1⟩:=box2n V _ _ 167 68
    rw [hW]
    have c0_0:=cb0 0 _ rfl
    have c0_1:=cb0 1 _ rfl
    have c0_2:=cb0 2 _ rfl
    have c0_3:=cb0 3 _ rfl
    have c0_4:=cb0 4 _ rfl
    have c0_5:=cb0 5 _ rfl
    have c1_0:=cb1 0 _ rfl
    have c1_1:=cb1 1 _ rfl
    have c1_2:=cb1 2 _ rfl
    have c1_3:=cb1 3 _ rfl
    have c1_4:=cb1 4 _ rfl
    have c1_5:=cb1 5 _ rfl
    have c1_6:=cb1 6 _ rfl
    have c1_7:=cb1 7 _ rfl
    have c1_8:=cb1 8 _ rfl
    have q0c:=Lib.hid (kp_at hz h0.out)
    have q1c:=Lib.hid (kp_at hz h1.out)
    have q2c:=Lib.hid (kp_at hz h2.out)
    have hz':=Lib.hid hz
    clear hW hz cb0 cb1
    refine (q0c.out _).mono ?_
    rintro r w' ⟨rfl,x1,rfl⟩
    go_wp2_with (first | (go_at_call 158;with_reducible refine (q1c.out _).mono ?_;rintro r w' ⟨rfl,x,rfl⟩) | (go_at_call 158;with_reducible refine (q2c.out _).mono ?_;rintro r w' ⟨rfl,x,rfl⟩))
    go_ret
    exact ⟨rb hF.out,pp hz'.out⟩
   case true =>
    cases s3
    case false =>
     have hF:=Lib.hid (show (false) = R by first | exact hR | (rw [← hR];simp))
     clear hR
     have h0:=Lib.hid h0
     have h1:=Lib.hid h1
     have h2:=Lib.hid h2
     have h3:=Lib.hid h3
     go_enter Tryz.func153,Tryz.ntmps153
     go_wp2_with fail
     obtain ⟨W,yy,hW,⟨z,hz⟩,cb0,cb1⟩:=box2n V _ _ 167 68
     rw [hW]
     have c0_0:=cb0 0 _ rfl
     have c0_1:=cb0 1 _ rfl
     have c0_2:=cb0 2 _ rfl
     have c0_3:=cb0 3 _ rfl
     have c0_4:=cb0 4 _ rfl
     have c0_5:=cb0 5 _ rfl
     have c1_0:=cb1 0 _ rfl
     have c1_1:=cb1 1 _ rfl
     have c1_2:=cb1 2 _ rfl
     have c1_3:=cb1 3 _ rfl
     have c1_4:=cb1 4 _ rfl
     have c1_5:=cb1 5 _ rfl
     have c1_6:=cb1 6 _ rfl
     have c1_7:=cb1 7 _ rfl
     have c1_8:=cb1 8 _ rfl
     have q0c:=Lib.hid (kp_at hz h0.out)
     have q1c:=Lib.hid (kp_at hz h1.out)
     have q2c:=Lib.hid (kp_at hz h2.out)
     have q3c:=Lib.hid (kp_at hz h3.out)
     have hz':=Lib.hid hz
     clear hW hz cb0 cb1
     refine (q0c.out _).mono ?_
     rintro r w' ⟨rfl,x1,rfl⟩
     go_wp2_with (first | (go_at_call 158;with_reducible refine (q1c.out _).mono ?_;rintro r w' ⟨rfl,x,rfl⟩) | (go_at_call 158;with_reducible refine (q2c.out _).mono ?_;rintro r w' ⟨rfl,x,rfl⟩) | (go_at_call 166;with_reducible refine (q3c.out _).mono ?_;rintro r w' ⟨rfl,x,rfl⟩))
     go_ret
     exact ⟨rb hF.out,pp hz'.out⟩
    case true =>
     by_cases q1:((a8n:Int) == fa) = true
     case neg =>
      have q1:((a8n:Int) == fa) = false:=by simpa using q1
      have hF:=Lib.hid (show (false) = R by first | exact hR | (rw [← hR];simp [q1]))
      clear hR
      have h0:=Lib.hid h0
      have h1:=Lib.hid h1
      have h2:=Lib.hid h2
      have h3:=Lib.hid h3
      go_enter Tryz.func153,Tryz.ntmps153
      go_wp2_with fail
      obtain ⟨W,yy,hW,⟨z,hz⟩,cb0,cb1⟩:=box2n V _ _ 167 68
      rw [hW]
      have c0_0:=cb0 0 _ rfl
      have c0_1:=cb0 1 _ rfl
      have c0_2:=cb0 2 _ rfl
      have c0_3:=cb0 3 _ rfl
      have c0_4:=cb0 4 _ rfl
      have c0_5:=cb0 5 _ rfl
      have c1_0:=cb1 0 _ rfl
      have c1_1:=cb1 1 _ rfl
      have c1_2:=cb1 2 _ rfl
      have c1_3:=cb1 3 _ rfl
      have c1_4:=cb1 4 _ rfl
      have c1_5:=cb1 5 _ rfl
      have c1_6:=cb1 6 _ rfl
      have c1_7:=cb1 7 _ rfl
      have c1_8:=cb1 8 _ rfl
      have q0c:=Lib.hid (kp_at hz h0.out)
      have q1c:=Lib.hid (kp_at hz h1.out)
      have q2c:=Lib.hid (kp_at hz h2.out)
      have q3c:=Lib.hid (kp_at hz h3.out)
      have hz':=Lib.hid hz
      clear hW hz cb0 cb1
      refine (q0c.out _).mono ?_
      rintro r w' ⟨rfl,x1,rfl⟩
      go_wp2_with (first | (go_at_call 158;with_reducible refine (q1c.out _).mono ?_;rintro r w' ⟨rfl,x,rfl⟩) | (go_at_call 158;with_reducible refine (q2c.out _).mono ?_;rintro r w' ⟨rfl,x,rfl⟩) | (go_at_call 166;with_reducible refine (q3c.out _).mono ?_;rintro r w' ⟨rfl,x,rfl⟩))
      go_ret
      exact ⟨rb hF.out,pp hz'.out⟩
     case pos =>
      have hF:=Lib.hid (show (true) = R by first | exact hR | (rw [← hR];simp [q1]))
      clear hR
      have h0:=Lib.hid h0
      have h1:=Lib.hid h1
      have h2:=Lib.hid h2
      have h3:=Lib.hid h3
      go_enter Tryz.func153,Tryz.ntmps153
      go_wp2_with fail
      obtain ⟨W,yy,hW,⟨z,hz⟩,cb0,cb1⟩:=box2n V _ _ 167 68
      rw [hW]
      have c0_0:=cb0 0 _ rfl
      have c0_1:=cb0 1 _ rfl
      have c0_2:=cb0 2 _ rfl
      have c0_3:=cb0 3 _ rfl
      have c0_4:=cb0 4 _ rfl
      have c0_5:=cb0 5 _ rfl
      have c1_0:=cb1 0 _ rfl
      have c1_1:=cb1 1 _ rfl
      have c1_2:=cb1 2 _ rfl
      have c1_3:=cb1 3 _ rfl
      have c1_4:=cb1 4 _ rfl
      have c1_5:=cb1 5 _ rfl
      have c1_6:=cb1 6 _ rfl
      have c1_7:=cb1 7 _ rfl
      have c1_8:=cb1 8 _ rfl
      have q0c:=Lib.hid (kp_at hz h0.out)
      have q1c:=Lib.hid (kp_at hz h1.out)
      have q2c:=Lib.hid (kp_at hz h2.out)
      have q3c:=Lib.hid (kp_at hz h3.out)
      have hz':=Lib.hid hz
      clear hW hz cb0 cb1
      refine (q0c.out _).mono ?_
      rintro r w' ⟨rfl,x1,rfl⟩
      go_wp2_with (first | (go_at_call 158;with_reducible refine (q1c.out _).mono ?_;rintro r w' ⟨rfl,x,rfl⟩) | (go_at_call 158;with_reducible refine (q2c.out _).mono ?_;rintro r w' ⟨rfl,x,rfl⟩) | (go_at_call 166;with_reducible refine (q3c.out _).mono ?_;rintro r w' ⟨rfl,x,rfl⟩))
      go_ret
      exact ⟨rb hF.out,pp hz'.out⟩
set_option maxRecDepth 100000 in
set_option maxHeartbeats 8000000 in
theorem fits_b (fl fs:Bool) (fh fn:Int) (a0:Int) (a1:Int) (a2:Int) (a3:Int) (a4:ByteArray) (a5:ByteArray) (a6:Int) (a7:Int) (a8p:Option Addr) (a8n:Nat) (a8c:Nat) (s0:Bool) (s1:Bool) (s2:Bool) (s3:Bool) (w:World) (hn2:¬ a8n = 2)
  (h0:Kp Tryz.prog w 165 #[.agg #[.int .i64 a1,.int .u64 a2,.int .u64 a3],.bool fl] (.bool s0))
  (h1:Kp Tryz.prog w 158 #[.string a4,.int .u8 fh] (.bool s1))
  (h2:Kp Tryz.prog w 158 #[.string a5,.int .u8 fn] (.bool s2))
  (h3:Kp Tryz.prog w 166 #[.int .i64 a6,.int .i64 a7,.bool fs] (.bool s3)) :
  Kp Tryz.prog w 153 #[.agg #[.bool fl,.bool fs,.int .u8 fh,.int .u8 fn,.int .i64 2,.bool true],.agg #[.int .u8 a0,.int .i64 a1,.int .u64 a2,.int .u64 a3,.string a4,.string a5,.int .i64 a6,.int .i64 a7,.slice a8p a8n a8c]] (.bool (false)):=by
 intro y0
 have h0:=h0.up y0
 have h1:=h1.up y0
 have h2:=h2.up y0
 have h3:=h3.up y0
 obtain ⟨V,hV⟩:∃ V,plus w y0 = V:=⟨_,rfl⟩
 rw [hV] at h0 h1 h2 h3 ⊢
 clear hV
 have hn3:((a8n:Int) == 2) = false:=by first | (simp;done) | (simp;omega)
 obtain ⟨R,hR⟩:∃ R,(false) = R:=⟨_,rfl⟩
 rw [hR]
 cases s0
 case false =>
  have hF:=Lib.hid (show (false) = R by first | exact hR | (rw [← hR];simp))
  clear hR
  clear h1 h2 h3
  have h0:=Lib.hid h0
  go_enter Tryz.func153,Tryz.ntmps153
  go_wp2_with fail
  obtain ⟨W,yy,hW,⟨z,hz⟩,cb0,cb1⟩:=box2n V _ _ 167 68
  rw [hW]
  have c0_0:=cb0 0 _ rfl
  have c0_1:=cb0 1 _ rfl
  have c0_2:=cb0 2 _ rfl
  have c0_3:=cb0 3 _ rfl
  have c0_4:=cb0 4 _ rfl
  have c0_5:=cb0 5 _ rfl
  have c1_0:=cb1 0 _ rfl
  have c1_1:=cb1 1 _ rfl
  have c1_2:=cb1 2 _ rfl
  have c1_3:=cb1 3 _ rfl
  have c1_4:=cb1 4 _ rfl
  have c1_5:=cb1 5 _ rfl
  have c1_6:=cb1 6 _ rfl
  have c1_7:=cb1 7 _ rfl
  have c1_8:=cb1 8 _ rfl
  have q0c:=Lib.hid (kp_at hz h0.out)
  have hz':=Lib.hid hz
  clear hW hz cb0 cb1
  refine (q0c.out _).mono ?_
  rintro r w' ⟨rfl,x1,rfl⟩
  go_wp2_with fail
  go_ret
  exact ⟨rb hF.out,pp hz'.out⟩
 case true =>
  cases s1
  case false =>
   have hF:=Lib.hid (show (false) = R by first | exact hR | (rw [← hR];simp))
   clear hR
   clear h2 h3
   have h0:=Lib.hid h0
   have h1:=Lib.hid h1
   go_enter Tryz.func153,Tryz.ntmps153
   go_wp2_with fail
   obtain ⟨W,yy,hW,⟨z,hz⟩,cb0,cb1⟩:=box2n V _ _ 167 68
   rw [hW]
   have c0_0:=cb0 0 _ rfl
   have c0_1:=cb0 1 _ rfl
   have c0_2:=cb0 2 _ rfl
   have c0_3:=cb0 3 _ rfl
   have c0_4:=cb0 4 _ rfl
   have c0_5:=cb0 5 _ rfl
   have c1_0:=cb1 0 _ rfl
   have c1_1:=cb1 1 _ rfl
   have c1_2:=cb1 2 _ rfl
   have c1_3:=cb1 3 _ rfl
   have c1_4:=cb1 4 _ rfl
   have c1_5:=cb1 5 _ rfl
   have c1_6:=cb1 6 _ rfl
   have c1_7:=cb1 7 _ rfl
   have c1_8:=cb1 8 _ rfl
   have q0c:=Lib.hid (kp_at hz h0.out)
   have q1c:=Lib.hid (kp_at hz h1.out)
   have hz':=Lib.hid hz
   clear hW hz cb0 cb1
   refine (q0c.out _).mono ?_
   rintro r w' ⟨rfl,x1,rfl⟩
   go_wp2_with (first | (go_at_call 158;with_reducible refine (q1c.out _).mono ?_;rintro r w' ⟨rfl,x,rfl⟩))
   go_ret
   exact ⟨rb hF.out,pp hz'.out⟩
  case true =>
   cases s2
   case false =>
    have hF:=Lib.hid (show (false) = R by first | exact hR | (rw [← hR];simp))
    clear hR
    clear h3
    have h0:=Lib.hid h0
    have h1:=Lib.hid h1
    have h2:=Lib.hid h2
    go_enter Tryz.func153,Tryz.ntmps153
    go_wp2_with fail
    obtain ⟨W,yy,hW,⟨z,hz⟩,cb0,cb1⟩:=box2n V _ _ 167 68
    rw [hW]
    have c0_0:=cb0 0 _ rfl
    have c0_1:=cb0 1 _ rfl
    have c0_2:=cb0 2 _ rfl
    have c0_3:=cb0 3 _ rfl
    have c0_4:=cb0 4 _ rfl
    have c0_5:=cb0 5 _ rfl
    have c1_0:=cb1 0 _ rfl
    have c1_1:=cb1 1 _ rfl
    have c1_2:=cb1 2 _ rfl
    have c1_3:=cb1 3 _ rfl
    have c1_4:=cb1 4 _ rfl
    have c1_5:=cb1 5 _ rfl
    have c1_6:=cb1 6 _ rfl
    have c1_7:=cb1 7 _ rfl
    have c1_8:=cb1 8 _ rfl
    have q0c:=Lib.hid (kp_at hz h0.out)
    have q1c:=Lib.hid (kp_at hz h1.out)
    have q2c:=Lib.hid (kp_at hz h2.out)
    have hz':=Lib.hid hz
    clear hW hz cb0 cb1
    refine (q0c.out _).mono ?_
    rintro r w' ⟨rfl,x1,rfl⟩
    go_wp2_with (first | (go_at_call 158;with_reducible refine (q1c.out _).mono ?_;rintro r w' ⟨rfl,x,rfl⟩) | (go_at_call 158;with_reducible refine (q2c.out _).mono ?_;rintro r w' ⟨rfl,x,rfl⟩))
    go_ret
    exact ⟨rb hF.out,pp hz'.out⟩
   case true =>
    cases s3
    case false =>
     have hF:=Lib.hid (show (false) = R by first | exact hR | (rw [← hR];simp))
     clear hR
     have h0:=Lib.hid h0
     have h1:=Lib.hid h1
     have h2:=Lib.hid h2
     have h3:=Lib.hid h3
     go_enter Tryz.func153,Tryz.ntmps153
     go_wp2_with fail
     obtain ⟨W,yy,hW,⟨z,hz⟩,cb0,cb1⟩:=box2n V _ _ 167 68
     rw [hW]
     have c0_0:=cb0 0 _ rfl
     have c0_1:=cb0 1 _ rfl
     have c0_2:=cb0 2 _ rfl
     have c0_3:=cb0 3 _ rfl
     have c0_4:=cb0 4 _ rfl
     have c0_5:=cb0 5 _ rfl
     have c1_0:=cb1 0 _ rfl
     have c1_1:=cb1 1 _ rfl
     have c1_2:=cb1 2 _ rfl
     have c1_3:=cb1 3 _ rfl
     have c1_4:=cb1 4 _ rfl
     have c1_5:=cb1 5 _ rfl
     have c1_6:=cb1 6 _ rfl
     have c1_7:=cb1 7 _ rfl
     have c1_8:=cb1 8 _ rfl
     have q0c:=Lib.hid (kp_at hz h0.out)
     have q1c:=Lib.hid (kp_at hz h1.out)
     have q2c:=Lib.hid (kp_at hz h2.out)
     have q3c:=Lib.hid (kp_at hz h3.out)
     have hz':=Lib.hid hz
     clear hW hz cb0 cb1
     refine (q0c.out _).mono ?_
     rintro r w' ⟨rfl,x1,rfl⟩
     go_wp2_with (first | (go_at_call 158;with_reducible refine (q1c.out _).mono ?_;rintro r w' ⟨rfl,x,rfl⟩) | (go_at_call 158;with_reducible refine (q2c.out _).mono ?_;rintro r w' ⟨rfl,x,rfl⟩) | (go_at_call 166;with_reducible refine (q3c.out _).mono ?_;rintro r w' ⟨rfl,x,rfl⟩))
     go_ret
     exact ⟨rb hF.out,pp hz'.out⟩
    case true =>
     by_cases q1:((a8n:Int) == 2) = true
     case neg =>
      have q1:((a8n:Int) == 2) = false:=by simpa using q1
      have hF:=Lib.hid (show (false) = R by first | exact hR | (rw [← hR];simp [q1]))
      clear hR
      have h0:=Lib.hid h0
      have h1:=Lib.hid h1
      have h2:=Lib.hid h2
      have h3:=Lib.hid h3
      go_enter Tryz.func153,Tryz.ntmps153
      go_wp2_with fail
      obtain ⟨W,yy,hW,⟨z,hz⟩,cb0,cb1⟩:=box2n V _ _ 167 68
      rw [hW]
      have c0_0:=cb0 0 _ rfl
      have c0_1:=cb0 1 _ rfl
      have c0_2:=cb0 2 _ rfl
      have c0_3:=cb0 3 _ rfl
      have c0_4:=cb0 4 _ rfl
      have c0_5:=cb0 5 _ rfl
      have c1_0:=cb1 0 _ rfl
      have c1_1:=cb1 1 _ rfl
      have c1_2:=cb1 2 _ rfl
      have c1_3:=cb1 3 _ rfl
      have c1_4:=cb1 4 _ rfl
      have c1_5:=cb1 5 _ rfl
      have c1_6:=cb1 6 _ rfl
      have c1_7:=cb1 7 _ rfl
      have c1_8:=cb1 8 _ rfl
      have q0c:=Lib.hid (kp_at hz h0.out)
      have q1c:=Lib.hid (kp_at hz h1.out)
      have q2c:=Lib.hid (kp_at hz h2.out)
      have q3c:=Lib.hid (kp_at hz h3.out)
      have hz':=Lib.hid hz
      clear hW hz cb0 cb1
      refine (q0c.out _).mono ?_
      rintro r w' ⟨rfl,x1,rfl⟩
      go_wp2_with (first | (go_at_call 158;with_reducible refine (q1c.out _).mono ?_;rintro r w' ⟨rfl,x,rfl⟩) | (go_at_call 158;with_reducible refine (q2c.out _).mono ?_;rintro r w' ⟨rfl,x,rfl⟩) | (go_at_call 166;with_reducible refine (q3c.out _).mono ?_;rintro r w' ⟨rfl,x,rfl⟩))
      go_ret
      exact ⟨rb hF.out,pp hz'.out⟩
     case pos =>
      have hF:=Lib.hid (show (false) = R by first | exact hR | (rw [← hR];simp [q1]))
      clear hR
      have h0:=Lib.hid h0
      have h1:=Lib.hid h1
      have h2:=Lib.hid h2
      have h3:=Lib.hid h3
      go_enter Tryz.func153,Tryz.ntmps153
      go_wp2_with fail
      obtain ⟨W,yy,hW,⟨z,hz⟩,cb0,cb1⟩:=box2n V _ _ 167 68
      rw [hW]
      have c0_0:=cb0 0 _ rfl
      have c0_1:=cb0 1 _ rfl
      have c0_2:=cb0 2 _ rfl
      have c0_3:=cb0 3 _ rfl
      have c0_4:=cb0 4 _ rfl
      have c0_5:=cb0 5 _ rfl
      have c1_0:=cb1 0 _ rfl
      have c1_1:=cb1 1 _ rfl
      have c1_2:=cb1 2 _ rfl
      have c1_3:=cb1 3 _ rfl
      have c1_4:=cb1 4 _ rfl
      have c1_5:=cb1 5 _ rfl
      have c1_6:=cb1 6 _ rfl
      have c1_7:=cb1 7 _ rfl
      have c1_8:=cb1 8 _ rfl
      have q0c:=Lib.hid (kp_at hz h0.out)
      have q1c:=Lib.hid (kp_at hz h1.out)
      have q2c:=Lib.hid (kp_at hz h2.out)
      have q3c:=Lib.hid (kp_at hz h3.out)
      have hz':=Lib.hid hz
      clear hW hz cb0 cb1
      refine (q0c.out _).mono ?_
      rintro r w' ⟨rfl,x1,rfl⟩
      go_wp2_with (first | (go_at_call 158;with_reducible refine (q1c.out _).mono ?_;rintro r w' ⟨rfl,x,rfl⟩) | (go_at_call 158;with_reducible refine (q2c.out _).mono ?_;rintro r w' ⟨rfl,x,rfl⟩) | (go_at_call 166;with_reducible refine (q3c.out _).mono ?_;rintro r w' ⟨rfl,x,rfl⟩))
      go_ret
      exact ⟨rb hF.out,pp hz'.out⟩
set_option maxRecDepth 100000 in
set_option maxHeartbeats 8000000 in
theorem fits_c (fl fs:Bool) (fh fn:Int) (a0:Int) (a1:Int) (a2:Int) (a3:Int) (a4:ByteArray) (a5:ByteArray) (a6:Int) (a7:Int) (pa:Addr) (a8c:Nat) (b0:Int) (b1:Int) (b2:Int) (b3:Int) (b4:ByteArray) (b5:ByteArray) (b6:Int) (b7:Int) (b8p:Option Addr) (b8n:Nat) (b8c:Nat) (s0:Bool) (s1:Bool) (s2:Bool) (s3:Bool) (s4:Bool) (w:World) (hx:CellsAt w (pa.add 9) [.int .u8 b0,.int .i64 b1,.int .u64 b2,.int .u64 b3,.string b4,.string b5,.int .i64 b6,.int .i64 b7,.slice b8p b8n b8c])
  (h0:Kp Tryz.prog w 165 #[.agg #[.int .i64 a1,.int .u64 a2,.int .u64 a3],.bool fl] (.bool s0))
  (h1:Kp Tryz.prog w 158 #[.string a4,.int .u8 fh] (.bool s1))
  (h2:Kp Tryz.prog w 158 #[.string a5,.int .u8 fn] (.bool s2))
  (h3:Kp Tryz.prog w 166 #[.int .i64 a6,.int .i64 a7,.bool fs] (.bool s3))
  (h4:Kp Tryz.prog w 167 #[.agg #[.int .u8 b0,.int .i64 b1,.int .u64 b2,.int .u64 b3,.string b4,.string b5,.int .i64 b6,.int .i64 b7,.slice b8p b8n b8c]] (.bool s4)) :
  Kp Tryz.prog w 153 #[.agg #[.bool fl,.bool fs,.int .u8 fh,.int .u8 fn,.int .i64 2,.bool true],.agg #[.int .u8 a0,.int .i64 a1,.int .u64 a2,.int .u64 a3,.string a4,.string a5,.int .i64 a6,.int .i64 a7,.slice (some pa) 2 a8c]] (.bool (((s0) && ((s1) && ((s2) && ((s3) && (s4))))))):=by
 intro y0
 have h0:=h0.up y0
 have h1:=h1.up y0
 have h2:=h2.up y0
 have h3:=h3.up y0
 have h4:=h4.up y0
 have hx:=hx.plus y0
 obtain ⟨V,hV⟩:∃ V,plus w y0 = V:=⟨_,rfl⟩
 rw [hV] at h0 h1 h2 h3 h4 hx ⊢
 clear hV
 obtain ⟨R,hR⟩:∃ R,(((s0) && ((s1) && ((s2) && ((s3) && (s4)))))) = R:=⟨_,rfl⟩
 rw [hR]
 cases s0
 case false =>
  have hF:=Lib.hid (show (false) = R by first | exact hR | (rw [← hR];simp))
  clear hR
  clear h1 h2 h3 h4
  have h0:=Lib.hid h0
  go_enter Tryz.func153,Tryz.ntmps153
  go_wp2_with fail
  obtain ⟨W,yy,hW,⟨z,hz⟩,cb0,cb1⟩:=box2n V _ _ 167 68
  rw [hW]
  have c0_0:=cb0 0 _ rfl
  have c0_1:=cb0 1 _ rfl
  have c0_2:=cb0 2 _ rfl
  have c0_3:=cb0 3 _ rfl
  have c0_4:=cb0 4 _ rfl
  have c0_5:=cb0 5 _ rfl
  have c1_0:=cb1 0 _ rfl
  have c1_1:=cb1 1 _ rfl
  have c1_2:=cb1 2 _ rfl
  have c1_3:=cb1 3 _ rfl
  have c1_4:=cb1 4 _ rfl
  have c1_5:=cb1 5 _ rfl
  have c1_6:=cb1 6 _ rfl
  have c1_7:=cb1 7 _ rfl
  have c1_8:=cb1 8 _ rfl
  have q0c:=Lib.hid (kp_at hz h0.out)
  have d0:∀ y,(plus W y).cell? ⟨pa.block,pa.off + 9,none⟩ = some (.int .u8 b0):=fun y=>((cellsat_at hz hx).plus y).c0 _ rfl
  have d1:∀ y,(plus W y).cell? ⟨pa.block,pa.off + 9 + 1,none⟩ = some (.int .i64 b1):=fun y=>((cellsat_at hz hx).plus y).cs 0 _ rfl
  have d2:∀ y,(plus W y).cell? ⟨pa.block,pa.off + 9 + 2,none⟩ = some (.int .u64 b2):=fun y=>((cellsat_at hz hx).plus y).cs 1 _ rfl
  have d3:∀ y,(plus W y).cell? ⟨pa.block,pa.off + 9 + 3,none⟩ = some (.int .u64 b3):=fun y=>((cellsat_at hz hx).plus y).cs 2 _ rfl
  have d4:∀ y,(plus W y).cell? ⟨pa.block,pa.off + 9 + 4,none⟩ = some (.string b4):=fun y=>((cellsat_at hz hx).plus y).cs 3 _ rfl
  have d5:∀ y,(plus W y).cell? ⟨pa.block,pa.off + 9 + 5,none⟩ = some (.string b5):=fun y=>((cellsat_at hz hx).plus y).cs 4 _ rfl
  have d6:∀ y,(plus W y).cell? ⟨pa.block,pa.off + 9 + 6,none⟩ = some (.int .i64 b6):=fun y=>((cellsat_at hz hx).plus y).cs 5 _ rfl
  have d7:∀ y,(plus W y).cell? ⟨pa.block,pa.off + 9 + 7,none⟩ = some (.int .i64 b7):=fun y=>((cellsat_at hz hx).plus y).cs 6 _ rfl
  have d8:∀ y,(plus W y).cell? ⟨pa.block,pa.off + 9 + 8,none⟩ = some (.slice b8p b8n b8c):=fun y=>((cellsat_at hz hx).plus y).cs 7 _ rfl
  have hz':=Lib.hid hz
  clear hW hz cb0 cb1
  refine (q0c.out _).mono ?_
  rintro r w' ⟨rfl,x1,rfl⟩
  go_wp2_with fail
  go_ret
  exact ⟨rb hF.out,pp hz'.out⟩
 case true =>
  cases s1
  case false =>
   have hF:=Lib.hid (show (false) = R by first | exact hR | (rw [← hR];simp))
   clear hR
   clear h2 h3 h4
   have h0:=Lib.hid h0
   have h1:=Lib.hid h1
   go_enter Tryz.func153,Tryz.ntmps153
   go_wp2_with fail
   obtain ⟨W,yy,hW,⟨z,hz⟩,cb0,cb1⟩:=box2n V _ _ 167 68
   rw [hW]
   have c0_0:=cb0 0 _ rfl
   have c0_1:=cb0 1 _ rfl
   have c0_2:=cb0 2 _ rfl
   have c0_3:=cb0 3 _ rfl
   have c0_4:=cb0 4 _ rfl
   have c0_5:=cb0 5 _ rfl
   have c1_0:=cb1 0 _ rfl
   have c1_1:=cb1 1 _ rfl
   have c1_2:=cb1 2 _ rfl
   have c1_3:=cb1 3 _ rfl
   have c1_4:=cb1 4 _ rfl
   have c1_5:=cb1 5 _ rfl
   have c1_6:=cb1 6 _ rfl
   have c1_7:=cb1 7 _ rfl
   have c1_8:=cb1 8 _ rfl
   have q0c:=Lib.hid (kp_at hz h0.out)
   have q1c:=Lib.hid (kp_at hz h1.out)
   have d0:∀ y,(plus W y).cell? ⟨pa.block,pa.off + 9,none⟩ = some (.int .u8 b0):=fun y=>((cellsat_at hz hx).plus y).c0 _ rfl
   have d1:∀ y,(plus W y).cell? ⟨pa.block,pa.off + 9 + 1,none⟩ = some (.int .i64 b1):=fun y=>((cellsat_at hz hx).plus y).cs 0 _ rfl
   have d2:∀ y,(plus W y).cell? ⟨pa.block,pa.off + 9 + 2,none⟩ = some (.int .u64 b2):=fun y=>((cellsat_at hz hx).plus y).cs 1 _ rfl
   have d3:∀ y,(plus W y).cell? ⟨pa.block,pa.off + 9 + 3,none⟩ = some (.int .u64 b3):=fun y=>((cellsat_at hz hx).plus y).cs 2 _ rfl
   have d4:∀ y,(plus W y).cell? ⟨pa.block,pa.off + 9 + 4,none⟩ = some (.string b4):=fun y=>((cellsat_at hz hx).plus y).cs 3 _ rfl
   have d5:∀ y,(plus W y).cell? ⟨pa.block,pa.off + 9 + 5,none⟩ = some (.string b5):=fun y=>((cellsat_at hz hx).plus y).cs 4 _ rfl
   have d6:∀ y,(plus W y).cell? ⟨pa.block,pa.off + 9 + 6,none⟩ = some (.int .i64 b6):=fun y=>((cellsat_at hz hx).plus y).cs 5 _ rfl
   have d7:∀ y,(plus W y).cell? ⟨pa.block,pa.off + 9 + 7,none⟩ = some (.int .i64 b7):=fun y=>((cellsat_at hz hx).plus y).cs 6 _ rfl
   have d8:∀ y,(plus W y).cell? ⟨pa.block,pa.off + 9 + 8,none⟩ = some (.slice b8p b8n b8c):=fun y=>((cellsat_at hz hx).plus y).cs 7 _ rfl
   have hz':=Lib.hid hz
   clear hW hz cb0 cb1
   refine (q0c.out _).mono ?_
   rintro r w' ⟨rfl,x1,rfl⟩
   go_wp2_with (first | (go_at_call 158;with_reducible refine (q1c.out _).mono ?_;rintro r w' ⟨rfl,x,rfl⟩))
   go_ret
   exact ⟨rb hF.out,pp hz'.out⟩
  case true =>
   cases s2
   case false =>
    have hF:=Lib.hid (show (false) = R by first | exact hR | (rw [← hR];simp))
    clear hR
    clear h3 h4
    have h0:=Lib.hid h0
    have h1:=Lib.hid h1
    have h2:=Lib.hid h2
    go_enter Tryz.func153,Tryz.ntmps153
    go_wp2_with fail
    obtain ⟨W,yy,hW,⟨z,hz⟩,cb0,cb1⟩:=box2n V _ _ 167 68
    rw [hW]
    have c0_0:=cb0 0 _ rfl
    have c0_1:=cb0 1 _ rfl
    have c0_2:=cb0 2 _ rfl
    have c0_3:=cb0 3 _ rfl
    have c0_4:=cb0 4 _ rfl
    have c0_5:=cb0 5 _ rfl
    have c1_0:=cb1 0 _ rfl
    have c1_1:=cb1 1 _ rfl
    have c1_2:=cb1 2 _ rfl
    have c1_3:=cb1 3 _ rfl
    have c1_4:=cb1 4 _ rfl
    have c1_5:=cb1 5 _ rfl
    have c1_6:=cb1 6 _ rfl
    have c1_7:=cb1 7 _ rfl
    have c1_8:=cb1 8 _ rfl
    have q0c:=Lib.hid (kp_at hz h0.out)
    have q1c:=Lib.hid (kp_at hz h1.out)
    have q2c:=Lib.hid (kp_at hz h2.out)
    have d0:∀ y,(plus W y).cell? ⟨pa.block,pa.off + 9,none⟩ = some (.int .u8 b0):=fun y=>((cellsat_at hz hx).plus y).c0 _ rfl
    have d1:∀ y,(plus W y).cell? ⟨pa.block,pa.off + 9 + 1,none⟩ = some (.int .i64 b1):=fun y=>((cellsat_at hz hx).plus y).cs 0 _ rfl
    have d2:∀ y,(plus W y).cell? ⟨pa.block,pa.off + 9 + 2,none⟩ = some (.int .u64 b2):=fun y=>((cellsat_at hz hx).plus y).cs 1 _ rfl
    have d3:∀ y,(plus W y).cell? ⟨pa.block,pa.off + 9 + 3,none⟩ = some (.int .u64 b3):=fun y=>((cellsat_at hz hx).plus y).cs 2 _ rfl
    have d4:∀ y,(plus W y).cell? ⟨pa.block,pa.off + 9 + 4,none⟩ = some (.string b4):=fun y=>((cellsat_at hz hx).plus y).cs 3 _ rfl
    have d5:∀ y,(plus W y).cell? ⟨pa.block,pa.off + 9 + 5,none⟩ = some (.string b5):=fun y=>((cellsat_at hz hx).plus y).cs 4 _ rfl
    have d6:∀ y,(plus W y).cell? ⟨pa.block,pa.off + 9 + 6,none⟩ = some (.int .i64 b6):=fun y=>((cellsat_at hz hx).plus y).cs 5 _ rfl
    have d7:∀ y,(plus W y).cell? ⟨pa.block,pa.off + 9 + 7,none⟩ = some (.int .i64 b7):=fun y=>((cellsat_at hz hx).plus y).cs 6 _ rfl
    have d8:∀ y,(plus W y).cell? ⟨pa.block,pa.off + 9 + 8,none⟩ = some (.slice b8p b8n b8c):=fun y=>((cellsat_at hz hx).plus y).cs 7 _ rfl
    have hz':=Lib.hid hz
    clear hW hz cb0 cb1
    refine (q0c.out _).mono ?_
    rintro r w' ⟨rfl,x1,rfl⟩
    go_wp2_with (first | (go_at_call 158;with_reducible refine (q1c.out _).mono ?_;rintro r w' ⟨rfl,x,rfl⟩) | (go_at_call 158;with_reducible refine (q2c.out _).mono ?_;rintro r w' ⟨rfl,x,rfl⟩))
    go_ret
    exact ⟨rb hF.out,pp hz'.out⟩
   case true =>
    cases s3
    case false =>
     have hF:=Lib.hid (show (false) = R by first | exact hR | (rw [← hR];simp))
     clear hR
     clear h4
     have h0:=Lib.hid h0
     have h1:=Lib.hid h1
     have h2:=Lib.hid h2
     have h3:=Lib.hid h3
     go_enter Tryz.func153,Tryz.ntmps153
     go_wp2_with fail
     obtain ⟨W,yy,hW,⟨z,hz⟩,cb0,cb1⟩:=box2n V _ _ 167 68
     rw [hW]
     have c0_0:=cb0 0 _ rfl
     have c0_1:=cb0 1 _ rfl
     have c0_2:=cb0 2 _ rfl
     have c0_3:=cb0 3 _ rfl
     have c0_4:=cb0 4 _ rfl
     have c0_5:=cb0 5 _ rfl
     have c1_0:=cb1 0 _ rfl
     have c1_1:=cb1 1 _ rfl
     have c1_2:=cb1 2 _ rfl
     have c1_3:=cb1 3 _ rfl
     have c1_4:=cb1 4 _ rfl
     have c1_5:=cb1 5 _ rfl
     have c1_6:=cb1 6 _ rfl
     have c1_7:=cb1 7 _ rfl
     have c1_8:=cb1 8 _ rfl
     have q0c:=Lib.hid (kp_at hz h0.out)
     have q1c:=Lib.hid (kp_at hz h1.out)
     have q2c:=Lib.hid (kp_at hz h2.out)
     have q3c:=Lib.hid (kp_at hz h3.out)
     have d0:∀ y,(plus W y).cell? ⟨pa.block,pa.off + 9,none⟩ = some (.int .u8 b0):=fun y=>((cellsat_at hz hx).plus y).c0 _ rfl
     have d1:∀ y,(plus W y).cell? ⟨pa.block,pa.off + 9 + 1,none⟩ = some (.int .i64 b1):=fun y=>((cellsat_at hz hx).plus y).cs 0 _ rfl
     have d2:∀ y,(plus W y).cell? ⟨pa.block,pa.off + 9 + 2,none⟩ = some (.int .u64 b2):=fun y=>((cellsat_at hz hx).plus y).cs 1 _ rfl
     have d3:∀ y,(plus W y).cell? ⟨pa.block,pa.off + 9 + 3,none⟩ = some (.int .u64 b3):=fun y=>((cellsat_at hz hx).plus y).cs 2 _ rfl
     have d4:∀ y,(plus W y).cell? ⟨pa.block,pa.off + 9 + 4,none⟩ = some (.string b4):=fun y=>((cellsat_at hz hx).plus y).cs 3 _ rfl
     have d5:∀ y,(plus W y).cell? ⟨pa.block,pa.off + 9 + 5,none⟩ = some (.string b5):=fun y=>((cellsat_at hz hx).plus y).cs 4 _ rfl
     have d6:∀ y,(plus W y).cell? ⟨pa.block,pa.off + 9 + 6,none⟩ = some (.int .i64 b6):=fun y=>((cellsat_at hz hx).plus y).cs 5 _ rfl
     have d7:∀ y,(plus W y).cell? ⟨pa.block,pa.off + 9 + 7,none⟩ = some (.int .i64 b7):=fun y=>((cellsat_at hz hx).plus y).cs 6 _ rfl
     have d8:∀ y,(plus W y).cell? ⟨pa.block,pa.off + 9 + 8,none⟩ = some (.slice b8p b8n b8c):=fun y=>((cellsat_at hz hx).plus y).cs 7 _ rfl
     have hz':=Lib.hid hz
     clear hW hz cb0 cb1
     refine (q0c.out _).mono ?_
     rintro r w' ⟨rfl,x1,rfl⟩
     go_wp2_with (first | (go_at_call 158;with_reducible refine (q1c.out _).mono ?_;rintro r w' ⟨rfl,x,rfl⟩) | (go_at_call 158;with_reducible refine (q2c.out _).mono ?_;rintro r w' ⟨rfl,x,rfl⟩) | (go_at_call 166;with_reducible refine (q3c.out _).mono ?_;rintro r w' ⟨rfl,x,rfl⟩))
     go_ret
     exact ⟨rb hF.out,pp hz'.out⟩
    case true =>
     cases s4
     case false =>
      have hF:=Lib.hid (show (false) = R by first | exact hR | (rw [← hR];simp))
      clear hR
      have h0:=Lib.hid h0
      have h1:=Lib.hid h1
      have h2:=Lib.hid h2
      have h3:=Lib.hid h3
      have h4:=Lib.hid h4
      go_enter Tryz.func153,Tryz.ntmps153
      go_wp2_with fail
      obtain ⟨W,yy,hW,⟨z,hz⟩,cb0,cb1⟩:=box2n V _ _ 167 68
      rw [hW]
      have c0_0:=cb0 0 _ rfl
      have c0_1:=cb0 1 _ rfl
      have c0_2:=cb0 2 _ rfl
      have c0_3:=cb0 3 _ rfl
      have c0_4:=cb0 4 _ rfl
      have c0_5:=cb0 5 _ rfl
      have c1_0:=cb1 0 _ rfl
      have c1_1:=cb1 1 _ rfl
      have c1_2:=cb1 2 _ rfl
      have c1_3:=cb1 3 _ rfl
      have c1_4:=cb1 4 _ rfl
      have c1_5:=cb1 5 _ rfl
      have c1_6:=cb1 6 _ rfl
      have c1_7:=cb1 7 _ rfl
      have c1_8:=cb1 8 _ rfl
      have q0c:=Lib.hid (kp_at hz h0.out)
      have q1c:=Lib.hid (kp_at hz h1.out)
      have q2c:=Lib.hid (kp_at hz h2.out)
      have q3c:=Lib.hid (kp_at hz h3.out)
      have q4c:=Lib.hid (kp_at hz h4.out)
      have d0:∀ y,(plus W y).cell? ⟨pa.block,pa.off + 9,none⟩ = some (.int .u8 b0):=fun y=>((cellsat_at hz hx).plus y).c0 _ rfl
      have d1:∀ y,(plus W y).cell? ⟨pa.block,pa.off + 9 + 1,none⟩ = some (.int .i64 b1):=fun y=>((cellsat_at hz hx).plus y).cs 0 _ rfl
      have d2:∀ y,(plus W y).cell? ⟨pa.block,pa.off + 9 + 2,none⟩ = some (.int .u64 b2):=fun y=>((cellsat_at hz hx).plus y).cs 1 _ rfl
      have d3:∀ y,(plus W y).cell? ⟨pa.block,pa.off + 9 + 3,none⟩ = some (.int .u64 b3):=fun y=>((cellsat_at hz hx).plus y).cs 2 _ rfl
      have d4:∀ y,(plus W y).cell? ⟨pa.block,pa.off + 9 + 4,none⟩ = some (.string b4):=fun y=>((cellsat_at hz hx).plus y).cs 3 _ rfl
      have d5:∀ y,(plus W y).cell? ⟨pa.block,pa.off + 9 + 5,none⟩ = some (.string b5):=fun y=>((cellsat_at hz hx).plus y).cs 4 _ rfl
      have d6:∀ y,(plus W y).cell? ⟨pa.block,pa.off + 9 + 6,none⟩ = some (.int .i64 b6):=fun y=>((cellsat_at hz hx).plus y).cs 5 _ rfl
      have d7:∀ y,(plus W y).cell? ⟨pa.block,pa.off + 9 + 7,none⟩ = some (.int .i64 b7):=fun y=>((cellsat_at hz hx).plus y).cs 6 _ rfl
      have d8:∀ y,(plus W y).cell? ⟨pa.block,pa.off + 9 + 8,none⟩ = some (.slice b8p b8n b8c):=fun y=>((cellsat_at hz hx).plus y).cs 7 _ rfl
      have hz':=Lib.hid hz
      clear hW hz cb0 cb1
      refine (q0c.out _).mono ?_
      rintro r w' ⟨rfl,x1,rfl⟩
      go_wp2_with (first | (go_at_call 158;with_reducible refine (q1c.out _).mono ?_;rintro r w' ⟨rfl,x,rfl⟩) | (go_at_call 158;with_reducible refine (q2c.out _).mono ?_;rintro r w' ⟨rfl,x,rfl⟩) | (go_at_call 166;with_reducible refine (q3c.out _).mono ?_;rintro r w' ⟨rfl,x,rfl⟩) | (go_at_call 167;with_reducible refine (q4c.out _).mono ?_;rintro r w' ⟨rfl,x,rfl⟩))
      go_ret
      exact ⟨rb hF.out,pp hz'.out⟩
     case true =>
      have hF:=Lib.hid (show (true) = R by first | exact hR | (rw [← hR];simp))
      clear hR
      have h0:=Lib.hid h0
      have h1:=Lib.hid h1
      have h2:=Lib.hid h2
      have h3:=Lib.hid h3
      have h4:=Lib.hid h4
      go_enter Tryz.func153,Tryz.ntmps153
      go_wp2_with fail
      obtain ⟨W,yy,hW,⟨z,hz⟩,cb0,cb1⟩:=box2n V _ _ 167 68
      rw [hW]
      have c0_0:=cb0 0 _ rfl
      have c0_1:=cb0 1 _ rfl
      have c0_2:=cb0 2 _ rfl
      have c0_3:=cb0 3 _ rfl
      have c0_4:=cb0 4 _ rfl
      have c0_5:=cb0 5 _ rfl
      have c1_0:=cb1 0 _ rfl
      have c1_1:=cb1 1 _ rfl
      have c1_2:=cb1 2 _ rfl
      have c1_3:=cb1 3 _ rfl
      have c1_4:=cb1 4 _ rfl
      have c1_5:=cb1 5 _ rfl
      have c1_6:=cb1 6 _ rfl
      have c1_7:=cb1 7 _ rfl
      have c1_8:=cb1 8 _ rfl
      have q0c:=Lib.hid (kp_at hz h0.out)
      have q1c:=Lib.hid (kp_at hz h1.out)
      have q2c:=Lib.hid (kp_at hz h2.out)
      have q3c:=Lib.hid (kp_at hz h3.out)
      have q4c:=Lib.hid (kp_at hz h4.out)
      have d0:∀ y,(plus W y).cell? ⟨pa.block,pa.off + 9,none⟩ = some (.int .u8 b0):=fun y=>((cellsat_at hz hx).plus y).c0 _ rfl
      have d1:∀ y,(plus W y).cell? ⟨pa.block,pa.off + 9 + 1,none⟩ = some (.int .i64 b1):=fun y=>((cellsat_at hz hx).plus y).cs 0 _ rfl
      have d2:∀ y,(plus W y).cell? ⟨pa.block,pa.off + 9 + 2,none⟩ = some (.int .u64 b2):=fun y=>((cellsat_at hz hx).plus y).cs 1 _ rfl
      have d3:∀ y,(plus W y).cell? ⟨pa.block,pa.off + 9 + 3,none⟩ = some (.int .u64 b3):=fun y=>((cellsat_at hz hx).plus y).cs 2 _ rfl
      have d4:∀ y,(plus W y).cell? ⟨pa.block,pa.off + 9 + 4,none⟩ = some (.string b4):=fun y=>((cellsat_at hz hx).plus y).cs 3 _ rfl
      have d5:∀ y,(plus W y).cell? ⟨pa.block,pa.off + 9 + 5,none⟩ = some (.string b5):=fun y=>((cellsat_at hz hx).plus y).cs 4 _ rfl
      have d6:∀ y,(plus W y).cell? ⟨pa.block,pa.off + 9 + 6,none⟩ = some (.int .i64 b6):=fun y=>((cellsat_at hz hx).plus y).cs 5 _ rfl
      have d7:∀ y,(plus W y).cell? ⟨pa.block,pa.off + 9 + 7,none⟩ = some (.int .i64 b7):=fun y=>((cellsat_at hz hx).plus y).cs 6 _ rfl
      have d8:∀ y,(plus W y).cell? ⟨pa.block,pa.off + 9 + 8,none⟩ = some (.slice b8p b8n b8c):=fun y=>((cellsat_at hz hx).plus y).cs 7 _ rfl
      have hz':=Lib.hid hz
      clear hW hz cb0 cb1
      refine (q0c.out _).mono ?_
      rintro r w' ⟨rfl,x1,rfl⟩
      go_wp2_with (first | (go_at_call 158;with_reducible refine (q1c.out _).mono ?_;rintro r w' ⟨rfl,x,rfl⟩) | (go_at_call 158;with_reducible refine (q2c.out _).mono ?_;rintro r w' ⟨rfl,x,rfl⟩) | (go_at_call 166;with_reducible refine (q3c.out _).mono ?_;rintro r w' ⟨rfl,x,rfl⟩) | (go_at_call 167;with_reducible refine (q4c.out _).mono ?_;rintro r w' ⟨rfl,x,rfl⟩))
      go_ret
      exact ⟨rb hF.out,pp hz'.out⟩
end Go.Proofs.YtlmhldcebllckaaGreat
