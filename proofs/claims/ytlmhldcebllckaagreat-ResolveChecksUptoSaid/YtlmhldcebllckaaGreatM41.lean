/-
  WHAT IS PROVED HERE: a part of the proof (made narrower and merged by program; the parts: J2).
-/
import Derived.Test.YtlmhldcebllckaaGreatRows
import Derived.WalkKit
import Derived.Lib.Hide
import Derived.WalkSpells
import Derived.WalkLawsBesides
import Derived.Laws.EntriesVeiled
import Derived.Shelf.Abstract
import Derived.Test.YtlmhldcebllckaaGreatM3
namespace Go.Proofs.YtlmhldcebllckaaGreat
open Go.RowKit
set_option maxRecDepth 100000 in
set_option maxHeartbeats 8000000 in
theorem one_3 (a1:Int) (a2:Int) (a3:Int) (a4:ByteArray) (a5:ByteArray) (a6:Int) (a7:Int) (a8p:Option Addr) (a8n:Nat) (a8c:Nat) (s0:Bool) (w:World)
  (h0:Kp Tryz.prog w 75 #[.string a5] (.bool s0)) :
  Kp Tryz.prog w 162 #[.agg #[.int .u8 3,.int .i64 a1,.int .u64 a2,.int .u64 a3,.string a4,.string a5,.int .i64 a6,.int .i64 a7,.slice a8p a8n a8c]] (.bool ((!((a8n:Int) != 0)) && ((a4.toList == []) && ((!(a5.toList == []) && s0) && (((a1 == 0) && ((a2 == 0) && (a3 == 0))) && ((a6 == 0) && (a7 == 0))))))):=by
 intro y0
 have h0:=h0.up y0
 obtain ⟨V,hV⟩:∃ V,plus w y0 = V:=⟨_,rfl⟩
 rw [hV] at h0 ⊢
 clear hV
 obtain ⟨R,hR⟩:∃ R,((!((a8n:Int) != 0)) && ((a4.toList == []) && ((!(a5.toList == []) && s0) && (((a1 == 0) && ((a2 == 0) && (a3 == 0))) && ((a6 == 0) && (a7 == 0)))))) = R:=⟨_,rfl⟩
 rw [hR]
 by_cases q1:((a8n:Int) != 0) = true
 case neg =>
  have q1:((a8n:Int) != 0) = false:=by simpa using q1
  by_cases q2:(a4.toList == []) = true
  case neg =>
   have q2:(a4.toList == []) = false:=by simpa using q2
   have q2x:¬ a4.toList = []:=by simpa using q2
   have q2y:(a4.toList != []) = true:=by simpa using q2
   have hF:=Lib.hid (show (false) = R by first | exact hR | (rw [← hR];simp [q1,q2]))
   clear hR
   clear h0
   go_enter Tryz.func162,Tryz.ntmps162
   go_wp2_with fail
   go_ret
   exact ⟨rb hF.out,by first | exact alloc1_plus _ _ | exact alloc2_plus _ _ _⟩
  case pos =>
   have q2x:a4.toList = []:=by simpa using q2
   have q2y:(a4.toList != []) = false:=by simpa using q2
   by_cases q3:(a5.toList == []) = true
   case neg =>
    have q3:(a5.toList == []) = false:=by simpa using q3
    have q3x:¬ a5.toList = []:=by simpa using q3
    have q3y:(a5.toList != []) = true:=by simpa using q3
    cases s0
    case false =>
     have hF:=Lib.hid (show (false) = R by first | exact hR | (rw [← hR];simp [q1,q2,q3]))
     clear hR
     have h0:=Lib.hid h0
     go_enter Tryz.func162,Tryz.ntmps162
     go_wp2_with fail
     obtain ⟨W,yy,hW,⟨z,hz⟩,cb0⟩:=box1n V _ 68
     rw [hW]
     have c0_0:=cb0 0 _ rfl
     have c0_1:=cb0 1 _ rfl
     have c0_2:=cb0 2 _ rfl
     have c0_3:=cb0 3 _ rfl
     have c0_4:=cb0 4 _ rfl
     have c0_5:=cb0 5 _ rfl
     have c0_6:=cb0 6 _ rfl
     have c0_7:=cb0 7 _ rfl
     have c0_8:=cb0 8 _ rfl
     have q0c:=Lib.hid (kp_at hz h0.out)
     have cx0:=fun y a=>cell_alloc (c0_0 y) a
     have cx1:=fun y a=>cell_alloc (c0_1 y) a
     have cx2:=fun y a=>cell_alloc (c0_2 y) a
     have cx3:=fun y a=>cell_alloc (c0_3 y) a
     have cx4:=fun y a=>cell_alloc (c0_4 y) a
     have cx5:=fun y a=>cell_alloc (c0_5 y) a
     have cx6:=fun y a=>cell_alloc (c0_6 y) a
     have cx7:=fun y a=>cell_alloc (c0_7 y) a
     have cx8:=fun y a=>cell_alloc (c0_8 y) a
     have hz':=Lib.hid hz
     clear hW hz cb0
     refine (q0c.out _).mono ?_
     rintro r w' ⟨rfl,x1,rfl⟩
     go_wp2_with fail
     go_ret
     exact ⟨rb hF.out,by first | (rw [hz'.out,plus_plus];exact ⟨_,rfl⟩) | (obtain ⟨x',hx'⟩:=plus_alloc1 W _ _;rw [hx',hz'.out,plus_plus];exact ⟨_,rfl⟩)⟩
    case true =>
     by_cases q4:(a1 == 0) = true
     case neg =>
      have q4:(a1 == 0) = false:=by simpa using q4
      have hF:=Lib.hid (show (false) = R by first | exact hR | (rw [← hR];simp [q1,q2,q3,q4]))
      clear hR
      have h0:=Lib.hid h0
      go_enter Tryz.func162,Tryz.ntmps162
      go_wp2_with fail
      obtain ⟨W,yy,hW,⟨z,hz⟩,cb0⟩:=box1n V _ 68
      rw [hW]
      have c0_0:=cb0 0 _ rfl
      have c0_1:=cb0 1 _ rfl
      have c0_2:=cb0 2 _ rfl
      have c0_3:=cb0 3 _ rfl
      have c0_4:=cb0 4 _ rfl
      have c0_5:=cb0 5 _ rfl
      have c0_6:=cb0 6 _ rfl
      have c0_7:=cb0 7 _ rfl
      have c0_8:=cb0 8 _ rfl
      have q0c:=Lib.hid (kp_at hz h0.out)
      have cx0:=fun y a=>cell_alloc (c0_0 y) a
      have cx1:=fun y a=>cell_alloc (c0_1 y) a
      have cx2:=fun y a=>cell_alloc (c0_2 y) a
      have cx3:=fun y a=>cell_alloc (c0_3 y) a
      have cx4:=fun y a=>cell_alloc (c0_4 y) a
      have cx5:=fun y a=>cell_alloc (c0_5 y) a
      have cx6:=fun y a=>cell_alloc (c0_6 y) a
      have cx7:=fun y a=>cell_alloc (c0_7 y) a
      have cx8:=fun y a=>cell_alloc (c0_8 y) a
      have hz':=Lib.hid hz
      clear hW hz cb0
      refine (q0c.out _).mono ?_
      rintro r w' ⟨rfl,x1,rfl⟩
      go_wp2_with fail
      go_ret
      exact ⟨rb hF.out,by first | (rw [hz'.out,plus_plus];exact ⟨_,rfl⟩) | (obtain ⟨x',hx'⟩:=plus_alloc1 W _ _;rw [hx',hz'.out,plus_plus];exact ⟨_,rfl⟩)⟩
     case pos =>
      by_cases q5:(a2 == 0) = true
      case neg =>
       have q5:(a2 == 0) = false:=by simpa using q5
       have hF:=Lib.hid (show (false) = R by first | exact hR | (rw [← hR];simp [q1,q2,q3,q4,q5]))
       clear hR
       have h0:=Lib.hid h0
       go_enter Tryz.func162,Tryz.ntmps162
       go_wp2_with fail
       obtain ⟨W,yy,hW,⟨z,hz⟩,cb0⟩:=box1n V _ 68
       rw [hW]
       have c0_0:=cb0 0 _ rfl
       have c0_1:=cb0 1 _ rfl
       have c0_2:=cb0 2 _ rfl
       have c0_3:=cb0 3 _ rfl
       have c0_4:=cb0 4 _ rfl
       have c0_5:=cb0 5 _ rfl
       have c0_6:=cb0 6 _ rfl
       have c0_7:=cb0 7 _ rfl
       have c0_8:=cb0 8 _ rfl
       have q0c:=Lib.hid (kp_at hz h0.out)
       have cx0:=fun y a=>cell_alloc (c0_0 y) a
       have cx1:=fun y a=>cell_alloc (c0_1 y) a
       have cx2:=fun y a=>cell_alloc (c0_2 y) a
       have cx3:=fun y a=>cell_alloc (c0_3 y) a
       have cx4:=fun y a=>cell_alloc (c0_4 y) a
       have cx5:=fun y a=>cell_alloc (c0_5 y) a
       have cx6:=fun y a=>cell_alloc (c0_6 y) a
       have cx7:=fun y a=>cell_alloc (c0_7 y) a
       have cx8:=fun y a=>cell_alloc (c0_8 y) a
       have hz':=Lib.hid hz
       clear hW hz cb0
       refine (q0c.out _).mono ?_
       rintro r w' ⟨rfl,x1,rfl⟩
       go_wp2_with fail
       go_ret
       exact ⟨rb hF.out,by first | (rw [hz'.out,plus_plus];exact ⟨_,rfl⟩) | (obtain ⟨x',hx'⟩:=plus_alloc1 W _ _;rw [hx',hz'.out,plus_plus];exact ⟨_,rfl⟩)⟩
      case pos =>
       by_cases q6:(a3 == 0) = true
       case neg =>
        have q6:(a3 == 0) = false:=by simpa using q6
        have hF:=Lib.hid (show (false) = R by first | exact hR | (rw [← hR];simp [q1,q2,q3,q4,q5,q6]))
        clear hR
        have h0:=Lib.hid h0
        go_enter Tryz.func162,Tryz.ntmps162
        go_wp2_with fail
        obtain ⟨W,yy,hW,⟨z,hz⟩,cb0⟩:=box1n V _ 68
        rw [hW]
        have c0_0:=cb0 0 _ rfl
        have c0_1:=cb0 1 _ rfl
        have c0_2:=cb0 2 _ rfl
        have c0_3:=cb0 3 _ rfl
        have c0_4:=cb0 4 _ rfl
        have c0_5:=cb0 5 _ rfl
        have c0_6:=cb0 6 _ rfl
        have c0_7:=cb0 7 _ rfl
        have c0_8:=cb0 8 _ rfl
        have q0c:=Lib.hid (kp_at hz h0.out)
        have cx0:=fun y a=>cell_alloc (c0_0 y) a
        have cx1:=fun y a=>cell_alloc (c0_1 y) a
        have cx2:=fun y a=>cell_alloc (c0_2 y) a
        have cx3:=fun y a=>cell_alloc (c0_3 y) a
        have cx4:=fun y a=>cell_alloc (c0_4 y) a
        have cx5:=fun y a=>cell_alloc (c0_5 y) a
        have cx6:=fun y a=>cell_alloc (c0_6 y) a
        have cx7:=fun y a=>cell_alloc (c0_7 y) a
        have cx8:=fun y a=>cell_alloc (c0_8 y) a
        have hz':=Lib.hid hz
        clear hW hz cb0
        refine (q0c.out _).mono ?_
        rintro r w' ⟨rfl,x1,rfl⟩
        go_wp2_with fail
        go_ret
        exact ⟨rb hF.out,by first | (rw [hz'.out,plus_plus];exact ⟨_,rfl⟩) | (obtain ⟨x',hx'⟩:=plus_alloc1 W _ _;rw [hx',hz'.out,plus_plus];exact ⟨_,rfl⟩)⟩
       case pos =>
        by_cases q7:(a6 == 0) = true
        case neg =>
         have q7:(a6 == 0) = false:=by simpa using q7
         have hF:=Lib.hid (show (false) = R by first | exact hR | (rw [← hR];simp [q1,q2,q3,q4,q5,q6,q7]))
         clear hR
         have h0:=Lib.hid h0
         go_enter Tryz.func162,Tryz.ntmps162
         go_wp2_with fail
         obtain ⟨W,yy,hW,⟨z,hz⟩,cb0⟩:=box1n V _ 68
         rw [hW]
         have c0_0:=cb0 0 _ rfl
         have c0_1:=cb0 1 _ rfl
         have c0_2:=cb0 2 _ rfl
         have c0_3:=cb0 3 _ rfl
         have c0_4:=cb0 4 _ rfl
         have c0_5:=cb0 5 _ rfl
         have c0_6:=cb0 6 _ rfl
         have c0_7:=cb0 7 _ rfl
         have c0_8:=cb0 8 _ rfl
         have q0c:=Lib.hid (kp_at hz h0.out)
         have cx0:=fun y a=>cell_alloc (c0_0 y) a
         have cx1:=fun y a=>cell_alloc (c0_1 y) a
         have cx2:=fun y a=>cell_alloc (c0_2 y) a
         have cx3:=fun y a=>cell_alloc (c0_3 y) a
         have cx4:=fun y a=>cell_alloc (c0_4 y) a
         have cx5:=fun y a=>cell_alloc (c0_5 y) a
         have cx6:=fun y a=>cell_alloc (c0_6 y) a
         have cx7:=fun y a=>cell_alloc (c0_7 y) a
         have cx8:=fun y a=>cell_alloc (c0_8 y) a
         have hz':=Lib.hid hz
         clear hW hz cb0
         refine (q0c.out _).mono ?_
         rintro r w' ⟨rfl,x1,rfl⟩
         go_wp2_with fail
         go_ret
         exact ⟨rb hF.out,by first | (rw [hz'.out,plus_plus];exact ⟨_,rfl⟩) | (obtain ⟨x',hx'⟩:=plus_alloc1 W _ _;rw [hx',hz'.out,plus_plus];exact ⟨_,rfl⟩)⟩
        case pos =>
         by_cases q8:(a7 == 0) = true
         case neg =>
          have q8:(a7 == 0) = false:=by simpa using q8
          have hF:=Lib.hid (show (false) = R by first | exact hR | (rw [← hR];simp [q1,q2,q3,q4,q5,q6,q7,q8]))
          clear hR
          have h0:=Lib.hid h0
          go_enter Tryz.func162,Tryz.ntmps162
          go_wp2_with fail
          obtain ⟨W,yy,hW,⟨z,hz⟩,cb0⟩:=box1n V _ 68
          rw [hW]
          have c0_0:=cb0 0 _ rfl
          have c0_1:=cb0 1 _ rfl
          have c0_2:=cb0 2 _ rfl
          have c0_3:=cb0 3 _ rfl
          have c0_4:=cb0 4 _ rfl
          have c0_5:=cb0 5 _ rfl
          have c0_6:=cb0 6 _ rfl
          have c0_7:=cb0 7 _ rfl
          have c0_8:=cb0 8 _ rfl
          have q0c:=Lib.hid (kp_at hz h0.out)
          have cx0:=fun y a=>cell_alloc (c0_0 y) a
          have cx1:=fun y a=>cell_alloc (c0_1 y) a
          have cx2:=fun y a=>cell_alloc (c0_2 y) a
          have cx3:=fun y a=>cell_alloc (c0_3 y) a
          have cx4:=fun y a=>cell_alloc (c0_4 y) a
          have cx5:=fun y a=>cell_alloc (c0_5 y) a
          have cx6:=fun y a=>cell_alloc (c0_6 y) a
          have cx7:=fun y a=>cell_alloc (c0_7 y) a
          have cx8:=fun y a=>cell_alloc (c0_8 y) a
          have hz':=Lib.hid hz
          clear hW hz cb0
          refine (q0c.out _).mono ?_
          rintro r w' ⟨rfl,x1,rfl⟩
          go_wp2_with fail
          go_ret
          exact ⟨rb hF.out,by first | (rw [hz'.out,plus_plus];exact ⟨_,rfl⟩) | (obtain ⟨x',hx'⟩:=plus_alloc1 W _ _;rw [hx',hz'.out,plus_plus];exact ⟨_,rfl⟩)⟩
         case pos =>
          have hF:=Lib.hid (show (true) = R by first | exact hR | (rw [← hR];simp [q1,q2,q3,q4,q5,q6,q7,q8]))
          clear hR
          have h0:=Lib.hid h0
          go_enter Tryz.func162,Tryz.ntmps162
          go_wp2_with fail
          obtain ⟨W,yy,hW,⟨z,hz⟩,cb0⟩:=box1n V _ 68
          rw [hW]
          have c0_0:=cb0 0 _ rfl
          have c0_1:=cb0 1 _ rfl
          have c0_2:=cb0 2 _ rfl
          have c0_3:=cb0 3 _ rfl
          have c0_4:=cb0 4 _ rfl
          have c0_5:=cb0 5 _ rfl
          have c0_6:=cb0 6 _ rfl
          have c0_7:=cb0 7 _ rfl
          have c0_8:=cb0 8 _ rfl
          have q0c:=Lib.hid (kp_at hz h0.out)
          have cx0:=fun y a=>cell_alloc (c0_0 y) a
          have cx1:=fun y a=>cell_alloc (c0_1 y) a
          have cx2:=fun y a=>cell_alloc (c0_2 y) a
          have cx3:=fun y a=>cell_alloc (c0_3 y) a
          have cx4:=fun y a=>cell_alloc (c0_4 y) a
          have cx5:=fun y a=>cell_alloc (c0_5 y) a
          have cx6:=fun y a=>cell_alloc (c0_6 y) a
          have cx7:=fun y a=>cell_alloc (c0_7 y) a
          have cx8:=fun y a=>cell_alloc (c0_8 y) a
          have hz':=Lib.hid hz
          clear hW hz cb0
          refine (q0c.out _).mono ?_
          rintro r w' ⟨rfl,x1,rfl⟩
          go_wp2_with fail
          go_ret
          exact ⟨rb hF.out,by first | (rw [hz'.out,plus_plus];exact ⟨_,rfl⟩) | (obtain ⟨x',hx'⟩:=plus_alloc1 W _ _;rw [hx',hz'.out,plus_plus];exact ⟨_,rfl⟩)⟩
   case pos =>
    have q3x:a5.toList = []:=by simpa using q3
    have q3y:(a5.toList != []) = false:=by simpa using q3
    have hF:=Lib.hid (show (false) = R by first | exact hR | (rw [← hR];simp [q1,q2,q3]))
    clear hR
    clear h0
    go_enter Tryz.func162,Tryz.ntmps162
    go_wp2_with fail
    go_ret
    exact ⟨rb hF.out,by first | exact alloc1_plus _ _ | exact alloc2_plus _ _ _⟩
 case pos =>
  have hF:=Lib.hid (show (false) = R by first | exact hR | (rw [← hR];simp [q1]))
  clear hR
  clear h0
  go_enter Tryz.func162,Tryz.ntmps162
  go_wp2_with fail
  go_ret
  exact ⟨rb hF.out,by first | exact alloc1_plus _ _ | exact alloc2_plus _ _ _⟩
set_option maxRecDepth 100000 in
set_option maxHeartbeats 8000000 in
theorem one_4 (a1:Int) (a2:Int) (a3:Int) (a4:ByteArray) (a5:ByteArray) (a6:Int) (a7:Int) (a8p:Option Addr) (a8n:Nat) (a8c:Nat) (s0:Bool) (w:World)
  (h0:Kp Tryz.prog w 75 #[.string a5] (.bool s0)) :
  Kp Tryz.prog w 162 #[.agg #[.int .u8 4,.int .i64 a1,.int .u64 a2,.int .u64 a3,.string a4,.string a5,.int .i64 a6,.int .i64 a7,.slice a8p a8n a8c]] (.bool ((!((a8n:Int) != 0)) && ((a4.toList == []) && ((!(a5.toList == []) && s0) && (((a1 == 0) && ((a2 == 0) && (a3 == 0))) && ((a6 == 0) && (a7 == 0))))))):=by
 intro y0
 have h0:=h0.up y0
 obtain ⟨V,hV⟩:∃ V,plus w y0 = V:=⟨_,rfl⟩
 rw [hV] at h0 ⊢
 clear hV
 obtain ⟨R,hR⟩:∃ R,((!((a8n:Int) != 0)) && ((a4.toList == []) && ((!(a5.toList == []) && s0) && (((a1 == 0) && ((a2 == 0) && (a3 == 0))) && ((a6 == 0) && (a7 == 0)))))) = R:=⟨_,rfl⟩
 rw [hR]
 by_cases q1:((a8n:Int) != 0) = true
 case neg =>
  have q1:((a8n:Int) != 0) = false:=by simpa using q1
  by_cases q2:(a4.toList == []) = true
  case neg =>
   have q2:(a4.toList == []) = false:=by simpa using q2
   have q2x:¬ a4.toList = []:=by simpa using q2
   have q2y:(a4.toList != []) = true:=by simpa using q2
   have hF:=Lib.hid (show (false) = R by first | exact hR | (rw [← hR];simp [q1,q2]))
   clear hR
   clear h0
   go_enter Tryz.func162,Tryz.ntmps162
   go_wp2_with fail
   go_ret
   exact ⟨rb hF.out,by first | exact alloc1_plus _ _ | exact alloc2_plus _ _ _⟩
  case pos =>
   have q2x:a4.toList = []:=by simpa using q2
   have q2y:(a4.toList != []) = false:=by simpa using q2
   by_cases q3:(a5.toList == []) = true
   case neg =>
    have q3:(a5.toList == []) = false:=by simpa using q3
    have q3x:¬ a5.toList = []:=by simpa using q3
    have q3y:(a5.toList != []) = true:=by simpa using q3
    cases s0
    case false =>
     have hF:=Lib.hid (show (false) = R by first | exact hR | (rw [← hR];simp [q1,q2,q3]))
     clear hR
     have h0:=Lib.hid h0
     go_enter Tryz.func162,Tryz.ntmps162
     go_wp2_with fail
     obtain ⟨W,yy,hW,⟨z,hz⟩,cb0⟩:=box1n V _ 68
     rw [hW]
     have c0_0:=cb0 0 _ rfl
     have c0_1:=cb0 1 _ rfl
     have c0_2:=cb0 2 _ rfl
     have c0_3:=cb0 3 _ rfl
     have c0_4:=cb0 4 _ rfl
     have c0_5:=cb0 5 _ rfl
     have c0_6:=cb0 6 _ rfl
     have c0_7:=cb0 7 _ rfl
     have c0_8:=cb0 8 _ rfl
     have q0c:=Lib.hid (kp_at hz h0.out)
     have cx0:=fun y a=>cell_alloc (c0_0 y) a
     have cx1:=fun y a=>cell_alloc (c0_1 y) a
     have cx2:=fun y a=>cell_alloc (c0_2 y) a
     have cx3:=fun y a=>cell_alloc (c0_3 y) a
     have cx4:=fun y a=>cell_alloc (c0_4 y) a
     have cx5:=fun y a=>cell_alloc (c0_5 y) a
     have cx6:=fun y a=>cell_alloc (c0_6 y) a
     have cx7:=fun y a=>cell_alloc (c0_7 y) a
     have cx8:=fun y a=>cell_alloc (c0_8 y) a
     have hz':=Lib.hid hz
     clear hW hz cb0
     refine (q0c.out _).mono ?_
     rintro r w' ⟨rfl,x1,rfl⟩
     go_wp2_with fail
     go_ret
     exact ⟨rb hF.out,by first | (rw [hz'.out,plus_plus];exact ⟨_,rfl⟩) | (obtain ⟨x',hx'⟩:=plus_alloc1 W _ _;rw [hx',hz'.out,plus_plus];exact ⟨_,rfl⟩)⟩
    case true =>
     by_cases q4:(a1 == 0) = true
     case neg =>
      have q4:(a1 == 0) = false:=by simpa using q4
      have hF:=Lib.hid (show (false) = R by first | exact hR | (rw [← hR];simp [q1,q2,q3,q4]))
      clear hR
      have h0:=Lib.hid h0
      go_enter Tryz.func162,Tryz.ntmps162
      go_wp2_with fail
      obtain ⟨W,yy,hW,⟨z,hz⟩,cb0⟩:=box1n V _ 68
      rw [hW]
      have c0_0:=cb0 0 _ rfl
      have c0_1:=cb0 1 _ rfl
      have c0_2:=cb0 2 _ rfl
      have c0_3:=cb0 3 _ rfl
      have c0_4:=cb0 4 _ rfl
      have c0_5:=cb0 5 _ rfl
      have c0_6:=cb0 6 _ rfl
      have c0_7:=cb0 7 _ rfl
      have c0_8:=cb0 8 _ rfl
      have q0c:=Lib.hid (kp_at hz h0.out)
      have cx0:=fun y a=>cell_alloc (c0_0 y) a
      have cx1:=fun y a=>cell_alloc (c0_1 y) a
      have cx2:=fun y a=>cell_alloc (c0_2 y) a
      have cx3:=fun y a=>cell_alloc (c0_3 y) a
      have cx4:=fun y a=>cell_alloc (c0_4 y) a
      have cx5:=fun y a=>cell_alloc (c0_5 y) a
      have cx6:=fun y a=>cell_alloc (c0_6 y) a
      have cx7:=fun y a=>cell_alloc (c0_7 y) a
      have cx8:=fun y a=>cell_alloc (c0_8 y) a
      have hz':=Lib.hid hz
      clear hW hz cb0
      refine (q0c.out _).mono ?_
      rintro r w' ⟨rfl,x1,rfl⟩
      go_wp2_with fail
      go_ret
      exact ⟨rb hF.out,by first | (rw [hz'.out,plus_plus];exact ⟨_,rfl⟩) | (obtain ⟨x',hx'⟩:=plus_alloc1 W _ _;rw [hx',hz'.out,plus_plus];exact ⟨_,rfl⟩)⟩
     case pos =>
      by_cases q5:(a2 == 0) = true
      case neg =>
       have q5:(a2 == 0) = false:=by simpa using q5
       have hF:=Lib.hid (show (false) = R by first | exact hR | (rw [← hR];simp [q1,q2,q3,q4,q5]))
       clear hR
       have h0:=Lib.hid h0
       go_enter Tryz.func162,Tryz.ntmps162
       go_wp2_with fail
       obtain ⟨W,yy,hW,⟨z,hz⟩,cb0⟩:=box1n V _ 68
       rw [hW]
       have c0_0:=cb0 0 _ rfl
       have c0_1:=cb0 1 _ rfl
       have c0_2:=cb0 2 _ rfl
       have c0_3:=cb0 3 _ rfl
       have c0_4:=cb0 4 _ rfl
       have c0_5:=cb0 5 _ rfl
       have c0_6:=cb0 6 _ rfl
       have c0_7:=cb0 7 _ rfl
       have c0_8:=cb0 8 _ rfl
       have q0c:=Lib.hid (kp_at hz h0.out)
       have cx0:=fun y a=>cell_alloc (c0_0 y) a
       have cx1:=fun y a=>cell_alloc (c0_1 y) a
       have cx2:=fun y a=>cell_alloc (c0_2 y) a
       have cx3:=fun y a=>cell_alloc (c0_3 y) a
       have cx4:=fun y a=>cell_alloc (c0_4 y) a
       have cx5:=fun y a=>cell_alloc (c0_5 y) a
       have cx6:=fun y a=>cell_alloc (c0_6 y) a
       have cx7:=fun y a=>cell_alloc (c0_7 y) a
       have cx8:=fun y a=>cell_alloc (c0_8 y) a
       have hz':=Lib.hid hz
       clear hW hz cb0
       refine (q0c.out _).mono ?_
       rintro r w' ⟨rfl,x1,rfl⟩
       go_wp2_with fail
       go_ret
       exact ⟨rb hF.out,by first | (rw [hz'.out,plus_plus];exact ⟨_,rfl⟩) | (obtain ⟨x',hx'⟩:=plus_alloc1 W _ _;rw [hx',hz'.out,plus_plus];exact ⟨_,rfl⟩)⟩
      case pos =>
       by_cases q6:(a3 == 0) = true
       case neg =>
        have q6:(a3 == 0) = false:=by simpa using q6
        have hF:=Lib.hid (show (false) = R by first | exact hR | (rw [← hR];simp [q1,q2,q3,q4,q5,q6]))
        clear hR
        have h0:=Lib.hid h0
        go_enter Tryz.func162,Tryz.ntmps162
        go_wp2_with fail
        obtain ⟨W,yy,hW,⟨z,hz⟩,cb0⟩:=box1n V _ 68
        rw [hW]
        have c0_0:=cb0 0 _ rfl
        have c0_1:=cb0 1 _ rfl
        have c0_2:=cb0 2 _ rfl
        have c0_3:=cb0 3 _ rfl
        have c0_4:=cb0 4 _ rfl
        have c0_5:=cb0 5 _ rfl
        have c0_6:=cb0 6 _ rfl
        have c0_7:=cb0 7 _ rfl
        have c0_8:=cb0 8 _ rfl
        have q0c:=Lib.hid (kp_at hz h0.out)
        have cx0:=fun y a=>cell_alloc (c0_0 y) a
        have cx1:=fun y a=>cell_alloc (c0_1 y) a
        have cx2:=fun y a=>cell_alloc (c0_2 y) a
        have cx3:=fun y a=>cell_alloc (c0_3 y) a
        have cx4:=fun y a=>cell_alloc (c0_4 y) a
        have cx5:=fun y a=>cell_alloc (c0_5 y) a
        have cx6:=fun y a=>cell_alloc (c0_6 y) a
        have cx7:=fun y a=>cell_alloc (c0_7 y) a
        have cx8:=fun y a=>cell_alloc (c0_8 y) a
        have hz':=Lib.hid hz
        clear hW hz cb0
        refine (q0c.out _).mono ?_
        rintro r w' ⟨rfl,x1,rfl⟩
        go_wp2_with fail
        go_ret
        exact ⟨rb hF.out,by first | (rw [hz'.out,plus_plus];exact ⟨_,rfl⟩) | (obtain ⟨x',hx'⟩:=plus_alloc1 W _ _;rw [hx',hz'.out,plus_plus];exact ⟨_,rfl⟩)⟩
       case pos =>
        by_cases q7:(a6 == 0) = true
        case neg =>
         have q7:(a6 == 0) = false:=by simpa using q7
         have hF:=Lib.hid (show (false) = R by first | exact hR | (rw [← hR];simp [q1,q2,q3,q4,q5,q6,q7]))
         clear hR
         have h0:=Lib.hid h0
         go_enter Tryz.func162,Tryz.ntmps162
         go_wp2_with fail
         obtain ⟨W,yy,hW,⟨z,hz⟩,cb0⟩:=box1n V _ 68
         rw [hW]
         have c0_0:=cb0 0 _ rfl
         have c0_1:=cb0 1 _ rfl
         have c0_2:=cb0 2 _ rfl
         have c0_3:=cb0 3 _ rfl
         have c0_4:=cb0 4 _ rfl
         have c0_5:=cb0 5 _ rfl
         have c0_6:=cb0 6 _ rfl
         have c0_7:=cb0 7 _ rfl
         have c0_8:=cb0 8 _ rfl
         have q0c:=Lib.hid (kp_at hz h0.out)
         have cx0:=fun y a=>cell_alloc (c0_0 y) a
         have cx1:=fun y a=>cell_alloc (c0_1 y) a
         have cx2:=fun y a=>cell_alloc (c0_2 y) a
         have cx3:=fun y a=>cell_alloc (c0_3 y) a
         have cx4:=fun y a=>cell_alloc (c0_4 y) a
         have cx5:=fun y a=>cell_alloc (c0_5 y) a
         have cx6:=fun y a=>cell_alloc (c0_6 y) a
         have cx7:=fun y a=>cell_alloc (c0_7 y) a
         have cx8:=fun y a=>cell_alloc (c0_8 y) a
         have hz':=Lib.hid hz
         clear hW hz cb0
         refine (q0c.out _).mono ?_
         rintro r w' ⟨rfl,x1,rfl⟩
         go_wp2_with fail
         go_ret
         exact ⟨rb hF.out,by first | (rw [hz'.out,plus_plus];exact ⟨_,rfl⟩) | (obtain ⟨x',hx'⟩:=plus_alloc1 W _ _;rw [hx',hz'.out,plus_plus];exact ⟨_,rfl⟩)⟩
        case pos =>
         by_cases q8:(a7 == 0) = true
         case neg =>
          have q8:(a7 == 0) = false:=by simpa using q8
          have hF:=Lib.hid (show (false) = R by first | exact hR | (rw [← hR];simp [q1,q2,q3,q4,q5,q6,q7,q8]))
          clear hR
          have h0:=Lib.hid h0
          go_enter Tryz.func162,Tryz.ntmps162
          go_wp2_with fail
          obtain ⟨W,yy,hW,⟨z,hz⟩,cb0⟩:=box1n V _ 68
          rw [hW]
          have c0_0:=cb0 0 _ rfl
          have c0_1:=cb0 1 _ rfl
          have c0_2:=cb0 2 _ rfl
          have c0_3:=cb0 3 _ rfl
          have c0_4:=cb0 4 _ rfl
          have c0_5:=cb0 5 _ rfl
          have c0_6:=cb0 6 _ rfl
          have c0_7:=cb0 7 _ rfl
          have c0_8:=cb0 8 _ rfl
          have q0c:=Lib.hid (kp_at hz h0.out)
          have cx0:=fun y a=>cell_alloc (c0_0 y) a
          have cx1:=fun y a=>cell_alloc (c0_1 y) a
          have cx2:=fun y a=>cell_alloc (c0_2 y) a
          have cx3:=fun y a=>cell_alloc (c0_3 y) a
          have cx4:=fun y a=>cell_alloc (c0_4 y) a
          have cx5:=fun y a=>cell_alloc (c0_5 y) a
          have cx6:=fun y a=>cell_alloc (c0_6 y) a
          have cx7:=fun y a=>cell_alloc (c0_7 y) a
          have cx8:=fun y a=>cell_alloc (c0_8 y) a
          have hz':=Lib.hid hz
          clear hW hz cb0
          refine (q0c.out _).mono ?_
          rintro r w' ⟨rfl,x1,rfl⟩
          go_wp2_with fail
          go_ret
          exact ⟨rb hF.out,by first | (rw [hz'.out,plus_plus];exact ⟨_,rfl⟩) | (obtain ⟨x',hx'⟩:=plus_alloc1 W _ _;rw [hx',hz'.out,plus_plus];exact ⟨_,rfl⟩)⟩
         case pos =>
          have hF:=Lib.hid (show (true) = R by first | exact hR | (rw [← hR];simp [q1,q2,q3,q4,q5,q6,q7,q8]))
          clear hR
          have h0:=Lib.hid h0
          go_enter Tryz.func162,Tryz.ntmps162
          go_wp2_with fail
          obtain ⟨W,yy,hW,⟨z,hz⟩,cb0⟩:=box1n V _ 68
          rw [hW]
          have c0_0:=cb0 0 _ rfl
          have c0_1:=cb0 1 _ rfl
          have c0_2:=cb0 2 _ rfl
          have c0_3:=cb0 3 _ rfl
          have c0_4:=cb0 4 _ rfl
          have c0_5:=cb0 5 _ rfl
          have c0_6:=cb0 6 _ rfl
          have c0_7:=cb0 7 _ rfl
          have c0_8:=cb0 8 _ rfl
          have q0c:=Lib.hid (kp_at hz h0.out)
          have cx0:=fun y a=>cell_alloc (c0_0 y) a
          have cx1:=fun y a=>cell_alloc (c0_1 y) a
          have cx2:=fun y a=>cell_alloc (c0_2 y) a
          have cx3:=fun y a=>cell_alloc (c0_3 y) a
          have cx4:=fun y a=>cell_alloc (c0_4 y) a
          have cx5:=fun y a=>cell_alloc (c0_5 y) a
          have cx6:=fun y a=>cell_alloc (c0_6 y) a
          have cx7:=fun y a=>cell_alloc (c0_7 y) a
          have cx8:=fun y a=>cell_alloc (c0_8 y) a
          have hz':=Lib.hid hz
          clear hW hz cb0
          refine (q0c.out _).mono ?_
          rintro r w' ⟨rfl,x1,rfl⟩
          go_wp2_with fail
          go_ret
          exact ⟨rb hF.out,by first | (rw [hz'.out,plus_plus];exact ⟨_,rfl⟩) | (obtain ⟨x',hx'⟩:=plus_alloc1 W _ _;rw [hx',hz'.out,plus_plus];exact ⟨_,rfl⟩)⟩
   case pos =>
    have q3x:a5.toList = []:=by simpa using q3
    have q3y:(a5.toList != []) = false:=by simpa using q3
    have hF:=Lib.hid (show (false) = R by first | exact hR | (rw [← hR];simp [q1,q2,q3]))
    clear hR
    clear h0
    go_enter Tryz.func162,Tryz.ntmps162
    go_wp2_with fail
    go_ret
    exact ⟨rb hF.out,by first | exact alloc1_plus _ _ | exact alloc2_plus _ _ _⟩
 case pos =>
  have hF:=Lib.hid (show (false) = R by first | exact hR | (rw [← hR];simp [q1]))
  clear hR
  clear h0
  go_enter Tryz.func162,Tryz.ntmps162
  go_wp2_with fail
  go_ret
  exact ⟨rb hF.out,by first | exact alloc1_plus _ _ | exact alloc2_plus _ _ _⟩
set_option maxRecDepth 100000 in
set_option maxHeartbeats 8000000 in
theorem one_5 (a1:Int) (a2:Int) (a3:Int) (a4:ByteArray) (a5:ByteArray) (a6:Int) (a7:Int) (a8p:Option Addr) (a8n:Nat) (a8c:Nat)  (w:World) :
  Kp Tryz.prog w 162 #[.agg #[.int .u8 5,.int .i64 a1,.int .u64 a2,.int .u64 a3,.string a4,.string a5,.int .i64 a6,.int .i64 a7,.slice a8p a8n a8c]] (.bool ((!((a8n:Int) != 0)) && ((a4.toList == []) && ((a5.toList == []) && (((a1 == 0) && ((a2 == 0) && (a3 == 0))) && ((a6 == 0) && (a7 == 0))))))):=by
 intro y0
 obtain ⟨V,hV⟩:∃ V,plus w y0 = V:=⟨_,rfl⟩
 rw [hV] at ⊢
 clear hV
 obtain ⟨R,hR⟩:∃ R,((!((a8n:Int) != 0)) && ((a4.toList == []) && ((a5.toList == []) && (((a1 == 0) && ((a2 == 0) && (a3 == 0))) && ((a6 == 0) && (a7 == 0)))))) = R:=⟨_,rfl⟩
 rw [hR]
 by_cases q1:((a8n:Int) != 0) = true
 case neg =>
  have q1:((a8n:Int) != 0) = false:=by simpa using q1
  by_cases q2:(a4.toList == []) = true
  case neg =>
   have q2:(a4.toList == []) = false:=by simpa using q2
   have q2x:¬ a4.toList = []:=by simpa using q2
   have q2y:(a4.toList != []) = true:=by simpa using q2
   have hF:=Lib.hid (show (false) = R by first | exact hR | (rw [← hR];simp [q1,q2]))
   clear hR
   go_enter Tryz.func162,Tryz.ntmps162
   go_wp2_with fail
   go_ret
   exact ⟨rb hF.out,by first | exact alloc1_plus _ _ | exact alloc2_plus _ _ _⟩
  case pos =>
   have q2x:a4.toList = []:=by simpa using q2
   have q2y:(a4.toList != []) = false:=by simpa using q2
   by_cases q3:(a5.toList == []) = true
   case neg =>
    have q3:(a5.toList == []) = false:=by simpa using q3
    have q3x:¬ a5.toList = []:=by simpa using q3
    have q3y:(a5.toList != []) = true:=by simpa using q3
    have hF:=Lib.hid (show (false) = R by first | exact hR | (rw [← hR];simp [q1,q2,q3]))
    clear hR
    go_enter Tryz.func162,Tryz.ntmps162
    go_wp2_with fail
    go_ret
    exact ⟨rb hF.out,by first | exact alloc1_plus _ _ | exact alloc2_plus _ _ _⟩
   case pos =>
    have q3x:a5.toList = []:=by simpa using q3
    have q3y:(a5.toList != []) = false:=by simpa using q3
    by_cases q4:(a1 == 0) = true
    case neg =>
     have q4:(a1 == 0) = false:=by simpa using q4
     have hF:=Lib.hid (show (false) = R by first | exact hR | (rw [← hR];simp [q1,q2,q3,q4]))
     clear hR
     go_enter Tryz.func162,Tryz.ntmps162
     go_wp2_with fail
     go_ret
     exact ⟨rb hF.out,by first | exact alloc1_plus _ _ | exact alloc2_plus _ _ _⟩
    case pos =>
     by_cases q5:(a2 == 0) = true
     case neg =>
      have q5:(a2 == 0) = false:=by simpa using q5
      have hF:=Lib.hid (show (false) = R by first | exact hR | (rw [← hR];simp [q1,q2,q3,q4,q5]))
      clear hR
      go_enter Tryz.func162,Tryz.ntmps162
      go_wp2_with fail
      go_ret
      exact ⟨rb hF.out,by first | exact alloc1_plus _ _ | exact alloc2_plus _ _ _⟩
     case pos =>
      by_cases q6:(a3 == 0) = true
      case neg =>
       have q6:(a3 == 0) = false:=by simpa using q6
       have hF:=Lib.hid (show (false) = R by first | exact hR | (rw [← hR];simp [q1,q2,q3,q4,q5,q6]))
       clear hR
       go_enter Tryz.func162,Tryz.ntmps162
       go_wp2_with fail
       go_ret
       exact ⟨rb hF.out,by first | exact alloc1_plus _ _ | exact alloc2_plus _ _ _⟩
      case pos =>
       by_cases q7:(a6 == 0) = true
       case neg =>
        have q7:(a6 == 0) = false:=by simpa using q7
        have hF:=Lib.hid (show (false) = R by first | exact hR | (rw [← hR];simp [q1,q2,q3,q4,q5,q6,q7]))
        clear hR
        go_enter Tryz.func162,Tryz.ntmps162
        go_wp2_with fail
        go_ret
        exact ⟨rb hF.out,by first | exact alloc1_plus _ _ | exact alloc2_plus _ _ _⟩
       case pos =>
        by_cases q8:(a7 == 0) = true
        case neg =>
         have q8:(a7 == 0) = false:=by simpa using q8
         have hF:=Lib.hid (show (false) = R by first | exact hR | (rw [← hR];simp [q1,q2,q3,q4,q5,q6,q7,q8]))
         clear hR
         go_enter Tryz.func162,Tryz.ntmps162
         go_wp2_with fail
         go_ret
         exact ⟨rb hF.out,by first | exact alloc1_plus _ _ | exact alloc2_plus _ _ _⟩
        case pos =>
         have hF:=Lib.hid (show (true) = R by first | exact hR | (rw [← hR];simp [q1,q2,q3,q4,q5,q6,q7,q8]))
         clear hR
         go_enter Tryz.func162,Tryz.ntmps162
         go_wp2_with fail
         go_ret
         exact ⟨rb hF.out,by first | exact alloc1_plus _ _ | exact alloc2_plus _ _ _⟩
 case pos =>
  have hF:=Lib.hid (show (false) = R by first | exact hR | (rw [← hR];simp [q1]))
  clear hR
  go_enter Tryz.func162,Tryz.ntmps162
  go_wp2_with fail
  go_ret
  exact ⟨rb hF.out,by first | exact alloc1_plus _ _ | exact alloc2_plus _ _ _⟩
set_option maxRecDepth 100000 in
set_option maxHeartbeats 8000000 in
theorem one_6 (a1:Int) (a2:Int) (a3:Int) (a4:ByteArray) (a5:ByteArray) (a6:Int) (a7:Int) (a8p:Option Addr) (a8n:Nat) (a8c:Nat) (s0:Bool) (w:World)
  (h0:Kp Tryz.prog w 75 #[.string a4] (.bool s0)) :
  Kp Tryz.prog w 162 #[.agg #[.int .u8 6,.int .i64 a1,.int .u64 a2,.int .u64 a3,.string a4,.string a5,.int .i64 a6,.int .i64 a7,.slice a8p a8n a8c]] (.bool ((!((a8n:Int) != 0)) && ((!(a4.toList == []) && s0) && ((a5.toList == []) && (((a1 == 0) && ((a2 == 0) && (a3 == 0))) && ((a6 == 0) && (a7 == 0))))))):=by
 intro y0
 have h0:=h0.up y0
 obtain ⟨V,hV⟩:∃ V,plus w y0 = V:=⟨_,rfl⟩
 rw [hV] at h0 ⊢
 clear hV
 obtain ⟨R,hR⟩:∃ R,((!((a8n:Int) != 0)) && ((!(a4.toList == []) && s0) && ((a5.toList == []) && (((a1 == 0) && ((a2 == 0) && (a3 == 0))) && ((a6 == 0) && (a7 == 0)))))) = R:=⟨_,rfl⟩
 rw [hR]
 by_cases q1:((a8n:Int) != 0) = true
 case neg =>
  have q1:((a8n:Int) != 0) = false:=by simpa using q1
  by_cases q2:(a4.toList == []) = true
  case neg =>
   have q2:(a4.toList == []) = false:=by simpa using q2
   have q2x:¬ a4.toList = []:=by simpa using q2
   have q2y:(a4.toList != []) = true:=by simpa using q2
   by_cases q3:(a5.toList == []) = true
   case neg =>
    have q3:(a5.toList == []) = false:=by simpa using q3
    have q3x:¬ a5.toList = []:=by simpa using q3
    have q3y:(a5.toList != []) = true:=by simpa using q3
    have hF:=Lib.hid (show (false) = R by first | exact hR | (rw [← hR];simp [q1,q2,q3]))
    clear hR
    clear h0
    go_enter Tryz.func162,Tryz.ntmps162
    go_wp2_with fail
    go_ret
    exact ⟨rb hF.out,by first | exact alloc1_plus _ _ | exact alloc2_plus _ _ _⟩
   case pos =>
    have q3x:a5.toList = []:=by simpa using q3
    have q3y:(a5.toList != []) = false:=by simpa using q3
    cases s0
    case false =>
     have hF:=Lib.hid (show (false) = R by first | exact hR | (rw [← hR];simp [q1,q2,q3]))
     clear hR
     have h0:=Lib.hid h0
     go_enter Tryz.func162,Tryz.ntmps162
     go_wp2_with fail
     obtain ⟨W,yy,hW,⟨z,hz⟩,cb0⟩:=box1n V _ 68
     rw [hW]
     have c0_0:=cb0 0 _ rfl
     have c0_1:=cb0 1 _ rfl
     have c0_2:=cb0 2 _ rfl
     have c0_3:=cb0 3 _ rfl
     have c0_4:=cb0 4 _ rfl
     have c0_5:=cb0 5 _ rfl
     have c0_6:=cb0 6 _ rfl
     have c0_7:=cb0 7 _ rfl
     have c0_8:=cb0 8 _ rfl
     have q0c:=Lib.hid (kp_at hz h0.out)
     have cx0:=fun y a=>cell_alloc (c0_0 y) a
     have cx1:=fun y a=>cell_alloc (c0_1 y) a
     have cx2:=fun y a=>cell_alloc (c0_2 y) a
     have cx3:=fun y a=>cell_alloc (c0_3 y) a
     have cx4:=fun y a=>cell_alloc (c0_4 y) a
     have cx5:=fun y a=>cell_alloc (c0_5 y) a
     have cx6:=fun y a=>cell_alloc (c0_6 y) a
     have cx7:=fun y a=>cell_alloc (c0_7 y) a
     have cx8:=fun y a=>cell_alloc (c0_8 y) a
     have hz':=Lib.hid hz
     clear hW hz cb0
     refine (q0c.out _).mono ?_
     rintro r w' ⟨rfl,x1,rfl⟩
     go_wp2_with fail
     go_ret
     exact ⟨rb hF.out,by first | (rw [hz'.out,plus_plus];exact ⟨_,rfl⟩) | (obtain ⟨x',hx'⟩:=plus_alloc1 W _ _;rw [hx',hz'.out,plus_plus];exact ⟨_,rfl⟩)⟩
    case true =>
     by_cases q4:(a1 == 0) = true
     case neg =>
      have q4:(a1 == 0) = false:=by simpa using q4
      have hF:=Lib.hid (show (false) = R by first | exact hR | (rw [← hR];simp [q1,q2,q3,q4]))
      clear hR
      have h0:=Lib.hid h0
      go_enter Tryz.func162,Tryz.ntmps162
      go_wp2_with fail
      obtain ⟨W,yy,hW,⟨z,hz⟩,cb0⟩:=box1n V _ 68
      rw [hW]
      have c0_0:=cb0 0 _ rfl
      have c0_1:=cb0 1 _ rfl
      have c0_2:=cb0 2 _ rfl
      have c0_3:=cb0 3 _ rfl
      have c0_4:=cb0 4 _ rfl
      have c0_5:=cb0 5 _ rfl
      have c0_6:=cb0 6 _ rfl
      have c0_7:=cb0 7 _ rfl
      have c0_8:=cb0 8 _ rfl
      have q0c:=Lib.hid (kp_at hz h0.out)
      have cx0:=fun y a=>cell_alloc (c0_0 y) a
      have cx1:=fun y a=>cell_alloc (c0_1 y) a
      have cx2:=fun y a=>cell_alloc (c0_2 y) a
      have cx3:=fun y a=>cell_alloc (c0_3 y) a
      have cx4:=fun y a=>cell_alloc (c0_4 y) a
      have cx5:=fun y a=>cell_alloc (c0_5 y) a
      have cx6:=fun y a=>cell_alloc (c0_6 y) a
      have cx7:=fun y a=>cell_alloc (c0_7 y) a
      have cx8:=fun y a=>cell_alloc (c0_8 y) a
      have hz':=Lib.hid hz
      clear hW hz cb0
      refine (q0c.out _).mono ?_
      rintro r w' ⟨rfl,x1,rfl⟩
      go_wp2_with fail
      go_ret
      exact ⟨rb hF.out,by first | (rw [hz'.out,plus_plus];exact ⟨_,rfl⟩) | (obtain ⟨x',hx'⟩:=plus_alloc1 W _ _;rw [hx',hz'.out,plus_plus];exact ⟨_,rfl⟩)⟩
     case pos =>
      by_cases q5:(a2 == 0) = true
      case neg =>
       have q5:(a2 == 0) = false:=by simpa using q5
       have hF:=Lib.hid (show (false) = R by first | exact hR | (rw [← hR];simp [q1,q2,q3,q4,q5]))
       clear hR
       have h0:=Lib.hid h0
       go_enter Tryz.func162,Tryz.ntmps162
       go_wp2_with fail
       obtain ⟨W,yy,hW,⟨z,hz⟩,cb0⟩:=box1n V _ 68
       rw [hW]
       have c0_0:=cb0 0 _ rfl
       have c0_1:=cb0 1 _ rfl
       have c0_2:=cb0 2 _ rfl
       have c0_3:=cb0 3 _ rfl
       have c0_4:=cb0 4 _ rfl
       have c0_5:=cb0 5 _ rfl
       have c0_6:=cb0 6 _ rfl
       have c0_7:=cb0 7 _ rfl
       have c0_8:=cb0 8 _ rfl
       have q0c:=Lib.hid (kp_at hz h0.out)
       have cx0:=fun y a=>cell_alloc (c0_0 y) a
       have cx1:=fun y a=>cell_alloc (c0_1 y) a
       have cx2:=fun y a=>cell_alloc (c0_2 y) a
       have cx3:=fun y a=>cell_alloc (c0_3 y) a
       have cx4:=fun y a=>cell_alloc (c0_4 y) a
       have cx5:=fun y a=>cell_alloc (c0_5 y) a
       have cx6:=fun y a=>cell_alloc (c0_6 y) a
       have cx7:=fun y a=>cell_alloc (c0_7 y) a
       have cx8:=fun y a=>cell_alloc (c0_8 y) a
       have hz':=Lib.hid hz
       clear hW hz cb0
       refine (q0c.out _).mono ?_
       rintro r w' ⟨rfl,x1,rfl⟩
       go_wp2_with fail
       go_ret
       exact ⟨rb hF.out,by first | (rw [hz'.out,plus_plus];exact ⟨_,rfl⟩) | (obtain ⟨x',hx'⟩:=plus_alloc1 W _ _;rw [hx',hz'.out,plus_plus];exact ⟨_,rfl⟩)⟩
      case pos =>
       by_cases q6:(a3 == 0) = true
       case neg =>
        have q6:(a3 == 0) = false:=by simpa using q6
        have hF:=Lib.hid (show (false) = R by first | exact hR | (rw [← hR];simp [q1,q2,q3,q4,q5,q6]))
        clear hR
        have h0:=Lib.hid h0
        go_enter Tryz.func162,Tryz.ntmps162
        go_wp2_with fail
        obtain ⟨W,yy,hW,⟨z,hz⟩,cb0⟩:=box1n V _ 68
        rw [hW]
        have c0_0:=cb0 0 _ rfl
        have c0_1:=cb0 1 _ rfl
        have c0_2:=cb0 2 _ rfl
        have c0_3:=cb0 3 _ rfl
        have c0_4:=cb0 4 _ rfl
        have c0_5:=cb0 5 _ rfl
        have c0_6:=cb0 6 _ rfl
        have c0_7:=cb0 7 _ rfl
        have c0_8:=cb0 8 _ rfl
        have q0c:=Lib.hid (kp_at hz h0.out)
        have cx0:=fun y a=>cell_alloc (c0_0 y) a
        have cx1:=fun y a=>cell_alloc (c0_1 y) a
        have cx2:=fun y a=>cell_alloc (c0_2 y) a
        have cx3:=fun y a=>cell_alloc (c0_3 y) a
        have cx4:=fun y a=>cell_alloc (c0_4 y) a
        have cx5:=fun y a=>cell_alloc (c0_5 y) a
        have cx6:=fun y a=>cell_alloc (c0_6 y) a
        have cx7:=fun y a=>cell_alloc (c0_7 y) a
        have cx8:=fun y a=>cell_alloc (c0_8 y) a
        have hz':=Lib.hid hz
        clear hW hz cb0
        refine (q0c.out _).mono ?_
        rintro r w' ⟨rfl,x1,rfl⟩
        go_wp2_with fail
        go_ret
        exact ⟨rb hF.out,by first | (rw [hz'.out,plus_plus];exact ⟨_,rfl⟩) | (obtain ⟨x',hx'⟩:=plus_alloc1 W _ _;rw [hx',hz'.out,plus_plus];exact ⟨_,rfl⟩)⟩
       case pos =>
        by_cases q7:(a6 == 0) = true
        case neg =>
         have q7:(a6 == 0) = false:=by simpa using q7
         have hF:=Lib.hid (show (false) = R by first | exact hR | (rw [← hR];simp [q1,q2,q3,q4,q5,q6,q7]))
         clear hR
         have h0:=Lib.hid h0
         go_enter Tryz.func162,Tryz.ntmps162
         go_wp2_with fail
         obtain ⟨W,yy,hW,⟨z,hz⟩,cb0⟩:=box1n V _ 68
         rw [hW]
         have c0_0:=cb0 0 _ rfl
         have c0_1:=cb0 1 _ rfl
         have c0_2:=cb0 2 _ rfl
         have c0_3:=cb0 3 _ rfl
         have c0_4:=cb0 4 _ rfl
         have c0_5:=cb0 5 _ rfl
         have c0_6:=cb0 6 _ rfl
         have c0_7:=cb0 7 _ rfl
         have c0_8:=cb0 8 _ rfl
         have q0c:=Lib.hid (kp_at hz h0.out)
         have cx0:=fun y a=>cell_alloc (c0_0 y) a
         have cx1:=fun y a=>cell_alloc (c0_1 y) a
         have cx2:=fun y a=>cell_alloc (c0_2 y) a
         have cx3:=fun y a=>cell_alloc (c0_3 y) a
         have cx4:=fun y a=>cell_alloc (c0_4 y) a
         have cx5:=fun y a=>cell_alloc (c0_5 y) a
         have cx6:=fun y a=>cell_alloc (c0_6 y) a
         have cx7:=fun y a=>cell_alloc (c0_7 y) a
         have cx8:=fun y a=>cell_alloc (c0_8 y) a
         have hz':=Lib.hid hz
         clear hW hz cb0
         refine (q0c.out _).mono ?_
         rintro r w' ⟨rfl,x1,rfl⟩
         go_wp2_with fail
         go_ret
         exact ⟨rb hF.out,by first | (rw [hz'.out,plus_plus];exact ⟨_,rfl⟩) | (obtain ⟨x',hx'⟩:=plus_alloc1 W _ _;rw [hx',hz'.out,plus_plus];exact ⟨_,rfl⟩)⟩
        case pos =>
         by_cases q8:(a7 == 0) = true
         case neg =>
          have q8:(a7 == 0) = false:=by simpa using q8
          have hF:=Lib.hid (show (false) = R by first | exact hR | (rw [← hR];simp [q1,q2,q3,q4,q5,q6,q7,q8]))
          clear hR
          have h0:=Lib.hid h0
          go_enter Tryz.func162,Tryz.ntmps162
          go_wp2_with fail
          obtain ⟨W,yy,hW,⟨z,hz⟩,cb0⟩:=box1n V _ 68
          rw [hW]
          have c0_0:=cb0 0 _ rfl
          have c0_1:=cb0 1 _ rfl
          have c0_2:=cb0 2 _ rfl
          have c0_3:=cb0 3 _ rfl
          have c0_4:=cb0 4 _ rfl
          have c0_5:=cb0 5 _ rfl
          have c0_6:=cb0 6 _ rfl
          have c0_7:=cb0 7 _ rfl
          have c0_8:=cb0 8 _ rfl
          have q0c:=Lib.hid (kp_at hz h0.out)
          have cx0:=fun y a=>cell_alloc (c0_0 y) a
          have cx1:=fun y a=>cell_alloc (c0_1 y) a
          have cx2:=fun y a=>cell_alloc (c0_2 y) a
          have cx3:=fun y a=>cell_alloc (c0_3 y) a
          have cx4:=fun y a=>cell_alloc (c0_4 y) a
          have cx5:=fun y a=>cell_alloc (c0_5 y) a
          have cx6:=fun y a=>cell_alloc (c0_6 y) a
          have cx7:=fun y a=>cell_alloc (c0_7 y) a
          have cx8:=fun y a=>cell_alloc (c0_8 y) a
          have hz':=Lib.hid hz
          clear hW hz cb0
          refine (q0c.out _).mono ?_
          rintro r w' ⟨rfl,x1,rfl⟩
          go_wp2_with fail
          go_ret
          exact ⟨rb hF.out,by first | (rw [hz'.out,plus_plus];exact ⟨_,rfl⟩) | (obtain ⟨x',hx'⟩:=plus_alloc1 W _ _;rw [hx',hz'.out,plus_plus];exact ⟨_,rfl⟩)⟩
         case pos =>
          have hF:=Lib.hid (show (true) = R by first | exact hR | (rw [← hR];simp [q1,q2,q3,q4,q5,q6,q7,q8]))
          clear hR
          have h0:=Lib.hid h0
          go_enter Tryz.func162,Tryz.ntmps162
          go_wp2_with fail
          obtain ⟨W,yy,hW,⟨z,hz⟩,cb0⟩:=box1n V _ 68
          rw [hW]
          have c0_0:=cb0 0 _ rfl
          have c0_1:=cb0 1 _ rfl
          have c0_2:=cb0 2 _ rfl
          have c0_3:=cb0 3 _ rfl
          have c0_4:=cb0 4 _ rfl
          have c0_5:=cb0 5 _ rfl
          have c0_6:=cb0 6 _ rfl
          have c0_7:=cb0 7 _ rfl
          have c0_8:=cb0 8 _ rfl
          have q0c:=Lib.hid (kp_at hz h0.out)
          have cx0:=fun y a=>cell_alloc (c0_0 y) a
          have cx1:=fun y a=>cell_alloc (c0_1 y) a
          have cx2:=fun y a=>cell_alloc (c0_2 y) a
          have cx3:=fun y a=>cell_alloc (c0_3 y) a
          have cx4:=fun y a=>cell_alloc (c0_4 y) a
          have cx5:=fun y a=>cell_alloc (c0_5 y) a
          have cx6:=fun y a=>cell_alloc (c0_6 y) a
          have cx7:=fun y a=>cell_alloc (c0_7 y) a
          have cx8:=fun y a=>cell_alloc (c0_8 y) a
          have hz':=Lib.hid hz
          clear hW hz cb0
          refine (q0c.out _).mono ?_
          rintro r w' ⟨rfl,x1,rfl⟩
          go_wp2_with fail
          go_ret
          exact ⟨rb hF.out,by first | (rw [hz'.out,plus_plus];exact ⟨_,rfl⟩) | (obtain ⟨x',hx'⟩:=plus_alloc1 W _ _;rw [hx',hz'.out,plus_plus];exact ⟨_,rfl⟩)⟩
  case pos =>
   have q2x:a4.toList = []:=by simpa using q2
   have q2y:(a4.toList != []) = false:=by simpa using q2
   have hF:=Lib.hid (show (false) = R by first | exact hR | (rw [← hR];simp [q1,q2]))
   clear hR
   clear h0
   go_enter Tryz.func162,Tryz.ntmps162
   go_wp2_with fail
   go_ret
   exact ⟨rb hF.out,by first | exact alloc1_plus _ _ | exact alloc2_plus _ _ _⟩
 case pos =>
  have hF:=Lib.hid (show (false) = R by first | exact hR | (rw [← hR];simp [q1]))
  clear hR
  clear h0
  go_enter Tryz.func162,Tryz.ntmps162
  go_wp2_with fail
  go_ret
  exact ⟨rb hF.out,by first | exact alloc1_plus _ _ | exact alloc2_plus _ _ _⟩
end Go.Proofs.YtlmhldcebllckaaGreat
