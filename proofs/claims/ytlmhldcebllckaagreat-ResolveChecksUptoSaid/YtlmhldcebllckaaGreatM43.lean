/-
  WHAT IS PROVED HERE: a part of the proof (made narrower and merged by program; the parts: JG).
-/
import Derived.Test.YtlmhldcebllckaaGreatRows
import Derived.WalkKit
import Derived.Lib.Hide
import Derived.WalkSpells
import Derived.WalkLawsBesides
import Derived.Laws.EntriesVeiled
import Derived.Shelf.Abstract
import Derived.Test.YtlmhldcebllckaaGreatM42
import Derived.Test.YtlmhldcebllckaaGreatM37
namespace Go.Proofs.YtlmhldcebllckaaGreat
open Go.RowKit
set_option maxRecDepth 100000 in
set_option maxHeartbeats 8000000 in
theorem rset_1 (a1:Int) (a2:Int) (a3:Int) (a4:Int) (a5:Int) (a6:Int)  (w:World) :
  Kp Tryz.prog w 120 #[.agg #[.int .u8 1,.int .i64 a1,.int .u64 a2,.int .u64 a3,.int .i64 a4,.int .u64 a5,.int .u64 a6]] (.bool (((a1 == 0) && ((a2 == 0) && (a3 == 0))) && ((a4 == 0) && ((a5 == 0) && (a6 == 0))))):=by
 intro y0
 obtain ⟨V,hV⟩:∃ V,plus w y0 = V:=⟨_,rfl⟩
 rw [hV] at ⊢
 clear hV
 obtain ⟨R,hR⟩:∃ R,(((a1 == 0) && ((a2 == 0) && (a3 == 0))) && ((a4 == 0) && ((a5 == 0) && (a6 == 0)))) = R:=⟨_,rfl⟩
 rw [hR]
 by_cases q1:(a1 == 0) = true
 case neg =>
  have q1:(a1 == 0) = false:=by simpa using q1
  have hF:=Lib.hid (show (false) = R by first | exact hR | (rw [← hR];simp [q1]))
  clear hR
  go_enter Tryz.func120,Tryz.ntmps120
  go_wp2_with fail
  go_ret
  exact ⟨rb hF.out,alloc2_plus _ _ _⟩
 case pos =>
  by_cases q2:(a2 == 0) = true
  case neg =>
   have q2:(a2 == 0) = false:=by simpa using q2
   have hF:=Lib.hid (show (false) = R by first | exact hR | (rw [← hR];simp [q1,q2]))
   clear hR
   go_enter Tryz.func120,Tryz.ntmps120
   go_wp2_with fail
   go_ret
   exact ⟨rb hF.out,alloc2_plus _ _ _⟩
  case pos =>
   by_cases q3:(a3 == 0) = true
   case neg =>
    have q3:(a3 == 0) = false:=by simpa using q3
    have hF:=Lib.hid (show (false) = R by first | exact hR | (rw [← hR];simp [q1,q2,q3]))
    clear hR
    go_enter Tryz.func120,Tryz.ntmps120
    go_wp2_with fail
    go_ret
    exact ⟨rb hF.out,alloc2_plus _ _ _⟩
   case pos =>
    by_cases q4:(a4 == 0) = true
    case neg =>
     have q4:(a4 == 0) = false:=by simpa using q4
     have hF:=Lib.hid (show (false) = R by first | exact hR | (rw [← hR];simp [q1,q2,q3,q4]))
     clear hR
     go_enter Tryz.func120,Tryz.ntmps120
     go_wp2_with fail
     go_ret
     exact ⟨rb hF.out,alloc2_plus _ _ _⟩
    case pos =>
     by_cases q5:(a5 == 0) = true
     case neg =>
      have q5:(a5 == 0) = false:=by simpa using q5
      have hF:=Lib.hid (show (false) = R by first | exact hR | (rw [← hR];simp [q1,q2,q3,q4,q5]))
      clear hR
      go_enter Tryz.func120,Tryz.ntmps120
      go_wp2_with fail
      go_ret
      exact ⟨rb hF.out,alloc2_plus _ _ _⟩
     case pos =>
      by_cases q6:(a6 == 0) = true
      case neg =>
       have q6:(a6 == 0) = false:=by simpa using q6
       have hF:=Lib.hid (show (false) = R by first | exact hR | (rw [← hR];simp [q1,q2,q3,q4,q5,q6]))
       clear hR
       go_enter Tryz.func120,Tryz.ntmps120
       go_wp2_with fail
       go_ret
       exact ⟨rb hF.out,alloc2_plus _ _ _⟩
      case pos =>
       have hF:=Lib.hid (show (true) = R by first | exact hR | (rw [← hR];simp [q1,q2,q3,q4,q5,q6]))
       clear hR
       go_enter Tryz.func120,Tryz.ntmps120
       go_wp2_with fail
       go_ret
       exact ⟨rb hF.out,alloc2_plus _ _ _⟩
set_option maxRecDepth 100000 in
set_option maxHeartbeats 8000000 in
theorem rset_2 (a1:Int) (a2:Int) (a3:Int) (a4:Int) (a5:Int) (a6:Int) (s0:Bool) (w:World)
  (h0:Kp Tryz.prog w 123 #[.agg #[.int .i64 a1,.int .u64 a2,.int .u64 a3]] (.bool s0)) :
  Kp Tryz.prog w 120 #[.agg #[.int .u8 2,.int .i64 a1,.int .u64 a2,.int .u64 a3,.int .i64 a4,.int .u64 a5,.int .u64 a6]] (.bool (s0 && ((a4 == 0) && ((a5 == 0) && (a6 == 0))))):=by
 intro y0
 have h0:=h0.up y0
 obtain ⟨V,hV⟩:∃ V,plus w y0 = V:=⟨_,rfl⟩
 rw [hV] at h0 ⊢
 clear hV
 obtain ⟨R,hR⟩:∃ R,(s0 && ((a4 == 0) && ((a5 == 0) && (a6 == 0)))) = R:=⟨_,rfl⟩
 rw [hR]
 cases s0
 case false =>
  have hF:=Lib.hid (show (false) = R by first | exact hR | (rw [← hR];simp))
  clear hR
  have h0:=Lib.hid h0
  go_enter Tryz.func120,Tryz.ntmps120
  go_wp2_with fail
  obtain ⟨W,yy,hW,⟨z,hz⟩,cb0,cb1⟩:=box2n V _ _ 163 66
  rw [hW]
  have c0_0:=cb0 0 _ rfl
  have c0_1:=cb0 1 _ rfl
  have c0_2:=cb0 2 _ rfl
  have c0_3:=cb0 3 _ rfl
  have c0_4:=cb0 4 _ rfl
  have c0_5:=cb0 5 _ rfl
  have c0_6:=cb0 6 _ rfl
  have c1_0:=cb1 0 _ rfl
  have c1_1:=cb1 1 _ rfl
  have c1_2:=cb1 2 _ rfl
  have q0c:=Lib.hid (kp_at hz h0.out)
  have hz':=Lib.hid hz
  clear hW hz cb0 cb1
  refine (q0c.out _).mono ?_
  rintro r w' ⟨rfl,x1,rfl⟩
  go_wp2_with fail
  go_ret
  exact ⟨rb hF.out,pp hz'.out⟩
 case true =>
  by_cases q1:(a4 == 0) = true
  case neg =>
   have q1:(a4 == 0) = false:=by simpa using q1
   have hF:=Lib.hid (show (false) = R by first | exact hR | (rw [← hR];simp [q1]))
   clear hR
   have h0:=Lib.hid h0
   go_enter Tryz.func120,Tryz.ntmps120
   go_wp2_with fail
   obtain ⟨W,yy,hW,⟨z,hz⟩,cb0,cb1⟩:=box2n V _ _ 163 66
   rw [hW]
   have c0_0:=cb0 0 _ rfl
   have c0_1:=cb0 1 _ rfl
   have c0_2:=cb0 2 _ rfl
   have c0_3:=cb0 3 _ rfl
   have c0_4:=cb0 4 _ rfl
   have c0_5:=cb0 5 _ rfl
   have c0_6:=cb0 6 _ rfl
   have c1_0:=cb1 0 _ rfl
   have c1_1:=cb1 1 _ rfl
   have c1_2:=cb1 2 _ rfl
   have q0c:=Lib.hid (kp_at hz h0.out)
   have hz':=Lib.hid hz
   clear hW hz cb0 cb1
   refine (q0c.out _).mono ?_
   rintro r w' ⟨rfl,x1,rfl⟩
   go_wp2_with fail
   go_ret
   exact ⟨rb hF.out,pp hz'.out⟩
  case pos =>
   by_cases q2:(a5 == 0) = true
   case neg =>
    have q2:(a5 == 0) = false:=by simpa using q2
    have hF:=Lib.hid (show (false) = R by first | exact hR | (rw [← hR];simp [q1,q2]))
    clear hR
    have h0:=Lib.hid h0
    go_enter Tryz.func120,Tryz.ntmps120
    go_wp2_with fail
    obtain ⟨W,yy,hW,⟨z,hz⟩,cb0,cb1⟩:=box2n V _ _ 163 66
    rw [hW]
    have c0_0:=cb0 0 _ rfl
    have c0_1:=cb0 1 _ rfl
    have c0_2:=cb0 2 _ rfl
    have c0_3:=cb0 3 _ rfl
    have c0_4:=cb0 4 _ rfl
    have c0_5:=cb0 5 _ rfl
    have c0_6:=cb0 6 _ rfl
    have c1_0:=cb1 0 _ rfl
    have c1_1:=cb1 1 _ rfl
    have c1_2:=cb1 2 _ rfl
    have q0c:=Lib.hid (kp_at hz h0.out)
    have hz':=Lib.hid hz
    clear hW hz cb0 cb1
    refine (q0c.out _).mono ?_
    rintro r w' ⟨rfl,x1,rfl⟩
    go_wp2_with fail
    go_ret
    exact ⟨rb hF.out,pp hz'.out⟩
   case pos =>
    by_cases q3:(a6 == 0) = true
    case neg =>
     have q3:(a6 == 0) = false:=by simpa using q3
     have hF:=Lib.hid (show (false) = R by first | exact hR | (rw [← hR];simp [q1,q2,q3]))
     clear hR
     have h0:=Lib.hid h0
     go_enter Tryz.func120,Tryz.ntmps120
     go_wp2_with fail
     obtain ⟨W,yy,hW,⟨z,hz⟩,cb0,cb1⟩:=box2n V _ _ 163 66
     rw [hW]
     have c0_0:=cb0 0 _ rfl
     have c0_1:=cb0 1 _ rfl
     have c0_2:=cb0 2 _ rfl
     have c0_3:=cb0 3 _ rfl
     have c0_4:=cb0 4 _ rfl
     have c0_5:=cb0 5 _ rfl
     have c0_6:=cb0 6 _ rfl
     have c1_0:=cb1 0 _ rfl
     have c1_1:=cb1 1 _ rfl
     have c1_2:=cb1 2 _ rfl
     have q0c:=Lib.hid (kp_at hz h0.out)
     have hz':=Lib.hid hz
     clear hW hz cb0 cb1
     refine (q0c.out _).mono ?_
     rintro r w' ⟨rfl,x1,rfl⟩
     go_wp2_with fail
     go_ret
     exact ⟨rb hF.out,pp hz'.out⟩
    case pos =>
     have hF:=Lib.hid (show (true) = R by first | exact hR | (rw [← hR];simp [q1,q2,q3]))
     clear hR
     have h0:=Lib.hid h0
     go_enter Tryz.func120,Tryz.ntmps120
     go_wp2_with fail
     obtain ⟨W,yy,hW,⟨z,hz⟩,cb0,cb1⟩:=box2n V _ _ 163 66
     rw [hW]
     have c0_0:=cb0 0 _ rfl
     have c0_1:=cb0 1 _ rfl
     have c0_2:=cb0 2 _ rfl
     have c0_3:=cb0 3 _ rfl
     have c0_4:=cb0 4 _ rfl
     have c0_5:=cb0 5 _ rfl
     have c0_6:=cb0 6 _ rfl
     have c1_0:=cb1 0 _ rfl
     have c1_1:=cb1 1 _ rfl
     have c1_2:=cb1 2 _ rfl
     have q0c:=Lib.hid (kp_at hz h0.out)
     have hz':=Lib.hid hz
     clear hW hz cb0 cb1
     refine (q0c.out _).mono ?_
     rintro r w' ⟨rfl,x1,rfl⟩
     go_wp2_with fail
     go_ret
     exact ⟨rb hF.out,pp hz'.out⟩
set_option maxRecDepth 100000 in
set_option maxHeartbeats 8000000 in
theorem rset_3 (a1:Int) (a2:Int) (a3:Int) (a4:Int) (a5:Int) (a6:Int) (s0:Bool) (s1:Bool) (w:World)
  (h0:Kp Tryz.prog w 123 #[.agg #[.int .i64 a1,.int .u64 a2,.int .u64 a3]] (.bool s0))
  (h1:Kp Tryz.prog w 123 #[.agg #[.int .i64 a4,.int .u64 a5,.int .u64 a6]] (.bool s1)) :
  Kp Tryz.prog w 120 #[.agg #[.int .u8 3,.int .i64 a1,.int .u64 a2,.int .u64 a3,.int .i64 a4,.int .u64 a5,.int .u64 a6]] (.bool (s0 && s1)):=by
 intro y0
 have h0:=h0.up y0
 have h1:=h1.up y0
 obtain ⟨V,hV⟩:∃ V,plus w y0 = V:=⟨_,rfl⟩
 rw [hV] at h0 h1 ⊢
 clear hV
 obtain ⟨R,hR⟩:∃ R,(s0 && s1) = R:=⟨_,rfl⟩
 rw [hR]
 cases s0
 case false =>
  have hF:=Lib.hid (show (false) = R by first | exact hR | (rw [← hR];simp))
  clear hR
  clear h1
  have h0:=Lib.hid h0
  go_enter Tryz.func120,Tryz.ntmps120
  go_wp2_with fail
  obtain ⟨W,yy,hW,⟨z,hz⟩,cb0,cb1⟩:=box2n V _ _ 163 66
  rw [hW]
  have c0_0:=cb0 0 _ rfl
  have c0_1:=cb0 1 _ rfl
  have c0_2:=cb0 2 _ rfl
  have c0_3:=cb0 3 _ rfl
  have c0_4:=cb0 4 _ rfl
  have c0_5:=cb0 5 _ rfl
  have c0_6:=cb0 6 _ rfl
  have c1_0:=cb1 0 _ rfl
  have c1_1:=cb1 1 _ rfl
  have c1_2:=cb1 2 _ rfl
  have q0c:=Lib.hid (kp_at hz h0.out)
  have hz':=Lib.hid hz
  clear hW hz cb0 cb1
  refine (q0c.out _).mono ?_
  rintro r w' ⟨rfl,x1,rfl⟩
  go_wp2_with fail
  go_ret
  exact ⟨rb hF.out,pp hz'.out⟩
 case true =>
  cases s1
  case false =>
   have hF:=Lib.hid (show (false) = R by first | exact hR | (rw [← hR];simp))
   clear hR
   have h0:=Lib.hid h0
   have h1:=Lib.hid h1
   go_enter Tryz.func120,Tryz.ntmps120
   go_wp2_with fail
   obtain ⟨W,yy,hW,⟨z,hz⟩,cb0,cb1⟩:=box2n V _ _ 163 66
   rw [hW]
   have c0_0:=cb0 0 _ rfl
   have c0_1:=cb0 1 _ rfl
   have c0_2:=cb0 2 _ rfl
   have c0_3:=cb0 3 _ rfl
   have c0_4:=cb0 4 _ rfl
   have c0_5:=cb0 5 _ rfl
   have c0_6:=cb0 6 _ rfl
   have c1_0:=cb1 0 _ rfl
   have c1_1:=cb1 1 _ rfl
   have c1_2:=cb1 2 _ rfl
   have q0c:=Lib.hid (kp_at hz h0.out)
   have q1c:=Lib.hid (kp_at hz h1.out)
   have hz':=Lib.hid hz
   clear hW hz cb0 cb1
   refine (q0c.out _).mono ?_
   rintro r w' ⟨rfl,x1,rfl⟩
   go_wp2_with (first | (go_at_call 123;with_reducible refine (q1c.out _).mono ?_;rintro r w' ⟨rfl,x,rfl⟩))
   go_ret
   exact ⟨rb hF.out,pp hz'.out⟩
  case true =>
   have hF:=Lib.hid (show (true) = R by first | exact hR | (rw [← hR];simp))
   clear hR
   have h0:=Lib.hid h0
   have h1:=Lib.hid h1
   go_enter Tryz.func120,Tryz.ntmps120
   go_wp2_with fail
   obtain ⟨W,yy,hW,⟨z,hz⟩,cb0,cb1⟩:=box2n V _ _ 163 66
   rw [hW]
   have c0_0:=cb0 0 _ rfl
   have c0_1:=cb0 1 _ rfl
   have c0_2:=cb0 2 _ rfl
   have c0_3:=cb0 3 _ rfl
   have c0_4:=cb0 4 _ rfl
   have c0_5:=cb0 5 _ rfl
   have c0_6:=cb0 6 _ rfl
   have c1_0:=cb1 0 _ rfl
   have c1_1:=cb1 1 _ rfl
   have c1_2:=cb1 2 _ rfl
   have q0c:=Lib.hid (kp_at hz h0.out)
   have q1c:=Lib.hid (kp_at hz h1.out)
   have hz':=Lib.hid hz
   clear hW hz cb0 cb1
   refine (q0c.out _).mono ?_
   rintro r w' ⟨rfl,x1,rfl⟩
   go_wp2_with (first | (go_at_call 123;with_reducible refine (q1c.out _).mono ?_;rintro r w' ⟨rfl,x,rfl⟩))
   go_ret
   exact ⟨rb hF.out,pp hz'.out⟩
set_option maxRecDepth 100000 in
set_option maxHeartbeats 8000000 in
theorem rset_0 (a0:Int) (a1:Int) (a2:Int) (a3:Int) (a4:Int) (a5:Int) (a6:Int)  (w:World) (hk:¬ (1 ≤ a0 ∧ a0 ≤ 3)) :
  Kp Tryz.prog w 120 #[.agg #[.int .u8 a0,.int .i64 a1,.int .u64 a2,.int .u64 a3,.int .i64 a4,.int .u64 a5,.int .u64 a6]] (.bool (false)):=by
 intro y0
 obtain ⟨V,hV⟩:∃ V,plus w y0 = V:=⟨_,rfl⟩
 rw [hV] at ⊢
 clear hV
 have n1:(a0 == 1) = false:=by simp;omega
 have n2:(a0 == 2) = false:=by simp;omega
 have n3:(a0 == 3) = false:=by simp;omega
 obtain ⟨R,hR⟩:∃ R,(false) = R:=⟨_,rfl⟩
 rw [hR]
 have hF:=Lib.hid (show (false) = R by first | exact hR | (rw [← hR];simp))
 clear hR
 go_enter Tryz.func120,Tryz.ntmps120
 go_wp2_with fail
 go_ret
 exact ⟨rb hF.out,alloc2_plus _ _ _⟩
theorem rset_in (s:Se) (w:World) (h:s.In w):Kp Tryz.prog w 120 #[.agg s.cells.toArray] (.bool (seB s)):=by
 have kv:=rlit_in s.v w h.v
 have km:=rlit_in s.m w h.m
 obtain ⟨k,⟨vw,vh,vl⟩,⟨mw,mh,ml⟩⟩:=s
 unfold seB
 simp only
 by_cases c1:k = 1
 ·subst c1
  exact (rset_1 vw vh vl mw mh ml w).eqv (by rw [show sIs 1 = true from rfl,show sV 1 = false from rfl,show sM 1 = false from rfl];rfl)
 by_cases c2:k = 2
 ·subst c2
  exact (rset_2 vw vh vl mw mh ml _ w kv).eqv (by rw [show sIs 2 = true from rfl,show sV 2 = true from rfl,show sM 2 = false from rfl];rfl)
 by_cases c3:k = 3
 ·subst c3
  exact (rset_3 vw vh vl mw mh ml _ _ w kv km).eqv (by rw [show sIs 3 = true from rfl,show sV 3 = true from rfl,show sM 3 = true from rfl];rfl)
 exact (rset_0 k vw vh vl mw mh ml w (by omega)).eqv (by rw [show sIs k = false by unfold sIs;exact decide_eq_false (by omega)];rfl)
set_option maxRecDepth 100000 in
set_option maxHeartbeats 8000000 in
theorem rblock (deep:Int) (may:St → Bool) (K:St → Prop) (w:World) (A:Sl St) (hA:A.In w 14 St.cells K) (hl:A.l.length ≤ 32) (hp:0 < A.l.length) (hd:deep ≤ 8)
  (hf:∀ x ∈ A.l,Kp Tryz.prog w 121 #[.agg x.cells.toArray,.int .i64 deep] (.bool (may x))) :
  Kp Tryz.prog w 78 #[A.v,.int .i64 deep] (.bool (A.l.all may)):=by
 intro y0
 obtain ⟨p,cap,l⟩:=A
 simp only [Sl.v] at hl hp hf ⊢
 obtain ⟨n,hn⟩:∃ n,l.length = n:=⟨_,rfl⟩
 have hA:=hA.row.plus y0
 have hf:=fun x hx=>((hf x hx).up y0).pure
 obtain ⟨W,hW⟩:∃ W,plus w y0 = W:=⟨_,rfl⟩
 rw [hW] at hA ⊢
 simp only [hW] at hf 
 rw [hn] at hl hp
 have g1:¬ (32:Int) < (n:Int):=by omega
 have g2:(0:Int) < (n:Int):=by omega
 have g3:¬ (8:Int) < deep:=by omega
 clear hp hd
 clear hW
 obtain ⟨R,hR⟩:∃ R,l.all may = R:=⟨_,rfl⟩
 have h0:(l.drop 0).all may = R:=hR
 rw [hn,hR]
 have hA':=Lib.hid hA
 have hn':=Lib.hid hn
 have hl':=Lib.hid hl
 have h0':=Lib.hid h0
 have hf':=Lib.hid hf
 clear hA hl hn hR h0 hf 
 go_enter Tryz.func78,Tryz.ntmps78
 go_wp2
 go_loopw [5] (fun iv wr=>∃ k:Nat,k ≤ n ∧ iv = .int .i64 (k:Int) ∧ Hid ((l.drop k).all may = R) ∧ ∃ y,wr = plus W y) (fun iv _=>n - (intOf iv).toNat)
 case atStart=>exact ⟨0,Nat.zero_le _,rfl,h0',⟨#[],W.drawn⟩,(plus_self W).symm⟩
 case round =>
  obtain ⟨k,hk,rfl,hs,y,rfl⟩:=hrel
  by_cases hlt:k < n
  ·obtain ⟨a,ha⟩:∃ s,l[k]? = some s:=⟨l[k]'(by rw [hn'.out];exact hlt),List.getElem?_eq_getElem _⟩
   obtain ⟨pa,rfl,hc⟩:=hA'.out k a ha
   have hmem:=List.mem_of_getElem? ha
   have hs1:(may a && (l.drop (k + 1)).all may) = R:=by rw [← all_drop may l k a ha];exact hs.out
   have q1:=hf'.out a hmem
   obtain ⟨Z,hZ⟩:∃ Z,may a = Z:=⟨_,rfl⟩
   rw [hZ] at q1 hs1
   obtain ⟨sk,sh,sn,⟨eop,⟨elw,elh,ell⟩,ehd,enm,eeh,eel,ep,ecap,eargs⟩,sp,scap,sthn,sq,scbp,sels⟩:=a
   have q1:PureIn Tryz.prog W 121 #[.agg #[.int .u8 sk,.string sh,.string sn,.int .u8 eop,.int .i64 elw,.int .u64 elh,.int .u64 ell,.string ehd,.string enm,.int .i64 eeh,.int .i64 eel,.slice ep eargs.length ecap,.slice sp sthn.length scap,.slice sq sels.length scbp],.int .i64 deep] (.bool Z):=q1
   have d0:=fun y=>(hc.plus y).c0 _ rfl
   have d1:=fun y=>(hc.plus y).cs 0 _ rfl
   have d2:=fun y=>(hc.plus y).cs 1 _ rfl
   have d3:=fun y=>(hc.plus y).cs 2 _ rfl
   have d4:=fun y=>(hc.plus y).cs 3 _ rfl
   have d5:=fun y=>(hc.plus y).cs 4 _ rfl
   have d6:=fun y=>(hc.plus y).cs 5 _ rfl
   have d7:=fun y=>(hc.plus y).cs 6 _ rfl
   have d8:=fun y=>(hc.plus y).cs 7 _ rfl
   have d9:=fun y=>(hc.plus y).cs 8 _ rfl
   have d10:=fun y=>(hc.plus y).cs 9 _ rfl
   have d11:=fun y=>(hc.plus y).cs 10 _ rfl
   have d12:=fun y=>(hc.plus y).cs 11 _ rfl
   have d13:=fun y=>(hc.plus y).cs 12 _ rfl
   simp only [St.kind,St.head,St.name,St.e,St.p,St.cap,St.thn,St.q,St.cbp,St.els,Ex.op,Ex.lit,Ex.head,Ex.name,Ex.hi,Ex.lo,Ex.p,Ex.cap,Ex.args] at d0 d1 d2 d3 d4 d5 d6 d7 d8 d9 d10 d11 d12 d13
   have q1':=Lib.hid q1
   clear q1 hZ hc ha hs hmem
   cases Z with
   | true =>
    have hs2:=Lib.hid (show (l.drop (k + 1)).all may = R by rw [← hs1,Bool.true_and])
    clear hs1
    go_wp2_with (go_at_call 121;refine (q1'.out _).mono ?_;rintro e w' ⟨rfl,x,rfl⟩)
    go_roundw
    case rel=>exact ⟨k + 1,hlt,rfl,hs2,x,rfl⟩
    case measure=>exact Nat.sub_lt_sub_left hlt (Nat.lt_succ_self k)
   | false =>
    have hs2:=Lib.hid (show false = R by rw [← hs1,Bool.false_and])
    clear hs1
    go_wp2_with (go_at_call 121;refine (q1'.out _).mono ?_;rintro e w' ⟨rfl,x,rfl⟩)
    go_ret
    exact ⟨rb hs2.out,x,rfl⟩
  ·obtain rfl:k = n:=by omega
   have hs2:=Lib.hid (show true = R by
    rw [← hs.out,List.drop_of_length_le (by rw [hn'.out];exact Nat.le_refl _)];rfl)
   clear hs hlt hk
   go_wp2
   go_ret
   exact ⟨rb hs2.out,y,rfl⟩
set_option maxRecDepth 100000 in
set_option maxHeartbeats 8000000 in
theorem rblock_long (p:Option Addr) (n cap:Nat) (deep:Int) (w:World) (g1:(32:Int) < (n:Int)) :
  Kp Tryz.prog w 78 #[.slice p n cap,.int .i64 deep] (.bool (false)):=by
 intro y0
 obtain ⟨V,hV⟩:∃ V,plus w y0 = V:=⟨_,rfl⟩
 rw [hV] at ⊢
 clear hV
 obtain ⟨R,hR⟩:∃ R,(false) = R:=⟨_,rfl⟩
 rw [hR]
 have hF:=Lib.hid (show (false) = R by first | exact hR | (rw [← hR];simp))
 clear hR
 go_enter Tryz.func78,Tryz.ntmps78
 go_wp2_with fail
 go_ret
 exact ⟨rb hF.out,alloc0_plus _⟩
set_option maxRecDepth 100000 in
set_option maxHeartbeats 8000000 in
theorem rblock_deep (p:Option Addr) (n cap:Nat) (deep:Int) (w:World) (g1:¬ (32:Int) < (n:Int)) (g2:(0:Int) < (n:Int)) (g3:(8:Int) < deep) :
  Kp Tryz.prog w 78 #[.slice p n cap,.int .i64 deep] (.bool (false)):=by
 intro y0
 obtain ⟨V,hV⟩:∃ V,plus w y0 = V:=⟨_,rfl⟩
 rw [hV] at ⊢
 clear hV
 obtain ⟨R,hR⟩:∃ R,(false) = R:=⟨_,rfl⟩
 rw [hR]
 have hF:=Lib.hid (show (false) = R by first | exact hR | (rw [← hR];simp))
 clear hR
 go_enter Tryz.func78,Tryz.ntmps78
 go_wp2_with fail
 go_ret
 exact ⟨rb hF.out,alloc0_plus _⟩
set_option maxRecDepth 100000 in
set_option maxHeartbeats 8000000 in
theorem rblock_nil (p:Option Addr) (cap:Nat) (deep:Int) (w:World):Kp Tryz.prog w 78 #[.slice p 0 cap,.int .i64 deep] (.bool true):=by
 intro y0
 obtain ⟨V,hV⟩:∃ V,plus w y0 = V:=⟨_,rfl⟩
 rw [hV]
 clear hV
 go_enter Tryz.func78,Tryz.ntmps78
 go_wp2
 go_loopw [5] (fun iv wr=>iv = .int .i64 0 ∧ ∃ y,wr = plus V y) (fun _ _=>0)
 case atStart=>exact ⟨rfl,⟨#[],V.drawn⟩,(plus_self V).symm⟩
 case round =>
  obtain ⟨rfl,y,rfl⟩:=hrel
  go_wp2
  go_ret
  exact ⟨rfl,y,rfl⟩
theorem rblock_of (deep:Int) (may:St → Bool) (K:St → Prop) (w:World) (A:Sl St) (hA:A.In w 14 St.cells K)
  (hf:deep ≤ 8 → ∀ x ∈ A.l,Kp Tryz.prog w 121 #[.agg x.cells.toArray,.int .i64 deep] (.bool (may x))) :
  Kp Tryz.prog w 78 #[A.v,.int .i64 deep] (.bool (decide (A.l.length ≤ 32) && (decide (A.l.length = 0) || (decide (deep ≤ 8) && A.l.all may)))):=by
 by_cases h1:A.l.length ≤ 32
 ·rw [decide_eq_true h1,Bool.true_and]
  by_cases h2:A.l.length = 0
  ·rw [decide_eq_true h2,Bool.true_or]
   have:=rblock_nil A.p A.cap deep w
   rw [← h2] at this
   exact this
  ·rw [decide_eq_false h2,Bool.false_or]
   by_cases h3:deep ≤ 8
   ·rw [decide_eq_true h3,Bool.true_and]
    exact rblock deep may K w A hA h1 (by omega) h3 (hf h3)
   ·rw [decide_eq_false h3,Bool.false_and]
    exact rblock_deep A.p A.l.length A.cap deep w (by omega) (by omega) (by omega)
 ·rw [decide_eq_false h1,Bool.false_and]
  exact rblock_long A.p A.l.length A.cap deep w (by omega)
end Go.Proofs.YtlmhldcebllckaaGreat
