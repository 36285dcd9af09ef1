/-
  WHAT IS PROVED HERE: a part of the proof (made narrower and merged by program; the parts: Jl).
-/
import Derived.Test.YtlmhldcebllckaaGreatRows
import Derived.WalkKit
import Derived.Lib.Hide
import Derived.WalkSpells
import Derived.WalkLawsBesides
import Derived.Laws.EntriesVeiled
import Derived.Shelf.Abstract
import Derived.Deep.CutRange
import Derived.Test.YtlmhldcebllckaaGreatM43
import Derived.Test.YtlmhldcebllckaaGreatM48
namespace Go.Proofs.YtlmhldcebllckaaGreat
open Go.RowKit
theorem len_off {k x:Nat} (v s T:Bool) (h:¬ k = x):false = (v && (decide ((k:Int) ≤ (x:Int)) && decide ((x:Int) ≤ (k:Int)) && s) && T):=by
 rcases Nat.lt_or_gt_of_ne h with g | g
 ·rw [decide_eq_false (show ¬ (x:Int) ≤ (k:Int) by omega),Bool.and_false,Bool.false_and,Bool.and_false,Bool.false_and]
 ·rw [decide_eq_false (show ¬ (k:Int) ≤ (x:Int) by omega),Bool.false_and,Bool.false_and,Bool.and_false,Bool.false_and]
set_option maxRecDepth 100000 in
set_option maxHeartbeats 8000000 in
theorem rstate_to (a0:ByteArray) (a1p:Option Addr) (a1n:Nat) (a1c:Nat) (a2:ByteArray) (a3p:Option Addr) (a3n:Nat) (a3c:Nat) (a4p:Option Addr) (a4n:Nat) (a4c:Nat) (s0 s1 s2:Bool) (w:World) (ht:(a2.toList == []) = false)
  (h0:Kp Tryz.prog w 75 #[.string a0] (.bool s0))
  (h1:Kp Tryz.prog w 80 #[.slice a1p a1n a1c] (.bool s1))
  (h2:Kp Tryz.prog w 118 #[.string a2] (.bool s2)) :
  Kp Tryz.prog w 77 #[.agg #[.string a0,.slice a1p a1n a1c,.string a2,.slice a3p a3n a3c,.slice a4p a4n a4c]] (.bool (s0 && (!decide ((8:Int) < (a1n:Int)) && (s1 && (s2 && (((a3n:Int) == 0) && ((a4n:Int) == 0))))))):=by
 intro y0
 have h0:=h0.up y0
 have h1:=h1.up y0
 have h2:=h2.up y0
 obtain ⟨V,hV⟩:∃ V,plus w y0 = V:=⟨_,rfl⟩
 rw [hV] at h0 h1 h2 ⊢
 clear hV
 have htx:¬ a2.toList = []:=by simpa using ht
 have hty:(a2.toList != []) = true:=by simpa using ht
 obtain ⟨R,hR⟩:∃ R,(s0 && (!decide ((8:Int) < (a1n:Int)) && (s1 && (s2 && (((a3n:Int) == 0) && ((a4n:Int) == 0)))))) = R:=⟨_,rfl⟩
 rw [hR]
 cases s0
 case false =>
  have hF:=Lib.hid (show (false) = R by first | exact hR | (rw [← hR];simp))
  clear hR
  clear h1 h2
  have h0:=Lib.hid h0
  go_enter Tryz.func77,Tryz.ntmps77
  go_wp2_with fail
  obtain ⟨W,yy,hW,⟨z,hz⟩,cb0⟩:=box1n V _ 52
  rw [hW]
  have c0_0:=cb0 0 _ rfl
  have c0_1:=cb0 1 _ rfl
  have c0_2:=cb0 2 _ rfl
  have c0_3:=cb0 3 _ rfl
  have c0_4:=cb0 4 _ rfl
  have q0c:=Lib.hid (kp_at hz h0.out)
  have hz':=Lib.hid hz
  clear hW hz cb0
  refine (q0c.out _).mono ?_
  rintro r w' ⟨rfl,x1,rfl⟩
  go_wp2_with fail
  go_ret
  exact ⟨rb hF.out,pp hz'.out⟩
 case true =>
  by_cases q1:(8:Int) < (a1n:Int)
  case neg =>
   cases s1
   case false =>
    have hF:=Lib.hid (show (false) = R by first | exact hR | (rw [← hR];simp [q1]))
    clear hR
    clear h2
    have h0:=Lib.hid h0
    have h1:=Lib.hid h1
    go_enter Tryz.func77,Tryz.ntmps77
    go_wp2_with fail
    obtain ⟨W,yy,hW,⟨z,hz⟩,cb0⟩:=box1n V _ 52
    rw [hW]
    have c0_0:=cb0 0 _ rfl
    have c0_1:=cb0 1 _ rfl
    have c0_2:=cb0 2 _ rfl
    have c0_3:=cb0 3 _ rfl
    have c0_4:=cb0 4 _ rfl
    have q0c:=Lib.hid (kp_at hz h0.out)
    have q1c:=Lib.hid (kp_at hz h1.out)
    have hz':=Lib.hid hz
    clear hW hz cb0
    refine (q0c.out _).mono ?_
    rintro r w' ⟨rfl,x1,rfl⟩
    go_wp2_with (first | (go_at_call 80;with_reducible refine (q1c.out _).mono ?_;rintro r w' ⟨rfl,x,rfl⟩))
    go_ret
    exact ⟨rb hF.out,pp hz'.out⟩
   case true =>
    cases s2
    case false =>
     have hF:=Lib.hid (show (false) = R by first | exact hR | (rw [← hR];simp [q1]))
     clear hR
     have h0:=Lib.hid h0
     have h1:=Lib.hid h1
     have h2:=Lib.hid h2
     go_enter Tryz.func77,Tryz.ntmps77
     go_wp2_with fail
     obtain ⟨W,yy,hW,⟨z,hz⟩,cb0⟩:=box1n V _ 52
     rw [hW]
     have c0_0:=cb0 0 _ rfl
     have c0_1:=cb0 1 _ rfl
     have c0_2:=cb0 2 _ rfl
     have c0_3:=cb0 3 _ rfl
     have c0_4:=cb0 4 _ rfl
     have q0c:=Lib.hid (kp_at hz h0.out)
     have q1c:=Lib.hid (kp_at hz h1.out)
     have q2c:=Lib.hid (kp_at hz h2.out)
     have hz':=Lib.hid hz
     clear hW hz cb0
     refine (q0c.out _).mono ?_
     rintro r w' ⟨rfl,x1,rfl⟩
     go_wp2_with (first | (go_at_call 80;with_reducible refine (q1c.out _).mono ?_;rintro r w' ⟨rfl,x,rfl⟩) | (go_at_call 118;with_reducible refine (q2c.out _).mono ?_;rintro r w' ⟨rfl,x,rfl⟩))
     go_ret
     exact ⟨rb hF.out,pp hz'.out⟩
    case true =>
     by_cases q2:((a3n:Int) == 0) = true
     case neg =>
      have q2:((a3n:Int) == 0) = false:=by simpa using q2
      have hF:=Lib.hid (show (false) = R by first | exact hR | (rw [← hR];simp [q1,q2]))
      clear hR
      have h0:=Lib.hid h0
      have h1:=Lib.hid h1
      have h2:=Lib.hid h2
      go_enter Tryz.func77,Tryz.ntmps77
      go_wp2_with fail
      obtain ⟨W,yy,hW,⟨z,hz⟩,cb0⟩:=box1n V _ 52
      rw [hW]
      have c0_0:=cb0 0 _ rfl
      have c0_1:=cb0 1 _ rfl
      have c0_2:=cb0 2 _ rfl
      have c0_3:=cb0 3 _ rfl
      have c0_4:=cb0 4 _ rfl
      have q0c:=Lib.hid (kp_at hz h0.out)
      have q1c:=Lib.hid (kp_at hz h1.out)
      have q2c:=Lib.hid (kp_at hz h2.out)
      have hz':=Lib.hid hz
      clear hW hz cb0
      refine (q0c.out _).mono ?_
      rintro r w' ⟨rfl,x1,rfl⟩
      go_wp2_with (first | (go_at_call 80;with_reducible refine (q1c.out _).mono ?_;rintro r w' ⟨rfl,x,rfl⟩) | (go_at_call 118;with_reducible refine (q2c.out _).mono ?_;rintro r w' ⟨rfl,x,rfl⟩))
      go_ret
      exact ⟨rb hF.out,pp hz'.out⟩
     case pos =>
      by_cases q3:((a4n:Int) == 0) = true
      case neg =>
       have q3:((a4n:Int) == 0) = false:=by simpa using q3
       have hF:=Lib.hid (show (false) = R by first | exact hR | (rw [← hR];simp [q1,q2,q3]))
       clear hR
       have h0:=Lib.hid h0
       have h1:=Lib.hid h1
       have h2:=Lib.hid h2
       go_enter Tryz.func77,Tryz.ntmps77
       go_wp2_with fail
       obtain ⟨W,yy,hW,⟨z,hz⟩,cb0⟩:=box1n V _ 52
       rw [hW]
       have c0_0:=cb0 0 _ rfl
       have c0_1:=cb0 1 _ rfl
       have c0_2:=cb0 2 _ rfl
       have c0_3:=cb0 3 _ rfl
       have c0_4:=cb0 4 _ rfl
       have q0c:=Lib.hid (kp_at hz h0.out)
       have q1c:=Lib.hid (kp_at hz h1.out)
       have q2c:=Lib.hid (kp_at hz h2.out)
       have hz':=Lib.hid hz
       clear hW hz cb0
       refine (q0c.out _).mono ?_
       rintro r w' ⟨rfl,x1,rfl⟩
       go_wp2_with (first | (go_at_call 80;with_reducible refine (q1c.out _).mono ?_;rintro r w' ⟨rfl,x,rfl⟩) | (go_at_call 118;with_reducible refine (q2c.out _).mono ?_;rintro r w' ⟨rfl,x,rfl⟩))
       go_ret
       exact ⟨rb hF.out,pp hz'.out⟩
      case pos =>
       have hF:=Lib.hid (show (true) = R by first | exact hR | (rw [← hR];simp [q1,q2,q3]))
       clear hR
       have h0:=Lib.hid h0
       have h1:=Lib.hid h1
       have h2:=Lib.hid h2
       go_enter Tryz.func77,Tryz.ntmps77
       go_wp2_with fail
       obtain ⟨W,yy,hW,⟨z,hz⟩,cb0⟩:=box1n V _ 52
       rw [hW]
       have c0_0:=cb0 0 _ rfl
       have c0_1:=cb0 1 _ rfl
       have c0_2:=cb0 2 _ rfl
       have c0_3:=cb0 3 _ rfl
       have c0_4:=cb0 4 _ rfl
       have q0c:=Lib.hid (kp_at hz h0.out)
       have q1c:=Lib.hid (kp_at hz h1.out)
       have q2c:=Lib.hid (kp_at hz h2.out)
       have hz':=Lib.hid hz
       clear hW hz cb0
       refine (q0c.out _).mono ?_
       rintro r w' ⟨rfl,x1,rfl⟩
       go_wp2_with (first | (go_at_call 80;with_reducible refine (q1c.out _).mono ?_;rintro r w' ⟨rfl,x,rfl⟩) | (go_at_call 118;with_reducible refine (q2c.out _).mono ?_;rintro r w' ⟨rfl,x,rfl⟩))
       go_ret
       exact ⟨rb hF.out,pp hz'.out⟩
  case pos =>
   have hF:=Lib.hid (show (false) = R by first | exact hR | (rw [← hR];simp [q1]))
   clear hR
   clear h1 h2
   have h0:=Lib.hid h0
   go_enter Tryz.func77,Tryz.ntmps77
   go_wp2_with fail
   obtain ⟨W,yy,hW,⟨z,hz⟩,cb0⟩:=box1n V _ 52
   rw [hW]
   have c0_0:=cb0 0 _ rfl
   have c0_1:=cb0 1 _ rfl
   have c0_2:=cb0 2 _ rfl
   have c0_3:=cb0 3 _ rfl
   have c0_4:=cb0 4 _ rfl
   have q0c:=Lib.hid (kp_at hz h0.out)
   have hz':=Lib.hid hz
   clear hW hz cb0
   refine (q0c.out _).mono ?_
   rintro r w' ⟨rfl,x1,rfl⟩
   go_wp2_with fail
   go_ret
   exact ⟨rb hF.out,pp hz'.out⟩
set_option maxRecDepth 100000 in
set_option maxHeartbeats 8000000 in
theorem rstate_keys (t:Sa) (w:World) (h:t.In w) (hz:t.sz ≤ 1048576) (ht:(t.to.toList == []) = true):Kp Tryz.prog w 77 #[.agg t.cells.toArray] (.bool (saB t)):=by
 intro y0
 have h:=h.plus y0
 obtain ⟨V,hV⟩:∃ V,plus w y0 = V:=⟨_,rfl⟩
 rw [hV] at h ⊢
 clear hV
 unfold Sa.sz at hz
 have hcs:t.cases.size Ca.sz ≤ 1048576:=by omega
 have bcn:t.cases.l.length ≤ 1048576:=len_le Ca.sz sz_pos_ca _ hcs
 have c0:=rname_in t.name V
 have c1:=rnames_in t.takes V h.takes (by omega)
 have c2:=rexprs_in t.keys V h.keys (by omega)
 have rc:=h.cases.row
 have cs:=fun x (hx:x ∈ t.cases.l)=>(show (Ca.sets x).l.length ≤ 1048576 ∧ RowAt V 7 Se.cells (Ca.sets x).p (Ca.sets x).l ∧ ∀ y ∈ (Ca.sets x).l,y.In V from ⟨len_le Se.sz (fun _=>Nat.le_refl _) _ (by have:=one_sz hcs hx;unfold Ca.sz at this;omega),(h.cases.kids x hx).sets.row,(h.cases.kids x hx).sets.kids⟩)
 obtain ⟨nm,⟨tp,tc,tl⟩,tgt,⟨kp,kc,kl⟩,⟨cp,cc,cl⟩⟩:=t
 simp only [Sl.v] at bcn c0 c1 c2 rc cs ht
 clear h hz hcs
 have e0:decide ((0:Int) ≤ (tl.length:Int)) = true:=decide_eq_true (by omega)
 have hT:saB ⟨nm,⟨tp,tc,tl⟩,tgt,⟨kp,kc,kl⟩,⟨cp,cc,cl⟩⟩ = ((nameB nm && ((!decide ((8:Int) < (tl.length:Int))) && tl.all nameB)) && (((!decide ((kl.length:Int) < 1)) && ((!decide ((4:Int) < (kl.length:Int))) && ((!decide ((cl.length:Int) < 1)) && ((!decide ((16:Int) < (cl.length:Int))) && kl.all (Ex.may 16))))) && cl.all (caB (kl.length:Int)))):=by
  simp only [saB,saT,ht,if_true,eachB,ndec,e0,Bool.true_and]
  ac_rfl
 rw [hT]
 clear hT e0
 show Calls Tryz.prog 77 #[.agg #[.string nm,.slice tp tl.length tc,.string tgt,.slice kp kl.length kc,.slice cp cl.length cc]] V _
 have htx:tgt.toList = []:=by simpa using ht
 have hty:(tgt.toList != []) = false:=by simpa using ht
 generalize nameB nm = s0 at c0 ⊢
 generalize tl.all nameB = s1 at c1 ⊢
 generalize kl.all (Ex.may 16) = s2 at c2 ⊢
 generalize tl.length = tn at c1 ⊢
 generalize kl.length = kn at c2 ⊢
 obtain ⟨cn,hcn⟩:∃ n,cl.length = n:=⟨_,rfl⟩
 rw [hcn] at bcn ⊢
 obtain ⟨A,hA⟩:∃ A,cl.all (caB (kn:Int)) = A:=⟨_,rfl⟩
 obtain ⟨G,hG⟩:∃ A,(s0 && ((!decide ((8:Int) < (tn:Int))) && s1)) = A:=⟨_,rfl⟩
 obtain ⟨H,hH⟩:∃ A,((!decide ((kn:Int) < 1)) && ((!decide ((4:Int) < (kn:Int))) && ((!decide ((cn:Int) < 1)) && ((!decide ((16:Int) < (cn:Int))) && s2)))) = A:=⟨_,rfl⟩
 obtain ⟨R,hR⟩:∃ B,(G && (H && A)) = B:=⟨_,rfl⟩
 obtain ⟨C,hC⟩:∃ A,(!G) = A:=⟨_,rfl⟩
 obtain ⟨D,hD⟩:∃ A,(!H) = A:=⟨_,rfl⟩
 rw [hA,hG,hH,hR]
 have bcn':=Lib.hid bcn
 have c0':=Lib.hid c0
 have c1':=Lib.hid c1
 have c2':=Lib.hid c2
 have rc':=Lib.hid rc
 have cs':=Lib.hid cs
 have hcn':=Lib.hid hcn
 have hA':=Lib.hid hA
 have hG':=Lib.hid hG
 have hH':=Lib.hid hH
 have hR':=Lib.hid hR
 have hC':=Lib.hid hC
 have hD':=Lib.hid hD
 clear bcn c0 c1 c2 rc cs hcn hA hG hH hR hC hD
 go_enter Tryz.func77,Tryz.ntmps77
 go_upto_region 1 with (fail)
 obtain ⟨W,yy,hW,⟨z,hz⟩,cb0⟩:=box1n V _ 52
 rw [hW]
 have e0_0:=cb0 0 _ rfl
 have e0_1:=cb0 1 _ rfl
 have e0_2:=cb0 2 _ rfl
 have e0_3:=cb0 3 _ rfl
 have e0_4:=cb0 4 _ rfl
 have q0c:=Lib.hid (kp_at hz c0'.out)
 have q1c:=Lib.hid (kp_at hz c1'.out)
 have q2c:=Lib.hid (kp_at hz c2'.out)
 have hz':=Lib.hid hz
 clear hW hz cb0 c0' c1' c2'
 go_cut [21] from 6 to 21 (fun v wx=>v = .bool C ∧ ∃ y,wx = plus W y)
 case first =>
  cases s0
  case false =>
   have hF:=Lib.hid (show (true) = C by rw [← hC'.out,← hG'.out];simp)
   go_wp2_with (first | (go_at_call 75;with_reducible refine (q0c.out _).mono ?_;rintro r w' ⟨rfl,x,rfl⟩))
   go_meet
   first | exact ⟨congrArg Value.bool hF.out,_,rfl⟩ | exact ⟨congrArg Value.bool (Eq.trans (by simp) hF.out),_,rfl⟩
  case true =>
   by_cases q1:(8:Int) < (tn:Int)
   case pos =>
    have hF:=Lib.hid (show (true) = C by rw [← hC'.out,← hG'.out];simp [q1])
    go_wp2_with (first | (go_at_call 75;with_reducible refine (q0c.out _).mono ?_;rintro r w' ⟨rfl,x,rfl⟩))
    go_meet
    first | exact ⟨congrArg Value.bool hF.out,_,rfl⟩ | exact ⟨congrArg Value.bool (Eq.trans (by simp [q1]) hF.out),_,rfl⟩
   case neg =>
    cases s1
    case false =>
     have hF:=Lib.hid (show (true) = C by rw [← hC'.out,← hG'.out];simp [q1])
     go_wp2_with (first | (go_at_call 75;with_reducible refine (q0c.out _).mono ?_;rintro r w' ⟨rfl,x,rfl⟩) | (go_at_call 80;with_reducible refine (q1c.out _).mono ?_;rintro r w' ⟨rfl,x,rfl⟩))
     go_meet
     first | exact ⟨congrArg Value.bool hF.out,_,rfl⟩ | exact ⟨congrArg Value.bool (Eq.trans (by simp [q1]) hF.out),_,rfl⟩
    case true =>
     have hF:=Lib.hid (show (false) = C by rw [← hC'.out,← hG'.out];simp [q1])
     go_wp2_with (first | (go_at_call 75;with_reducible refine (q0c.out _).mono ?_;rintro r w' ⟨rfl,x,rfl⟩) | (go_at_call 80;with_reducible refine (q1c.out _).mono ?_;rintro r w' ⟨rfl,x,rfl⟩))
     go_meet
     first | exact ⟨congrArg Value.bool hF.out,_,rfl⟩ | exact ⟨congrArg Value.bool (Eq.trans (by simp [q1]) hF.out),_,rfl⟩
 case rest =>
  obtain ⟨rfl,y1,rfl⟩:=hcut
  clear hG' q0c q1c
  cases G with
  | false =>
   have e:true = C:=hC'.out
   subst e
   have hs2:=Lib.hid (show false = R from hR'.out)
   clear hC'
   go_wp2_with fail
   go_ret
   exact ⟨rb hs2.out,pp hz'.out⟩
  | true =>
   have e:false = C:=hC'.out
   subst e
   have hR2:=Lib.hid (show (H && A) = R from hR'.out)
   clear hC' hR'
   go_upto_region 5 with (fail)
   go_cut [67] from 40 to 67 (fun v wx=>v = .bool D ∧ ∃ y,wx = plus W y)
   case first =>
    by_cases q0:(kn:Int) < 1
    case pos =>
     have hF:=Lib.hid (show (true) = D by rw [← hD'.out,← hH'.out];simp [q0])
     go_wp2_with (fail)
     go_meet
     first | exact ⟨congrArg Value.bool hF.out,_,rfl⟩ | exact ⟨congrArg Value.bool (Eq.trans (by simp [q0]) hF.out),_,rfl⟩
    case neg =>
     by_cases q1:(4:Int) < (kn:Int)
     case pos =>
      have hF:=Lib.hid (show (true) = D by rw [← hD'.out,← hH'.out];simp [q0,q1])
      go_wp2_with (fail)
      go_meet
      first | exact ⟨congrArg Value.bool hF.out,_,rfl⟩ | exact ⟨congrArg Value.bool (Eq.trans (by simp [q0,q1]) hF.out),_,rfl⟩
     case neg =>
      by_cases q2:(cn:Int) < 1
      case pos =>
       have hF:=Lib.hid (show (true) = D by rw [← hD'.out,← hH'.out];simp [q0,q1,q2])
       go_wp2_with (fail)
       go_meet
       first | exact ⟨congrArg Value.bool hF.out,_,rfl⟩ | exact ⟨congrArg Value.bool (Eq.trans (by simp [q0,q1,q2]) hF.out),_,rfl⟩
      case neg =>
       by_cases q3:(16:Int) < (cn:Int)
       case pos =>
        have hF:=Lib.hid (show (true) = D by rw [← hD'.out,← hH'.out];simp [q0,q1,q2,q3])
        go_wp2_with (fail)
        go_meet
        first | exact ⟨congrArg Value.bool hF.out,_,rfl⟩ | exact ⟨congrArg Value.bool (Eq.trans (by simp [q0,q1,q2,q3]) hF.out),_,rfl⟩
       case neg =>
        cases s2
        case false =>
         have hF:=Lib.hid (show (true) = D by rw [← hD'.out,← hH'.out];simp [q0,q1,q2,q3])
         go_wp2_with (first | (go_at_call 119;with_reducible refine (q2c.out _).mono ?_;rintro r w' ⟨rfl,x,rfl⟩))
         go_meet
         first | exact ⟨congrArg Value.bool hF.out,_,rfl⟩ | exact ⟨congrArg Value.bool (Eq.trans (by simp [q0,q1,q2,q3]) hF.out),_,rfl⟩
        case true =>
         have hF:=Lib.hid (show (false) = D by rw [← hD'.out,← hH'.out];simp [q0,q1,q2,q3])
         go_wp2_with (first | (go_at_call 119;with_reducible refine (q2c.out _).mono ?_;rintro r w' ⟨rfl,x,rfl⟩))
         go_meet
         first | exact ⟨congrArg Value.bool hF.out,_,rfl⟩ | exact ⟨congrArg Value.bool (Eq.trans (by simp [q0,q1,q2,q3]) hF.out),_,rfl⟩
   case rest =>
    obtain ⟨rfl,y2,rfl⟩:=hcut
    clear hH' q2c
    cases H with
    | false =>
     have e:true = D:=hD'.out
     subst e
     have hs2:=Lib.hid (show false = R from hR2.out)
     clear hD'
     go_wp2_with fail
     go_ret
     exact ⟨rb hs2.out,pp hz'.out⟩
    | true =>
     have e:false = D:=hD'.out
     subst e
     have h0:=Lib.hid (show (cl.drop 0).all (caB (kn:Int)) = R by rw [List.drop_zero,hA'.out];exact hR2.out)
     clear hD' hA' hR2
     go_wp2_with fail
     go_loopw [3] (fun iv wr=>∃ k:Nat,k ≤ cn ∧ iv = .int .i64 (k:Int) ∧ Hid ((cl.drop k).all (caB (kn:Int)) = R) ∧ ∃ y,wr = plus W y) (fun iv _=>cn - (intOf iv).toNat)
     case atStart=>exact ⟨0,Nat.zero_le _,rfl,h0,_,rfl⟩
     case round =>
      obtain ⟨k,hk,rfl,hs,y,rfl⟩:=hrel
      by_cases hlt:k < cn
      ·obtain ⟨a,ha⟩:∃ s,cl[k]? = some s:=⟨cl[k]'(by rw [hcn'.out];exact hlt),List.getElem?_eq_getElem _⟩
       obtain ⟨pa,rfl,hcV⟩:=rc'.out k a ha
       have hmem:=List.mem_of_getElem? ha
       have hs1:((caB (kn:Int)) a && (cl.drop (k + 1)).all (caB (kn:Int))) = R:=by rw [← all_drop (caB (kn:Int)) cl k a ha];exact hs.out
       have a6:=Lib.hid (wr_succ k cn hlt bcn'.out)
       have hc:=hz'.out ▸ hcV.plus z
       clear hcV
       obtain ⟨df,⟨xp,xc,xl⟩,xt⟩:=a
       obtain ⟨bx,rx,sx⟩:=cs'.out _ hmem
       simp only at bx rx sx
       have d0:=fun y=>(hc.plus y).c0 _ rfl
       have d1:=fun y=>(hc.plus y).cs 0 _ rfl
       have d2:=fun y=>(hc.plus y).cs 1 _ rfl
       simp only [Sl.v] at d0 d1 d2
       obtain ⟨xn,hxn⟩:∃ n,xl.length = n:=⟨_,rfl⟩
       rw [hxn] at bx d1
       simp only [caB,eachB] at hs1
       rw [hxn] at hs1
       have bx':=Lib.hid bx
       have rx':=Lib.hid rx
       have sx':=Lib.hid sx
       have hxn':=Lib.hid hxn
       have hs1':=Lib.hid hs1
       clear hc ha hs hmem bx rx sx hxn hs1
       go_upto_region 11 with (fail)
       obtain ⟨W2,y3,hW2,⟨z2,hz2⟩,cx⟩:=box1n (plus W y) _ 57
       rw [hW2]
       have x0:=cx 0 _ rfl
       have x1:=cx 1 _ rfl
       have x2:=cx 2 _ rfl
       have f0_3:=fun y=>cell_keep (cell_at hz2 (e0_3 _)) y
       have f0_4:=fun y=>cell_keep (cell_at hz2 (e0_4 _)) y
       obtain ⟨z3,hz3⟩:∃ z,W2 = plus W z:=⟨_,hz2.trans (plus_plus _ _ _)⟩
       obtain ⟨z4,hz4⟩:∃ z,W2 = plus V z:=⟨_,by rw [hz3,hz'.out,plus_plus]⟩
       have q0:=Lib.hid (rtarget_in xt W2).pure
       have hz3':=Lib.hid hz3
       have hz4':=Lib.hid hz4
       clear hW2 cx hz2 hz3 hz4
       generalize hvt:tgtB xt = vt at q0 hs1'
       clear hvt
       cases df with
       | true =>
        obtain ⟨P,hP⟩:∃ P,(vt && (!decide ((0:Int) < (xn:Int)))) = P:=⟨_,rfl⟩
        obtain ⟨Q,hQ⟩:∃ Q,(!P) = Q:=⟨_,rfl⟩
        have hs1:((P && xl.all seB) && (cl.drop (k + 1)).all (caB (kn:Int))) = R:=by rw [← hs1'.out,← hP];simp only [caK,if_true,ndec];rw [show decide ((0:Int) ≤ (xn:Int)) = true from decide_eq_true (by omega),Bool.true_and];ac_rfl
        have hP':=Lib.hid hP
        have hQ':=Lib.hid hQ
        have hs3':=Lib.hid hs1
        clear hP hQ hs1 hs1'
        go_cut [107] from 68 to 121 (fun v wx=>v = .bool Q ∧ ∃ y,wx = plus W2 y)
        case first =>
         cases vt
         case false =>
          have hF:=Lib.hid (show (true) = Q by rw [← hQ'.out,← hP'.out];simp)
          go_wp2_with (first | (go_at_call 118;with_reducible refine (q0.out _).mono ?_;rintro r w' ⟨rfl,x,rfl⟩))
          go_meet
          first | exact ⟨congrArg Value.bool hF.out,_,rfl⟩ | exact ⟨congrArg Value.bool (Eq.trans (by simp) hF.out),_,rfl⟩
         case true =>
          by_cases u1:(0:Int) < (xn:Int)
          case pos =>
           have u1z:0 < xn:=by omega
           have hF:=Lib.hid (show (true) = Q by rw [← hQ'.out,← hP'.out];simp [u1z])
           go_wp2_with (first | (go_at_call 118;with_reducible refine (q0.out _).mono ?_;rintro r w' ⟨rfl,x,rfl⟩))
           go_meet
           first | exact ⟨congrArg Value.bool hF.out,_,rfl⟩ | exact ⟨congrArg Value.bool (Eq.trans (by simp [u1z]) hF.out),_,rfl⟩
          case neg =>
           have u1z:¬ 0 < xn:=by omega
           have hF:=Lib.hid (show (false) = Q by rw [← hQ'.out,← hP'.out];simp [u1z])
           go_wp2_with (first | (go_at_call 118;with_reducible refine (q0.out _).mono ?_;rintro r w' ⟨rfl,x,rfl⟩))
           go_meet
           first | exact ⟨congrArg Value.bool hF.out,_,rfl⟩ | exact ⟨congrArg Value.bool (Eq.trans (by simp [u1z]) hF.out),_,rfl⟩
        case rest =>
         obtain ⟨rfl,y4,rfl⟩:=hcut
         clear hP' q0
         cases P with
         | false =>
          have e:true = Q:=hQ'.out
          subst e
          have hs2:=Lib.hid (show false = R from hs3'.out)
          clear hQ'
          go_wp2_with fail
          go_ret
          exact ⟨rb hs2.out,by rw [hz4'.out,plus_plus];exact ⟨_,rfl⟩⟩
         | true =>
          have e:false = Q:=hQ'.out
          subst e
          have h0i:=Lib.hid (show ((xl.drop 0).all seB && (cl.drop (k + 1)).all (caB (kn:Int))) = R by rw [List.drop_zero];exact hs3'.out)
          clear hQ' hs3'
          go_wp2_with fail
          go_loopw [5] (fun iv wr=>∃ ki:Nat,ki ≤ xn ∧ iv = .int .i64 (ki:Int) ∧ Hid (((xl.drop ki).all seB && (cl.drop (k + 1)).all (caB (kn:Int))) = R) ∧ ∃ y,wr = plus W2 y) (fun iv _=>xn - (intOf iv).toNat)
          case atStart=>exact ⟨0,Nat.zero_le _,rfl,h0i,_,rfl⟩
          case round =>
           obtain ⟨ki,hki,rfl,hsi,yi,rfl⟩:=hrel
           by_cases hlti:ki < xn
           ·obtain ⟨a,ha⟩:∃ s,xl[ki]? = some s:=⟨xl[ki]'(by rw [hxn'.out];exact hlti),List.getElem?_eq_getElem _⟩
            obtain ⟨pai,rfl,hcV⟩:=rx'.out ki a ha
            have hmem:=List.mem_of_getElem? ha
            have hs1i:((seB a && (xl.drop (ki + 1)).all seB) && (cl.drop (k + 1)).all (caB (kn:Int))) = R:=by rw [← all_drop seB xl ki a ha];exact hsi.out
            have a6i:=Lib.hid (wr_succ ki xn hlti bx'.out)
            have hc:=hz4'.out ▸ hcV.plus z4
            clear hcV
            have q1:=(rset_in a W2 (hz4'.out ▸ (sx'.out a hmem).plus z4)).pure
            obtain ⟨Z,hZ⟩:∃ Z,seB a = Z:=⟨_,rfl⟩
            rw [hZ] at q1 hs1i
            obtain ⟨sk,⟨vw,vh,vl⟩,⟨mw,mh,ml⟩⟩:=a
            have q1:PureIn Tryz.prog W2 120 #[.agg #[.int .u8 sk,.int .i64 vw,.int .u64 vh,.int .u64 vl,.int .i64 mw,.int .u64 mh,.int .u64 ml]] (.bool Z):=q1
            have d0:=fun y=>(hc.plus y).c0 _ rfl
            have d1:=fun y=>(hc.plus y).cs 0 _ rfl
            have d2:=fun y=>(hc.plus y).cs 1 _ rfl
            have d3:=fun y=>(hc.plus y).cs 2 _ rfl
            have d4:=fun y=>(hc.plus y).cs 3 _ rfl
            have d5:=fun y=>(hc.plus y).cs 4 _ rfl
            have d6:=fun y=>(hc.plus y).cs 5 _ rfl
            simp only at d0 d1 d2 d3 d4 d5 d6
            have q1':=Lib.hid q1
            clear q1 hZ hc ha hsi hmem
            cases Z with
            | false =>
             have hs2:=Lib.hid (show false = R by rw [← hs1i];simp)
             clear hs1i
             go_wp2_with (go_at_call 120;refine (q1'.out _).mono ?_;rintro e w' ⟨rfl,x,rfl⟩)
             go_ret
             exact ⟨rb hs2.out,by rw [hz4'.out,plus_plus];exact ⟨_,rfl⟩⟩
            | true =>
             have hs2:=Lib.hid (show ((xl.drop (ki + 1)).all seB && (cl.drop (k + 1)).all (caB (kn:Int))) = R by rw [← hs1i];simp)
             clear hs1i
             go_wp2_with (go_at_call 120;refine (q1'.out _).mono ?_;rintro e w' ⟨rfl,x,rfl⟩)
             go_roundw
             case rel=>exact ⟨ki + 1,hlti,congrArg (Value.int .i64) a6i.out,hs2,_,rfl⟩
             case measure=>exact step_less ki xn hlti a6i.out
           ·obtain rfl:xn = ki:=by omega
            have hs2:=Lib.hid (show (cl.drop (k + 1)).all (caB (kn:Int)) = R by rw [← hsi.out,List.drop_of_length_le (show xl.length ≤ xn by rw [hxn'.out];exact Nat.le_refl _)];rfl)
            clear hsi hlti hki
            go_wp2_with fail
            go_roundw
            case rel=>exact ⟨k + 1,hlt,congrArg (Value.int .i64) a6.out,hs2,by rw [hz3'.out,plus_plus];exact ⟨_,rfl⟩⟩
            case measure=>exact step_less k cn hlt a6.out
       | false =>
        by_cases hne:kn = xn
        case pos =>
         subst hne
         obtain ⟨P,hP⟩:∃ P,vt = P:=⟨_,rfl⟩
         obtain ⟨Q,hQ⟩:∃ Q,(!P) = Q:=⟨_,rfl⟩
         have hs1:((P && xl.all seB) && (cl.drop (k + 1)).all (caB (kn:Int))) = R:=by rw [← hs1'.out,← hP];simp only [caK,if_false,Bool.false_eq_true];rw [show decide ((kn:Int) ≤ (kn:Int)) = true from decide_eq_true (Int.le_refl _),Bool.true_and,Bool.true_and]
         have hP':=Lib.hid hP
         have hQ':=Lib.hid hQ
         have hs3':=Lib.hid hs1
         clear hP hQ hs1 hs1'
         go_cut [107] from 68 to 121 (fun v wx=>v = .bool Q ∧ ∃ y,wx = plus W2 y)
         case first =>
          cases vt
          case false =>
           have hF:=Lib.hid (show (true) = Q by rw [← hQ'.out,← hP'.out];simp)
           go_wp2_with (first | (go_at_call 118;with_reducible refine (q0.out _).mono ?_;rintro r w' ⟨rfl,x,rfl⟩))
           go_meet
           first | exact ⟨congrArg Value.bool hF.out,_,rfl⟩ | exact ⟨congrArg Value.bool (Eq.trans (by simp) hF.out),_,rfl⟩
          case true =>
           have hF:=Lib.hid (show (false) = Q by rw [← hQ'.out,← hP'.out];simp)
           go_wp2_with (first | (go_at_call 118;with_reducible refine (q0.out _).mono ?_;rintro r w' ⟨rfl,x,rfl⟩))
           go_meet
           first | exact ⟨congrArg Value.bool hF.out,_,rfl⟩ | exact ⟨congrArg Value.bool (Eq.trans (by simp) hF.out),_,rfl⟩
         case rest =>
          obtain ⟨rfl,y4,rfl⟩:=hcut
          clear hP' q0
          cases P with
          | false =>
           have e:true = Q:=hQ'.out
           subst e
           have hs2:=Lib.hid (show false = R from hs3'.out)
           clear hQ'
           go_wp2_with fail
           go_ret
           exact ⟨rb hs2.out,by rw [hz4'.out,plus_plus];exact ⟨_,rfl⟩⟩
          | true =>
           have e:false = Q:=hQ'.out
           subst e
           have h0i:=Lib.hid (show ((xl.drop 0).all seB && (cl.drop (k + 1)).all (caB (kn:Int))) = R by rw [List.drop_zero];exact hs3'.out)
           clear hQ' hs3'
           go_wp2_with fail
           go_loopw [5] (fun iv wr=>∃ ki:Nat,ki ≤ kn ∧ iv = .int .i64 (ki:Int) ∧ Hid (((xl.drop ki).all seB && (cl.drop (k + 1)).all (caB (kn:Int))) = R) ∧ ∃ y,wr = plus W2 y) (fun iv _=>kn - (intOf iv).toNat)
           case atStart=>exact ⟨0,Nat.zero_le _,rfl,h0i,_,rfl⟩
           case round =>
            obtain ⟨ki,hki,rfl,hsi,yi,rfl⟩:=hrel
            by_cases hlti:ki < kn
            ·obtain ⟨a,ha⟩:∃ s,xl[ki]? = some s:=⟨xl[ki]'(by rw [hxn'.out];exact hlti),List.getElem?_eq_getElem _⟩
             obtain ⟨pai,rfl,hcV⟩:=rx'.out ki a ha
             have hmem:=List.mem_of_getElem? ha
             have hs1i:((seB a && (xl.drop (ki + 1)).all seB) && (cl.drop (k + 1)).all (caB (kn:Int))) = R:=by rw [← all_drop seB xl ki a ha];exact hsi.out
             have a6i:=Lib.hid (wr_succ ki kn hlti bx'.out)
             have hc:=hz4'.out ▸ hcV.plus z4
             clear hcV
             have q1:=(rset_in a W2 (hz4'.out ▸ (sx'.out a hmem).plus z4)).pure
             obtain ⟨Z,hZ⟩:∃ Z,seB a = Z:=⟨_,rfl⟩
             rw [hZ] at q1 hs1i
             obtain ⟨sk,⟨vw,vh,vl⟩,⟨mw,mh,ml⟩⟩:=a
             have q1:PureIn Tryz.prog W2 120 #[.agg #[.int .u8 sk,.int .i64 vw,.int .u64 vh,.int .u64 vl,.int .i64 mw,.int .u64 mh,.int .u64 ml]] (.bool Z):=q1
             have d0:=fun y=>(hc.plus y).c0 _ rfl
             have d1:=fun y=>(hc.plus y).cs 0 _ rfl
             have d2:=fun y=>(hc.plus y).cs 1 _ rfl
             have d3:=fun y=>(hc.plus y).cs 2 _ rfl
             have d4:=fun y=>(hc.plus y).cs 3 _ rfl
             have d5:=fun y=>(hc.plus y).cs 4 _ rfl
             have d6:=fun y=>(hc.plus y).cs 5 _ rfl
             simp only at d0 d1 d2 d3 d4 d5 d6
             have q1':=Lib.hid q1
             clear q1 hZ hc ha hsi hmem
             cases Z with
             | false =>
              have hs2:=Lib.hid (show false = R by rw [← hs1i];simp)
              clear hs1i
              go_wp2_with (go_at_call 120;refine (q1'.out _).mono ?_;rintro e w' ⟨rfl,x,rfl⟩)
              go_ret
              exact ⟨rb hs2.out,by rw [hz4'.out,plus_plus];exact ⟨_,rfl⟩⟩
             | true =>
              have hs2:=Lib.hid (show ((xl.drop (ki + 1)).all seB && (cl.drop (k + 1)).all (caB (kn:Int))) = R by rw [← hs1i];simp)
              clear hs1i
              go_wp2_with (go_at_call 120;refine (q1'.out _).mono ?_;rintro e w' ⟨rfl,x,rfl⟩)
              go_roundw
              case rel=>exact ⟨ki + 1,hlti,congrArg (Value.int .i64) a6i.out,hs2,_,rfl⟩
              case measure=>exact step_less ki kn hlti a6i.out
            ·obtain rfl:kn = ki:=by omega
             have hs2:=Lib.hid (show (cl.drop (k + 1)).all (caB (kn:Int)) = R by rw [← hsi.out,List.drop_of_length_le (show xl.length ≤ kn by rw [hxn'.out];exact Nat.le_refl _)];rfl)
             clear hsi hlti hki
             go_wp2_with fail
             go_roundw
             case rel=>exact ⟨k + 1,hlt,congrArg (Value.int .i64) a6.out,hs2,by rw [hz3'.out,plus_plus];exact ⟨_,rfl⟩⟩
             case measure=>exact step_less k cn hlt a6.out
        case neg =>
         have hs2:=Lib.hid (show false = R by rw [← hs1'.out];simp only [caK,if_false,Bool.false_eq_true];exact len_off vt (xl.all seB) _ hne)
         clear hs1'
         cases vt
         case false =>
          go_wp2_with (first | (go_at_call 118;with_reducible refine (q0.out _).mono ?_;rintro r w' ⟨rfl,x,rfl⟩))
          go_ret
          exact ⟨rb hs2.out,by rw [hz4'.out,plus_plus];exact ⟨_,rfl⟩⟩
         case true =>
          go_wp2_with (first | (go_at_call 118;with_reducible refine (q0.out _).mono ?_;rintro r w' ⟨rfl,x,rfl⟩))
          go_ret
          exact ⟨rb hs2.out,by rw [hz4'.out,plus_plus];exact ⟨_,rfl⟩⟩
      ·obtain rfl:cn = k:=by omega
       have hs2:=Lib.hid (show true = R by rw [← hs.out,List.drop_of_length_le (show cl.length ≤ cn by rw [hcn'.out];exact Nat.le_refl _)];rfl)
       clear hs hlt hk
       go_wp2_with fail
       go_ret
       exact ⟨rb hs2.out,pp hz'.out⟩
theorem rstate_in (s:Sa) (w:World) (h:s.In w) (hz:s.sz ≤ 1048576):Kp Tryz.prog w 77 #[.agg s.cells.toArray] (.bool (saB s)):=by
 cases ht:(s.to.toList == []) with
 | true=>exact rstate_keys s w h hz ht
 | false =>
  have hz':=hz
  unfold Sa.sz at hz'
  refine (rstate_to s.name s.takes.p s.takes.l.length s.takes.cap s.to s.keys.p s.keys.l.length s.keys.cap s.cases.p s.cases.l.length s.cases.cap _ _ _ w ht (rname_in s.name w) (rnames_in s.takes w h.takes (by omega)) (rtarget_in s.to w)).eqv ?_
  congr 1
  have e0:decide ((0:Int) ≤ (s.takes.l.length:Int)) = true:=decide_eq_true (by omega)
  simp only [saB,saT,ht,Bool.false_eq_true,if_false,eachB,ndec,e0,Bool.true_and]
  ac_rfl
end Go.Proofs.YtlmhldcebllckaaGreat
