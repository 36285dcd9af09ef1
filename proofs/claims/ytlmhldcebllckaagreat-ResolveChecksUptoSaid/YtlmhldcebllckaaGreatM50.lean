/-
  WHAT IS PROVED HERE: a part of the proof (made narrower and merged by program; the parts: Jm).
-/
import Derived.Test.YtlmhldcebllckaaGreatRows
import Derived.WalkKit
import Derived.Lib.Hide
import Derived.WalkSpells
import Derived.WalkLawsBesides
import Derived.Laws.EntriesVeiled
import Derived.Shelf.Abstract
import Derived.Deep.CutRange
import Derived.Test.YtlmhldcebllckaaGreatM48
import Derived.Test.YtlmhldcebllckaaGreatM49
namespace Go.Proofs.YtlmhldcebllckaaGreat
open Go.RowKit
set_option maxRecDepth 100000 in
set_option maxHeartbeats 16000000 in
theorem rmay_pr (p:Pr) (w:World) (h:p.In w) (hz:p.sz ≤ 1048576):Kp Tryz.prog w 22 #[.agg p.cells.toArray] (.bool (prB p)):=by
 intro y0
 have h:=h.plus y0
 obtain ⟨V,hV⟩:∃ V,plus w y0 = V:=⟨_,rfl⟩
 rw [hV] at h ⊢
 clear hV
 unfold Pr.sz at hz
 have zh:p.headers.size Hr.sz ≤ 1048576:=by omega
 have zs:p.states.size Sa.sz ≤ 1048576:=by omega
 have za:p.actions.size Ac.sz ≤ 1048576:=by omega
 have zt:p.tables.size Ta.sz ≤ 1048576:=by omega
 have bhn:p.headers.l.length ≤ 1048576:=len_le Hr.sz sz_pos_hr _ zh
 have bsn:p.states.l.length ≤ 1048576:=len_le Sa.sz sz_pos_sa _ zs
 have ban:p.actions.l.length ≤ 1048576:=len_le Ac.sz sz_pos_ac _ za
 have btn:p.tables.l.length ≤ 1048576:=len_le Ta.sz sz_pos_ta _ zt
 have c0:=rfields_in p.metas V h.metas (by omega)
 have c1:=rblock_at 8 (Nat.le_refl _) p.control 1 V (by decide) h.control (by omega)
 have c2:=rnames_in p.emit V h.emit (by omega)
 have ch:=fun x (hx:x ∈ p.headers.l)=>rfields_in (Hr.fields x) V (h.headers.kids x hx).fields (by have:=one_sz zh hx;unfold Hr.sz at this;omega)
 have cs:=fun x (hx:x ∈ p.states.l)=>rstate_in x V (h.states.kids x hx) (one_sz zs hx)
 have ca:=fun x (hx:x ∈ p.actions.l)=>rfields_in (Ac.params x) V (h.actions.kids x hx).params (by have:=one_sz za hx;unfold Ac.sz at this;omega)
 have cb:=fun x (hx:x ∈ p.actions.l)=>rblock_at 8 (Nat.le_refl _) (Ac.body x) 1 V (by decide) (h.actions.kids x hx).body (by have:=one_sz za hx;unfold Ac.sz at this;omega)
 have ct:=fun x (hx:x ∈ p.tables.l)=>rtable_in x V (h.tables.kids x hx) (one_sz zt hx)
 have rh:=h.headers.row
 have rs:=h.states.row
 have ra:=h.actions.row
 have rt:=h.tables.row
 obtain ⟨⟨hp,hc,hl⟩,⟨mp,mc,ml⟩,⟨sp,sc,sl⟩,⟨ap,ac,al⟩,⟨tp,tc,tl⟩,⟨cp,cc,cl⟩,⟨ep,ec,el⟩⟩:=p
 simp only [Sl.v] at bhn bsn ban btn c0 c1 c2 ch cs ca cb ct rh rs ra rt
 clear h hz zh zs za zt
 have e1:∀ n:Nat,decide ((0:Int) ≤ (n:Int)) = true:=fun n=>decide_eq_true (by omega)
 have hT:prB ⟨⟨hp,hc,hl⟩,⟨mp,mc,ml⟩,⟨sp,sc,sl⟩,⟨ap,ac,al⟩,⟨tp,tc,tl⟩,⟨cp,cc,cl⟩,⟨ep,ec,el⟩⟩ = (((!decide ((8:Int) < (hl.length:Int))) && ((!decide ((16:Int) < (ml.length:Int))) && ((!decide ((sl.length:Int) < 1)) && ((!decide ((16:Int) < (sl.length:Int))) && ((!decide ((16:Int) < (al.length:Int))) && ((!decide ((8:Int) < (tl.length:Int))) && (!decide ((8:Int) < (el.length:Int))))))))) && (hl.all hrB && (sl.all saB && (al.all acB && (tl.all taB && (ml.all fdB && (St.mayB 8 cl && el.all nameB))))))):=by
  simp only [prB,eachB,ndec,e1,Bool.true_and]
  ac_rfl
 rw [hT]
 clear hT e1
 show Calls Tryz.prog 22 #[.agg #[.slice hp hl.length hc,.slice mp ml.length mc,.slice sp sl.length sc,.slice ap al.length ac,.slice tp tl.length tc,.slice cp cl.length cc,.slice ep el.length ec]] V _
 generalize ml.all fdB = s0 at c0 ⊢
 generalize St.mayB 8 cl = s1 at c1 ⊢
 generalize el.all nameB = s2 at c2 ⊢
 generalize ml.length = mn at c0 ⊢
 generalize cl.length = cn at c1 ⊢
 generalize el.length = en at c2 ⊢
 obtain ⟨hn,hhn⟩:∃ n,hl.length = n:=⟨_,rfl⟩
 obtain ⟨sn,hsn⟩:∃ n,sl.length = n:=⟨_,rfl⟩
 obtain ⟨an,han⟩:∃ n,al.length = n:=⟨_,rfl⟩
 obtain ⟨tn,htn⟩:∃ n,tl.length = n:=⟨_,rfl⟩
 rw [hhn] at bhn ⊢
 rw [hsn] at bsn ⊢
 rw [han] at ban ⊢
 rw [htn] at btn ⊢
 obtain ⟨X4,hX4⟩:∃ A,(s0 && (s1 && s2)) = A:=⟨_,rfl⟩
 obtain ⟨X3,hX3⟩:∃ A,(tl.all taB && X4) = A:=⟨_,rfl⟩
 obtain ⟨X2,hX2⟩:∃ A,(al.all acB && X3) = A:=⟨_,rfl⟩
 obtain ⟨X1,hX1⟩:∃ A,(sl.all saB && X2) = A:=⟨_,rfl⟩
 obtain ⟨X0,hX0⟩:∃ A,(hl.all hrB && X1) = A:=⟨_,rfl⟩
 obtain ⟨G,hG⟩:∃ A,((!decide ((8:Int) < (hn:Int))) && ((!decide ((16:Int) < (mn:Int))) && ((!decide ((sn:Int) < 1)) && ((!decide ((16:Int) < (sn:Int))) && ((!decide ((16:Int) < (an:Int))) && ((!decide ((8:Int) < (tn:Int))) && (!decide ((8:Int) < (en:Int))))))))) = A:=⟨_,rfl⟩
 obtain ⟨R,hR⟩:∃ A,(G && X0) = A:=⟨_,rfl⟩
 obtain ⟨C,hC⟩:∃ A,(!G) = A:=⟨_,rfl⟩
 rw [hX4,hX3,hX2,hX1,hX0,hG,hR]
 have bhn':=Lib.hid bhn
 have bsn':=Lib.hid bsn
 have ban':=Lib.hid ban
 have btn':=Lib.hid btn
 have c0':=Lib.hid c0
 have c1':=Lib.hid c1
 have c2':=Lib.hid c2
 have ch':=Lib.hid ch
 have cs':=Lib.hid cs
 have ca':=Lib.hid ca
 have cb':=Lib.hid cb
 have ct':=Lib.hid ct
 have rh':=Lib.hid rh
 have rs':=Lib.hid rs
 have ra':=Lib.hid ra
 have rt':=Lib.hid rt
 have hhn':=Lib.hid hhn
 have hsn':=Lib.hid hsn
 have han':=Lib.hid han
 have htn':=Lib.hid htn
 have hX4':=Lib.hid hX4
 have hX3':=Lib.hid hX3
 have hX2':=Lib.hid hX2
 have hX1':=Lib.hid hX1
 have hX0':=Lib.hid hX0
 have hG':=Lib.hid hG
 have hR':=Lib.hid hR
 have hC':=Lib.hid hC
 clear bhn bsn ban btn c0 c1 c2 ch cs ca cb ct rh rs ra rt hhn hsn han htn hX4 hX3 hX2 hX1 hX0 hG hR hC
 go_enter Tryz.func22,Tryz.ntmps22
 go_upto_region 1 with (fail)
 obtain ⟨W,yy,hW,⟨z,hz⟩,cb0⟩:=box1n V _ 30
 rw [hW]
 have e0_0:=cb0 0 _ rfl
 have e0_1:=cb0 1 _ rfl
 have e0_2:=cb0 2 _ rfl
 have e0_3:=cb0 3 _ rfl
 have e0_4:=cb0 4 _ rfl
 have e0_5:=cb0 5 _ rfl
 have e0_6:=cb0 6 _ rfl
 have q0c:=Lib.hid (kp_at hz c0'.out)
 have q1c:=Lib.hid (kp_at hz c1'.out)
 have q2c:=Lib.hid (kp_at hz c2'.out)
 have hz':=Lib.hid hz
 clear hW hz cb0 c0' c1' c2'
 go_cut [48] from 9 to 48 (fun v wx=>v = .bool C ∧ wx = plus W yy)
 case first =>
  by_cases q0:(8:Int) < (hn:Int)
  case pos =>
   have hF:=Lib.hid (show (true) = C by rw [← hC'.out,← hG'.out];simp [q0])
   go_wp2_with (fail)
   go_meet
   first | exact ⟨congrArg Value.bool hF.out,rfl⟩ | exact ⟨congrArg Value.bool (Eq.trans (by simp [q0]) hF.out),rfl⟩
  case neg =>
   by_cases q1:(16:Int) < (mn:Int)
   case pos =>
    have hF:=Lib.hid (show (true) = C by rw [← hC'.out,← hG'.out];simp [q0,q1])
    go_wp2_with (fail)
    go_meet
    first | exact ⟨congrArg Value.bool hF.out,rfl⟩ | exact ⟨congrArg Value.bool (Eq.trans (by simp [q0,q1]) hF.out),rfl⟩
   case neg =>
    by_cases q2:(sn:Int) < 1
    case pos =>
     have hF:=Lib.hid (show (true) = C by rw [← hC'.out,← hG'.out];simp [q0,q1,q2])
     go_wp2_with (fail)
     go_meet
     first | exact ⟨congrArg Value.bool hF.out,rfl⟩ | exact ⟨congrArg Value.bool (Eq.trans (by simp [q0,q1,q2]) hF.out),rfl⟩
    case neg =>
     by_cases q3:(16:Int) < (sn:Int)
     case pos =>
      have hF:=Lib.hid (show (true) = C by rw [← hC'.out,← hG'.out];simp [q0,q1,q2,q3])
      go_wp2_with (fail)
      go_meet
      first | exact ⟨congrArg Value.bool hF.out,rfl⟩ | exact ⟨congrArg Value.bool (Eq.trans (by simp [q0,q1,q2,q3]) hF.out),rfl⟩
     case neg =>
      by_cases q4:(16:Int) < (an:Int)
      case pos =>
       have hF:=Lib.hid (show (true) = C by rw [← hC'.out,← hG'.out];simp [q0,q1,q2,q3,q4])
       go_wp2_with (fail)
       go_meet
       first | exact ⟨congrArg Value.bool hF.out,rfl⟩ | exact ⟨congrArg Value.bool (Eq.trans (by simp [q0,q1,q2,q3,q4]) hF.out),rfl⟩
      case neg =>
       by_cases q5:(8:Int) < (tn:Int)
       case pos =>
        have hF:=Lib.hid (show (true) = C by rw [← hC'.out,← hG'.out];simp [q0,q1,q2,q3,q4,q5])
        go_wp2_with (fail)
        go_meet
        first | exact ⟨congrArg Value.bool hF.out,rfl⟩ | exact ⟨congrArg Value.bool (Eq.trans (by simp [q0,q1,q2,q3,q4,q5]) hF.out),rfl⟩
       case neg =>
        by_cases q6:(8:Int) < (en:Int)
        case pos =>
         have hF:=Lib.hid (show (true) = C by rw [← hC'.out,← hG'.out];simp [q0,q1,q2,q3,q4,q5,q6])
         go_wp2_with (fail)
         go_meet
         first | exact ⟨congrArg Value.bool hF.out,rfl⟩ | exact ⟨congrArg Value.bool (Eq.trans (by simp [q0,q1,q2,q3,q4,q5,q6]) hF.out),rfl⟩
        case neg =>
         have hF:=Lib.hid (show (false) = C by rw [← hC'.out,← hG'.out];simp [q0,q1,q2,q3,q4,q5,q6])
         go_wp2_with (fail)
         go_meet
         first | exact ⟨congrArg Value.bool hF.out,rfl⟩ | exact ⟨congrArg Value.bool (Eq.trans (by simp [q0,q1,q2,q3,q4,q5,q6]) hF.out),rfl⟩
 case rest =>
  obtain ⟨rfl,rfl⟩:=hcut
  clear hG'
  cases G with
  | false =>
   have e:true = C:=hC'.out
   subst e
   have hs2:=Lib.hid (show false = R from hR'.out)
   clear hC'
   go_wp2_with fail
   go_ret
   exact ⟨rb hs2.out,pp hz'.out⟩
  | true =>
   have e:false = C:=hC'.out
   subst e
   have h0:=Lib.hid (show ((hl.drop 0).all hrB && X1) = R by rw [List.drop_zero,hX0'.out];exact hR'.out)
   clear hC' hX0' hR'
   go_wp2_with fail
   go_loopw [3] (fun iv wr=>∃ k:Nat,k ≤ hn ∧ iv = .int .i64 (k:Int) ∧ Hid (((hl.drop k).all hrB && X1) = R) ∧ ∃ y,wr = plus W y) (fun iv _=>hn - (intOf iv).toNat)
   case atStart=>exact ⟨0,Nat.zero_le _,rfl,h0,_,rfl⟩
   case round =>
    obtain ⟨k,hk,rfl,hs,y,rfl⟩:=hrel
    by_cases hlt:k < hn
    ·obtain ⟨a,ha⟩:∃ s,hl[k]? = some s:=⟨hl[k]'(by rw [hhn'.out];exact hlt),List.getElem?_eq_getElem _⟩
     obtain ⟨pa,rfl,hcV⟩:=rh'.out k a ha
     have hmem:=List.mem_of_getElem? ha
     have hs1:((hrB a && (hl.drop (k + 1)).all hrB) && X1) = R:=by rw [← all_drop hrB hl k a ha];exact hs.out
     have a6:=Lib.hid (wr_succ k hn hlt bhn'.out)
     have hc:=hz'.out ▸ hcV.plus z
     clear hcV
     obtain ⟨xn,⟨xp,xc,xl⟩⟩:=a
     have v0:=rname_in xn V
     have v1:=ch'.out _ hmem
     simp only at v0 v1
     have d0:=fun y=>(hc.plus y).c0 _ rfl
     have d1:=fun y=>(hc.plus y).cs 0 _ rfl
     simp only [Sl.v] at d0 d1
     simp only [hrB,eachB] at hs1
     generalize nameB xn = s3 at v0 hs1
     generalize xl.all fdB = s4 at v1 hs1
     generalize xl.length = fn at v1 d1 hs1
     obtain ⟨P,hP⟩:∃ P,(s3 && ((!decide ((fn:Int) < 1)) && ((!decide ((16:Int) < (fn:Int))) && s4))) = P:=⟨_,rfl⟩
     obtain ⟨Q,hQ⟩:∃ Q,(!P) = Q:=⟨_,rfl⟩
     have hs1:(P && ((hl.drop (k + 1)).all hrB && X1)) = R:=by rw [← hs1,← hP];simp only [ndec];ac_rfl
     have hP':=Lib.hid hP
     have hQ':=Lib.hid hQ
     have hs3':=Lib.hid hs1
     have v0':=Lib.hid v0
     have v1':=Lib.hid v1
     clear hP hQ hs1 hc ha hs hmem v0 v1
     go_upto_region 7 with (fail)
     obtain ⟨W2,y3,hW2,⟨z2,hz2⟩,cx⟩:=box1n (plus W y) _ 38
     rw [hW2]
     have x0:=cx 0 _ rfl
     have x1:=cx 1 _ rfl
     obtain ⟨z3,hz3⟩:∃ z,W2 = plus W z:=⟨_,hz2.trans (plus_plus _ _ _)⟩
     obtain ⟨z4,hz4⟩:∃ z,W2 = plus V z:=⟨_,by rw [hz3,hz'.out,plus_plus]⟩
     have u0c:=Lib.hid (kp_at hz4 v0'.out)
     have u1c:=Lib.hid (kp_at hz4 v1'.out)
     have hz3':=Lib.hid hz3
     have hz4':=Lib.hid hz4
     clear hW2 cx hz2 hz3 hz4 v0' v1'
     go_cut [82] from 49 to 82 (fun v wx=>v = .bool Q ∧ ∃ y,wx = plus W2 y)
     case first =>
      cases s3
      case false =>
       have hF:=Lib.hid (show (true) = Q by rw [← hQ'.out,← hP'.out];simp)
       go_wp2_with (first | (go_at_call 75;with_reducible refine (u0c.out _).mono ?_;rintro r w' ⟨rfl,x,rfl⟩))
       go_meet
       first | exact ⟨congrArg Value.bool hF.out,_,rfl⟩ | exact ⟨congrArg Value.bool (Eq.trans (by simp) hF.out),_,rfl⟩
      case true =>
       by_cases u1:(fn:Int) < 1
       case pos =>
        have hF:=Lib.hid (show (true) = Q by rw [← hQ'.out,← hP'.out];simp [u1])
        go_wp2_with (first | (go_at_call 75;with_reducible refine (u0c.out _).mono ?_;rintro r w' ⟨rfl,x,rfl⟩))
        go_meet
        first | exact ⟨congrArg Value.bool hF.out,_,rfl⟩ | exact ⟨congrArg Value.bool (Eq.trans (by simp [u1]) hF.out),_,rfl⟩
       case neg =>
        by_cases u2:(16:Int) < (fn:Int)
        case pos =>
         have hF:=Lib.hid (show (true) = Q by rw [← hQ'.out,← hP'.out];simp [u1,u2])
         go_wp2_with (first | (go_at_call 75;with_reducible refine (u0c.out _).mono ?_;rintro r w' ⟨rfl,x,rfl⟩))
         go_meet
         first | exact ⟨congrArg Value.bool hF.out,_,rfl⟩ | exact ⟨congrArg Value.bool (Eq.trans (by simp [u1,u2]) hF.out),_,rfl⟩
        case neg =>
         cases s4
         case false =>
          have hF:=Lib.hid (show (true) = Q by rw [← hQ'.out,← hP'.out];simp [u1,u2])
          go_wp2_with (first | (go_at_call 75;with_reducible refine (u0c.out _).mono ?_;rintro r w' ⟨rfl,x,rfl⟩) | (go_at_call 76;with_reducible refine (u1c.out _).mono ?_;rintro r w' ⟨rfl,x,rfl⟩))
          go_meet
          first | exact ⟨congrArg Value.bool hF.out,_,rfl⟩ | exact ⟨congrArg Value.bool (Eq.trans (by simp [u1,u2]) hF.out),_,rfl⟩
         case true =>
          have hF:=Lib.hid (show (false) = Q by rw [← hQ'.out,← hP'.out];simp [u1,u2])
          go_wp2_with (first | (go_at_call 75;with_reducible refine (u0c.out _).mono ?_;rintro r w' ⟨rfl,x,rfl⟩) | (go_at_call 76;with_reducible refine (u1c.out _).mono ?_;rintro r w' ⟨rfl,x,rfl⟩))
          go_meet
          first | exact ⟨congrArg Value.bool hF.out,_,rfl⟩ | exact ⟨congrArg Value.bool (Eq.trans (by simp [u1,u2]) hF.out),_,rfl⟩
     case rest =>
      obtain ⟨rfl,y4,rfl⟩:=hcut
      clear hP' u0c u1c
      cases P with
      | false =>
       have e:true = Q:=hQ'.out
       subst e
       have hs2:=Lib.hid (show false = R from hs3'.out)
       clear hQ'
       go_wp2_with fail
       go_ret
       exact ⟨rb hs2.out,by rw [hz4'.out,plus_plus];exact ⟨_,rfl⟩⟩
      | true =>
       have e:false = Q:=hQ'.out
       subst e
       have hs2:=Lib.hid (show ((hl.drop (k + 1)).all hrB && X1) = R from hs3'.out)
       clear hQ' hs3'
       go_wp2_with fail
       go_roundw
       case rel=>exact ⟨k + 1,hlt,congrArg (Value.int .i64) a6.out,hs2,by rw [hz3'.out,plus_plus];exact ⟨_,rfl⟩⟩
       case measure=>exact step_less k hn hlt a6.out
    ·obtain rfl:hn = k:=by omega
     have h0:=Lib.hid (show ((sl.drop 0).all saB && X2) = R by rw [List.drop_zero,hX1'.out,← hs.out,List.drop_of_length_le (show hl.length ≤ hn by rw [hhn'.out];exact Nat.le_refl _)];rfl)
     clear hs hlt hk
     go_wp2_with fail
     go_loopw [5] (fun iv wr=>∃ k:Nat,k ≤ sn ∧ iv = .int .i64 (k:Int) ∧ Hid (((sl.drop k).all saB && X2) = R) ∧ ∃ y,wr = plus W y) (fun iv _=>sn - (intOf iv).toNat)
     case atStart=>exact ⟨0,Nat.zero_le _,rfl,h0,_,rfl⟩
     case round =>
      obtain ⟨k,hk,rfl,hs,y,rfl⟩:=hrel
      by_cases hlt:k < sn
      ·obtain ⟨a,ha⟩:∃ s,sl[k]? = some s:=⟨sl[k]'(by rw [hsn'.out];exact hlt),List.getElem?_eq_getElem _⟩
       obtain ⟨pa,rfl,hcV⟩:=rs'.out k a ha
       have hmem:=List.mem_of_getElem? ha
       have hs1:((saB a && (sl.drop (k + 1)).all saB) && X2) = R:=by rw [← all_drop saB sl k a ha];exact hs.out
       have a6:=Lib.hid (wr_succ k sn hlt bsn'.out)
       have hc:=hz'.out ▸ hcV.plus z
       clear hcV
       have q1:=kp_at hz'.out (cs'.out a hmem)
       obtain ⟨Z,hZ⟩:∃ Z,saB a = Z:=⟨_,rfl⟩
       rw [hZ] at q1 hs1
       obtain ⟨xn,⟨xp,xc,xl⟩,xt,⟨yp,yc,yl⟩,⟨gp,gc,gl⟩⟩:=a
       have q1:PureIn Tryz.prog W 77 #[.agg #[.string xn,.slice xp xl.length xc,.string xt,.slice yp yl.length yc,.slice gp gl.length gc]] (.bool Z):=q1
       have d0:=fun y=>(hc.plus y).c0 _ rfl
       have d1:=fun y=>(hc.plus y).cs 0 _ rfl
       have d2:=fun y=>(hc.plus y).cs 1 _ rfl
       have d3:=fun y=>(hc.plus y).cs 2 _ rfl
       have d4:=fun y=>(hc.plus y).cs 3 _ rfl
       simp only [Sl.v] at d0 d1 d2 d3 d4
       have q1':=Lib.hid q1
       clear q1 hZ hc ha hs hmem
       cases Z with
       | false =>
        have hs2:=Lib.hid (show false = R by rw [← hs1];simp)
        clear hs1
        go_wp2_with (go_at_call 77;refine (q1'.out _).mono ?_;rintro e w' ⟨rfl,x,rfl⟩)
        go_ret
        exact ⟨rb hs2.out,pp hz'.out⟩
       | true =>
        have hs2:=Lib.hid (show ((sl.drop (k + 1)).all saB && X2) = R by rw [← hs1];simp)
        clear hs1
        go_wp2_with (go_at_call 77;refine (q1'.out _).mono ?_;rintro e w' ⟨rfl,x,rfl⟩)
        go_roundw
        case rel=>exact ⟨k + 1,hlt,congrArg (Value.int .i64) a6.out,hs2,_,rfl⟩
        case measure=>exact step_less k sn hlt a6.out
      ·obtain rfl:sn = k:=by omega
       have h0:=Lib.hid (show ((al.drop 0).all acB && X3) = R by rw [List.drop_zero,hX2'.out,← hs.out,List.drop_of_length_le (show sl.length ≤ sn by rw [hsn'.out];exact Nat.le_refl _)];rfl)
       clear hs hlt hk
       go_wp2_with fail
       go_loopw [6] (fun iv wr=>∃ k:Nat,k ≤ an ∧ iv = .int .i64 (k:Int) ∧ Hid (((al.drop k).all acB && X3) = R) ∧ ∃ y,wr = plus W y) (fun iv _=>an - (intOf iv).toNat)
       case atStart=>exact ⟨0,Nat.zero_le _,rfl,h0,_,rfl⟩
       case round =>
        obtain ⟨k,hk,rfl,hs,y,rfl⟩:=hrel
        by_cases hlt:k < an
        ·obtain ⟨a,ha⟩:∃ s,al[k]? = some s:=⟨al[k]'(by rw [han'.out];exact hlt),List.getElem?_eq_getElem _⟩
         obtain ⟨pa,rfl,hcV⟩:=ra'.out k a ha
         have hmem:=List.mem_of_getElem? ha
         have hs1:((acB a && (al.drop (k + 1)).all acB) && X3) = R:=by rw [← all_drop acB al k a ha];exact hs.out
         have a6:=Lib.hid (wr_succ k an hlt ban'.out)
         have hc:=hz'.out ▸ hcV.plus z
         clear hcV
         obtain ⟨xn,⟨xp,xc,xl⟩,⟨yp,yc,yl⟩⟩:=a
         have v0:=rname_in xn V
         have v1:=ca'.out _ hmem
         have v2:=cb'.out _ hmem
         simp only at v0 v1 v2
         have d0:=fun y=>(hc.plus y).c0 _ rfl
         have d1:=fun y=>(hc.plus y).cs 0 _ rfl
         have d2:=fun y=>(hc.plus y).cs 1 _ rfl
         simp only [Sl.v] at d0 d1 d2
         simp only [acB,eachB] at hs1
         generalize nameB xn = s3 at v0 hs1
         generalize xl.all fdB = s4 at v1 hs1
         generalize St.mayB 8 yl = s5 at v2 hs1
         generalize xl.length = fn at v1 d1 hs1
         generalize yl.length = gn at v2 d2
         obtain ⟨P,hP⟩:∃ P,(s3 && ((!decide ((8:Int) < (fn:Int))) && (s4 && s5))) = P:=⟨_,rfl⟩
         obtain ⟨Q,hQ⟩:∃ Q,(!P) = Q:=⟨_,rfl⟩
         have hs1:(P && ((al.drop (k + 1)).all acB && X3)) = R:=by rw [← hs1,← hP];rw [show decide ((0:Int) ≤ (fn:Int)) = true from decide_eq_true (by omega)];simp only [ndec,Bool.true_and];ac_rfl
         have hP':=Lib.hid hP
         have hQ':=Lib.hid hQ
         have hs3':=Lib.hid hs1
         have v0':=Lib.hid v0
         have v1':=Lib.hid v1
         have v2':=Lib.hid v2
         clear hP hQ hs1 hc ha hs hmem v0 v1 v2
         go_upto_region 18 with (fail)
         obtain ⟨W2,y3,hW2,⟨z2,hz2⟩,cx⟩:=box1n (plus W y) _ 42
         rw [hW2]
         have x0:=cx 0 _ rfl
         have x1:=cx 1 _ rfl
         have x2:=cx 2 _ rfl
         obtain ⟨z3,hz3⟩:∃ z,W2 = plus W z:=⟨_,hz2.trans (plus_plus _ _ _)⟩
         obtain ⟨z4,hz4⟩:∃ z,W2 = plus V z:=⟨_,by rw [hz3,hz'.out,plus_plus]⟩
         have u0c:=Lib.hid (kp_at hz4 v0'.out)
         have u1c:=Lib.hid (kp_at hz4 v1'.out)
         have u2c:=Lib.hid (kp_at hz4 v2'.out)
         have hz3':=Lib.hid hz3
         have hz4':=Lib.hid hz4
         clear hW2 cx hz2 hz3 hz4 v0' v1' v2'
         go_cut [130] from 97 to 130 (fun v wx=>v = .bool Q ∧ ∃ y,wx = plus W2 y)
         case first =>
          cases s3
          case false =>
           have hF:=Lib.hid (show (true) = Q by rw [← hQ'.out,← hP'.out];simp)
           go_wp2_with (first | (go_at_call 75;with_reducible refine (u0c.out _).mono ?_;rintro r w' ⟨rfl,x,rfl⟩))
           go_meet
           first | exact ⟨congrArg Value.bool hF.out,_,rfl⟩ | exact ⟨congrArg Value.bool (Eq.trans (by simp) hF.out),_,rfl⟩
          case true =>
           by_cases u1:(8:Int) < (fn:Int)
           case pos =>
            have hF:=Lib.hid (show (true) = Q by rw [← hQ'.out,← hP'.out];simp [u1])
            go_wp2_with (first | (go_at_call 75;with_reducible refine (u0c.out _).mono ?_;rintro r w' ⟨rfl,x,rfl⟩))
            go_meet
            first | exact ⟨congrArg Value.bool hF.out,_,rfl⟩ | exact ⟨congrArg Value.bool (Eq.trans (by simp [u1]) hF.out),_,rfl⟩
           case neg =>
            cases s4
            case false =>
             have hF:=Lib.hid (show (true) = Q by rw [← hQ'.out,← hP'.out];simp [u1])
             go_wp2_with (first | (go_at_call 75;with_reducible refine (u0c.out _).mono ?_;rintro r w' ⟨rfl,x,rfl⟩) | (go_at_call 76;with_reducible refine (u1c.out _).mono ?_;rintro r w' ⟨rfl,x,rfl⟩))
             go_meet
             first | exact ⟨congrArg Value.bool hF.out,_,rfl⟩ | exact ⟨congrArg Value.bool (Eq.trans (by simp [u1]) hF.out),_,rfl⟩
            case true =>
             cases s5
             case false =>
              have hF:=Lib.hid (show (true) = Q by rw [← hQ'.out,← hP'.out];simp [u1])
              go_wp2_with (first | (go_at_call 75;with_reducible refine (u0c.out _).mono ?_;rintro r w' ⟨rfl,x,rfl⟩) | (go_at_call 76;with_reducible refine (u1c.out _).mono ?_;rintro r w' ⟨rfl,x,rfl⟩) | (go_at_call 78;with_reducible refine (u2c.out _).mono ?_;rintro r w' ⟨rfl,x,rfl⟩))
              go_meet
              first | exact ⟨congrArg Value.bool hF.out,_,rfl⟩ | exact ⟨congrArg Value.bool (Eq.trans (by simp [u1]) hF.out),_,rfl⟩
             case true =>
              have hF:=Lib.hid (show (false) = Q by rw [← hQ'.out,← hP'.out];simp [u1])
              go_wp2_with (first | (go_at_call 75;with_reducible refine (u0c.out _).mono ?_;rintro r w' ⟨rfl,x,rfl⟩) | (go_at_call 76;with_reducible refine (u1c.out _).mono ?_;rintro r w' ⟨rfl,x,rfl⟩) | (go_at_call 78;with_reducible refine (u2c.out _).mono ?_;rintro r w' ⟨rfl,x,rfl⟩))
              go_meet
              first | exact ⟨congrArg Value.bool hF.out,_,rfl⟩ | exact ⟨congrArg Value.bool (Eq.trans (by simp [u1]) hF.out),_,rfl⟩
         case rest =>
          obtain ⟨rfl,y4,rfl⟩:=hcut
          clear hP' u0c u1c u2c
          cases P with
          | false =>
           have e:true = Q:=hQ'.out
           subst e
           have hs2:=Lib.hid (show false = R from hs3'.out)
           clear hQ'
           go_wp2_with fail
           go_ret
           exact ⟨rb hs2.out,by rw [hz4'.out,plus_plus];exact ⟨_,rfl⟩⟩
          | true =>
           have e:false = Q:=hQ'.out
           subst e
           have hs2:=Lib.hid (show ((al.drop (k + 1)).all acB && X3) = R from hs3'.out)
           clear hQ' hs3'
           go_wp2_with fail
           go_roundw
           case rel=>exact ⟨k + 1,hlt,congrArg (Value.int .i64) a6.out,hs2,by rw [hz3'.out,plus_plus];exact ⟨_,rfl⟩⟩
           case measure=>exact step_less k an hlt a6.out
        ·obtain rfl:an = k:=by omega
         have h0:=Lib.hid (show ((tl.drop 0).all taB && X4) = R by rw [List.drop_zero,hX3'.out,← hs.out,List.drop_of_length_le (show al.length ≤ an by rw [han'.out];exact Nat.le_refl _)];rfl)
         clear hs hlt hk
         go_wp2_with fail
         go_loopw [8] (fun iv wr=>∃ k:Nat,k ≤ tn ∧ iv = .int .i64 (k:Int) ∧ Hid (((tl.drop k).all taB && X4) = R) ∧ ∃ y,wr = plus W y) (fun iv _=>tn - (intOf iv).toNat)
         case atStart=>exact ⟨0,Nat.zero_le _,rfl,h0,_,rfl⟩
         case round =>
          obtain ⟨k,hk,rfl,hs,y,rfl⟩:=hrel
          by_cases hlt:k < tn
          ·obtain ⟨a,ha⟩:∃ s,tl[k]? = some s:=⟨tl[k]'(by rw [htn'.out];exact hlt),List.getElem?_eq_getElem _⟩
           obtain ⟨pa,rfl,hcV⟩:=rt'.out k a ha
           have hmem:=List.mem_of_getElem? ha
           have hs1:((taB a && (tl.drop (k + 1)).all taB) && X4) = R:=by rw [← all_drop taB tl k a ha];exact hs.out
           have a6:=Lib.hid (wr_succ k tn hlt btn'.out)
           have hc:=hz'.out ▸ hcV.plus z
           clear hcV
           have q1:=kp_at hz'.out (ct'.out a hmem)
           obtain ⟨Z,hZ⟩:∃ Z,taB a = Z:=⟨_,rfl⟩
           rw [hZ] at q1 hs1
           obtain ⟨xn,⟨xp,xc,xl⟩,⟨yp,yc,yl⟩,⟨xd,⟨gp,gc,gl⟩⟩⟩:=a
           have q1:PureIn Tryz.prog W 79 #[.agg #[.string xn,.slice xp xl.length xc,.slice yp yl.length yc,.string xd,.slice gp gl.length gc]] (.bool Z):=q1
           have d0:=fun y=>(hc.plus y).c0 _ rfl
           have d1:=fun y=>(hc.plus y).cs 0 _ rfl
           have d2:=fun y=>(hc.plus y).cs 1 _ rfl
           have d3:=fun y=>(hc.plus y).cs 2 _ rfl
           have d4:=fun y=>(hc.plus y).cs 3 _ rfl
           simp only [Sl.v] at d0 d1 d2 d3 d4
           have q1':=Lib.hid q1
           clear q1 hZ hc ha hs hmem
           cases Z with
           | false =>
            have hs2:=Lib.hid (show false = R by rw [← hs1];simp)
            clear hs1
            go_wp2_with (go_at_call 79;refine (q1'.out _).mono ?_;rintro e w' ⟨rfl,x,rfl⟩)
            go_ret
            exact ⟨rb hs2.out,pp hz'.out⟩
           | true =>
            have hs2:=Lib.hid (show ((tl.drop (k + 1)).all taB && X4) = R by rw [← hs1];simp)
            clear hs1
            go_wp2_with (go_at_call 79;refine (q1'.out _).mono ?_;rintro e w' ⟨rfl,x,rfl⟩)
            go_roundw
            case rel=>exact ⟨k + 1,hlt,congrArg (Value.int .i64) a6.out,hs2,_,rfl⟩
            case measure=>exact step_less k tn hlt a6.out
          ·obtain rfl:tn = k:=by omega
           have h0:=Lib.hid (show X4 = R by rw [← hs.out,List.drop_of_length_le (show tl.length ≤ tn by rw [htn'.out];exact Nat.le_refl _)];rfl)
           clear hs hlt hk
           go_wp2_with fail
           cases s0
           case false =>
            have hs2:=Lib.hid (show false = R from hX4'.out.trans h0.out)
            go_wp2_with (first | (go_at_call 76;with_reducible refine (q0c.out _).mono ?_;rintro r w' ⟨rfl,x,rfl⟩) | (go_at_call 78;with_reducible refine (q1c.out _).mono ?_;rintro r w' ⟨rfl,x,rfl⟩) | (go_at_call 80;with_reducible refine (q2c.out _).mono ?_;rintro r w' ⟨rfl,x,rfl⟩))
            go_ret
            exact ⟨rb hs2.out,pp hz'.out⟩
           case true =>
            cases s1
            case false =>
             have hs2:=Lib.hid (show false = R from hX4'.out.trans h0.out)
             go_wp2_with (first | (go_at_call 76;with_reducible refine (q0c.out _).mono ?_;rintro r w' ⟨rfl,x,rfl⟩) | (go_at_call 78;with_reducible refine (q1c.out _).mono ?_;rintro r w' ⟨rfl,x,rfl⟩) | (go_at_call 80;with_reducible refine (q2c.out _).mono ?_;rintro r w' ⟨rfl,x,rfl⟩))
             go_ret
             exact ⟨rb hs2.out,pp hz'.out⟩
            case true =>
             have hs2:=Lib.hid (show s2 = R from hX4'.out.trans h0.out)
             go_wp2_with (first | (go_at_call 76;with_reducible refine (q0c.out _).mono ?_;rintro r w' ⟨rfl,x,rfl⟩) | (go_at_call 78;with_reducible refine (q1c.out _).mono ?_;rintro r w' ⟨rfl,x,rfl⟩) | (go_at_call 80;with_reducible refine (q2c.out _).mono ?_;rintro r w' ⟨rfl,x,rfl⟩))
             go_ret
             exact ⟨rb hs2.out,pp hz'.out⟩
end Go.Proofs.YtlmhldcebllckaaGreat
