/-
  WHAT IS PROVED HERE: a part of the proof (made narrower and merged by program; the parts: Jk).
-/
import Derived.Test.YtpjhokdehcpjbaaGreatDoorRows
import Derived.WalkKit
import Derived.Lib.Hide
import Derived.WalkSpells
import Derived.WalkLawsBesides
import Derived.Laws.EntriesVeiled
import Derived.Shelf.Abstract
import Derived.Deep.CutRange
import Derived.Test.YtpjhokdehcpjbaaGreatDoorM23
namespace Go.Proofs.YtpjhokdehcpjbaaGreatDoor
open Go.RowKit
theorem ndec (a b:Int):(!decide (a < b)) = decide (b ≤ a):=by
 rw [← decide_not,decide_eq_decide,Int.not_lt]
set_option maxRecDepth 100000 in
set_option maxHeartbeats 8000000 in
theorem rtable_in (t:Ta) (w:World) (h:t.In w) (hz:t.sz ≤ 1048576):Kp Tryz.prog w 50 #[.agg t.cells.toArray] (.bool (taB t)):=by
 intro y0
 have h:=h.plus y0
 obtain ⟨V,hV⟩:∃ V,plus w y0 = V:=⟨_,rfl⟩
 rw [hV] at h ⊢
 clear hV
 unfold Ta.sz Cl.sz at hz
 have hks:t.keys.size Ke.sz ≤ 1048576:=by omega
 have bkn:t.keys.l.length ≤ 1048576:=len_le Ke.sz sz_pos_ke _ hks
 have bgn:t.dflt.args.l.length ≤ 1048576:=lt_sz _ (by omega)
 have c0:=rname_in t.name V
 have c1:=rnames_in t.actions V h.actions (by omega)
 have c2:=rname_in t.dflt.name V
 have ck:=fun x (hx:x ∈ t.keys.l)=>rmay_in (Ke.e x) V (h.keys.kids x hx).e (by have:=one_sz hks hx;unfold Ke.sz at this;omega)
 have cg:=fun x (hx:x ∈ t.dflt.args.l)=>rlit_in x V (h.dflt.args.kids x hx)
 have rk:=h.keys.row
 have rg:=h.dflt.args.row
 obtain ⟨nm,⟨kp,kc,kl⟩,⟨ap,ac,al⟩,⟨dn,⟨gp,gc,gl⟩⟩⟩:=t
 simp only [Sl.v] at bkn bgn c0 c1 c2 ck cg rk rg
 clear h hz hks
 have e0:decide ((0:Int) ≤ (gl.length:Int)) = true:=decide_eq_true (by omega)
 have hT:taB ⟨nm,⟨kp,kc,kl⟩,⟨ap,ac,al⟩,⟨dn,⟨gp,gc,gl⟩⟩⟩ = ((nameB nm && ((!decide ((kl.length:Int) < 1)) && ((!decide ((4:Int) < (kl.length:Int))) && ((!decide ((al.length:Int) < 1)) && ((!decide ((16:Int) < (al.length:Int))) && (al.all nameB && (nameB dn && (!decide ((8:Int) < (gl.length:Int)))))))))) && (kl.all keB && gl.all ltB)):=by
  simp only [taB,eachB,ndec,e0,Bool.true_and]
  ac_rfl
 rw [hT]
 clear hT e0
 show Calls Tryz.prog 50 #[.agg #[.string nm,.slice kp kl.length kc,.slice ap al.length ac,.string dn,.slice gp gl.length gc]] V _
 generalize nameB nm = s0 at c0 ⊢
 generalize al.all nameB = s1 at c1 ⊢
 generalize nameB dn = s2 at c2 ⊢
 obtain ⟨kn,hkn⟩:∃ n,kl.length = n:=⟨_,rfl⟩
 obtain ⟨gn,hgn⟩:∃ n,gl.length = n:=⟨_,rfl⟩
 generalize al.length = an at c1 ⊢
 rw [hkn] at bkn ⊢
 rw [hgn] at bgn ⊢
 obtain ⟨A,hA⟩:∃ A,kl.all keB = A:=⟨_,rfl⟩
 obtain ⟨T,hT⟩:∃ A,gl.all ltB = A:=⟨_,rfl⟩
 obtain ⟨G,hG⟩:∃ A,(s0 && ((!decide ((kn:Int) < 1)) && ((!decide ((4:Int) < (kn:Int))) && ((!decide ((an:Int) < 1)) && ((!decide ((16:Int) < (an:Int))) && (s1 && (s2 && (!decide ((8:Int) < (gn:Int)))))))))) = A:=⟨_,rfl⟩
 obtain ⟨R,hR⟩:∃ B,(G && (A && T)) = B:=⟨_,rfl⟩
 obtain ⟨C,hC⟩:∃ A,(!G) = A:=⟨_,rfl⟩
 rw [hA,hT,hG,hR]
 have bkn':=Lib.hid bkn
 have bgn':=Lib.hid bgn
 have c0':=Lib.hid c0
 have c1':=Lib.hid c1
 have c2':=Lib.hid c2
 have ck':=Lib.hid ck
 have cg':=Lib.hid cg
 have rk':=Lib.hid rk
 have rg':=Lib.hid rg
 have hkn':=Lib.hid hkn
 have hgn':=Lib.hid hgn
 have hA':=Lib.hid hA
 have hT':=Lib.hid hT
 have hG':=Lib.hid hG
 have hR':=Lib.hid hR
 have hC':=Lib.hid hC
 clear bkn bgn c0 c1 c2 ck cg rk rg hkn hgn hA hT hG hR hC
 go_enter Tryz.func50,Tryz.ntmps50
 go_upto_region 1 with (fail)
 obtain ⟨W,yy,hW,⟨z,hz⟩,cb0⟩:=box1n V _ 84
 rw [hW]
 have e0_0:=cb0 0 _ rfl
 have e0_1:=cb0 1 _ rfl
 have e0_2:=cb0 2 _ rfl
 have e0_3:=cb0 3 _ rfl
 have e0_4:=cb0 4 _ rfl
 have q0c:=Lib.hid (kp_at hz c0'.out)
 have q1c:=Lib.hid (kp_at hz c1'.out)
 have q2c:=Lib.hid (kp_at hz c2'.out)
 have hz':=Lib.hid hz
 clear hW hz cb0 c0' c1' c2'
 go_cut [52] from 5 to 52 (fun v wx=>v = .bool C ∧ ∃ y,wx = plus W y)
 case first =>
  cases s0
  case false =>
   have hF:=Lib.hid (show (true) = C by rw [← hC'.out,← hG'.out];simp)
   go_wp2_with (first | (go_at_call 46;with_reducible refine (q0c.out _).mono ?_;rintro r w' ⟨rfl,x,rfl⟩))
   go_meet
   first | exact ⟨congrArg Value.bool hF.out,_,rfl⟩ | exact ⟨congrArg Value.bool (Eq.trans (by simp) hF.out),_,rfl⟩
  case true =>
   by_cases q1:(kn:Int) < 1
   case pos =>
    have hF:=Lib.hid (show (true) = C by rw [← hC'.out,← hG'.out];simp [q1])
    go_wp2_with (first | (go_at_call 46;with_reducible refine (q0c.out _).mono ?_;rintro r w' ⟨rfl,x,rfl⟩))
    go_meet
    first | exact ⟨congrArg Value.bool hF.out,_,rfl⟩ | exact ⟨congrArg Value.bool (Eq.trans (by simp [q1]) hF.out),_,rfl⟩
   case neg =>
    by_cases q2:(4:Int) < (kn:Int)
    case pos =>
     have hF:=Lib.hid (show (true) = C by rw [← hC'.out,← hG'.out];simp [q1,q2])
     go_wp2_with (first | (go_at_call 46;with_reducible refine (q0c.out _).mono ?_;rintro r w' ⟨rfl,x,rfl⟩))
     go_meet
     first | exact ⟨congrArg Value.bool hF.out,_,rfl⟩ | exact ⟨congrArg Value.bool (Eq.trans (by simp [q1,q2]) hF.out),_,rfl⟩
    case neg =>
     by_cases q3:(an:Int) < 1
     case pos =>
      have hF:=Lib.hid (show (true) = C by rw [← hC'.out,← hG'.out];simp [q1,q2,q3])
      go_wp2_with (first | (go_at_call 46;with_reducible refine (q0c.out _).mono ?_;rintro r w' ⟨rfl,x,rfl⟩))
      go_meet
      first | exact ⟨congrArg Value.bool hF.out,_,rfl⟩ | exact ⟨congrArg Value.bool (Eq.trans (by simp [q1,q2,q3]) hF.out),_,rfl⟩
     case neg =>
      by_cases q4:(16:Int) < (an:Int)
      case pos =>
       have hF:=Lib.hid (show (true) = C by rw [← hC'.out,← hG'.out];simp [q1,q2,q3,q4])
       go_wp2_with (first | (go_at_call 46;with_reducible refine (q0c.out _).mono ?_;rintro r w' ⟨rfl,x,rfl⟩))
       go_meet
       first | exact ⟨congrArg Value.bool hF.out,_,rfl⟩ | exact ⟨congrArg Value.bool (Eq.trans (by simp [q1,q2,q3,q4]) hF.out),_,rfl⟩
      case neg =>
       cases s1
       case false =>
        have hF:=Lib.hid (show (true) = C by rw [← hC'.out,← hG'.out];simp [q1,q2,q3,q4])
        go_wp2_with (first | (go_at_call 46;with_reducible refine (q0c.out _).mono ?_;rintro r w' ⟨rfl,x,rfl⟩) | (go_at_call 51;with_reducible refine (q1c.out _).mono ?_;rintro r w' ⟨rfl,x,rfl⟩))
        go_meet
        first | exact ⟨congrArg Value.bool hF.out,_,rfl⟩ | exact ⟨congrArg Value.bool (Eq.trans (by simp [q1,q2,q3,q4]) hF.out),_,rfl⟩
       case true =>
        cases s2
        case false =>
         have hF:=Lib.hid (show (true) = C by rw [← hC'.out,← hG'.out];simp [q1,q2,q3,q4])
         go_wp2_with (first | (go_at_call 46;with_reducible refine (q0c.out _).mono ?_;rintro r w' ⟨rfl,x,rfl⟩) | (go_at_call 51;with_reducible refine (q1c.out _).mono ?_;rintro r w' ⟨rfl,x,rfl⟩) | (go_at_call 46;with_reducible refine (q2c.out _).mono ?_;rintro r w' ⟨rfl,x,rfl⟩))
         go_meet
         first | exact ⟨congrArg Value.bool hF.out,_,rfl⟩ | exact ⟨congrArg Value.bool (Eq.trans (by simp [q1,q2,q3,q4]) hF.out),_,rfl⟩
        case true =>
         by_cases q7:(8:Int) < (gn:Int)
         case pos =>
          have hF:=Lib.hid (show (true) = C by rw [← hC'.out,← hG'.out];simp [q1,q2,q3,q4,q7])
          go_wp2_with (first | (go_at_call 46;with_reducible refine (q0c.out _).mono ?_;rintro r w' ⟨rfl,x,rfl⟩) | (go_at_call 51;with_reducible refine (q1c.out _).mono ?_;rintro r w' ⟨rfl,x,rfl⟩) | (go_at_call 46;with_reducible refine (q2c.out _).mono ?_;rintro r w' ⟨rfl,x,rfl⟩))
          go_meet
          first | exact ⟨congrArg Value.bool hF.out,_,rfl⟩ | exact ⟨congrArg Value.bool (Eq.trans (by simp [q1,q2,q3,q4,q7]) hF.out),_,rfl⟩
         case neg =>
          have hF:=Lib.hid (show (false) = C by rw [← hC'.out,← hG'.out];simp [q1,q2,q3,q4,q7])
          go_wp2_with (first | (go_at_call 46;with_reducible refine (q0c.out _).mono ?_;rintro r w' ⟨rfl,x,rfl⟩) | (go_at_call 51;with_reducible refine (q1c.out _).mono ?_;rintro r w' ⟨rfl,x,rfl⟩) | (go_at_call 46;with_reducible refine (q2c.out _).mono ?_;rintro r w' ⟨rfl,x,rfl⟩))
          go_meet
          first | exact ⟨congrArg Value.bool hF.out,_,rfl⟩ | exact ⟨congrArg Value.bool (Eq.trans (by simp [q1,q2,q3,q4,q7]) hF.out),_,rfl⟩
 case rest =>
  obtain ⟨rfl,y1,rfl⟩:=hcut
  clear hG' q0c q1c q2c
  cases G with
  | false =>
   have e:true = C:=hC'.out
   subst e
   have hs2:=Lib.hid (show false = R from hR'.out)
   clear hC'
   go_wp2_with fail
   go_ret
   exact ⟨rb hs2.out,pp hz'.out⟩
  | true =>
   have e:false = C:=hC'.out
   subst e
   have h0:=Lib.hid (show ((kl.drop 0).all keB && T) = R by rw [List.drop_zero,hA'.out,← hR'.out];rfl)
   clear hC' hA' hR'
   go_wp2_with fail
   go_loopw [3] (fun iv wr=>∃ k:Nat,k ≤ kn ∧ iv = .int .i64 (k:Int) ∧ Hid (((kl.drop k).all keB && T) = R) ∧ ∃ y,wr = plus W y) (fun iv _=>kn - (intOf iv).toNat)
   case atStart=>exact ⟨0,Nat.zero_le _,rfl,h0,_,rfl⟩
   case round =>
    obtain ⟨k,hk,rfl,hs,y,rfl⟩:=hrel
    by_cases hlt:k < kn
    ·obtain ⟨a,ha⟩:∃ s,kl[k]? = some s:=⟨kl[k]'(by rw [hkn'.out];exact hlt),List.getElem?_eq_getElem _⟩
     obtain ⟨pa,rfl,hc⟩:=rk'.out k a ha
     have hmem:=List.mem_of_getElem? ha
     have hs1:((keB a && (kl.drop (k + 1)).all keB) && T) = R:=by rw [← all_drop keB kl k a ha];exact hs.out
     have a6:=Lib.hid (wr_succ k kn hlt bkn'.out)
     have hc:=hz'.out ▸ hc.plus z
     have q1:=kp_at hz'.out (ck'.out a hmem)
     obtain ⟨⟨eop,⟨elw,elh,ell⟩,ehd,enm,eeh,eel,ep,ecap,eargs⟩,ekd⟩:=a
     simp only [keB] at q1 hs1
     obtain ⟨Z,hZ⟩:∃ Z,Ex.may 16 (.mk eop ⟨elw,elh,ell⟩ ehd enm eeh eel ep ecap eargs) = Z:=⟨_,rfl⟩
     rw [hZ] at q1 hs1
     have q1:PureIn Tryz.prog W 17 #[.agg #[.int .u8 eop,.int .i64 elw,.int .u64 elh,.int .u64 ell,.string ehd,.string enm,.int .i64 eeh,.int .i64 eel,.slice ep eargs.length ecap]] (.bool Z):=q1
     have d0:=fun y=>(hc.plus y).c0 _ rfl
     have d1:=fun y=>(hc.plus y).cs 0 _ rfl
     have d2:=fun y=>(hc.plus y).cs 1 _ rfl
     have d3:=fun y=>(hc.plus y).cs 2 _ rfl
     have d4:=fun y=>(hc.plus y).cs 3 _ rfl
     have d5:=fun y=>(hc.plus y).cs 4 _ rfl
     have d6:=fun y=>(hc.plus y).cs 5 _ rfl
     have d7:=fun y=>(hc.plus y).cs 6 _ rfl
     have d8:=fun y=>(hc.plus y).cs 7 _ rfl
     have d9:=fun y=>(hc.plus y).cs 8 _ rfl
     simp only [Ex.op,Ex.lit,Ex.head,Ex.name,Ex.hi,Ex.lo,Ex.p,Ex.cap,Ex.args] at d0 d1 d2 d3 d4 d5 d6 d7 d8 d9
     have q1':=Lib.hid q1
     clear q1 hZ hc ha hs hmem
     cases Z with
     | false =>
      have hs2:=Lib.hid (show false = R by rw [← hs1];simp)
      clear hs1
      go_wp2_with (go_at_call 17;refine (q1'.out _).mono ?_;rintro e w' ⟨rfl,x,rfl⟩)
      go_ret
      exact ⟨rb hs2.out,pp hz'.out⟩
     | true =>
      by_cases u1:ekd < 1
      case pos =>
       have u3:decide (1 ≤ ekd) = false:=decide_eq_false (by omega)
       have hs2:=Lib.hid (show false = R by rw [← hs1];simp [u3])
       clear hs1 u3
       go_wp2_with (go_at_call 17;refine (q1'.out _).mono ?_;rintro e w' ⟨rfl,x,rfl⟩)
       go_ret
       exact ⟨rb hs2.out,pp hz'.out⟩
      case neg =>
       by_cases u2:(3:Int) < ekd
       case pos =>
        have u3:decide (ekd ≤ 3) = false:=decide_eq_false (by omega)
        have hs2:=Lib.hid (show false = R by rw [← hs1];simp [u3])
        clear hs1 u3
        go_wp2_with (go_at_call 17;refine (q1'.out _).mono ?_;rintro e w' ⟨rfl,x,rfl⟩)
        go_ret
        exact ⟨rb hs2.out,pp hz'.out⟩
       case neg =>
        have u3:decide (1 ≤ ekd) = true:=decide_eq_true (by omega)
        have u4:decide (ekd ≤ 3) = true:=decide_eq_true (by omega)
        have hs2:=Lib.hid (show ((kl.drop (k + 1)).all keB && T) = R by rw [← hs1];simp [u3,u4])
        clear hs1 u3 u4
        go_wp2_with (go_at_call 17;refine (q1'.out _).mono ?_;rintro e w' ⟨rfl,x,rfl⟩)
        go_roundw
        case rel=>exact ⟨k + 1,hlt,congrArg (Value.int .i64) a6.out,hs2,_,rfl⟩
        case measure=>exact step_less k kn hlt a6.out
    ·obtain rfl:k = kn:=by omega
     have h0:=Lib.hid (show (gl.drop 0).all ltB = R by rw [List.drop_zero,hT'.out,← hs.out,List.drop_of_length_le (by rw [hkn'.out];exact Nat.le_refl _)];rfl)
     clear hs hlt hk
     go_wp2_with fail
     go_loopw [4] (fun iv wr=>∃ k:Nat,k ≤ gn ∧ iv = .int .i64 (k:Int) ∧ Hid ((gl.drop k).all ltB = R) ∧ ∃ y,wr = plus W y) (fun iv _=>gn - (intOf iv).toNat)
     case atStart=>exact ⟨0,Nat.zero_le _,rfl,h0,_,rfl⟩
     case round =>
      obtain ⟨k,hk,rfl,hs,y,rfl⟩:=hrel
      by_cases hlt:k < gn
      ·obtain ⟨a,ha⟩:∃ s,gl[k]? = some s:=⟨gl[k]'(by rw [hgn'.out];exact hlt),List.getElem?_eq_getElem _⟩
       obtain ⟨pa,rfl,hc⟩:=rg'.out k a ha
       have hmem:=List.mem_of_getElem? ha
       have hs1:(ltB a && (gl.drop (k + 1)).all ltB) = R:=by rw [← all_drop ltB gl k a ha];exact hs.out
       have a6:=Lib.hid (wr_succ k gn hlt bgn'.out)
       have hc:=hz'.out ▸ hc.plus z
       have q1:=kp_at hz'.out (cg'.out a hmem)
       obtain ⟨Z,hZ⟩:∃ Z,ltB a = Z:=⟨_,rfl⟩
       rw [hZ] at q1 hs1
       obtain ⟨lw,lh,ll⟩:=a
       have q1:PureIn Tryz.prog W 33 #[.agg #[.int .i64 lw,.int .u64 lh,.int .u64 ll]] (.bool Z):=q1
       have d0:=fun y=>(hc.plus y).c0 _ rfl
       have d1:=fun y=>(hc.plus y).cs 0 _ rfl
       have d2:=fun y=>(hc.plus y).cs 1 _ rfl
       simp only at d0 d1 d2
       have q1':=Lib.hid q1
       clear q1 hZ hc ha hs hmem
       cases Z with
       | false =>
        have hs2:=Lib.hid (show false = R by rw [← hs1];simp)
        clear hs1
        go_wp2_with (go_at_call 33;refine (q1'.out _).mono ?_;rintro e w' ⟨rfl,x,rfl⟩)
        go_ret
        exact ⟨rb hs2.out,pp hz'.out⟩
       | true =>
        have hs2:=Lib.hid (show (gl.drop (k + 1)).all ltB = R by rw [← hs1];simp)
        clear hs1
        go_wp2_with (go_at_call 33;refine (q1'.out _).mono ?_;rintro e w' ⟨rfl,x,rfl⟩)
        go_roundw
        case rel=>exact ⟨k + 1,hlt,congrArg (Value.int .i64) a6.out,hs2,_,rfl⟩
        case measure=>exact step_less k gn hlt a6.out
      ·obtain rfl:k = gn:=by omega
       have hs2:=Lib.hid (show true = R by rw [← hs.out,List.drop_of_length_le (by rw [hgn'.out];exact Nat.le_refl _)];rfl)
       clear hs hlt hk
       go_wp2_with fail
       go_ret
       exact ⟨rb hs2.out,pp hz'.out⟩
end Go.Proofs.YtpjhokdehcpjbaaGreatDoor
