/-
  WHAT IS PROVED HERE: a part of the proof (made narrower and merged by program; the parts: Jr).
-/
import Derived.Test.YtpjhokdehcpjbaaGreatDoorRows
import Derived.WalkKit
import Derived.Lib.Hide
import Derived.WalkSpells
import Derived.WalkLawsBesides
import Derived.Laws.EntriesVeiled
import Derived.Shelf.Abstract
import Derived.Deep.CutRange
import Derived.Deep.RegionHeld3
import Derived.Test.YtpjhokdehcpjbaaGreatDoorM30
namespace Go.Proofs.YtpjhokdehcpjbaaGreatDoor
open Go.RowKit
set_option maxRecDepth 100000 in
set_option maxHeartbeats 16000000 in
theorem rsame_pr (a b:Pr) (w:World) (ha:a.In w) (hb:b.In w) (sa:a.sz ≤ 1048576) (sb:b.sz ≤ 1048576):Kp Tryz.prog w 18 #[.agg a.cells.toArray,.agg b.cells.toArray] (.bool (eqPr a b)):=by
 intro y0
 have ha:=ha.plus y0
 have hb:=hb.plus y0
 obtain ⟨V,hV⟩:∃ V,plus w y0 = V:=⟨_,rfl⟩
 rw [hV] at ha hb ⊢
 clear hV
 unfold Pr.sz at sa sb
 have zh:a.headers.size Hr.sz ≤ 1048576:=by omega
 have zs:a.states.size Sa.sz ≤ 1048576:=by omega
 have za:a.actions.size Ac.sz ≤ 1048576:=by omega
 have zt:a.tables.size Ta.sz ≤ 1048576:=by omega
 have ys:b.states.size Sa.sz ≤ 1048576:=by omega
 have ya:b.actions.size Ac.sz ≤ 1048576:=by omega
 have yt:b.tables.size Ta.sz ≤ 1048576:=by omega
 have bhn:a.headers.l.length ≤ 1048576:=len_le Hr.sz sz_pos_hr _ zh
 have bsn:a.states.l.length ≤ 1048576:=len_le Sa.sz sz_pos_sa _ zs
 have ban:a.actions.l.length ≤ 1048576:=len_le Ac.sz sz_pos_ac _ za
 have btn:a.tables.l.length ≤ 1048576:=len_le Ta.sz sz_pos_ta _ zt
 have c0:=rsame_fields a.metas b.metas V ha.metas hb.metas (by omega)
 have c1:=rsame_stmts a.control b.control V ha.control hb.control (by omega) (by omega)
 have c2:=rsame_names a.emit b.emit V ha.emit hb.emit (by omega)
 have ch:=fun x (hx:x ∈ a.headers.l) y (hy:y ∈ b.headers.l)=>rsame_fields (Hr.fields x) (Hr.fields y) V (ha.headers.kids x hx).fields (hb.headers.kids y hy).fields (by have:=one_sz zh hx;unfold Hr.sz at this;omega)
 have cs:=fun x (hx:x ∈ a.states.l) y (hy:y ∈ b.states.l)=>rsame_state x y V (ha.states.kids x hx) (hb.states.kids y hy) (one_sz zs hx) (one_sz ys hy)
 have ca:=fun x (hx:x ∈ a.actions.l) y (hy:y ∈ b.actions.l)=>rsame_fields (Ac.params x) (Ac.params y) V (ha.actions.kids x hx).params (hb.actions.kids y hy).params (by have:=one_sz za hx;unfold Ac.sz at this;omega)
 have cb:=fun x (hx:x ∈ a.actions.l) y (hy:y ∈ b.actions.l)=>rsame_stmts (Ac.body x) (Ac.body y) V (ha.actions.kids x hx).body (hb.actions.kids y hy).body (by have:=one_sz za hx;unfold Ac.sz at this;omega) (by have:=one_sz ya hy;unfold Ac.sz at this;omega)
 have ct:=fun x (hx:x ∈ a.tables.l) y (hy:y ∈ b.tables.l)=>rsame_table x y V (ha.tables.kids x hx) (hb.tables.kids y hy) (one_sz zt hx) (one_sz yt hy)
 have rh:=ha.headers.row
 have rs:=ha.states.row
 have ra:=ha.actions.row
 have rt:=ha.tables.row
 have rh2:=hb.headers.row
 have rs2:=hb.states.row
 have ra2:=hb.actions.row
 have rt2:=hb.tables.row
 obtain ⟨⟨hp,hc,hl⟩,⟨mp,mc,ml⟩,⟨sp,sc,sl⟩,⟨ap,ac,al⟩,⟨tp,tc,tl⟩,⟨cp,cc,cl⟩,⟨ep,ec,el⟩⟩:=a
 obtain ⟨⟨hp2,hc2,hl2⟩,⟨mp2,mc2,ml2⟩,⟨sp2,sc2,sl2⟩,⟨ap2,ac2,al2⟩,⟨tp2,tc2,tl2⟩,⟨cp2,cc2,cl2⟩,⟨ep2,ec2,el2⟩⟩:=b
 simp only [Sl.v] at bhn bsn ban btn c0 c1 c2 ch cs ca cb ct rh rs ra rt rh2 rs2 ra2 rt2
 clear ha hb sa sb zh zs za zt ys ya yt
 have hT:eqPr ⟨⟨hp,hc,hl⟩,⟨mp,mc,ml⟩,⟨sp,sc,sl⟩,⟨ap,ac,al⟩,⟨tp,tc,tl⟩,⟨cp,cc,cl⟩,⟨ep,ec,el⟩⟩ ⟨⟨hp2,hc2,hl2⟩,⟨mp2,mc2,ml2⟩,⟨sp2,sc2,sl2⟩,⟨ap2,ac2,al2⟩,⟨tp2,tc2,tl2⟩,⟨cp2,cc2,cl2⟩,⟨ep2,ec2,el2⟩⟩ = ((decide (hl.length = hl2.length) && (decide (sl.length = sl2.length) && (decide (al.length = al2.length) && decide (tl.length = tl2.length)))) && (eqAll eqHr hl hl2 && (eqAll eqSa sl sl2 && (eqAll eqAc al al2 && (eqAll eqTa tl tl2 && (eqAll eqFd ml ml2 && (St.sames cl cl2 && eqAll eqStr el el2))))))):=by
  simp only [eqPr]
  rw [eqAll_dec eqHr,eqAll_dec eqSa,eqAll_dec eqAc,eqAll_dec eqTa]
  ac_rfl
 rw [hT]
 clear hT
 show Calls Tryz.prog 18 #[.agg #[.slice hp hl.length hc,.slice mp ml.length mc,.slice sp sl.length sc,.slice ap al.length ac,.slice tp tl.length tc,.slice cp cl.length cc,.slice ep el.length ec],.agg #[.slice hp2 hl2.length hc2,.slice mp2 ml2.length mc2,.slice sp2 sl2.length sc2,.slice ap2 al2.length ac2,.slice tp2 tl2.length tc2,.slice cp2 cl2.length cc2,.slice ep2 el2.length ec2]] V _
 generalize eqAll eqFd ml ml2 = s0 at c0 ⊢
 generalize St.sames cl cl2 = s1 at c1 ⊢
 generalize eqAll eqStr el el2 = s2 at c2 ⊢
 generalize ml.length = mn at c0 ⊢
 generalize ml2.length = mn2 at c0 ⊢
 generalize cl.length = cn at c1 ⊢
 generalize cl2.length = cn2 at c1 ⊢
 generalize el.length = en at c2 ⊢
 generalize el2.length = en2 at c2 ⊢
 obtain ⟨hn,hhn⟩:∃ n,hl.length = n:=⟨_,rfl⟩
 rw [hhn] at bhn ⊢
 obtain ⟨hn2,hhn2⟩:∃ n,hl2.length = n:=⟨_,rfl⟩
 rw [hhn2]
 obtain ⟨sn,hsn⟩:∃ n,sl.length = n:=⟨_,rfl⟩
 rw [hsn] at bsn ⊢
 obtain ⟨sn2,hsn2⟩:∃ n,sl2.length = n:=⟨_,rfl⟩
 rw [hsn2]
 obtain ⟨an,han⟩:∃ n,al.length = n:=⟨_,rfl⟩
 rw [han] at ban ⊢
 obtain ⟨an2,han2⟩:∃ n,al2.length = n:=⟨_,rfl⟩
 rw [han2]
 obtain ⟨tn,htn⟩:∃ n,tl.length = n:=⟨_,rfl⟩
 rw [htn] at btn ⊢
 obtain ⟨tn2,htn2⟩:∃ n,tl2.length = n:=⟨_,rfl⟩
 rw [htn2]
 obtain ⟨X4,hX4⟩:∃ A,(s0 && (s1 && s2)) = A:=⟨_,rfl⟩
 obtain ⟨X3,hX3⟩:∃ A,(eqAll eqTa tl tl2 && X4) = A:=⟨_,rfl⟩
 obtain ⟨X2,hX2⟩:∃ A,(eqAll eqAc al al2 && X3) = A:=⟨_,rfl⟩
 obtain ⟨X1,hX1⟩:∃ A,(eqAll eqSa sl sl2 && X2) = A:=⟨_,rfl⟩
 obtain ⟨X0,hX0⟩:∃ A,(eqAll eqHr hl hl2 && X1) = A:=⟨_,rfl⟩
 obtain ⟨G,hG⟩:∃ A,(decide (hn = hn2) && (decide (sn = sn2) && (decide (an = an2) && decide (tn = tn2)))) = A:=⟨_,rfl⟩
 obtain ⟨R,hR⟩:∃ A,(G && X0) = A:=⟨_,rfl⟩
 obtain ⟨C,hC⟩:∃ A,(!G) = A:=⟨_,rfl⟩
 rw [hX4,hX3,hX2,hX1,hX0,hG,hR]
 have bhn':=Lib.hid bhn
 have bsn':=Lib.hid bsn
 have ban':=Lib.hid ban
 have btn':=Lib.hid btn
 have c0':=Lib.hid c0
 have c1':=Lib.hid c1
 have c2':=Lib.hid c2
 have ch':=Lib.hid ch
 have cs':=Lib.hid cs
 have ca':=Lib.hid ca
 have cb':=Lib.hid cb
 have ct':=Lib.hid ct
 have rh':=Lib.hid rh
 have rs':=Lib.hid rs
 have ra':=Lib.hid ra
 have rt':=Lib.hid rt
 have rh2':=Lib.hid rh2
 have rs2':=Lib.hid rs2
 have ra2':=Lib.hid ra2
 have rt2':=Lib.hid rt2
 have hhn':=Lib.hid hhn
 have hsn':=Lib.hid hsn
 have han':=Lib.hid han
 have htn':=Lib.hid htn
 have hhn2':=Lib.hid hhn2
 have hsn2':=Lib.hid hsn2
 have han2':=Lib.hid han2
 have htn2':=Lib.hid htn2
 have hX4':=Lib.hid hX4
 have hX3':=Lib.hid hX3
 have hX2':=Lib.hid hX2
 have hX1':=Lib.hid hX1
 have hX0':=Lib.hid hX0
 have hG':=Lib.hid hG
 have hR':=Lib.hid hR
 have hC':=Lib.hid hC
 clear bhn bsn ban btn c0 c1 c2 ch cs ca cb ct rh rs ra rt rh2 rs2 ra2 rt2 hhn hsn han htn hhn2 hsn2 han2 htn2 hX4 hX3 hX2 hX1 hX0 hG hR hC
 go_enter Tryz.func18,Tryz.ntmps18
 go_upto_region 1 with (fail)
 obtain ⟨W,yy,hW,⟨z,hz⟩,cb0,cb1⟩:=box2n V _ _ 38 38
 rw [hW]
 have e0_0:=cb0 0 _ rfl
 have e0_1:=cb0 1 _ rfl
 have e0_2:=cb0 2 _ rfl
 have e0_3:=cb0 3 _ rfl
 have e0_4:=cb0 4 _ rfl
 have e0_5:=cb0 5 _ rfl
 have e0_6:=cb0 6 _ rfl
 have e1_0:=cb1 0 _ rfl
 have e1_1:=cb1 1 _ rfl
 have e1_2:=cb1 2 _ rfl
 have e1_3:=cb1 3 _ rfl
 have e1_4:=cb1 4 _ rfl
 have e1_5:=cb1 5 _ rfl
 have e1_6:=cb1 6 _ rfl
 have q0c:=Lib.hid (kp_at hz c0'.out)
 have q1c:=Lib.hid (kp_at hz c1'.out)
 have q2c:=Lib.hid (kp_at hz c2'.out)
 have hz':=Lib.hid hz
 clear hW hz cb0 cb1 c0' c1' c2'
 go_cut [44] from 11 to 44 (fun v wx=>v = .bool C ∧ wx = plus W yy)
 case first =>
  by_cases q0:hn = hn2
  case neg =>
   have q0x:((hn:Int) != (hn2:Int)) = true:=by simp;omega
   have hF:=Lib.hid (show (true) = C by rw [← hC'.out,← hG'.out];simp [q0])
   go_wp2_with (fail)
   go_meet
   first | exact ⟨congrArg Value.bool hF.out,rfl⟩ | exact ⟨congrArg Value.bool (Eq.trans (by simp [q0]) hF.out),rfl⟩
  case pos =>
   subst q0
   by_cases q1:sn = sn2
   case neg =>
    have q1x:((sn:Int) != (sn2:Int)) = true:=by simp;omega
    have hF:=Lib.hid (show (true) = C by rw [← hC'.out,← hG'.out];simp [q1])
    go_wp2_with (fail)
    go_meet
    first | exact ⟨congrArg Value.bool hF.out,rfl⟩ | exact ⟨congrArg Value.bool (Eq.trans (by simp [q1]) hF.out),rfl⟩
   case pos =>
    subst q1
    by_cases q2:an = an2
    case neg =>
     have q2x:((an:Int) != (an2:Int)) = true:=by simp;omega
     have hF:=Lib.hid (show (true) = C by rw [← hC'.out,← hG'.out];simp [q2])
     go_wp2_with (fail)
     go_meet
     first | exact ⟨congrArg Value.bool hF.out,rfl⟩ | exact ⟨congrArg Value.bool (Eq.trans (by simp [q2]) hF.out),rfl⟩
    case pos =>
     subst q2
     by_cases q3:tn = tn2
     case neg =>
      have q3x:((tn:Int) != (tn2:Int)) = true:=by simp;omega
      have hF:=Lib.hid (show (true) = C by rw [← hC'.out,← hG'.out];simp [q3])
      go_wp2_with (fail)
      go_meet
      first | exact ⟨congrArg Value.bool hF.out,rfl⟩ | exact ⟨congrArg Value.bool (Eq.trans (by simp [q3]) hF.out),rfl⟩
     case pos =>
      subst q3
      have hF:=Lib.hid (show (false) = C by rw [← hC'.out,← hG'.out];simp)
      go_wp2_with (fail)
      go_meet
      first | exact ⟨congrArg Value.bool hF.out,rfl⟩ | exact ⟨congrArg Value.bool (Eq.trans (by simp) hF.out),rfl⟩
 case rest =>
  obtain ⟨rfl,rfl⟩:=hcut
  cases G with
  | false =>
   have e:true = C:=hC'.out
   subst e
   have hs2:=Lib.hid (show false = R from hR'.out)
   clear hC' hG'
   go_wp2_with fail
   go_ret
   exact ⟨rb hs2.out,pp hz'.out⟩
  | true =>
   have e:false = C:=hC'.out
   subst e
   have h:=hG'.out
   simp only [Bool.and_eq_true,decide_eq_true_eq] at h
   obtain ⟨g1,g2,g3,g4⟩:=h
   subst g1 g2 g3 g4
   have h0:=Lib.hid (show (eqAll eqHr (hl.drop 0) (hl2.drop 0) && X1) = R by rw [List.drop_zero,List.drop_zero,hX0'.out];exact hR'.out)
   clear hC' hX0' hR' hG'
   go_wp2_with fail
   go_loopw [5] (fun iv wr=>∃ k:Nat,k ≤ hn ∧ iv = .int .i64 (k:Int) ∧ Hid ((eqAll eqHr (hl.drop k) (hl2.drop k) && X1) = R) ∧ ∃ y,wr = plus W y) (fun iv _=>hn - (intOf iv).toNat)
   case atStart=>exact ⟨0,Nat.zero_le _,rfl,h0,_,rfl⟩
   case round =>
    obtain ⟨k,hk,rfl,hs,y,rfl⟩:=hrel
    by_cases hlt:k < hn
    ·obtain ⟨a,ha⟩:∃ s,hl[k]? = some s:=⟨hl[k]'(by rw [hhn'.out];exact hlt),List.getElem?_eq_getElem _⟩
     obtain ⟨b,hb⟩:∃ s,hl2[k]? = some s:=⟨hl2[k]'(by rw [hhn2'.out];exact hlt),List.getElem?_eq_getElem _⟩
     obtain ⟨pa,hpa,hcV⟩:=rh'.out k a ha
     obtain ⟨pb,hpb,hdV⟩:=rh2'.out k b hb
     have hma:=List.mem_of_getElem? ha
     have hmb:=List.mem_of_getElem? hb
     have hs1:((eqHr a b && eqAll eqHr (hl.drop (k + 1)) (hl2.drop (k + 1))) && X1) = R:=by rw [← eqAll_drop eqHr hl hl2 k a b ha hb];exact hs.out
     have a6:=Lib.hid (wr_succ k hn hlt bhn'.out)
     have hc:=hz'.out ▸ hcV.plus z
     have hd:=hz'.out ▸ hdV.plus z
     clear hcV hdV
     obtain rfl:=hpa
     obtain rfl:=hpb
     have q1:=kp_at hz'.out (ch'.out a hma b hmb)
     obtain ⟨xn,⟨xp,xc,xl⟩⟩:=a
     obtain ⟨xn2,⟨xp2,xc2,xl2⟩⟩:=b
     simp only at q1
     simp only [eqHr,eqStr] at hs1
     generalize eqAll eqFd xl xl2 = Z at q1 hs1
     have d0:=fun y=>(hc.plus y).c0 _ rfl
     have d1:=fun y=>(hc.plus y).cs 0 _ rfl
     have g0:=fun y=>(hd.plus y).c0 _ rfl
     have g1:=fun y=>(hd.plus y).cs 0 _ rfl
     simp only [Sl.v] at d0 d1 g0 g1
     have q1':=Lib.hid q1
     clear q1 hc hd ha hb hs hma hmb
     by_cases hq:(xn.toList == xn2.toList) = true
     case neg =>
      have hq:(xn.toList == xn2.toList) = false:=by simpa using hq
      have hs2:=Lib.hid (show false = R by rw [← hs1];simp [hq])
      clear hs1
      go_wp2_with fail
      refine wp_region_own (by kernel_rfl) (by kernel_rfl) ?_
      repeat (go_big_quiet_step (fail))
      refine wpQuiet_nil ?_
      rintro _ ⟨y1,rfl⟩
      go_wp2_with fail
      go_ret
      exact ⟨rb hs2.out,pp hz'.out⟩
     case pos =>
      cases Z with
      | false =>
       have hs2:=Lib.hid (show false = R by rw [← hs1];simp)
       clear hs1
       go_wp2_with fail
       refine wp_region_own (by kernel_rfl) (by kernel_rfl) ?_
       repeat (go_big_quiet_step (first | (with_reducible exact q1'.out _)))
       refine wpQuiet_nil ?_
       rintro _ ⟨y1,rfl⟩
       go_wp2_with fail
       go_ret
       exact ⟨rb hs2.out,pp hz'.out⟩
      | true =>
       have hs2:=Lib.hid (show (eqAll eqHr (hl.drop (k + 1)) (hl2.drop (k + 1)) && X1) = R by rw [← hs1];simp [hq])
       clear hs1
       go_wp2_with fail
       refine wp_region_own (by kernel_rfl) (by kernel_rfl) ?_
       repeat (go_big_quiet_step (first | (with_reducible exact q1'.out _)))
       refine wpQuiet_nil ?_
       rintro _ ⟨y1,rfl⟩
       go_wp2_with fail
       go_roundw
       case rel=>exact ⟨k + 1,hlt,congrArg (Value.int .i64) a6.out,hs2,_,rfl⟩
       case measure=>exact step_less k hn hlt a6.out
    ·obtain rfl:hn = k:=by omega
     have h0:=Lib.hid (show (eqAll eqSa (sl.drop 0) (sl2.drop 0) && X2) = R by rw [List.drop_zero,List.drop_zero,hX1'.out,← hs.out,List.drop_of_length_le (show hl.length ≤ hn by rw [hhn'.out];exact Nat.le_refl _),List.drop_of_length_le (show hl2.length ≤ hn by rw [hhn2'.out];exact Nat.le_refl _),eqAll];try rfl)
     clear hs hlt hk
     go_wp2_with fail
     go_loopw [6] (fun iv wr=>∃ k:Nat,k ≤ sn ∧ iv = .int .i64 (k:Int) ∧ Hid ((eqAll eqSa (sl.drop k) (sl2.drop k) && X2) = R) ∧ ∃ y,wr = plus W y) (fun iv _=>sn - (intOf iv).toNat)
     case atStart=>exact ⟨0,Nat.zero_le _,rfl,h0,_,rfl⟩
     case round =>
      obtain ⟨k,hk,rfl,hs,y,rfl⟩:=hrel
      by_cases hlt:k < sn
      ·obtain ⟨a,ha⟩:∃ s,sl[k]? = some s:=⟨sl[k]'(by rw [hsn'.out];exact hlt),List.getElem?_eq_getElem _⟩
       obtain ⟨b,hb⟩:∃ s,sl2[k]? = some s:=⟨sl2[k]'(by rw [hsn2'.out];exact hlt),List.getElem?_eq_getElem _⟩
       obtain ⟨pa,hpa,hcV⟩:=rs'.out k a ha
       obtain ⟨pb,hpb,hdV⟩:=rs2'.out k b hb
       have hma:=List.mem_of_getElem? ha
       have hmb:=List.mem_of_getElem? hb
       have hs1:((eqSa a b && eqAll eqSa (sl.drop (k + 1)) (sl2.drop (k + 1))) && X2) = R:=by rw [← eqAll_drop eqSa sl sl2 k a b ha hb];exact hs.out
       have a6:=Lib.hid (wr_succ k sn hlt bsn'.out)
       have hc:=hz'.out ▸ hcV.plus z
       have hd:=hz'.out ▸ hdV.plus z
       clear hcV hdV
       obtain rfl:=hpa
       obtain rfl:=hpb
       have q1:=kp_at hz'.out (cs'.out a hma b hmb)
       obtain ⟨Z,hZ⟩:∃ Z,eqSa a b = Z:=⟨_,rfl⟩
       rw [hZ] at q1 hs1
       obtain ⟨xn,⟨xp,xc,xl⟩,xt,⟨yp,yc,yl⟩,⟨gp,gc,gl⟩⟩:=a
       obtain ⟨xn2,⟨xp2,xc2,xl2⟩,xt2,⟨yp2,yc2,yl2⟩,⟨gp2,gc2,gl2⟩⟩:=b
       have q1:PureIn Tryz.prog W 55 #[.agg #[.string xn,.slice xp xl.length xc,.string xt,.slice yp yl.length yc,.slice gp gl.length gc],.agg #[.string xn2,.slice xp2 xl2.length xc2,.string xt2,.slice yp2 yl2.length yc2,.slice gp2 gl2.length gc2]] (.bool Z):=q1
       have d0:=fun y=>(hc.plus y).c0 _ rfl
       have d1:=fun y=>(hc.plus y).cs 0 _ rfl
       have d2:=fun y=>(hc.plus y).cs 1 _ rfl
       have d3:=fun y=>(hc.plus y).cs 2 _ rfl
       have d4:=fun y=>(hc.plus y).cs 3 _ rfl
       have g0:=fun y=>(hd.plus y).c0 _ rfl
       have g1:=fun y=>(hd.plus y).cs 0 _ rfl
       have g2:=fun y=>(hd.plus y).cs 1 _ rfl
       have g3:=fun y=>(hd.plus y).cs 2 _ rfl
       have g4:=fun y=>(hd.plus y).cs 3 _ rfl
       simp only [Sl.v] at d0 d1 d2 d3 d4 g0 g1 g2 g3 g4
       have q1':=Lib.hid q1
       clear q1 hZ hc hd ha hb hs hma hmb
       cases Z with
       | false =>
        have hs2:=Lib.hid (show false = R by rw [← hs1];simp)
        clear hs1
        go_wp2_with fail
        refine wp_region_own (by kernel_rfl) (by kernel_rfl) ?_
        repeat (go_big_quiet_step (first | (with_reducible exact q1'.out _)))
        refine wpQuiet_nil ?_
        rintro _ ⟨y1,rfl⟩
        go_wp2_with fail
        go_ret
        exact ⟨rb hs2.out,pp hz'.out⟩
       | true =>
        have hs2:=Lib.hid (show (eqAll eqSa (sl.drop (k + 1)) (sl2.drop (k + 1)) && X2) = R by rw [← hs1];simp)
        clear hs1
        go_wp2_with fail
        refine wp_region_own (by kernel_rfl) (by kernel_rfl) ?_
        repeat (go_big_quiet_step (first | (with_reducible exact q1'.out _)))
        refine wpQuiet_nil ?_
        rintro _ ⟨y1,rfl⟩
        go_wp2_with fail
        go_roundw
        case rel=>exact ⟨k + 1,hlt,congrArg (Value.int .i64) a6.out,hs2,_,rfl⟩
        case measure=>exact step_less k sn hlt a6.out
      ·obtain rfl:sn = k:=by omega
       have h0:=Lib.hid (show (eqAll eqAc (al.drop 0) (al2.drop 0) && X3) = R by rw [List.drop_zero,List.drop_zero,hX2'.out,← hs.out,List.drop_of_length_le (show sl.length ≤ sn by rw [hsn'.out];exact Nat.le_refl _),List.drop_of_length_le (show sl2.length ≤ sn by rw [hsn2'.out];exact Nat.le_refl _),eqAll];try rfl)
       clear hs hlt hk
       go_wp2_with fail
       go_loopw [7] (fun iv wr=>∃ k:Nat,k ≤ an ∧ iv = .int .i64 (k:Int) ∧ Hid ((eqAll eqAc (al.drop k) (al2.drop k) && X3) = R) ∧ ∃ y,wr = plus W y) (fun iv _=>an - (intOf iv).toNat)
       case atStart=>exact ⟨0,Nat.zero_le _,rfl,h0,_,rfl⟩
       case round =>
        obtain ⟨k,hk,rfl,hs,y,rfl⟩:=hrel
        by_cases hlt:k < an
        ·obtain ⟨a,ha⟩:∃ s,al[k]? = some s:=⟨al[k]'(by rw [han'.out];exact hlt),List.getElem?_eq_getElem _⟩
         obtain ⟨b,hb⟩:∃ s,al2[k]? = some s:=⟨al2[k]'(by rw [han2'.out];exact hlt),List.getElem?_eq_getElem _⟩
         obtain ⟨pa,hpa,hcV⟩:=ra'.out k a ha
         obtain ⟨pb,hpb,hdV⟩:=ra2'.out k b hb
         have hma:=List.mem_of_getElem? ha
         have hmb:=List.mem_of_getElem? hb
         have hs1:((eqAc a b && eqAll eqAc (al.drop (k + 1)) (al2.drop (k + 1))) && X3) = R:=by rw [← eqAll_drop eqAc al al2 k a b ha hb];exact hs.out
         have a6:=Lib.hid (wr_succ k an hlt ban'.out)
         have hc:=hz'.out ▸ hcV.plus z
         have hd:=hz'.out ▸ hdV.plus z
         clear hcV hdV
         obtain ⟨a0,ha0⟩:∃ s,al[0]? = some s:=⟨al[0]'(by rw [han'.out];omega),List.getElem?_eq_getElem _⟩
         obtain ⟨b0,hb0⟩:∃ s,al2[0]? = some s:=⟨al2[0]'(by rw [han2'.out];omega),List.getElem?_eq_getElem _⟩
         obtain ⟨ga,oa,rfl⟩:∃ g o,ap = some ⟨g,o,none⟩:=ra'.out.base ha0 (v:=.string (Ac.name a0)) rfl
         obtain ⟨gb,ob,rfl⟩:∃ g o,ap2 = some ⟨g,o,none⟩:=ra2'.out.base hb0 (v:=.string (Ac.name b0)) rfl
         obtain rfl:=Option.some.inj hpa
         obtain rfl:=Option.some.inj hpb
         rw [add_flat] at hc hd
         have hadda:(⟨ga,oa,none⟩:Addr).add (k * 3) = ⟨ga,oa + k * 3,none⟩:=add_flat _ _ _
         have haddb:(⟨gb,ob,none⟩:Addr).add (k * 3) = ⟨gb,ob + k * 3,none⟩:=add_flat _ _ _
         have hga:∀ y,ga < (plus W y).heap.size:=fun y=>block_in ((hc.plus y).c0 _ rfl)
         have hgb:∀ y,gb < (plus W y).heap.size:=fun y=>block_in ((hd.plus y).c0 _ rfl)
         have hva:∀ y,V.heap.size < (plus W y).heap.size:=fun y=>block_in (e0_0 y)
         have hvb:∀ y,V.heap.size + 1 < (plus W y).heap.size:=fun y=>block_in (e1_0 y)
         clear ha0 hb0 hpa hpb
         have v0:=ca'.out a hma b hmb
         have v1:=cb'.out a hma b hmb
         obtain ⟨xn,⟨xp,xc,xl⟩,⟨yp,yc,yl⟩⟩:=a
         obtain ⟨xn2,⟨xp2,xc2,xl2⟩,⟨yp2,yc2,yl2⟩⟩:=b
         simp only at v0 v1
         simp only [eqAc,eqStr] at hs1
         have d0:=fun y=>(hc.plus y).c0 _ rfl
         have d1:=fun y=>(hc.plus y).cs 0 _ rfl
         have d2:=fun y=>(hc.plus y).cs 1 _ rfl
         have g0:=fun y=>(hd.plus y).c0 _ rfl
         have g1:=fun y=>(hd.plus y).cs 0 _ rfl
         have g2:=fun y=>(hd.plus y).cs 1 _ rfl
         simp only [Sl.v] at d0 d1 d2 g0 g1 g2
         generalize eqAll eqFd xl xl2 = s3 at v0 hs1
         generalize St.sames yl yl2 = s4 at v1 hs1
         generalize xl.length = xm at v0 d1
         generalize xl2.length = xm2 at v0 g1
         generalize yl.length = ym at v1 d2
         generalize yl2.length = ym2 at v1 g2
         obtain ⟨P,hP⟩:∃ P,((xn.toList == xn2.toList) && (s3 && s4)) = P:=⟨_,rfl⟩
         obtain ⟨Q,hQ⟩:∃ Q,(!P) = Q:=⟨_,rfl⟩
         have hs1:(P && (eqAll eqAc (al.drop (k + 1)) (al2.drop (k + 1)) && X3)) = R:=by rw [← hs1,← hP];ac_rfl
         have v0':=Lib.hid v0
         have v1':=Lib.hid v1
         have hP':=Lib.hid hP
         have hQ':=Lib.hid hQ
         have hs3':=Lib.hid hs1
         clear v0 v1 hP hQ hs1 hc hd ha hb hs hma hmb
         go_wp2
         go_cut [8,9] from 100 to 137 (fun s6 s7 wx=>∃ b c:Nat,s6 = .pointer (some ⟨b,0,none⟩) ∧ s7 = .pointer (some ⟨c,0,none⟩) ∧ Two W [.string xn,.slice xp xm xc,.slice yp ym yc] [.string xn2,.slice xp2 xm2 xc2,.slice yp2 ym2 yc2] b c wx)
         case first =>
          clear e0_0 e0_1 e0_2 e0_4 e0_5 e0_6 e1_0 e1_1 e1_2 e1_4 e1_5 e1_6 a6 v0' v1' hP' hQ' hs3' ch' cs' ca' cb' ct' rh' rs' ra' rt' rh2' rs2' ra2' rt2' bhn' bsn' ban' btn' hz' q0c q1c q2c
          have hS:∀ U,Ov W U → (U.cell? ⟨V.heap.size,3,none⟩ = some (.slice (some ⟨ga,oa,none⟩) an ac) ∧ U.cell? ⟨V.heap.size + 1,3,none⟩ = some (.slice (some ⟨gb,ob,none⟩) an ac2) ∧ U.cell? ⟨ga,oa + k * 3,none⟩ = some (.string xn) ∧ U.cell? ⟨ga,oa + k * 3 + 1,none⟩ = some (.slice xp xm xc) ∧ U.cell? ⟨ga,oa + k * 3 + 2,none⟩ = some (.slice yp ym yc) ∧ U.cell? ⟨gb,ob + k * 3,none⟩ = some (.string xn2) ∧ U.cell? ⟨gb,ob + k * 3 + 1,none⟩ = some (.slice xp2 xm2 xc2) ∧ U.cell? ⟨gb,ob + k * 3 + 2,none⟩ = some (.slice yp2 ym2 yc2) ∧ Ov W U):=fun U hU=>by
           obtain ⟨z,rfl⟩:=id hU
           exact ⟨e0_3 z,e1_3 z,d0 z,d1 z,d2 z,g0 z,g1 z,g2 z,hU⟩
          have hS':=Lib.hid hS
          clear hS e0_3 e1_3 d0 d1 d2 g0 g1 g2 hga hgb hva hvb
          go_region_held3 (fun U=>U.cell? ⟨V.heap.size,3,none⟩ = some (.slice (some ⟨ga,oa,none⟩) an ac) ∧ U.cell? ⟨V.heap.size + 1,3,none⟩ = some (.slice (some ⟨gb,ob,none⟩) an ac2) ∧ U.cell? ⟨ga,oa + k * 3,none⟩ = some (.string xn) ∧ U.cell? ⟨ga,oa + k * 3 + 1,none⟩ = some (.slice xp xm xc) ∧ U.cell? ⟨ga,oa + k * 3 + 2,none⟩ = some (.slice yp ym yc) ∧ U.cell? ⟨gb,ob + k * 3,none⟩ = some (.string xn2) ∧ U.cell? ⟨gb,ob + k * 3 + 1,none⟩ = some (.slice xp2 xm2 xc2) ∧ U.cell? ⟨gb,ob + k * 3 + 2,none⟩ = some (.slice yp2 ym2 yc2) ∧ Ov W U) (exact hS'.out _ (by repeat (first | exact Ov.start _ _ | assumption | apply Ov.drew | apply Ov.alloc))) (fail)
          all_goals
           go_wp2_with fail
           go_meet
           first
            | exact ⟨_,_,rfl,rfl,two_fwd W y _ _ 78⟩
            | exact ⟨_,_,rfl,rfl,two_rev W y _ _ 78⟩
         case rest =>
          obtain ⟨bb,bc,rfl,rfl,ht⟩:=hcut
          obtain ⟨W2,rfl⟩:∃ W2:World,W2 = wc:=⟨_,rfl⟩
          obtain ⟨zv,hzv⟩:=ht.more
          have t0:=fun y=>cell_keep (ht.a 0 _ rfl) y
          have t1:=fun y=>cell_keep (ht.a 1 _ rfl) y
          have t2:=fun y=>cell_keep (ht.a 2 _ rfl) y
          have r0:=fun y=>cell_keep (ht.b 0 _ rfl) y
          have r1:=fun y=>cell_keep (ht.b 1 _ rfl) y
          have r2:=fun y=>cell_keep (ht.b 2 _ rfl) y
          obtain ⟨z4,hz4⟩:∃ z,W2 = plus V z:=⟨_,by rw [hzv,hz'.out,plus_plus]⟩
          have u0c:=Lib.hid (kp_at hz4 v0'.out)
          have u1c:=Lib.hid (kp_at hz4 v1'.out)
          have hzv':=Lib.hid hzv
          have hz4':=Lib.hid hz4
          have hself:W2 = plus W2 ⟨#[],W2.drawn⟩:=(plus_self W2).symm
          rw [hself]
          clear hself hzv hz4 ht d0 d1 d2 g0 g1 g2 hadda haddb hga hgb hva hvb v0' v1'
          go_upto_region 17 with (fail)
          go_cut [137] from 100 to 137 (fun v wx=>v = .bool Q ∧ ∃ y,wx = plus W2 y)
          case first =>
           by_cases u0:(xn.toList == xn2.toList) = true
           case pos =>
            cases s3
            case false =>
             have hF:=Lib.hid (show (true) = Q by rw [← hQ'.out,← hP'.out];simp [u0])
             go_wp2_with (first | (go_at_call 54;with_reducible refine (u0c.out _).mono ?_;rintro r w' ⟨rfl,x,rfl⟩))
             go_meet
             first | exact ⟨congrArg Value.bool hF.out,_,rfl⟩ | exact ⟨congrArg Value.bool (Eq.trans (by simp [u0]) hF.out),_,rfl⟩
            case true =>
             cases s4
             case false =>
              have hF:=Lib.hid (show (true) = Q by rw [← hQ'.out,← hP'.out];simp [u0])
              go_wp2_with (first | (go_at_call 54;with_reducible refine (u0c.out _).mono ?_;rintro r w' ⟨rfl,x,rfl⟩) | (go_at_call 56;with_reducible refine (u1c.out _).mono ?_;rintro r w' ⟨rfl,x,rfl⟩))
              go_meet
              first | exact ⟨congrArg Value.bool hF.out,_,rfl⟩ | exact ⟨congrArg Value.bool (Eq.trans (by simp [u0]) hF.out),_,rfl⟩
             case true =>
              have hF:=Lib.hid (show (false) = Q by rw [← hQ'.out,← hP'.out];simp [u0])
              go_wp2_with (first | (go_at_call 54;with_reducible refine (u0c.out _).mono ?_;rintro r w' ⟨rfl,x,rfl⟩) | (go_at_call 56;with_reducible refine (u1c.out _).mono ?_;rintro r w' ⟨rfl,x,rfl⟩))
              go_meet
              first | exact ⟨congrArg Value.bool hF.out,_,rfl⟩ | exact ⟨congrArg Value.bool (Eq.trans (by simp [u0]) hF.out),_,rfl⟩
           case neg =>
            have u0:(xn.toList == xn2.toList) = false:=by simpa using u0
            have hF:=Lib.hid (show (true) = Q by rw [← hQ'.out,← hP'.out];simp [u0])
            go_wp2_with (fail)
            go_meet
            first | exact ⟨congrArg Value.bool hF.out,_,rfl⟩ | exact ⟨congrArg Value.bool (Eq.trans (by simp [u0]) hF.out),_,rfl⟩
          case rest =>
           obtain ⟨rfl,y4,rfl⟩:=hcut
           clear u0c u1c
           cases P with
           | false =>
            have e:true = Q:=hQ'.out
            subst e
            have hs2:=Lib.hid (show false = R from hs3'.out)
            clear hQ' hP'
            go_wp2_with fail
            go_ret
            exact ⟨rb hs2.out,by rw [hz4'.out,plus_plus];exact ⟨_,rfl⟩⟩
           | true =>
            have e:false = Q:=hQ'.out
            subst e
            have hs2:=Lib.hid (show (eqAll eqAc (al.drop (k + 1)) (al2.drop (k + 1)) && X3) = R from hs3'.out)
            clear hQ' hs3' hP'
            go_wp2_with fail
            go_roundw
            case rel=>exact ⟨k + 1,hlt,congrArg (Value.int .i64) a6.out,hs2,by rw [hzv'.out,plus_plus];exact ⟨_,rfl⟩⟩
            case measure=>exact step_less k an hlt a6.out
        ·obtain rfl:an = k:=by omega
         have h0:=Lib.hid (show (eqAll eqTa (tl.drop 0) (tl2.drop 0) && X4) = R by rw [List.drop_zero,List.drop_zero,hX3'.out,← hs.out,List.drop_of_length_le (show al.length ≤ an by rw [han'.out];exact Nat.le_refl _),List.drop_of_length_le (show al2.length ≤ an by rw [han2'.out];exact Nat.le_refl _),eqAll];try rfl)
         clear hs hlt hk
         go_wp2_with fail
         go_loopw [10] (fun iv wr=>∃ k:Nat,k ≤ tn ∧ iv = .int .i64 (k:Int) ∧ Hid ((eqAll eqTa (tl.drop k) (tl2.drop k) && X4) = R) ∧ ∃ y,wr = plus W y) (fun iv _=>tn - (intOf iv).toNat)
         case atStart=>exact ⟨0,Nat.zero_le _,rfl,h0,_,rfl⟩
         case round =>
          obtain ⟨k,hk,rfl,hs,y,rfl⟩:=hrel
          by_cases hlt:k < tn
          ·obtain ⟨a,ha⟩:∃ s,tl[k]? = some s:=⟨tl[k]'(by rw [htn'.out];exact hlt),List.getElem?_eq_getElem _⟩
           obtain ⟨b,hb⟩:∃ s,tl2[k]? = some s:=⟨tl2[k]'(by rw [htn2'.out];exact hlt),List.getElem?_eq_getElem _⟩
           obtain ⟨pa,hpa,hcV⟩:=rt'.out k a ha
           obtain ⟨pb,hpb,hdV⟩:=rt2'.out k b hb
           have hma:=List.mem_of_getElem? ha
           have hmb:=List.mem_of_getElem? hb
           have hs1:((eqTa a b && eqAll eqTa (tl.drop (k + 1)) (tl2.drop (k + 1))) && X4) = R:=by rw [← eqAll_drop eqTa tl tl2 k a b ha hb];exact hs.out
           have a6:=Lib.hid (wr_succ k tn hlt btn'.out)
           have hc:=hz'.out ▸ hcV.plus z
           have hd:=hz'.out ▸ hdV.plus z
           clear hcV hdV
           obtain rfl:=hpa
           obtain rfl:=hpb
           have q1:=kp_at hz'.out (ct'.out a hma b hmb)
           obtain ⟨Z,hZ⟩:∃ Z,eqTa a b = Z:=⟨_,rfl⟩
           rw [hZ] at q1 hs1
           obtain ⟨xn,⟨xp,xc,xl⟩,⟨yp,yc,yl⟩,⟨xd,⟨gp,gc,gl⟩⟩⟩:=a
           obtain ⟨xn2,⟨xp2,xc2,xl2⟩,⟨yp2,yc2,yl2⟩,⟨xd2,⟨gp2,gc2,gl2⟩⟩⟩:=b
           have q1:PureIn Tryz.prog W 57 #[.agg #[.string xn,.slice xp xl.length xc,.slice yp yl.length yc,.string xd,.slice gp gl.length gc],.agg #[.string xn2,.slice xp2 xl2.length xc2,.slice yp2 yl2.length yc2,.string xd2,.slice gp2 gl2.length gc2]] (.bool Z):=q1
           have d0:=fun y=>(hc.plus y).c0 _ rfl
           have d1:=fun y=>(hc.plus y).cs 0 _ rfl
           have d2:=fun y=>(hc.plus y).cs 1 _ rfl
           have d3:=fun y=>(hc.plus y).cs 2 _ rfl
           have d4:=fun y=>(hc.plus y).cs 3 _ rfl
           have g0:=fun y=>(hd.plus y).c0 _ rfl
           have g1:=fun y=>(hd.plus y).cs 0 _ rfl
           have g2:=fun y=>(hd.plus y).cs 1 _ rfl
           have g3:=fun y=>(hd.plus y).cs 2 _ rfl
           have g4:=fun y=>(hd.plus y).cs 3 _ rfl
           simp only [Sl.v] at d0 d1 d2 d3 d4 g0 g1 g2 g3 g4
           have q1':=Lib.hid q1
           clear q1 hZ hc hd ha hb hs hma hmb
           cases Z with
           | false =>
            have hs2:=Lib.hid (show false = R by rw [← hs1];simp)
            clear hs1
            go_wp2_with fail
            refine wp_region_own (by kernel_rfl) (by kernel_rfl) ?_
            repeat (go_big_quiet_step (first | (with_reducible exact q1'.out _)))
            refine wpQuiet_nil ?_
            rintro _ ⟨y1,rfl⟩
            go_wp2_with fail
            go_ret
            exact ⟨rb hs2.out,pp hz'.out⟩
           | true =>
            have hs2:=Lib.hid (show (eqAll eqTa (tl.drop (k + 1)) (tl2.drop (k + 1)) && X4) = R by rw [← hs1];simp)
            clear hs1
            go_wp2_with fail
            refine wp_region_own (by kernel_rfl) (by kernel_rfl) ?_
            repeat (go_big_quiet_step (first | (with_reducible exact q1'.out _)))
            refine wpQuiet_nil ?_
            rintro _ ⟨y1,rfl⟩
            go_wp2_with fail
            go_roundw
            case rel=>exact ⟨k + 1,hlt,congrArg (Value.int .i64) a6.out,hs2,_,rfl⟩
            case measure=>exact step_less k tn hlt a6.out
          ·obtain rfl:tn = k:=by omega
           have h0:=Lib.hid (show X4 = R by rw [← hs.out,List.drop_of_length_le (show tl.length ≤ tn by rw [htn'.out];exact Nat.le_refl _),List.drop_of_length_le (show tl2.length ≤ tn by rw [htn2'.out];exact Nat.le_refl _),eqAll];try rfl)
           clear hs hlt hk
           go_wp2_with fail
           cases s0
           case false =>
            have hs2:=Lib.hid (show false = R from hX4'.out.trans h0.out)
            go_wp2_with (first | (go_at_call 54;with_reducible refine (q0c.out _).mono ?_;rintro r w' ⟨rfl,x,rfl⟩) | (go_at_call 56;with_reducible refine (q1c.out _).mono ?_;rintro r w' ⟨rfl,x,rfl⟩) | (go_at_call 58;with_reducible refine (q2c.out _).mono ?_;rintro r w' ⟨rfl,x,rfl⟩))
            go_ret
            exact ⟨rb hs2.out,pp hz'.out⟩
           case true =>
            cases s1
            case false =>
             have hs2:=Lib.hid (show false = R from hX4'.out.trans h0.out)
             go_wp2_with (first | (go_at_call 54;with_reducible refine (q0c.out _).mono ?_;rintro r w' ⟨rfl,x,rfl⟩) | (go_at_call 56;with_reducible refine (q1c.out _).mono ?_;rintro r w' ⟨rfl,x,rfl⟩) | (go_at_call 58;with_reducible refine (q2c.out _).mono ?_;rintro r w' ⟨rfl,x,rfl⟩))
             go_ret
             exact ⟨rb hs2.out,pp hz'.out⟩
            case true =>
             have hs2:=Lib.hid (show s2 = R from hX4'.out.trans h0.out)
             go_wp2_with (first | (go_at_call 54;with_reducible refine (q0c.out _).mono ?_;rintro r w' ⟨rfl,x,rfl⟩) | (go_at_call 56;with_reducible refine (q1c.out _).mono ?_;rintro r w' ⟨rfl,x,rfl⟩) | (go_at_call 58;with_reducible refine (q2c.out _).mono ?_;rintro r w' ⟨rfl,x,rfl⟩))
             go_ret
             exact ⟨rb hs2.out,pp hz'.out⟩
end Go.Proofs.YtpjhokdehcpjbaaGreatDoor
